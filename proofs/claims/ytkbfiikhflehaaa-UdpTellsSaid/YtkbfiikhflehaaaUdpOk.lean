/- What the laws ask of package udp is so. -/
import Derived.Test.YtkbfiikhflehaaaUdpPut
import Derived.Test.YtkbfiikhflehaaaUdpGets
import Derived.Test.YtkbfiikhflehaaaLaw08
namespace Go.Proofs.Ytkbfiikhflehaaa
open Go.RowKit

theorem udpOK : UdpOK where
  put sp dp v hi lo v' hi' lo' p hA hp P hPe w := put8_any sp dp v hi lo v' hi' lo' p hA hp P hPe w
  get s v hi lo v' hi' lo' hA hs P hPe w := get8_any s v hi lo v' hi' lo' hA hs P hPe w
end Go.Proofs.Ytkbfiikhflehaaa
