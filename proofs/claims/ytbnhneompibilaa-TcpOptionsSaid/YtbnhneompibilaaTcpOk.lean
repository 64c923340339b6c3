/- What the laws ask of package tcp is so. -/
import Derived.Test.YtbnhneompibilaaTcpEnc
import Derived.Test.YtbnhneompibilaaTcpGet
import Derived.Test.YtbnhneompibilaaTcpList
namespace Go.Proofs.Ytbnhneompibilaa
open Go.RowKit

theorem tcpOK : TcpOK where
  put h v hi lo v' hi' lo' p hb hA ho hp P hPe w := put7_any h v hi lo v' hi' lo' p hb hA (by omega) (by omega) P hPe w
  get s v hi lo v' hi' lo' hA hs P hPe w := get7_any s v hi lo v' hi' lo' hA (by omega) P hPe w
  list s hs w := list7_any s (by omega) w
  stamp s hs w := stamp7_any s (by omega) w
  stamped v e v0 v1 e0 e1 w := stamped7_any v e v0 v1 e0 e1 w
end Go.Proofs.Ytbnhneompibilaa
