/- What the laws ask of package quic is so. -/
import Derived.Test.YtniaelmloealbaaQuicPut
import Derived.Test.YtniaelmloealbaaQuicGet
import Derived.Test.YtniaelmloealbaaQuicWith
import Derived.Test.YtniaelmloealbaaLaw09
namespace Go.Proofs.Ytniaelmloealbaa
open Go.RowKit

theorem quicOK : QuicOK where
  put h hb _ _ hr w := put9_any h hb hr w
  get s hs w := get9_any s hs w
  wth s c hs _ w := Q09.with_any s c hs w
end Go.Proofs.Ytniaelmloealbaa
