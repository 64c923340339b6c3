/- What the laws ask of package gue is so. -/
import Derived.Test.YtklilelbebhinaaGuePut
import Derived.Test.YtklilelbebhinaaGueGet
import Derived.Test.YtklilelbebhinaaLaw10
namespace Go.Proofs.Ytklilelbebhinaa
open Go.RowKit

theorem gueOK : GueOK where
  put c p hb _ w := put10_any c p hb w
  get s hs w := get10_any s hs w
end Go.Proofs.Ytklilelbebhinaa
