/- The contracts of package ipfour: number, within, isFour, valid. -/
import Derived.Test.YtkbfiikhflehaaaOctetWalks
import Derived.Test.YtkbfiikhflehaaaAddrPut
import Derived.Test.YtkbfiikhflehaaaFourMath
namespace Go.Proofs.Ytkbfiikhflehaaa
open Go.RowKit
set_option linter.unusedVariables false

theorem number4_any (n k : Int) (w : World) :
    Calls Try.prog 27 #[.int .i64 n, .int .i64 k] w fun e w' => e = .returned (.string ⟨(numL n k).toArray⟩) ∧ Below w.heap.size w w' := by
  obtain ⟨h0, h1⟩ := wrapU_bd n
  go_enter Try.func27, Try.ntmps27
  go_wp2_with (go_at_call 30; refine (put_any _ k h0 h1 _).mono ?_; rintro e w' ⟨rfl, hb⟩)
  go_ret
  exact ⟨rfl, hb⟩
theorem number4_is {n k : Int} {p : List UInt8} (hp : numL n k = p) (w : World) :
    Calls Try.prog 27 #[.int .i64 n, .int .i64 k] w fun e w' => e = .returned (.string ⟨p.toArray⟩) ∧ Below w.heap.size w w' := by
  subst hp; exact number4_any n k w
end Go.Proofs.Ytkbfiikhflehaaa
