/- The contract of cloakroomref05: num. -/
import Derived.Test.YtkbfiikhflehaaaRef02Walks
import Derived.Test.YtkbfiikhflehaaaFourMath
namespace Go.Proofs.Ytkbfiikhflehaaa.R05
open Go.RowKit
set_option linter.unusedVariables false

theorem num_any (n k : Int) (w : World) :
    Calls Try.prog 35 #[.int .i64 n, .int .i64 k] w fun e w' => e = .returned (.string ⟨(numL n k).toArray⟩) ∧ Below w.heap.size w w' := by
  obtain ⟨h0, h1⟩ := wrapU_bd n
  go_enter Try.func35, Try.ntmps35
  go_wp2_with (go_at_call 17; refine (R02.put_any _ k h0 h1 _).mono ?_; rintro e w' ⟨rfl, hb⟩)
  go_ret
  exact ⟨rfl, hb⟩
theorem num_is {n k : Int} {p : List UInt8} (hp : numL n k = p) (w : World) :
    Calls Try.prog 35 #[.int .i64 n, .int .i64 k] w fun e w' => e = .returned (.string ⟨p.toArray⟩) ∧ Below w.heap.size w w' := by
  subst hp; exact num_any n k w
end Go.Proofs.Ytkbfiikhflehaaa.R05
