/- The contracts of package check that go through the iterator: Of, Right, Turned. -/
import Derived.Test.YtklilelbebhinaaCheckRounds
namespace Go.Proofs.Ytklilelbebhinaa
open Go.RowKit Go.Shelf
set_option linter.unusedVariables false
attribute [local go_sem] Oper.semAt_some

theorem of_any (s : ByteArray) (hs : s.size ≤ 1099511627776) (w : World) :
    Calls Try.prog 13 #[.string s] w fun e w' => e = .returned (.int .i64 (65535 - (sumL s.data.toList : Nat))) ∧ Below w.heap.size w w' := by
  have b := sumL_le s.data.toList
  go_enter Try.func13, Try.ntmps13
  go_wp2_with (go_at_call 26; refine (sum_any s hs _).mono ?_; rintro e w1 ⟨rfl, hb⟩)
  go_ret
  exact ⟨rfl, hb⟩

theorem rightS_any (s : ByteArray) (hs : s.size ≤ 1099511627776) (w : World) :
    Calls Try.prog 19 #[.string s] w fun e w' => e = .returned (.bool ((sumL s.data.toList : Int) == 65535)) ∧ Below w.heap.size w w' := by
  have b := sumL_le s.data.toList
  go_enter Try.func19, Try.ntmps19
  go_wp2_with (go_at_call 26; refine (sum_any s hs _).mono ?_; rintro e w1 ⟨rfl, hb⟩)
  go_ret
  exact ⟨rfl, hb⟩

end Go.Proofs.Ytklilelbebhinaa
