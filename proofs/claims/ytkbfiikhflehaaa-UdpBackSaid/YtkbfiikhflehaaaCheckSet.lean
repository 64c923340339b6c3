/- The contracts of package check: Turn, Set. -/
import Derived.Test.YtkbfiikhflehaaaCheckWalks
import Derived.Test.YtkbfiikhflehaaaRef02Walks
import Derived.StillTailTactics
import Derived.Deep.RegionHeld3
import Derived.Deep.DeepCutAuto
import Derived.WalkSpells
import Derived.Deep.DeepFit
import Derived.Deep.DrawnRows
import Derived.BigQuiet
namespace Go.Proofs.Ytkbfiikhflehaaa
open Go.RowKit
set_option linter.unusedVariables false

theorem turnN_no {c f t : Int} (h : isW c = false ∨ isW f = false ∨ isW t = false) : turnN c f t = 0 := by
  unfold turnN isW at *
  rw [if_neg]
  rintro ⟨h1, h2, h3⟩
  rcases h with h | h | h
  · exact of_decide_eq_false h h1
  · exact of_decide_eq_false h h2
  · exact of_decide_eq_false h h3
theorem turnN_yes {c f t : Int} (h1 : isW c = true) (h2 : isW f = true) (h3 : isW t = true) :
    turnN c f t = 65535 - (res (65535 - c + 65535 - f + t).toNat : Int) ∧ (0 ≤ c ∧ c ≤ 65535) ∧ (0 ≤ f ∧ f ≤ 65535) ∧ (0 ≤ t ∧ t ≤ 65535) := by
  have e1 : 0 ≤ c ∧ c ≤ 65535 := of_decide_eq_true h1
  have e2 : 0 ≤ f ∧ f ≤ 65535 := of_decide_eq_true h2
  have e3 : 0 ≤ t ∧ t ≤ 65535 := of_decide_eq_true h3
  unfold turnN
  rw [if_pos ⟨e1, e2, e3⟩]
  exact ⟨rfl, e1, e2, e3⟩

theorem turnedL_no {s t : ByteArray} (c : Int) (h : ¬ (s.size = t.size ∧ s.size % 2 = 0)) : turnedL c s.data.toList t.data.toList = c := if_neg h

attribute [local go_sem ↓] Go.wp_at_zero Go.wp_at_succ
theorem setL_yes {s : ByteArray} {p k n : Int} (h : getOk s p k = true) : setL s p k n = s.data.toList.take p.toNat ++ putL n k ++ s.data.toList.drop (p + k).toNat := by unfold setL; rw [if_pos h]
theorem setL_no {s : ByteArray} {p k n : Int} (h : getOk s p k = false) : setL s p k n = s.data.toList := by unfold setL; rw [if_neg (by simp [h])]
theorem getOk_is {s : ByteArray} {p k : Int} (h : getOk s p k = true) : 1 ≤ k ∧ k ≤ 8 ∧ 0 ≤ p ∧ p + k ≤ s.size := of_decide_eq_true h

theorem set_str (s : ByteArray) (p k n : Int) (h : getOk s p k = true) :
    s.extract 0 p.toNat ++ { data := (putL n k).toArray } ++ s.extract (p + k).toNat s.size = { data := (setL s p k n).toArray } := by
  obtain ⟨h1, h2, h3, h4⟩ := getOk_is h
  rw [setL_yes h]
  apply ByteArray.ext
  apply Array.ext'
  simp
  exact List.take_of_length_le (by simp)

end Go.Proofs.Ytkbfiikhflehaaa
