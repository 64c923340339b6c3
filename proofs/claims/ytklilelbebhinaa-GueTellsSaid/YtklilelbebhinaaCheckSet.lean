/- The contracts of package check: Turn, Set. -/
import Derived.Test.YtklilelbebhinaaCheckWalks
import Derived.Test.YtklilelbebhinaaRef02Walks
import Derived.StillTailTactics
import Derived.Deep.RegionHeld3
import Derived.Deep.DeepCutAuto
import Derived.WalkSpells
import Derived.Deep.DeepFit
import Derived.Deep.DrawnRows
import Derived.BigQuiet
namespace Go.Proofs.Ytklilelbebhinaa
open Go.RowKit
set_option linter.unusedVariables false

theorem turnN_no {c f t : Int} (h : isW c = false ∨ isW f = false ∨ isW t = false) : turnN c f t = 0 := by
  unfold turnN isW at *
  rw [if_neg]
  rintro ⟨h1, h2, h3⟩
  rcases h with h | h | h
  · exact of_decide_eq_false h h1
  · exact of_decide_eq_false h h2
  · exact of_decide_eq_false h h3
theorem turnN_yes {c f t : Int} (h1 : isW c = true) (h2 : isW f = true) (h3 : isW t = true) :
    turnN c f t = 65535 - (res (65535 - c + 65535 - f + t).toNat : Int) ∧ (0 ≤ c ∧ c ≤ 65535) ∧ (0 ≤ f ∧ f ≤ 65535) ∧ (0 ≤ t ∧ t ≤ 65535) := by
  have e1 : 0 ≤ c ∧ c ≤ 65535 := of_decide_eq_true h1
  have e2 : 0 ≤ f ∧ f ≤ 65535 := of_decide_eq_true h2
  have e3 : 0 ≤ t ∧ t ≤ 65535 := of_decide_eq_true h3
  unfold turnN
  rw [if_pos ⟨e1, e2, e3⟩]
  exact ⟨rfl, e1, e2, e3⟩

theorem turnedL_no {s t : ByteArray} (c : Int) (h : ¬ (s.size = t.size ∧ s.size % 2 = 0)) : turnedL c s.data.toList t.data.toList = c := if_neg h

attribute [local go_sem ↓] Go.wp_at_zero Go.wp_at_succ
theorem setL_yes {s : ByteArray} {p k n : Int} (h : getOk s p k = true) : setL s p k n = s.data.toList.take p.toNat ++ putL n k ++ s.data.toList.drop (p + k).toNat := by unfold setL; rw [if_pos h]
theorem setL_no {s : ByteArray} {p k n : Int} (h : getOk s p k = false) : setL s p k n = s.data.toList := by unfold setL; rw [if_neg (by simp [h])]
theorem getOk_is {s : ByteArray} {p k : Int} (h : getOk s p k = true) : 1 ≤ k ∧ k ≤ 8 ∧ 0 ≤ p ∧ p + k ≤ s.size := of_decide_eq_true h

theorem set_str (s : ByteArray) (p k n : Int) (h : getOk s p k = true) :
    s.extract 0 p.toNat ++ { data := (putL n k).toArray } ++ s.extract (p + k).toNat s.size = { data := (setL s p k n).toArray } := by
  obtain ⟨h1, h2, h3, h4⟩ := getOk_is h
  rw [setL_yes h]
  apply ByteArray.ext
  apply Array.ext'
  simp
  exact List.take_of_length_le (by simp)

theorem set_any (s : ByteArray) (p k n : Int) (hs : s.size ≤ maxLen) (hp : p ≤ 9223372036854775807) (hk : -9223372036854775808 ≤ k) (hn0 : 0 ≤ n) (hn1 : n < 18446744073709551616) (w : World) :
    Calls Try.prog 12 #[.string s, .int .i64 p, .int .i64 k, .int .u64 n] w fun e w' => e = .returned (.string ⟨(setL s p k n).toArray⟩) ∧ Below w.heap.size w w' := by
  cases h : getOk s p k with
  | false =>
    have hr := Lib.hid (setL_no (n := n) h)
    go_enter Try.func12, Try.ntmps12
    go_wp2_with (go_at_call 25; refine (get_any s p k hs hp hk _).mono ?_; rintro e w' ⟨rfl, rfl⟩)
    go_ret
    exact ⟨(congrArg (fun l : List UInt8 => Ending.returned (Value.string ⟨l.toArray⟩)) hr.out).symm, Below.refl _ _⟩
  | true =>
    have hr := Lib.hid (setL_yes (n := n) h)
    obtain ⟨h1, h2, h3, h4⟩ := getOk_is h
    have h5 : p ≤ s.size := by omega
    have h6 : 0 ≤ p + k := by omega
    have HX := Lib.hid (set_str s p k n h)
    have hs' : s.size ≤ 9223372036854775807 := by unfold maxLen at hs; omega
    have f0 : (putL n k).length = k.toNat := by unfold putL; rw [if_pos ⟨h1, h2⟩, bigB_length]
    have f1 : (9223372036854775807 < p.toNat + (putL n k).length) = False := eq_false (by omega)
    have f2 : (9223372036854775807 < p.toNat + (putL n k).length + (s.size - (p + k).toNat)) = False := eq_false (by omega)
    have F0 := Lib.hid f0
    clear f0
    have eA : IntKind.i64.wrap (p + k) = p + k := IntWalk.i64_in _ (by omega)
    go_enter Try.func12, Try.ntmps12
    go_wp2_with (go_at_call 25; refine (get_any s p k hs hp hk _).mono ?_; rintro e w' ⟨rfl, rfl⟩)
    go_region_held3 (fun _ => True) (trivial) (first | (go_at_call 24; with_reducible refine (put_any n k hn0 hn1 _).mono ?_; rintro e w6 ⟨rfl, hb6⟩))
    all_goals
      go_wp2
      go_ret
      exact ⟨congrArg (fun l => Ending.returned (.string l)) HX.out, below_ofDrew hb6⟩
end Go.Proofs.Ytklilelbebhinaa
