/- The contracts of cloakroomref03: Turned, Set. -/
import Derived.Test.YtklilelbebhinaaRef03Walks
namespace Go.Proofs.Ytklilelbebhinaa.R03
open Go.RowKit
set_option linter.unusedVariables false
attribute [local go_sem ↓] Go.wp_at_zero Go.wp_at_succ

theorem set_any (s : ByteArray) (p k n : Int) (hs : s.size ≤ maxLen) (hp : p ≤ 9223372036854775807) (hk : -9223372036854775808 ≤ k) (hn0 : 0 ≤ n) (hn1 : n < 18446744073709551616) (w : World) :
    Calls Try.prog 15 #[.string s, .int .i64 p, .int .i64 k, .int .u64 n] w fun e w' => e = .returned (.string ⟨(setL s p k n).toArray⟩) ∧ Below w.heap.size w w' := by
  cases h : getOk s p k with
  | false =>
    have hr := Lib.hid (setL_no (n := n) h)
    go_enter Try.func15, Try.ntmps15
    go_wp2_with (go_at_call 21; refine (R02.get_any s p k hs hp hk _).mono ?_; rintro e w' ⟨rfl, rfl⟩)
    go_ret
    exact ⟨(congrArg (fun l : List UInt8 => Ending.returned (Value.string ⟨l.toArray⟩)) hr.out).symm, Below.refl _ _⟩
  | true =>
    have hr := Lib.hid (setL_yes (n := n) h)
    obtain ⟨h1, h2, h3, h4⟩ := getOk_is h
    have h5 : p ≤ s.size := by omega
    have h6 : 0 ≤ p + k := by omega
    have HX := Lib.hid (set_str s p k n h)
    have hs' : s.size ≤ 9223372036854775807 := by unfold maxLen at hs; omega
    have f0 : (putL n k).length = k.toNat := by unfold putL; rw [if_pos ⟨h1, h2⟩, bigB_length]
    have f1 : (9223372036854775807 < p.toNat + (putL n k).length) = False := eq_false (by omega)
    have f2 : (9223372036854775807 < p.toNat + (putL n k).length + (s.size - (p + k).toNat)) = False := eq_false (by omega)
    have F0 := Lib.hid f0
    clear f0
    have eA : IntKind.i64.wrap (p + k) = p + k := IntWalk.i64_in _ (by omega)
    go_enter Try.func15, Try.ntmps15
    go_wp2_with (go_at_call 21; refine (R02.get_any s p k hs hp hk _).mono ?_; rintro e w' ⟨rfl, rfl⟩)
    go_region_held3 (fun _ => True) (trivial) (first | (go_at_call 14; with_reducible refine (R02.put_any n k hn0 hn1 _).mono ?_; rintro e w6 ⟨rfl, hb6⟩))
    all_goals
      go_wp2
      go_ret
      exact ⟨congrArg (fun l => Ending.returned (.string l)) HX.out, below_ofDrew hb6⟩

theorem wordsN_at (L : List UInt8) (k : Nat) (h : k < (wordsN L).length) : (wordsN L)[k] = wd L (2 * k) := by simp [wordsN, wordsK]

theorem IntsAt.nums {w : World} {v : Value} {l : List Nat} {K : Nat} (h : IntsAt w v l) (hl : l.length = K) (hK : K ≠ 0) : ∃ g cap, v = .slice (some ⟨g, 0, none⟩) K cap ∧ g < w.heap.size ∧ ∀ k, k < K → w.cell? ⟨g, k, none⟩ = some (.int .i64 (l.getD k 0 : Nat)) := by
  subst hl
  rcases h with ⟨_, rfl⟩ | ⟨g, cap, e, hg, hc⟩
  · exact absurd rfl hK
  · exact ⟨g, cap, e, hg, fun k hk => by rw [hc k hk, List.getD_eq_getElem?_getD, List.getElem?_eq_getElem hk]; rfl⟩
theorem IntsAt.none {w : World} {v : Value} {l : List Nat} (h : IntsAt w v l) (hl : l.length = 0) : ∃ a cap, v = .slice a 0 cap := by
  rcases h with ⟨rfl, _⟩ | ⟨g, cap, rfl, _, _⟩
  · exact ⟨_, _, rfl⟩
  · exact ⟨_, cap, by rw [hl]⟩
theorem wordsN_getD (L : List UInt8) (k : Nat) (h : k < (L.length + 1) / 2) : (wordsN L).getD k 0 = wd L (2 * k) := by
  rw [List.getD_eq_getElem?_getD, List.getElem?_eq_getElem (by rw [wordsN_length]; exact h), Option.getD_some, wordsN_at]

end Go.Proofs.Ytklilelbebhinaa.R03
