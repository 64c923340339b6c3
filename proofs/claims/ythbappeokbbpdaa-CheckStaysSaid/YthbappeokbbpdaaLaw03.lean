/- The walks of the laws of check: CheckTells. -/
import Derived.Test.YthbappeokbbpdaaCheckTurned
import Derived.Test.YthbappeokbbpdaaRef03Turned
import Derived.Test.YthbappeokbbpdaaLawKit
import Derived.ChangeMaps5
import Derived.OpenShut
namespace Go.Proofs.Ythbappeokbbpdaa
open Go.RowKit Go.WideShapes
set_option linter.unusedVariables false

theorem awake03 (w : World) : Calls Try.prog 6 #[] w fun e w' => e = .returned (.bool true) ∧ Below w.heap.size w w' := by
  have h1 : sumL [0, 1, 242, 3] = 61956 := by decide
  have h2 : sumL [255, 255] = 65535 := by decide
  have h3 : sumL [0, 0] = 0 := by decide
  have h4 : setL ⟨#[97, 98, 99]⟩ 1 1 65 = [97, 65, 99] := by decide
  go_enter Try.func6, Try.ntmps6
  go_wp2_with (first | (go_at_call 7; refine (sum_any _ (by simp [ByteArray.size]) _).mono ?_; rintro e w1 ⟨rfl, hb1⟩; have hs1 := hb1.size) | (go_at_call 11; with_reducible refine (right_any ⟨#[255, 255]⟩ (by simp [ByteArray.size]) _).mono ?_; rintro e w2 ⟨rfl, hb2⟩; have hs2 := hb2.size) | (go_at_call 11; with_reducible refine (right_any ⟨#[0, 0]⟩ (by simp [ByteArray.size]) _).mono ?_; rintro e w3 ⟨rfl, hb3⟩; have hs3 := hb3.size) | (go_at_call 16; refine (set_any _ _ _ _ (by simp [ByteArray.size, maxLen]) (by omega) (by omega) (by omega) (by omega) _).mono ?_; rintro e w4 ⟨rfl, hb4⟩; have hs4 := hb4.size))
  go_ret
  exact ⟨rfl, ((hb1.trans (hb2.mono hs1)).trans (hb3.mono (by omega))).trans (hb4.mono (by omega))⟩

set_option maxHeartbeats 1000000 in
theorem checkTells_walk (s : ByteArray) (c f t : Int) (a b : ByteArray) (n : Int) (w0 : s.size ≤ maxLen) (w1 : (Lit.int .i64 c).wf = true) (w2 : (Lit.int .i64 f).wf = true) (w3 : (Lit.int .i64 t).wf = true) (w4 : a.size ≤ maxLen) (w5 : b.size ≤ maxLen) (w6 : (Lit.int .u64 n).wf = true) (w : World) :
    Calls Try.prog 3 #[.string s, .int .i64 c, .int .i64 f, .int .i64 t, .string a, .string b, .int .u64 n] w fun e w' => e = .returned (.bool true) ∧ Below w.heap.size w w' := by
  have hf := bounds_i64 w2
  have ht := bounds_i64 w3
  have hn := bounds_u64 w6
  unfold maxLen at w0 w4 w5
  by_cases h : 200 < s.size
  · go_enter Try.func3, Try.ntmps3
    go_wp2_with (go_at_call 6; refine (awake03 _).mono ?_; rintro e w' ⟨rfl, hb⟩)
    go_ret
    exact ⟨rfl, hb⟩
  · by_cases ha : 60 < a.size
    · go_enter Try.func3, Try.ntmps3
      go_wp2_with (go_at_call 6; refine (awake03 _).mono ?_; rintro e w' ⟨rfl, hb⟩)
      go_ret
      exact ⟨rfl, hb⟩
    · by_cases hb0 : 60 < b.size
      · go_enter Try.func3, Try.ntmps3
        go_wp2_with (go_at_call 6; refine (awake03 _).mono ?_; rintro e w' ⟨rfl, hb⟩)
        go_ret
        exact ⟨rfl, hb⟩
      · have hs : s.size ≤ 1099511627776 := by omega
        have hs' : s.size ≤ maxLen := by unfold maxLen; omega
        have ha' : a.size ≤ 1099511627776 := by omega
        have hb' : b.size ≤ 1099511627776 := by omega
        have hq : Below w.heap.size w w := Below.refl _ _
        go_enter Try.func3, Try.ntmps3
        go_wp2_with (first | (go_at_call 7; refine (sum_any s hs _).mono ?_; rintro e w1 ⟨rfl, hb1⟩; replace hq := hq.trans (hb1.mono hq.size); clear hb1) | (go_at_call 9; refine (of_any s hs _).mono ?_; rintro e w2 ⟨rfl, hb2⟩; replace hq := hq.trans (hb2.mono hq.size); clear hb2) | (go_at_call 11; refine (right_any s hs _).mono ?_; rintro e w3 ⟨rfl, hb3⟩; replace hq := hq.trans (hb3.mono hq.size); clear hb3) | (go_at_call 12; refine (turn_any _ _ _ _).mono ?_; rintro e w' ⟨rfl, rfl⟩) | (go_at_call 14; refine (turned_any c a b ha' hb' _).mono ?_; rintro e w4 ⟨rfl, hb4⟩; replace hq := hq.trans (hb4.mono hq.size); clear hb4) | (go_at_call 16; refine (set_any s f t n hs' (by omega) (by omega) (by omega) (by omega) _).mono ?_; rintro e w5 ⟨rfl, hb5⟩; replace hq := hq.trans (hb5.mono hq.size); clear hb5) | (go_at_call 8; refine (R03.sum_any s hs _).mono ?_; rintro e v1 ⟨rfl, gb1⟩; replace hq := hq.trans (gb1.mono hq.size); clear gb1) | (go_at_call 10; refine (R03.of_any s hs _).mono ?_; rintro e v2 ⟨rfl, gb2⟩; replace hq := hq.trans (gb2.mono hq.size); clear gb2) | (go_at_call 13; refine (R03.turn_any _ _ _ _).mono ?_; rintro e v3 ⟨rfl, gb3⟩; replace hq := hq.trans (gb3.mono hq.size); clear gb3) | (go_at_call 15; refine (R03.turned_any c a b ha' hb' _).mono ?_; rintro e v4 ⟨rfl, gb4⟩; replace hq := hq.trans (gb4.mono hq.size); clear gb4) | (go_at_call 17; refine (R03.set_any s f t n hs' (by omega) (by omega) (by omega) (by omega) _).mono ?_; rintro e v5 ⟨rfl, gb5⟩; replace hq := hq.trans (gb5.mono hq.size); clear gb5) | (go_at_call 6; refine (awake03 _).mono ?_; rintro e w7 ⟨rfl, hb7⟩; replace hq := hq.trans (hb7.mono hq.size); clear hb7))
        go_ret
        exact ⟨rfl, hq⟩
end Go.Proofs.Ythbappeokbbpdaa
