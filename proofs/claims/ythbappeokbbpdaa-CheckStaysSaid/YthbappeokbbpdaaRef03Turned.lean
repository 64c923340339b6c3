/- The contracts of cloakroomref03: Turned, Set. -/
import Derived.Test.YthbappeokbbpdaaRef03Walks
namespace Go.Proofs.Ythbappeokbbpdaa.R03
open Go.RowKit
set_option linter.unusedVariables false
attribute [local go_sem ↓] Go.wp_at_zero Go.wp_at_succ

theorem set_any (s : ByteArray) (p k n : Int) (hs : s.size ≤ maxLen) (hp : p ≤ 9223372036854775807) (hk : -9223372036854775808 ≤ k) (hn0 : 0 ≤ n) (hn1 : n < 18446744073709551616) (w : World) :
    Calls Try.prog 17 #[.string s, .int .i64 p, .int .i64 k, .int .u64 n] w fun e w' => e = .returned (.string ⟨(setL s p k n).toArray⟩) ∧ Below w.heap.size w w' := by
  cases h : getOk s p k with
  | false =>
    have hr := Lib.hid (setL_no (n := n) h)
    go_enter Try.func17, Try.ntmps17
    go_wp2_with (go_at_call 27; refine (R02.get_any s p k hs hp hk _).mono ?_; rintro e w' ⟨rfl, rfl⟩)
    go_ret
    exact ⟨(congrArg (fun l : List UInt8 => Ending.returned (Value.string ⟨l.toArray⟩)) hr.out).symm, Below.refl _ _⟩
  | true =>
    have hr := Lib.hid (setL_yes (n := n) h)
    obtain ⟨h1, h2, h3, h4⟩ := getOk_is h
    have h5 : p ≤ s.size := by omega
    have h6 : 0 ≤ p + k := by omega
    have HX := Lib.hid (set_str s p k n h)
    have hs' : s.size ≤ 9223372036854775807 := by unfold maxLen at hs; omega
    have f0 : (putL n k).length = k.toNat := by unfold putL; rw [if_pos ⟨h1, h2⟩, bigB_length]
    have f1 : (9223372036854775807 < p.toNat + (putL n k).length) = False := eq_false (by omega)
    have f2 : (9223372036854775807 < p.toNat + (putL n k).length + (s.size - (p + k).toNat)) = False := eq_false (by omega)
    have F0 := Lib.hid f0
    clear f0
    have eA : IntKind.i64.wrap (p + k) = p + k := IntWalk.i64_in _ (by omega)
    go_enter Try.func17, Try.ntmps17
    go_wp2_with (go_at_call 27; refine (R02.get_any s p k hs hp hk _).mono ?_; rintro e w' ⟨rfl, rfl⟩)
    go_region_held3 (fun _ => True) (trivial) (first | (go_at_call 28; with_reducible refine (R02.put_any n k hn0 hn1 _).mono ?_; rintro e w6 ⟨rfl, hb6⟩))
    all_goals
      go_wp2
      go_ret
      exact ⟨congrArg (fun l => Ending.returned (.string l)) HX.out, below_ofDrew hb6⟩

theorem wordsN_at (L : List UInt8) (k : Nat) (h : k < (wordsN L).length) : (wordsN L)[k] = wd L (2 * k) := by simp [wordsN, wordsK]

theorem IntsAt.nums {w : World} {v : Value} {l : List Nat} {K : Nat} (h : IntsAt w v l) (hl : l.length = K) (hK : K ≠ 0) : ∃ g cap, v = .slice (some ⟨g, 0, none⟩) K cap ∧ g < w.heap.size ∧ ∀ k, k < K → w.cell? ⟨g, k, none⟩ = some (.int .i64 (l.getD k 0 : Nat)) := by
  subst hl
  rcases h with ⟨_, rfl⟩ | ⟨g, cap, e, hg, hc⟩
  · exact absurd rfl hK
  · exact ⟨g, cap, e, hg, fun k hk => by rw [hc k hk, List.getD_eq_getElem?_getD, List.getElem?_eq_getElem hk]; rfl⟩
theorem IntsAt.none {w : World} {v : Value} {l : List Nat} (h : IntsAt w v l) (hl : l.length = 0) : ∃ a cap, v = .slice a 0 cap := by
  rcases h with ⟨rfl, _⟩ | ⟨g, cap, rfl, _, _⟩
  · exact ⟨_, _, rfl⟩
  · exact ⟨_, cap, by rw [hl]⟩
theorem wordsN_getD (L : List UInt8) (k : Nat) (h : k < (L.length + 1) / 2) : (wordsN L).getD k 0 = wd L (2 * k) := by
  rw [List.getD_eq_getElem?_getD, List.getElem?_eq_getElem (by rw [wordsN_length]; exact h), Option.getD_some, wordsN_at]

set_option maxHeartbeats 1000000 in
theorem turned_any (c : Int) (s t : ByteArray) (hs : s.size ≤ 1099511627776) (ht : t.size ≤ 1099511627776) (w : World) :
    Calls Try.prog 15 #[.int .i64 c, .string s, .string t] w fun e w' => e = .returned (.int .i64 (turnedL c s.data.toList t.data.toList)) ∧ Below w.heap.size w w' := by
  by_cases h : s.size = t.size ∧ s.size % 2 = 0
  · obtain ⟨h1, h2⟩ := h
    have h3 : t.size % 2 = 0 := by omega
    have e1 : ((s.size : Int) == (t.size : Int)) = true := by rw [h1]; simp
    have e2 : (s.size : Int).tmod 2 = 0 := by rw [Int.tmod_eq_emod_of_nonneg (by omega)]; omega
    have l1 : (wordsN s.data.toList).length = t.size / 2 := by rw [wordsN_length, show s.data.toList.length = s.size from rfl]; omega
    have l2 : (wordsN t.data.toList).length = t.size / 2 := by rw [wordsN_length, show t.data.toList.length = t.size from rfl]; omega
    have HR : Hid (turnedL c s.data.toList t.data.toList = turnsN c s.data.toList t.data.toList (t.size / 2)) := Lib.hid (by rw [← h1]; exact if_pos ⟨h1, h2⟩)
    by_cases hz : s.size = 0
    · have HR0 : Hid (turnsN c s.data.toList t.data.toList (t.size / 2) = c) := Lib.hid (by rw [← h1, hz]; rfl)
      go_enter Try.func15, Try.ntmps15
      go_wp2_with (first | (go_at_call 21; with_reducible refine (words_any s hs _).mono ?_; rintro e w1 ⟨v, rfl, hI, hb⟩) | (go_at_call 21; with_reducible refine (words_any t ht _).mono ?_; rintro e w2 ⟨v2, rfl, hI2, hb2⟩))
      have hB : Below w.heap.size w w2 := hb.trans (hb2.mono hb.size)
      obtain ⟨a, cap, rfl⟩ := IntsAt.none hI (by rw [l1, ← h1, hz])
      go_wp2
      go_rounds 1
      go_ret
      exact ⟨ret_int (by rw [HR.out, HR0.out]), hB⟩
    · go_enter Try.func15, Try.ntmps15
      go_wp2_with (first | (go_at_call 21; with_reducible refine (words_any s hs _).mono ?_; rintro e w1 ⟨v, rfl, hI, hb⟩) | (go_at_call 21; with_reducible refine (words_any t ht _).mono ?_; rintro e w2 ⟨v2, rfl, hI2, hb2⟩))
      have hB : Below w.heap.size w w2 := hb.trans (hb2.mono hb.size)
      obtain ⟨g, cap, rfl, hg, hc⟩ := IntsAt.nums (hI.below hb2) l1 (by omega)
      obtain ⟨g2, cap2, rfl, hg2, hc2⟩ := IntsAt.nums hI2 l2 (by omega)
      have C1 : Hid (∀ k, k < t.size / 2 → w2.cell? ⟨g, k, none⟩ = some (.int .i64 (wd s.data.toList (2 * k) : Nat))) := Lib.hid (fun k hk => by rw [hc k hk, wordsN_getD _ _ (by rw [show s.data.toList.length = s.size from rfl]; omega)])
      have C2 : Hid (∀ k, k < t.size / 2 → w2.cell? ⟨g2, k, none⟩ = some (.int .i64 (wd t.data.toList (2 * k) : Nat))) := Lib.hid (fun k hk => by rw [hc2 k hk, wordsN_getD _ _ (by rw [show t.data.toList.length = t.size from rfl]; omega)])
      clear hc hc2 hI hI2
      clear l1 l2
      go_wp2
      go_loopw [0, 9] (fun cv i wr => ∃ k : Nat, k ≤ t.size / 2 ∧ i = .int .i64 k ∧ cv = .int .i64 (turnsN c s.data.toList t.data.toList k) ∧ Below w2.heap.size w2 wr) (fun _ i _ => t.size / 2 - (intOf i).toNat)
      case atStart => exact ⟨0, by omega, rfl, rfl, Below.refl _ _⟩
      case round =>
        obtain ⟨k, hk, rfl, rfl, hw⟩ := hrel
        by_cases hlt : k < t.size / 2
        · have c1 : wr.cell? ⟨g, k, none⟩ = some (.int .i64 (wd s.data.toList (2 * k) : Nat)) := (hw.cell (p := ⟨g, k, none⟩) hg).trans (C1.out k hlt)
          have c2 : wr.cell? ⟨g2, k, none⟩ = some (.int .i64 (wd t.data.toList (2 * k) : Nat)) := (hw.cell (p := ⟨g2, k, none⟩) hg2).trans (C2.out k hlt)
          have hlt2 : (k : Int) < (s.size : Int) / 2 := by omega
          go_wp2
          go_region_held3 (fun w' => w'.cell? ⟨g, k, none⟩ = some (.int .i64 (wd s.data.toList (2 * k) : Nat)) ∧ w'.cell? ⟨g2, k, none⟩ = some (.int .i64 (wd t.data.toList (2 * k) : Nat))) (first | exact ⟨c1, c2⟩ | exact ⟨(hb6.cell (p := ⟨g, k, none⟩) (Nat.lt_of_lt_of_le hg hw.size)).trans c1, (hb6.cell (p := ⟨g2, k, none⟩) (Nat.lt_of_lt_of_le hg2 hw.size)).trans c2⟩) (first | (go_at_call 13; with_reducible refine (turn_any _ _ _ _).mono ?_; rintro e w6 ⟨rfl, hb6⟩))
          all_goals
            have hb7 := hw.drew.trans (hb6.mono hw.size)
            go_wp2
            go_roundw
            case rel => exact ⟨k + 1, by omega, by go_num, rfl, hb7⟩
            case measure => simp [intOf]; omega
        · obtain rfl : k = t.size / 2 := by omega
          go_wp2
          go_ret
          exact ⟨ret_int (by rw [HR.out]), hB.trans (hw.mono hB.size)⟩
  · have HR := Lib.hid (turnedL_no c h)
    by_cases h1 : s.size = t.size
    · have e1 : ((s.size : Int) == (t.size : Int)) = true := by rw [h1]; simp
      have e2 : (s.size : Int).tmod 2 = 1 := by rw [Int.tmod_eq_emod_of_nonneg (by omega)]; omega
      have e3 : ((t.size : Int) % 2 == 1) = true := by simp; omega
      go_enter Try.func15, Try.ntmps15
      go_wp2
      go_ret
      exact ⟨ret_int HR.out.symm, Below.refl _ _⟩
    · have e1 : ((s.size : Int) != (t.size : Int)) = true := by simp; omega
      have e3 : ((s.size : Int) == (t.size : Int)) = false := by simp; omega
      go_enter Try.func15, Try.ntmps15
      go_wp2
      go_ret
      exact ⟨ret_int HR.out.symm, Below.refl _ _⟩
end Go.Proofs.Ythbappeokbbpdaa.R03
