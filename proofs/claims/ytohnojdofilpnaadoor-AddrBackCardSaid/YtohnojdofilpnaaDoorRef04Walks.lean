/- The contracts of cloakroomref04: Right, Put, Get, Less, Digits, Number, Parts. -/
import Derived.Test.YtohnojdofilpnaaDoorRef02Walks
import Derived.Test.YtohnojdofilpnaaDoorRef02Hex
import Derived.Test.YtohnojdofilpnaaDoorAddrTexts
namespace Go.Proofs.YtohnojdofilpnaaDoor.R04
open Go.RowKit
set_option linter.unusedVariables false
attribute [local go_sem ↓] Go.wp_at_zero Go.wp_at_succ

theorem right_any (v : Bool) (hi lo : Int) (w : World) :
    Calls Tryd.prog 11 #[.agg #[.bool v, .int .u64 hi, .int .u64 lo]] w fun e w' => e = .returned (.bool (rightA v hi lo)) ∧ Below w.heap.size w w' := by
  go_enter Tryd.func11, Tryd.ntmps11
  go_wp2
  all_goals
    go_ret
    refine ⟨ret_bool ?_, (Below.refl _ _).alloc (Nat.le_refl _) _⟩
    simp_all [rightA]
theorem less_any (v : Bool) (hi lo : Int) (v' : Bool) (hi' lo' : Int) (w : World) :
    Calls Tryd.prog 17 #[.agg #[.bool v, .int .u64 hi, .int .u64 lo], .agg #[.bool v', .int .u64 hi', .int .u64 lo']] w fun e w' => e = .returned (.bool (lessA v hi lo v' hi' lo')) ∧ Below w.heap.size w w' := by
  have hq : Below w.heap.size w ((w.alloc (.cells #[.bool v, .int .u64 hi, .int .u64 lo] 24)).alloc (.cells #[.bool v', .int .u64 hi', .int .u64 lo'] 24)) := ((Below.refl _ _).alloc (Nat.le_refl _) _).alloc (by simp) _
  go_enter Tryd.func17, Tryd.ntmps17
  go_wp2
  all_goals
    go_ret
    refine ⟨ret_bool ?_, ((Below.refl _ _).alloc (Nat.le_refl _) _).alloc (by simp) _⟩
    unfold lessA
    cases v <;> cases v' <;> first | (simp_all; done) | (simp_all; omega) | (simp_all; split <;> omega) | trace_state
theorem put_addr (v : Bool) (hi lo : Int) (h0 : 0 ≤ hi) (h1 : hi < 18446744073709551616) (l0 : 0 ≤ lo) (l1 : lo < 18446744073709551616) (w : World) :
    Calls Tryd.prog 13 #[.agg #[.bool v, .int .u64 hi, .int .u64 lo]] w fun e w' => e = .returned (.string ⟨(addrB v hi lo).toArray⟩) ∧ Below w.heap.size w w' := by
  have hq : Below w.heap.size w (w.alloc (.cells #[.bool v, .int .u64 hi, .int .u64 lo] 24)) := (Below.refl _ _).alloc (Nat.le_refl _) _
  have hX := HasB.new w 24 #[.bool v, .int .u64 hi, .int .u64 lo]
  cases hr : rightA v hi lo with
  | false =>
    have HA := Lib.hid (addrB_no v hi lo hr)
    go_enter Tryd.func13, Tryd.ntmps13
    go_wp2_with (first | (go_at_call 11; refine (right_any v hi lo _).mono ?_; rintro e w1 ⟨rfl, hb1⟩; replace hq := hq.trans (hb1.mono (Nat.le_of_lt hX.lt)); replace hX := HasB.below hX hb1 hX.lt) | fail)
    go_ret
    exact ⟨by rw [HA.out]; rfl, hq⟩
  | true =>
    cases v with
    | true =>
      have HA : Hid (addrB true hi lo = putL hi 8 ++ putL lo 8) := Lib.hid (by rw [putL8, putL8]; rfl)
      have f1 : (9223372036854775807 < (putL hi 8).length + (putL lo 8).length) = False := eq_false (by rw [putL8, putL8, bigB_length, bigB_length]; omega)
      go_enter Tryd.func13, Tryd.ntmps13
      go_wp2_with (first | (go_at_call 11; refine (right_any true hi lo _).mono ?_; rintro e w1 ⟨rfl, hb1⟩; replace hq := hq.trans (hb1.mono (Nat.le_of_lt hX.lt)); replace hX := HasB.below hX hb1 hX.lt; have c0 := HasB.cell hX 0 (.bool true) rfl; have c1 := HasB.cell hX 1 (.int .u64 hi) rfl; have c2 := HasB.cell hX 2 (.int .u64 lo) rfl; have hlt := hX.lt) | fail)
      go_region_held3 (fun w' => w'.cell? ⟨w.heap.size, 1, none⟩ = some (.int .u64 hi) ∧ w'.cell? ⟨w.heap.size, 2, none⟩ = some (.int .u64 lo)) (first | exact ⟨c1, c2⟩ | exact ⟨(hb7.cell (p := ⟨w.heap.size, 1, none⟩) (Nat.lt_of_lt_of_le hlt hb6.size)).trans ((hb6.cell (p := ⟨w.heap.size, 1, none⟩) hlt).trans c1), (hb7.cell (p := ⟨w.heap.size, 2, none⟩) (Nat.lt_of_lt_of_le hlt hb6.size)).trans ((hb6.cell (p := ⟨w.heap.size, 2, none⟩) hlt).trans c2)⟩ | exact ⟨(hb6.cell (p := ⟨w.heap.size, 1, none⟩) hlt).trans c1, (hb6.cell (p := ⟨w.heap.size, 2, none⟩) hlt).trans c2⟩) (first | (go_at_call 24; with_reducible refine (R02.put_any hi 8 h0 h1 _).mono ?_; rintro e w6 ⟨rfl, hb6⟩) | (go_at_call 24; with_reducible refine (R02.put_any lo 8 l0 l1 _).mono ?_; rintro e w7 ⟨rfl, hb7⟩))
      all_goals
        have hq7 := (hq.trans ((below_ofDrew hb6).mono (Nat.le_of_lt hlt))).trans (hb7.mono (Nat.le_trans (Nat.le_of_lt hlt) hb6.size))
        go_wp2
        go_ret
        exact ⟨by rw [HA.out, ← str_app]; rfl, hq7⟩
    | false =>
      have HA : Hid (addrB false hi lo = putL lo 4) := Lib.hid (by unfold addrB; rw [hr, putL4]; rfl)
      go_enter Tryd.func13, Tryd.ntmps13
      go_wp2_with (first | (go_at_call 11; refine (right_any false hi lo _).mono ?_; rintro e w1 ⟨rfl, hb1⟩; replace hq := hq.trans (hb1.mono (Nat.le_of_lt hX.lt)); replace hX := HasB.below hX hb1 hX.lt; have c0 := HasB.cell hX 0 (.bool false) rfl; have c2 := HasB.cell hX 2 (.int .u64 lo) rfl) | (go_at_call 24; refine (R02.put_any lo 4 l0 l1 _).mono ?_; rintro e w7 ⟨rfl, hb7⟩; replace hq := hq.trans (hb7.mono (Nat.le_of_lt hX.lt))) | fail)
      go_ret
      exact ⟨ret_str HA.out.symm, hq⟩
theorem get_addr (s : ByteArray) (hs : s.size ≤ maxLen) (w : World) :
    Calls Tryd.prog 7 #[.string s] w fun e w' => e = .returned (.tuple #[.agg #[.bool (gV s.data.toList), .int .u64 (gHi s.data.toList), .int .u64 (gLo s.data.toList)], .bool (gOk s.data.toList)]) ∧ Below w.heap.size w w' := by
  unfold maxLen at hs
  have hl : s.data.toList.length = s.size := by simp
  by_cases h4 : s.size = 4
  · have HV : Hid (gV s.data.toList = false) := Lib.hid (decide_eq_false (by omega))
    have HH : Hid (gHi s.data.toList = 0) := Lib.hid (if_neg (by omega))
    have HO : Hid (gOk s.data.toList = true) := Lib.hid (decide_eq_true (by omega))
    have HG := Lib.hid (get4 s h4)
    have h4i : ((s.size : Int) == 4) = true := by simp; omega
    clear hl
    go_enter Tryd.func7, Tryd.ntmps7
    go_wp2_with (go_at_call 20; refine (R02.get_any _ _ _ (by unfold maxLen; omega) (by omega) (by omega) _).mono ?_; rintro e w2 ⟨rfl, rfl⟩)
    go_returns
    exact ⟨by rw [HV.out, HH.out, HO.out, HG.out], (Below.refl _ _).alloc (Nat.le_refl _) _⟩
  · by_cases h16 : s.size = 16
    · have HV : Hid (gV s.data.toList = true) := Lib.hid (decide_eq_true (by omega))
      have HO : Hid (gOk s.data.toList = true) := Lib.hid (decide_eq_true (by omega))
      have HG := Lib.hid (get16 s h16)
      have h4i : ((s.size : Int) == 4) = false := by simp; omega
      have h16i : ((s.size : Int) == 16) = true := by simp; omega
      clear hl
      go_enter Tryd.func7, Tryd.ntmps7
      go_wp2_with (go_at_call 20; refine (R02.get_any _ _ _ (by unfold maxLen; omega) (by omega) (by omega) _).mono ?_; rintro e w2 ⟨rfl, rfl⟩)
      go_returns
      exact ⟨by rw [HV.out, HO.out, HG.out.1, HG.out.2], (Below.refl _ _).alloc (Nat.le_refl _) _⟩
    · have HV : Hid (gV s.data.toList = false) := Lib.hid (decide_eq_false (by omega))
      have HH : Hid (gHi s.data.toList = 0) := Lib.hid (if_neg (by omega))
      have HG : Hid (gLo s.data.toList = 0) := Lib.hid (by unfold gLo; rw [if_neg (by omega), if_neg (by omega)])
      have HO : Hid (gOk s.data.toList = false) := Lib.hid (decide_eq_false (by omega))
      have h4i : ((s.size : Int) == 4) = false := by simp; omega
      have h16i : ((s.size : Int) == 16) = false := by simp; omega
      clear hl
      go_enter Tryd.func7, Tryd.ntmps7
      go_wp2
      go_returns
      exact ⟨by rw [HV.out, HH.out, HO.out, HG.out], (Below.refl _ _).alloc (Nat.le_refl _) _⟩
def dgB (c : Int) : UInt8 := UInt8.ofNat c.toNat
/-- 'string([]byte{x})'. -/
theorem conv1 (c : Int) (h0 : 0 ≤ c) (hc : c < 256) (W : World) : (convert 50 9 (.slice (some ⟨W.heap.size, 0, none⟩) 1 1)).run Tryd.prog (W.alloc (.cells #[.int .u8 c] 5)) = .ok (.string ⟨[dgB c].toArray⟩) (W.alloc (.cells #[.int .u8 c] 5)) := by
  have h := run_convert_bytes_back (P := Tryd.prog) (W.alloc (.cells #[.int .u8 c] 5)) 50 9 5 ⟨W.heap.size, 0, none⟩ 1 [dgB c] (by kernel_rfl) (by kernel_rfl) (by kernel_rfl) (fun j hj => by
    have : j = 0 := by simpa using hj
    subst this
    simp [Addr.add, dgB]
    omega)
  exact h
theorem dig1 (x : Nat) (hx : x < 10) (w : World) :
    Calls Tryd.prog 30 #[.int .i64 x] w fun e w' => e = .returned (.string ⟨(digL x).toArray⟩) ∧ Below w.heap.size w w' := by
  have hcv := conv1 (48 + (x : Int)) (by omega) (by omega)
  have e1 : (x : Int).tmod 10 = x := by rw [Int.tmod_eq_emod_of_nonneg (by omega)]; omega
  have hx2 : (x : Int) < 10 := by omega
  have HD : Hid (digL x = [dgB (48 + (x : Int))]) := Lib.hid (by unfold digL dgB; rw [if_pos hx, show (48 + (x : Int)).toNat = 48 + x by omega])
  go_enter Tryd.func30, Tryd.ntmps30
  go_wp2
  go_ret
  exact ⟨ret_str HD.out.symm, (Below.refl _ _).alloc (Nat.le_refl _) _⟩
theorem dig2 (x : Nat) (hx : x < 100) (w : World) :
    Calls Tryd.prog 30 #[.int .i64 x] w fun e w' => e = .returned (.string ⟨(digL x).toArray⟩) ∧ Below w.heap.size w w' := by
  by_cases h10 : x < 10
  · exact dig1 x h10 w
  · have hcv := conv1 (48 + (x : Int) % 10) (by omega) (by omega)
    have e1 : (x : Int).tmod 10 = (x : Int) % 10 := Int.tmod_eq_emod_of_nonneg (by omega)
    have e2 : (x : Int).tdiv 10 = ((x / 10 : Nat) : Int) := by rw [Int.tdiv_eq_ediv_of_nonneg (by omega)]; omega
    have hx2 : ¬ (x : Int) < 10 := by omega
    have hq := (Below.refl w.heap.size w).alloc (Nat.le_refl _) (.cells #[.int .u8 (48 + (x : Int) % 10)] 5)
    have f1 : (9223372036854775807 < (digL (x / 10)).length + 1) = False := eq_false (by have := digL_len (x / 10); omega)
    have HD : Hid (digL x = digL (x / 10) ++ [dgB (48 + (x : Int) % 10)]) := Lib.hid (by
      unfold dgB
      rw [show (48 + (x : Int) % 10).toNat = 48 + x % 10 by omega]
      unfold digL; rw [if_neg (by omega), if_pos (by omega), if_pos (by omega)]; rfl)
    go_enter Tryd.func30, Tryd.ntmps30
    go_wp2_with (first | (go_at_call 30; refine (dig1 (x / 10) (by omega) _).mono ?_; rintro e w1 ⟨rfl, hb1⟩) | fail)
    go_ret
    exact ⟨by rw [HD.out, ← str_app]; rfl, hq.trans (hb1.mono (by simp))⟩
theorem digits_any (x : Nat) (hx : x < 256) (w : World) :
    Calls Tryd.prog 30 #[.int .i64 x] w fun e w' => e = .returned (.string ⟨(digL x).toArray⟩) ∧ Below w.heap.size w w' := by
  by_cases h10 : x < 100
  · exact dig2 x h10 w
  · have hcv := conv1 (48 + (x : Int) % 10) (by omega) (by omega)
    have e1 : (x : Int).tmod 10 = (x : Int) % 10 := Int.tmod_eq_emod_of_nonneg (by omega)
    have e2 : (x : Int).tdiv 10 = ((x / 10 : Nat) : Int) := by rw [Int.tdiv_eq_ediv_of_nonneg (by omega)]; omega
    have hx2 : ¬ (x : Int) < 10 := by omega
    have hq := (Below.refl w.heap.size w).alloc (Nat.le_refl _) (.cells #[.int .u8 (48 + (x : Int) % 10)] 5)
    have f1 : (9223372036854775807 < (digL (x / 10)).length + 1) = False := eq_false (by have := digL_len (x / 10); omega)
    have HD : Hid (digL x = digL (x / 10) ++ [dgB (48 + (x : Int) % 10)]) := Lib.hid (by
      unfold dgB
      rw [show (48 + (x : Int) % 10).toNat = 48 + x % 10 by omega]
      unfold digL; rw [if_neg (by omega), if_neg (by omega), if_neg (by omega), if_pos (by omega), Nat.div_div_eq_div_mul]; rfl)
    go_enter Tryd.func30, Tryd.ntmps30
    go_wp2_with (first | (go_at_call 30; refine (dig2 (x / 10) (by omega) _).mono ?_; rintro e w1 ⟨rfl, hb1⟩) | fail)
    go_ret
    exact ⟨by rw [HD.out, ← str_app]; rfl, hq.trans (hb1.mono (by simp))⟩

def stepR (a : Nat) (b : UInt8) : Nat := if isD b ∧ a < 576460752303423488 then 10 * a + (b.toNat - 48) else a
def numK (l : List UInt8) (k : Nat) : Nat := (l.take k).foldl stepR 0
theorem numK_succ (s : ByteArray) (k : Nat) (h : k < s.size) : numK s.data.toList (k + 1) = stepR (numK s.data.toList k) s[k] := by
  unfold numK
  rw [List.take_succ_eq_append_getElem (by simpa using h), List.foldl_append]; rfl
theorem stepR_bd (a : Nat) (b : UInt8) (h : a < 5764607523034234880) : stepR a b < 5764607523034234880 := by
  unfold stepR; split
  · rename_i h2; have := of_decide_eq_true h2.1; omega
  · exact h
theorem numK_bd (l : List UInt8) (k : Nat) : numK l k < 5764607523034234880 := by
  have key : ∀ (m : List UInt8) (a : Nat), a < 5764607523034234880 → m.foldl stepR a < 5764607523034234880 := by
    intro m
    induction m with
    | nil => intro a h; exact h
    | cons b m ih => intro a h; exact ih _ (stepR_bd a b h)
  exact key _ 0 (by omega)
theorem numR_K (s : ByteArray) : numR s.data.toList = if s.size < 20 then numK s.data.toList s.size else 0 := by
  unfold numR numK
  have hl : s.data.toList.length = s.size := by simp
  rw [hl, ← hl, List.take_length]; rfl
theorem number_any (s : ByteArray) (hs : s.size ≤ 1000) (w : World) :
    Calls Tryd.prog 25 #[.string s] w fun e w' => e = .returned (.int .i64 (numR s.data.toList : Nat)) ∧ w = w' := by
  have HN := Lib.hid (numR_K s)
  by_cases h20 : s.size < 20
  · have h20i : (s.size : Int) < 20 := by omega
    go_enter Tryd.func25, Tryd.ntmps25
    go_wp2
    go_loop [3, 4] (fun n i => ∃ k : Nat, k ≤ s.size ∧ i = .int .i64 k ∧ n = .int .i64 (numK s.data.toList k : Nat)) (fun _ i => s.size - (intOf i).toNat)
    case atStart => exact ⟨0, by omega, rfl, rfl⟩
    case round =>
      obtain ⟨k, hk, rfl, rfl⟩ := hrel
      have hbd := numK_bd s.data.toList k
      by_cases hlt : k < s.size
      · have hlti : (k : Int) < s.size := by omega
        have HS := Lib.hid (numK_succ s k hlt)
        have hb := (s[k]'hlt).toNat_lt
        by_cases hd : isD (s[k]'hlt) = true ∧ numK s.data.toList k < 576460752303423488
        · obtain ⟨d1, d2⟩ := of_decide_eq_true hd.1
          have hsm := hd.2
          have HE : Hid (stepR (numK s.data.toList k) (s[k]'hlt) = 10 * numK s.data.toList k + ((s[k]'hlt).toNat - 48)) := Lib.hid (by unfold stepR; rw [if_pos hd])
          have e1 : (48 : Int) ≤ (s[k]'hlt).toNat := by omega
          have e2 : ((s[k]'hlt).toNat : Int) ≤ 57 := by omega
          have e3 : (numK s.data.toList k : Int) < 576460752303423488 := by omega
          clear hd
          go_wp2
          go_round
          case rel => exact ⟨k + 1, by omega, by go_num, by rw [HS.out, HE.out]; go_num⟩
          case measure => simp [intOf]; omega
        · have HE : Hid (stepR (numK s.data.toList k) (s[k]'hlt) = numK s.data.toList k) := Lib.hid (by unfold stepR; rw [if_neg hd])
          by_cases hlo : (48 : Int) ≤ (s[k]'hlt).toNat
          · by_cases hhi : ((s[k]'hlt).toNat : Int) ≤ 57
            · have e3 : ¬ (numK s.data.toList k : Int) < 576460752303423488 := fun h => hd ⟨decide_eq_true (by omega), by omega⟩
              clear hd
              go_wp2
              go_round
              case rel => exact ⟨k + 1, by omega, by go_num, by rw [HS.out, HE.out]⟩
              case measure => simp [intOf]; omega
            · clear hd
              go_wp2
              go_round
              case rel => exact ⟨k + 1, by omega, by go_num, by rw [HS.out, HE.out]⟩
              case measure => simp [intOf]; omega
          · clear hd
            go_wp2
            go_round
            case rel => exact ⟨k + 1, by omega, by go_num, by rw [HS.out, HE.out]⟩
            case measure => simp [intOf]; omega
      · obtain rfl : k = s.size := by omega
        go_wp2
        go_ret
        exact ⟨by rw [HN.out, if_pos h20]; rfl, rfl⟩
  · have h20i : ¬ (s.size : Int) < 20 := by omega
    have h0i : (0 : Int) < s.size := by omega
    go_enter Tryd.func25, Tryd.ntmps25
    go_wp2
    go_rounds 1
    go_ret
    exact ⟨by rw [HN.out, if_neg h20]; rfl, rfl⟩
end Go.Proofs.YtohnojdofilpnaaDoor.R04
