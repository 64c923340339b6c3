/- The contracts of the reference for num. -/
import Derived.Test.YtbhjiepcbokneaaProg
import Derived.Test.YtbhjiepcbokneaaNumMath
import Derived.Handy
import Derived.Lib.Hide
import Derived.BigQuiet
import Derived.Deep.QuietTactic
import Derived.WalkLawsBesides
namespace Go.Proofs.Ytbhjiepcbokneaa
open Go.RowKit
set_option linter.unusedVariables false
namespace R01
theorem ret_int {k : IntKind} {a b : Int} (h : a = b) : Ending.returned (.int k a) = .returned (.int k b) := by rw [h]

theorem ret_two {k : IntKind} {a b c d : Int} (h : a = c) (h' : b = d) : Ending.returned (.tuple #[.int k a, .int k b]) = .returned (.tuple #[.int k c, .int k d]) := by rw [h, h']

theorem twice_any (P d : Int) (h0 : 0 ≤ P) (hd : 0 ≤ d) (hd' : d < 18446744073709551616) (h1 : 2 * P + d < 340282366920938463463374607431768211456) (w : World) :
    Calls Try.prog 25 #[.int .u64 (P / 18446744073709551616), .int .u64 (P % 18446744073709551616), .int .u64 d] w
      fun e w' => e = .returned (.tuple #[.int .u64 ((2 * P + d) / 18446744073709551616), .int .u64 ((2 * P + d) % 18446744073709551616)]) ∧ w = w' := by
  have h2 : P < 170141183460469231731687303715884105728 := by omega
  have e1 := Lib.hid (twice_or P h0 h2)
  go_enter Try.func25, Try.ntmps25
  go_wp2
  all_goals
    rw [e1.out]
    go_ret2
    refine ⟨ret_two ?_ ?_, rfl⟩
    all_goals
      simp only [IntKind.wrap_u64] at *
      omega

/-- The product, bit by bit, the highest first: after the bits above k the number is a / 2^k * b. -/
theorem mul_any (a b : Int) (ha : 0 ≤ a) (ha' : a < 18446744073709551616) (hb : 0 ≤ b) (hb' : b < 18446744073709551616) (w : World) :
    Calls Try.prog 21 #[.int .u64 a, .int .u64 b] w
      fun e w' => e = .returned (.tuple #[.int .u64 (a * b / 18446744073709551616), .int .u64 (a * b % 18446744073709551616)]) ∧ w = w' := by
  go_enter Try.func21, Try.ntmps21
  go_wp2
  go_loop [6, 7, 8] (fun h l i => ∃ k : Nat, k ≤ 64 ∧ i = .int .i64 ((k : Int) - 1) ∧ h = .int .u64 (a / 2 ^ k * b / 18446744073709551616) ∧ l = .int .u64 (a / 2 ^ k * b % 18446744073709551616)) (fun _ _ i => (intOf i + 1).toNat)
  case atStart => exact ⟨64, by omega, rfl, by rw [div64 a ha ha']; simp, by rw [div64 a ha ha']; simp⟩
  case round =>
    obtain ⟨k, hk, rfl, rfl, rfl⟩ := hrel
    by_cases h0 : 1 ≤ k
    · obtain ⟨j, rfl⟩ : ∃ j, k = j + 1 := ⟨k - 1, by omega⟩
      obtain ⟨b1, b2⟩ := mul_bd a b j ha ha' hb hb'
      obtain ⟨c1, c2⟩ := mul_bd a b (j + 1) ha ha' hb hb'
      have hs := Lib.hid (mul_step a b j)
      have hx0 : 0 ≤ a / 2 ^ j := Int.ediv_nonneg ha (Int.pow_nonneg (by decide))
      have hx1 : a / 2 ^ j < 18446744073709551616 := by have := Int.ediv_le_self (2 ^ j) ha; omega
      have hbit := bit_and (a / 2 ^ j) hx0 hx1
      by_cases hb1 : a / 2 ^ j % 2 = 1
      · have hB : (a / 2 ^ j % 2 == 1) = true := by simpa using hb1
        have hs' := Lib.hid (show 2 * (a / 2 ^ (j + 1) * b) + b = a / 2 ^ j * b by rw [hs.out, hb1]; simp)
        have hn : 2 * (a / 2 ^ (j + 1) * b) + b < 340282366920938463463374607431768211456 := by rw [hs'.out]; exact b2
        go_wp2_with (go_at_call 25; refine (twice_any _ _ c1 (by omega) (by omega) hn _).mono ?_; rintro e w' ⟨rfl, rfl⟩)
        go_round
        case rel => exact ⟨j, by omega, by go_num, by rw [hs'.out], by rw [hs'.out]⟩
        case measure => simp [intOf] <;> omega
      · have hB : (a / 2 ^ j % 2 == 1) = false := by simpa using hb1
        have hs' := Lib.hid (show 2 * (a / 2 ^ (j + 1) * b) = a / 2 ^ j * b by rw [hs.out, show a / 2 ^ j % 2 = 0 by omega]; simp)
        have hn : 2 * (a / 2 ^ (j + 1) * b) + 0 < 340282366920938463463374607431768211456 := by rw [hs'.out]; omega
        go_wp2_with (go_at_call 25; refine (twice_any _ _ c1 (by omega) (by omega) hn _).mono ?_; rintro e w' ⟨rfl, rfl⟩)
        go_round
        case rel => exact ⟨j, by omega, by go_num, by rw [hs'.out], by rw [hs'.out]⟩
        case measure => simp [intOf] <;> omega
    · obtain rfl : k = 0 := by omega
      go_wp2
      go_ret2
      exact ⟨ret_two (by simp) (by simp), rfl⟩

theorem cross_any (a b c d : Int) (ha : 0 ≤ a) (ha' : a < 18446744073709551616) (hb : 0 ≤ b) (hb' : b < 18446744073709551616)
    (hc : 0 ≤ c) (hc' : c < 18446744073709551616) (hd : 0 ≤ d) (hd' : d < 18446744073709551616) (w : World) :
    Calls Try.prog 7 #[.int .u64 a, .int .u64 b, .int .u64 c, .int .u64 d] w fun e w' => e = .returned (.int .i64 (cmp3 (a * b) (c * d))) ∧ w = w' := by
  by_cases h1 : a * b / 18446744073709551616 < c * d / 18446744073709551616
  · have hr := Lib.hid (cmp3_lt (x := a * b) (y := c * d) (by omega))
    go_enter Try.func7, Try.ntmps7
    go_wp2_with (go_at_call 21; refine (mul_any _ _ (by assumption) (by assumption) (by assumption) (by assumption) _).mono ?_; rintro e w' ⟨rfl, rfl⟩)
    go_ret
    exact ⟨ret_int hr.out.symm, rfl⟩
  · have h1' : decide (a * b / 18446744073709551616 < c * d / 18446744073709551616) = false := by simpa using h1
    by_cases h2 : a * b / 18446744073709551616 = c * d / 18446744073709551616
    · have H2 := Lib.hid h2
      have h2' : (a * b / 18446744073709551616 == c * d / 18446744073709551616) = true := by simpa using h2
      by_cases h3 : a * b % 18446744073709551616 < c * d % 18446744073709551616
      · have hr := Lib.hid (cmp3_lt (x := a * b) (y := c * d) (by omega))
        clear h2
        go_enter Try.func7, Try.ntmps7
        go_wp2_with (go_at_call 21; refine (mul_any _ _ (by assumption) (by assumption) (by assumption) (by assumption) _).mono ?_; rintro e w' ⟨rfl, rfl⟩)
        go_ret
        exact ⟨ret_int hr.out.symm, rfl⟩
      · have h3' : decide (a * b % 18446744073709551616 < c * d % 18446744073709551616) = false := by simpa using h3
        by_cases h4 : a * b % 18446744073709551616 = c * d % 18446744073709551616
        · have hr := Lib.hid (cmp3_eq (x := a * b) (y := c * d) (by omega))
          have h4' : (a * b % 18446744073709551616 == c * d % 18446744073709551616) = true := by simpa using h4
          clear h2 h4
          go_enter Try.func7, Try.ntmps7
          go_wp2_with (go_at_call 21; refine (mul_any _ _ (by assumption) (by assumption) (by assumption) (by assumption) _).mono ?_; rintro e w' ⟨rfl, rfl⟩)
          go_ret
          exact ⟨ret_int hr.out.symm, rfl⟩
        · have hr := Lib.hid (cmp3_gt (x := a * b) (y := c * d) (by omega))
          have h4' : (a * b % 18446744073709551616 == c * d % 18446744073709551616) = false := by simpa using h4
          clear h2 h4
          go_enter Try.func7, Try.ntmps7
          go_wp2_with (go_at_call 21; refine (mul_any _ _ (by assumption) (by assumption) (by assumption) (by assumption) _).mono ?_; rintro e w' ⟨rfl, rfl⟩)
          go_ret
          exact ⟨ret_int hr.out.symm, rfl⟩
    · have hr := Lib.hid (cmp3_gt (x := a * b) (y := c * d) (by omega))
      have h2' : (a * b / 18446744073709551616 == c * d / 18446744073709551616) = false := by simpa using h2
      clear h2
      go_enter Try.func7, Try.ntmps7
      go_wp2_with (go_at_call 21; refine (mul_any _ _ (by assumption) (by assumption) (by assumption) (by assumption) _).mono ?_; rintro e w' ⟨rfl, rfl⟩)
      go_ret
      exact ⟨ret_int hr.out.symm, rfl⟩

theorem mask_any (k : Int) (w : World) :
    Calls Try.prog 9 #[.int .i64 k] w fun e w' => e = .returned (.int .u64 (maskOf k)) ∧ w = w' := by
  by_cases h : 0 ≤ k ∧ k ≤ 64
  · obtain ⟨h0, h1⟩ := h
    go_enter Try.func9, Try.ntmps9
    go_wp2
    go_loop [3, 4] (fun n i => ∃ j : Nat, (j : Int) ≤ k ∧ i = .int .i64 j ∧ n = .int .u64 (2 ^ j - 1)) (fun _ i => (k - intOf i).toNat)
    case atStart => exact ⟨0, by omega, rfl, rfl⟩
    case round =>
      obtain ⟨j, hj, rfl, rfl⟩ := hrel
      by_cases hlt : (j : Int) < k
      · have hs := Lib.hid (mask_step j (by omega))
        go_wp2
        go_round
        case rel => exact ⟨j + 1, by omega, by go_num, by rw [hs.out]⟩
        case measure => simp [intOf] <;> omega
      · have hr := Lib.hid (show maskOf k = 2 ^ j - 1 by unfold maskOf; rw [if_pos ⟨h0, h1⟩, show k.toNat = j by omega])
        go_wp2
        go_ret
        exact ⟨ret_int hr.out.symm, rfl⟩
  · have hr := Lib.hid (show maskOf k = 0 by unfold maskOf; rw [if_neg h])
    by_cases h0 : k < 0
    · go_enter Try.func9, Try.ntmps9
      go_wp2
      go_rounds 1
      go_ret
      exact ⟨ret_int hr.out.symm, rfl⟩
    · have h1 : 64 < k := by omega
      have h2 : decide (k ≤ 64) = false := by simp; omega
      go_enter Try.func9, Try.ntmps9
      go_wp2
      go_rounds 1
      go_ret
      exact ⟨ret_int hr.out.symm, rfl⟩

theorem width_any (n : Int) (h0 : 0 ≤ n) (hn : n < 18446744073709551616) (w : World) :
    Calls Try.prog 11 #[.int .u64 n] w fun e w' => e = .returned (.int .i64 (bitLen n.toNat : Nat)) ∧ w = w' := by
  have hl := len_le64 n hn
  go_enter Try.func11, Try.ntmps11
  go_wp2
  go_loop [0, 3] (fun m i => ∃ x : Int, ∃ k : Nat, 0 ≤ x ∧ x < 18446744073709551616 ∧ m = .int .u64 x ∧ i = .int .i64 k ∧ k + bitLen x.toNat = bitLen n.toNat) (fun m _ => (intOf m).toNat)
  case atStart => exact ⟨n, 0, h0, hn, rfl, rfl, by omega⟩
  case round =>
    obtain ⟨x, k, hx0, hx1, rfl, rfl, hk⟩ := hrel
    have hk1 : k + bitLen x.toNat ≤ 64 := by omega
    have HK := Lib.hid hk
    clear hk
    by_cases hlt : 0 < x
    · have hs := Lib.hid (len_half x hlt)
      go_wp2
      go_round
      case rel => exact ⟨x / 2, k + 1, by omega, by omega, rfl, by go_num, by have := hs.out; have := HK.out; omega⟩
      case measure => simp [intOf] <;> omega
    · obtain rfl : x = 0 := by omega
      have hr := Lib.hid (show ((bitLen n.toNat : Nat) : Int) = k by have := HK.out; have e : bitLen (0 : Int).toNat = 0 := by decide
                                                                     omega)
      go_wp2
      go_ret
      exact ⟨ret_int hr.out.symm, rfl⟩

theorem scale_any (x n : Int) (hx : 0 ≤ x) (hx' : x < 18446744073709551616) (w : World) :
    Calls Try.prog 13 #[.int .u64 x, .int .i64 n] w fun e w' => e = .returned (.int .i64 (scaleOf x n)) ∧ w = w' := by
  by_cases h : 1 ≤ n ∧ n ≤ 2147483648
  · obtain ⟨h0, h1⟩ := h
    have h2 : decide (n < 1) = false := by simpa using h0
    have hr := Lib.hid (show scaleOf x n = x * n / 18446744073709551616 by unfold scaleOf; rw [if_pos ⟨h0, h1⟩])
    obtain ⟨hb0, hb1⟩ := scale_bd x n hx hx' h0 h1
    go_enter Try.func13, Try.ntmps13
    go_wp2_with (go_at_call 21; refine (mul_any _ _ (by omega) (by omega) (by omega) (by omega) _).mono ?_; rintro e w' ⟨rfl, rfl⟩)
    go_ret
    exact ⟨ret_int hr.out.symm, rfl⟩
  · have hr := Lib.hid (show scaleOf x n = 0 by unfold scaleOf; rw [if_neg h])
    by_cases h0 : n < 1
    · go_enter Try.func13, Try.ntmps13
      go_wp2_with fail
      go_ret
      exact ⟨ret_int hr.out.symm, rfl⟩
    · have h1 : 2147483648 < n := by omega
      go_enter Try.func13, Try.ntmps13
      go_wp2_with fail
      go_ret
      exact ⟨ret_int hr.out.symm, rfl⟩

theorem round_any (n m : Int) (h0 : -9223372036854775808 ≤ n) (h1 : n ≤ 9223372036854775807) (h2 : m ≤ 9223372036854775807) (w : World) :
    Calls Try.prog 15 #[.int .i64 n, .int .i64 m] w fun e w' => e = .returned (.int .i64 (roundOf n m)) ∧ w = w' := by
  by_cases h : m < 1
  · have hr := Lib.hid (show roundOf n m = 0 by unfold roundOf; rw [if_pos h])
    go_enter Try.func15, Try.ntmps15
    go_wp2
    go_ret
    exact ⟨ret_int hr.out.symm, rfl⟩
  · have hr := Lib.hid (show roundOf n m = n % m by unfold roundOf; rw [if_neg h])
    obtain ⟨k1, k2, k3, k4⟩ := tmod_facts n m (by omega)
    by_cases h3 : n.tmod m < 0
    · go_enter Try.func15, Try.ntmps15
      go_wp2
      go_ret
      exact ⟨ret_int hr.out.symm, rfl⟩
    · have H4 := Lib.hid (k4 h3)
      go_enter Try.func15, Try.ntmps15
      go_wp2
      go_ret
      exact ⟨ret_int (H4.out.trans hr.out.symm), rfl⟩

theorem ahead_any (f t : Int) (h0 : 0 ≤ f) (h1 : f < 4294967296) (h2 : 0 ≤ t) (h3 : t < 4294967296) (w : World) :
    Calls Try.prog 17 #[.int .u32 f, .int .u32 t] w fun e w' => e = .returned (.int .i64 (aheadOf f t)) ∧ w = w' := by
  go_enter Try.func17, Try.ntmps17
  go_wp2
  all_goals
    go_ret
    exact ⟨ret_int (by unfold aheadOf; omega), rfl⟩
end R01
end Go.Proofs.Ytbhjiepcbokneaa
