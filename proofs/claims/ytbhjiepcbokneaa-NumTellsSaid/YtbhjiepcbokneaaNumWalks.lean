/- The contracts of package num: product, Cross, Mask, Width, Scale, Round, Ahead. -/
import Derived.Test.YtbhjiepcbokneaaProg
import Derived.Test.YtbhjiepcbokneaaNumMath
import Derived.Handy
import Derived.Lib.Hide
import Derived.BigQuiet
import Derived.Deep.QuietTactic
import Derived.WalkLawsBesides
namespace Go.Proofs.Ytbhjiepcbokneaa
open Go.RowKit
set_option linter.unusedVariables false

theorem ret_int {k : IntKind} {a b : Int} (h : a = b) : Ending.returned (.int k a) = .returned (.int k b) := by rw [h]
theorem ret_bool {a b : Bool} (h : a = b) : Ending.returned (.bool a) = .returned (.bool b) := by rw [h]

theorem halves_any (a b : Int) (ha : 0 ≤ a) (ha' : a < 18446744073709551616) (hb : 0 ≤ b) (hb' : b < 18446744073709551616) (w : World) :
    Calls Try.prog 23 #[.int .u64 a, .int .u64 b] w fun e w' => e = .returned (.agg #[.int .u64 (a / 4294967296), .int .u64 (a % 4294967296), .int .u64 (b / 4294967296), .int .u64 (b % 4294967296)]) ∧ Below w.heap.size w w' := by
  have e1 := and_low32 a ha ha'
  have e2 := and_low32 b hb hb'
  go_enter Try.func23, Try.ntmps23
  go_wp2
  go_returns
  exact ⟨rfl, by go_grown⟩

set_option maxHeartbeats 1000000 in
theorem product_any (a b : Int) (ha : 0 ≤ a) (ha' : a < 18446744073709551616) (hb : 0 ≤ b) (hb' : b < 18446744073709551616) (w : World) :
    Calls Try.prog 19 #[.int .u64 a, .int .u64 b] w fun e w' => e = .returned (.tuple #[.int .u64 (a * b / 18446744073709551616), .int .u64 (a * b % 18446744073709551616)]) ∧ Below w.heap.size w w' := by
  have pA := prod_bound (a / 4294967296) (b / 4294967296) (by omega) (by omega) (by omega) (by omega)
  have pB := prod_bound (a / 4294967296) (b % 4294967296) (by omega) (by omega) (by omega) (by omega)
  have pC := prod_bound (a % 4294967296) (b / 4294967296) (by omega) (by omega) (by omega) (by omega)
  have pD := prod_bound (a % 4294967296) (b % 4294967296) (by omega) (by omega) (by omega) (by omega)
  have e1 := and_low32 _ pD.1 (by omega)
  have e2 := and_low32 (a / 4294967296 * (b % 4294967296) + a % 4294967296 * (b % 4294967296) / 4294967296) (by omega) (by omega)
  go_enter Try.func19, Try.ntmps19
  go_wp2_with (go_at_call 23; refine (halves_any a b ha ha' hb hb' _).mono ?_; rintro e w' ⟨rfl, hbl⟩)
  clear e1 e2
  have ep := prod_parts a b ha ha' hb hb'
  rw [or_join32 _ _ (by omega) (by omega)]
  go_ret2
  rw [ep.1, ep.2]
  exact ⟨rfl, hbl.alloc hbl.size _⟩

theorem compare_any (a b : Int) (w : World) :
    Calls Try.prog 20 #[.int .u64 a, .int .u64 b] w fun e w' => e = .returned (.int .i64 (cmp3 a b)) ∧ w = w' := by
  by_cases h : a < b
  · have h1 : decide (a < b) = true := by simpa using h
    have hr := Lib.hid (cmp3_lt h)
    go_enter Try.func20, Try.ntmps20
    go_wp2
    go_ret
    exact ⟨ret_int hr.out.symm, rfl⟩
  · by_cases h2 : b < a
    · have hr := Lib.hid (cmp3_gt h2)
      go_enter Try.func20, Try.ntmps20
      go_wp2
      go_ret
      exact ⟨ret_int hr.out.symm, rfl⟩
    · have h3 : a = b := by omega
      subst h3
      have hr := Lib.hid (cmp3_eq (rfl : a = a))
      go_enter Try.func20, Try.ntmps20
      go_wp2
      go_ret
      exact ⟨ret_int hr.out.symm, rfl⟩

set_option maxHeartbeats 1000000 in
theorem cross_any (a b c d : Int) (ha : 0 ≤ a) (ha' : a < 18446744073709551616) (hb : 0 ≤ b) (hb' : b < 18446744073709551616)
    (hc : 0 ≤ c) (hc' : c < 18446744073709551616) (hd : 0 ≤ d) (hd' : d < 18446744073709551616) (w : World) :
    Calls Try.prog 6 #[.int .u64 a, .int .u64 b, .int .u64 c, .int .u64 d] w fun e w' => e = .returned (.int .i64 (cmp3 (a * b) (c * d))) ∧ Below w.heap.size w w' := by
  by_cases h : a * b / 18446744073709551616 = c * d / 18446744073709551616
  · have hr := Lib.hid (cmp3_lo h)
    have H := Lib.hid h
    clear h
    have h1 : (a * b / 18446744073709551616 != c * d / 18446744073709551616) = false := by rw [H.out]; simp
    go_enter Try.func6, Try.ntmps6
    go_wp2_with (first | (go_at_call 19; refine (product_any _ _ (by assumption) (by assumption) (by assumption) (by assumption) _).mono ?_; rintro e w' ⟨rfl, hbl⟩) | (go_at_call 20; refine (compare_any _ _ _).mono ?_; rintro e w' ⟨rfl, rfl⟩))
    go_ret
    exact ⟨ret_int hr.out, by first | (refine Below.trans (by assumption) (Below.mono (by assumption) ?_); exact Below.size (by assumption)) | trace_state⟩
  · have hr := Lib.hid (cmp3_hi h)
    have H := Lib.hid h
    clear h
    have h1 : (a * b / 18446744073709551616 != c * d / 18446744073709551616) = true := by simpa using H.out
    go_enter Try.func6, Try.ntmps6
    go_wp2_with (first | (go_at_call 19; refine (product_any _ _ (by assumption) (by assumption) (by assumption) (by assumption) _).mono ?_; rintro e w' ⟨rfl, hbl⟩) | (go_at_call 20; refine (compare_any _ _ _).mono ?_; rintro e w' ⟨rfl, rfl⟩))
    go_ret
    exact ⟨ret_int hr.out, by refine Below.trans (by assumption) (Below.mono (by assumption) ?_); exact Below.size (by assumption)⟩

theorem mask_any (k : Int) (w : World) :
    Calls Try.prog 8 #[.int .i64 k] w fun e w' => e = .returned (.int .u64 (maskOf k)) ∧ w = w' := by
  by_cases h : 0 ≤ k ∧ k ≤ 64
  · obtain ⟨h0, h1⟩ := h
    have h2 : decide (k < 0) = false := by simpa using h0
    have hr := Lib.hid (mask_in h0 h1)
    go_enter Try.func8, Try.ntmps8
    go_wp2
    go_ret
    exact ⟨ret_int hr.out, rfl⟩
  · have hr : Hid (maskOf k = 0) := by unfold maskOf; rw [if_neg h]; rfl
    by_cases h0 : k < 0
    · go_enter Try.func8, Try.ntmps8
      go_wp2
      go_ret
      exact ⟨ret_int hr.out.symm, rfl⟩
    · have h1 : 64 < k := by omega
      go_enter Try.func8, Try.ntmps8
      go_wp2
      go_ret
      exact ⟨ret_int hr.out.symm, rfl⟩

theorem round_any (n m : Int) (h0 : -9223372036854775808 ≤ n) (h1 : n ≤ 9223372036854775807) (h2 : m ≤ 9223372036854775807) (w : World) :
    Calls Try.prog 14 #[.int .i64 n, .int .i64 m] w fun e w' => e = .returned (.int .i64 (roundOf n m)) ∧ w = w' := by
  by_cases h : m < 1
  · have hr : Hid (roundOf n m = 0) := by unfold roundOf; rw [if_pos h]; rfl
    go_enter Try.func14, Try.ntmps14
    go_wp2
    go_ret
    exact ⟨ret_int hr.out.symm, rfl⟩
  · have hr : Hid (roundOf n m = n % m) := by unfold roundOf; rw [if_neg h]; rfl
    obtain ⟨k1, k2, k3, k4⟩ := tmod_facts n m (by omega)
    by_cases h3 : n.tmod m < 0
    · go_enter Try.func14, Try.ntmps14
      go_wp2
      go_ret
      exact ⟨ret_int hr.out.symm, rfl⟩
    · have H4 := Lib.hid (k4 h3)
      go_enter Try.func14, Try.ntmps14
      go_wp2
      go_ret
      exact ⟨ret_int (H4.out.trans hr.out.symm), rfl⟩

theorem ahead_any (f t : Int) (w : World) :
    Calls Try.prog 16 #[.int .u32 f, .int .u32 t] w fun e w' => e = .returned (.int .i64 (aheadOf f t)) ∧ w = w' := by
  go_enter Try.func16, Try.ntmps16
  go_wp2
  go_ret
  exact ⟨rfl, rfl⟩

theorem scale_any (x n : Int) (hx : 0 ≤ x) (hx' : x < 18446744073709551616) (w : World) :
    Calls Try.prog 12 #[.int .u64 x, .int .i64 n] w fun e w' => e = .returned (.int .i64 (scaleOf x n)) ∧ Below w.heap.size w w' := by
  by_cases h : 1 ≤ n ∧ n ≤ 2147483648
  · obtain ⟨h0, h1⟩ := h
    have h2 : decide (n < 1) = false := by simpa using h0
    have hr : Hid (scaleOf x n = x * n / 18446744073709551616) := by unfold scaleOf; rw [if_pos ⟨h0, h1⟩]; rfl
    obtain ⟨hb0, hb1⟩ := scale_bd x n hx hx' h0 h1
    go_enter Try.func12, Try.ntmps12
    go_wp2_with (go_at_call 19; refine (product_any _ _ (by omega) (by omega) (by omega) (by omega) _).mono ?_; rintro e w' ⟨rfl, hbl⟩)
    go_ret
    exact ⟨ret_int hr.out.symm, by assumption⟩
  · have hr : Hid (scaleOf x n = 0) := by unfold scaleOf; rw [if_neg h]; rfl
    by_cases h0 : n < 1
    · go_enter Try.func12, Try.ntmps12
      go_wp2_with fail
      go_ret
      exact ⟨ret_int hr.out.symm, Below.refl _ _⟩
    · have h1 : 2147483648 < n := by omega
      go_enter Try.func12, Try.ntmps12
      go_wp2_with fail
      go_ret
      exact ⟨ret_int hr.out.symm, Below.refl _ _⟩

set_option maxRecDepth 1000000 in
set_option maxHeartbeats 1000000 in
theorem len64_any (n : Int) (h0 : 0 ≤ n) (hn : n < 18446744073709551616) (w : World) :
    Calls Try.prog 22 #[.int .u64 n] w fun e w' => e = .returned (.int .i64 (bitLen n.toNat : Nat)) ∧ w = w' := by
  go_enter Try.func22, Try.ntmps22
  go_wp2
  all_goals
    go_ret
    refine ⟨ret_int ?_, rfl⟩
    rw [len8tab_get]
    first | rw [len_wrap _ _ (by omega) (by omega) (by omega)] | rw [len_wrap0 _ (by omega)]
    try rw [len32 n (by omega)]
    first | rw [len16 (n / 4294967296) (by omega)] | rw [len16 n (by omega)] | skip
    first | rw [len8 (n / 4294967296 / 65536) (by omega)] | rw [len8 (n / 4294967296) (by omega)] | rw [len8 (n / 65536) (by omega)] | rw [len8 n (by omega)] | skip
    try omega
theorem width_any (n : Int) (h0 : 0 ≤ n) (hn : n < 18446744073709551616) (w : World) :
    Calls Try.prog 10 #[.int .u64 n] w fun e w' => e = .returned (.int .i64 (bitLen n.toNat : Nat)) ∧ w = w' := by
  go_enter Try.func10, Try.ntmps10
  go_wp2_with (go_at_call 22; refine (len64_any _ h0 hn _).mono ?_; rintro e w' ⟨rfl, rfl⟩)
  go_ret
  exact ⟨rfl, rfl⟩
end Go.Proofs.Ytbhjiepcbokneaa
