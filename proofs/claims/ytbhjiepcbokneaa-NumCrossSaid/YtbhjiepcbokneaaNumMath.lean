/- Plain arithmetic for the layer num: 128-bit products from halves, masks, bit lengths. No program. -/
import Derived.WalkKit
import Derived.Laws.Bits64b
import Derived.Laws.MathBits
namespace Go.Proofs.Ytbhjiepcbokneaa
open Go.RowKit

theorem or_join32 (x y : Int) (hy : 0 ≤ y) (hy' : y < 4294967296) :
    bits .or .u64 (IntKind.u64.wrap (x * 4294967296)) y = (x * 4294967296 + y) % 18446744073709551616 := by
  rw [IntKind.wrap_u64]
  rw [bits_join .u64 64 (by decide) (fun n h0 h1 => by rw [IntKind.wrap_u64]; omega) 32 _ _ (by omega) (by omega) (by omega) hy (by omega) (by omega)]
  omega

theorem prod_parts (a b : Int) (ha : 0 ≤ a) (ha' : a < 18446744073709551616) (hb : 0 ≤ b) (hb' : b < 18446744073709551616) :
    a / 4294967296 * (b / 4294967296) + (a / 4294967296 * (b % 4294967296) + a % 4294967296 * (b % 4294967296) / 4294967296) / 4294967296 +
      (a % 4294967296 * (b / 4294967296) + (a / 4294967296 * (b % 4294967296) + a % 4294967296 * (b % 4294967296) / 4294967296) % 4294967296) / 4294967296 = a * b / 18446744073709551616 ∧
    ((a % 4294967296 * (b / 4294967296) + (a / 4294967296 * (b % 4294967296) + a % 4294967296 * (b % 4294967296) / 4294967296) % 4294967296) * 4294967296 +
      a % 4294967296 * (b % 4294967296) % 4294967296) % 18446744073709551616 = a * b % 18446744073709551616 := by
  have pA := prod_bound (a / 4294967296) (b / 4294967296) (by omega) (by omega) (by omega) (by omega)
  have pB := prod_bound (a / 4294967296) (b % 4294967296) (by omega) (by omega) (by omega) (by omega)
  have pC := prod_bound (a % 4294967296) (b / 4294967296) (by omega) (by omega) (by omega) (by omega)
  have pD := prod_bound (a % 4294967296) (b % 4294967296) (by omega) (by omega) (by omega) (by omega)
  have e : a * b = (a / 4294967296) * (b / 4294967296) * 18446744073709551616 + ((a / 4294967296) * (b % 4294967296) + (a % 4294967296) * (b / 4294967296)) * 4294967296 + (a % 4294967296) * (b % 4294967296) := by
    have := split_mul (a / 4294967296) (a % 4294967296) (b / 4294967296) (b % 4294967296)
    rw [← this]
    congr 1 <;> omega
  rw [e]
  generalize (a / 4294967296) * (b / 4294967296) = A at *
  generalize (a / 4294967296) * (b % 4294967296) = B at *
  generalize (a % 4294967296) * (b / 4294967296) = C at *
  generalize (a % 4294967296) * (b % 4294967296) = D at *
  omega

/-- -1, 0, 1: less, equal, greater. -/
def cmp3 (x y : Int) : Int := if x < y then -1 else if y < x then 1 else 0
theorem cmp3_lt {x y : Int} (h : x < y) : cmp3 x y = -1 := by unfold cmp3; rw [if_pos h]
theorem cmp3_gt {x y : Int} (h : y < x) : cmp3 x y = 1 := by unfold cmp3; rw [if_neg (by omega), if_pos h]
theorem cmp3_eq {x y : Int} (h : x = y) : cmp3 x y = 0 := by unfold cmp3; rw [if_neg (by omega), if_neg (by omega)]
theorem cmp3_hi {x y : Int} (h : x / 18446744073709551616 ≠ y / 18446744073709551616) : cmp3 (x / 18446744073709551616) (y / 18446744073709551616) = cmp3 x y := by
  unfold cmp3; repeat' split
  all_goals omega
theorem cmp3_lo {x y : Int} (h : x / 18446744073709551616 = y / 18446744073709551616) : cmp3 (x % 18446744073709551616) (y % 18446744073709551616) = cmp3 x y := by
  unfold cmp3; repeat' split
  all_goals omega
theorem cmp3_bd (x y : Int) : -1 ≤ cmp3 x y ∧ cmp3 x y ≤ 1 := by unfold cmp3; repeat' split
                                                                 all_goals omega

/-- The mask of k bits, 0 outside of 0 to 64. -/
def maskOf (k : Int) : Int := if 0 ≤ k ∧ k ≤ 64 then 2 ^ k.toNat - 1 else 0
/-- x * n / 2^64, 0 for n outside of 1 to 2^31. -/
def scaleOf (x n : Int) : Int := if 1 ≤ n ∧ n ≤ 2147483648 then x * n / 18446744073709551616 else 0
/-- The remainder, 0 for m below 1. -/
def roundOf (n m : Int) : Int := if m < 1 then 0 else n % m
/-- The distance modulo 2^32. -/
def aheadOf (f t : Int) : Int := (t - f) % 4294967296

theorem pow_le64 (k : Nat) (h : k ≤ 64) : 1 ≤ (2 : Int) ^ k ∧ (2 : Int) ^ k ≤ 18446744073709551616 := by
  have h1 : 2 ^ k ≤ 2 ^ 64 := Nat.pow_le_pow_right (by omega) h
  have h2 : 1 ≤ 2 ^ k := Nat.one_le_two_pow
  have e : ((2 ^ k : Nat) : Int) = (2 : Int) ^ k := by simp
  omega
theorem mask_in {k : Int} (h0 : 0 ≤ k) (h1 : k ≤ 64) : IntKind.u64.wrap (IntKind.u64.wrap (2 ^ k.toNat) - 1) = maskOf k := by
  unfold maskOf
  rw [if_pos ⟨h0, h1⟩, IntKind.wrap_u64, IntKind.wrap_u64]
  have := pow_le64 k.toNat (by omega)
  by_cases h : (2 : Int) ^ k.toNat = 18446744073709551616
  · rw [h]; rfl
  · rw [Int.emod_eq_of_lt (a := 2 ^ k.toNat) (by omega) (by omega)]; omega
theorem tmod_facts (n m : Int) (h : 1 ≤ m) : -m < n.tmod m ∧ n.tmod m < m ∧ (n.tmod m < 0 → n.tmod m + m = n % m) ∧ (¬ n.tmod m < 0 → n.tmod m = n % m) := by
  have h1 := Int.emod_nonneg n (show m ≠ 0 by omega)
  have h2 := Int.emod_lt_of_pos n (show 0 < m by omega)
  have h3 := Int.lt_tmod_of_pos n (show 0 < m by omega)
  have h4 := Int.tmod_lt_of_pos n (show 0 < m by omega)
  have h6 : n.tmod m % m = n % m := by
    have h5 : n = n.tmod m + m * n.tdiv m := by have := Int.mul_tdiv_add_tmod n m; omega
    conv => rhs; rw [h5]
    rw [Int.add_mul_emod_self_left]
  refine ⟨by omega, h4, fun h => ?_, fun h => ?_⟩
  · rw [← h6, ← Int.add_emod_right, Int.emod_eq_of_lt (by omega) (by omega)]
  · rw [← h6, Int.emod_eq_of_lt (by omega) (by omega)]
theorem scale_bd (x n : Int) (hx : 0 ≤ x) (hx' : x < 18446744073709551616) (h0 : 1 ≤ n) (_h1 : n ≤ 2147483648) : 0 ≤ x * n / 18446744073709551616 ∧ x * n / 18446744073709551616 < n := by
  have h2 : 0 ≤ x * n := Int.mul_nonneg hx (by omega)
  have h3 : x * n < 18446744073709551616 * n := Int.mul_lt_mul_of_pos_right hx' (by omega)
  omega

theorem len_shift (n K : Int) (b : Nat) (hK : K = ((2 ^ b : Nat) : Int)) (h : K ≤ n) : ((bitLen n.toNat : Nat) : Int) = b + (bitLen (n / K).toNat : Nat) := by
  have hp : 0 < 2 ^ b := Nat.two_pow_pos b
  obtain ⟨m, rfl⟩ := Int.eq_ofNat_of_zero_le (show 0 ≤ n by omega)
  subst hK
  have e : ((m : Int) / ((2 ^ b : Nat) : Int)).toNat = m / 2 ^ b := by rw [← Int.natCast_ediv]; rfl
  rw [e, Int.toNat_natCast]
  have h1 : 2 ^ b ≤ m := by omega
  have h2 : m / 2 ^ b ≠ 0 := by have := (Nat.le_div_iff_mul_le hp (x := 1) (y := m)).2 (by omega); omega
  have := bitLen_shift m b h2
  omega
theorem len32 (n : Int) (h : 4294967296 ≤ n) : ((bitLen n.toNat : Nat) : Int) = 32 + (bitLen (n / 4294967296).toNat : Nat) := len_shift n 4294967296 32 (by decide) h
theorem len16 (n : Int) (h : 65536 ≤ n) : ((bitLen n.toNat : Nat) : Int) = 16 + (bitLen (n / 65536).toNat : Nat) := len_shift n 65536 16 (by decide) h
theorem len8 (n : Int) (h : 256 ≤ n) : ((bitLen n.toNat : Nat) : Int) = 8 + (bitLen (n / 256).toNat : Nat) := len_shift n 256 8 (by decide) h
theorem len_half (n : Int) (h : 0 < n) : ((bitLen n.toNat : Nat) : Int) = 1 + (bitLen (n / 2).toNat : Nat) := by
  by_cases h2 : 2 ≤ n
  · exact len_shift n 2 1 (by decide) h2
  · have : n = 1 := by omega
    subst this
    decide
theorem len_le64 (n : Int) (h : n < 18446744073709551616) : bitLen n.toNat ≤ 64 := by
  unfold bitLen
  split
  · omega
  · rename_i h0
    have := (Nat.log2_lt h0).2 (show n.toNat < 2 ^ 64 by omega)
    omega
theorem len_le8 (n : Int) (h : n < 256) : ((bitLen n.toNat : Nat) : Int) ≤ 8 := by have := bitLen_le8 n.toNat (by omega); omega

theorem len_wrap (c : Int) (x : Int) (h : x < 256) (h0 : 0 ≤ c) (h1 : c ≤ 56) : wrap64 (c + wrap64 ((bitLen x.toNat : Nat) : Int)) = c + (bitLen x.toNat : Nat) := by
  have := len_le8 x h
  rw [IntWalk.wrap64_in ((bitLen x.toNat : Nat) : Int) (by omega), IntWalk.wrap64_in _ (by omega)]
theorem len_wrap0 (x : Int) (h : x < 256) : wrap64 (wrap64 ((bitLen x.toNat : Nat) : Int)) = (bitLen x.toNat : Nat) := by
  have := len_le8 x h
  rw [IntWalk.wrap64_in ((bitLen x.toNat : Nat) : Int) (by omega), IntWalk.wrap64_in _ (by omega)]

/-- The 128-bit number 2 P + d, in halves. -/
theorem twice_or (P : Int) (h0 : 0 ≤ P) (h1 : P < 170141183460469231731687303715884105728) :
    bits .or .u64 (P / 18446744073709551616 * 2) (P % 18446744073709551616 / 9223372036854775808) = 2 * P / 18446744073709551616 := by
  rw [bits_join .u64 64 (by decide) (fun n h0 h1 => by rw [IntKind.wrap_u64]; omega) 1 _ _ (by omega) (by omega) (by omega) (by omega) (by omega) (by omega)]
  omega
theorem bit_and (x : Int) (h0 : 0 ≤ x) (h1 : x < 18446744073709551616) : bits .and .u64 x 1 = x % 2 := by
  have := bits_mask .u64 64 (by decide) (fun n h0 h1 => by rw [IntKind.wrap_u64]; omega) 1 (by decide) x h0 (by omega)
  simpa using this
theorem mul_step (a b : Int) (k : Nat) : a / 2 ^ k * b = 2 * (a / 2 ^ (k + 1) * b) + (a / 2 ^ k % 2) * b := by
  have e : a / 2 ^ (k + 1) = a / 2 ^ k / 2 := by rw [Int.pow_succ, Int.ediv_ediv_of_nonneg (Int.pow_nonneg (by decide))]
  rw [e]
  have := Int.mul_ediv_add_emod (a / 2 ^ k) 2
  generalize a / 2 ^ k = q at *
  conv => lhs; rw [← this]
  rw [Int.add_mul, Int.mul_assoc]
theorem mul_bd (a b : Int) (k : Nat) (ha : 0 ≤ a) (ha' : a < 18446744073709551616) (hb : 0 ≤ b) (hb' : b < 18446744073709551616) :
    0 ≤ a / 2 ^ k * b ∧ a / 2 ^ k * b < 340282366920938463463374607431768211456 := by
  have hp : (1 : Int) ≤ 2 ^ k := by have := Nat.one_le_two_pow (n := k); have e : ((2 ^ k : Nat) : Int) = (2 : Int) ^ k := by simp
                                    omega
  have h0 : 0 ≤ a / 2 ^ k := Int.ediv_nonneg ha (by omega)
  have h1 : a / 2 ^ k ≤ a := Int.ediv_le_self _ ha
  have h2 := Int.mul_nonneg h0 hb
  have h3 : a / 2 ^ k * b ≤ 18446744073709551615 * 18446744073709551615 := Int.mul_le_mul (by omega) (by omega) hb (by omega)
  omega
theorem div64 (a : Int) (h : 0 ≤ a) (h' : a < 18446744073709551616) : a / 2 ^ 64 = 0 := Int.ediv_eq_zero_of_lt h (by omega)

theorem mask_step (j : Nat) (h : j < 64) : bits .or .u64 (IntKind.u64.wrap ((2 ^ j - 1) * 2)) 1 = 2 ^ (j + 1) - 1 := by
  have h1 := pow_le64 j (by omega)
  have h2 := pow_le64 (j + 1) (by omega)
  have e : (2 : Int) ^ (j + 1) = 2 ^ j * 2 := Int.pow_succ _ _
  rw [IntKind.wrap_u64, Int.emod_eq_of_lt (by omega) (by omega)]
  rw [bits_join .u64 64 (by decide) (fun n h0 h1 => by rw [IntKind.wrap_u64]; omega) 1 _ _ (by omega) (by omega) (by omega) (by omega) (by omega) (by omega)]
  omega

theorem scale_in (x n : Int) (hx : 0 ≤ x) (hx' : x < 18446744073709551616) (h0 : 1 ≤ n) (h1 : n ≤ 2147483648) : 0 ≤ scaleOf x n ∧ scaleOf x n < n := by
  unfold scaleOf; rw [if_pos ⟨h0, h1⟩]; exact scale_bd x n hx hx' h0 h1
theorem scale_mono (x y n : Int) (h : x ≤ y) : scaleOf x n ≤ scaleOf y n := by
  unfold scaleOf; split
  · have := Int.mul_le_mul_of_nonneg_right h (show 0 ≤ n by omega); omega
  · omega
theorem ahead_bd (f t : Int) : 0 ≤ aheadOf f t ∧ aheadOf f t < 4294967296 := by unfold aheadOf; omega

theorem ahead_add (f t : Int) : (f = t → aheadOf f t + aheadOf t f ≤ 0 ∧ 0 ≤ aheadOf f t + aheadOf t f) ∧
    (f ≠ t → (0 ≤ f ∧ f < 4294967296) → (0 ≤ t ∧ t < 4294967296) → aheadOf f t + aheadOf t f ≤ 4294967296 ∧ 4294967296 ≤ aheadOf f t + aheadOf t f) := by unfold aheadOf; omega
end Go.Proofs.Ytbhjiepcbokneaa
