/- The contracts of package check that hold no iterator: word, fold, isWord, Turn, Set. -/
import Derived.Test.YtklilelbebhinaaOctetWalks
import Derived.Test.YtklilelbebhinaaCheckMath
namespace Go.Proofs.Ytklilelbebhinaa
open Go.RowKit
set_option linter.unusedVariables false

theorem getD_at (s : ByteArray) (p : Nat) (h : p < s.size) : s.data.toList.getD p 0 = s[p] := by
  rw [List.getD_eq_getElem?_getD, List.getElem?_eq_getElem (by simpa using h)]
  simp; rfl
theorem getD_out (s : ByteArray) (p : Nat) (h : s.size ≤ p) : s.data.toList.getD p 0 = 0 := by
  rw [List.getD_eq_getElem?_getD, List.getElem?_eq_none (by simpa using h)]
  rfl
theorem wd_two (s : ByteArray) (p : Nat) (h : p + 1 < s.size) : ((s[p]'(by omega)).toNat : Int) * 256 + ((s[p + 1]).toNat : Int) = (wd s.data.toList p : Nat) := by
  unfold wd; rw [getD_at s p (by omega), getD_at s (p + 1) h]; omega
theorem wd_one (s : ByteArray) (p : Nat) (h : p + 1 = s.size) : ((s[p]'(by omega)).toNat : Int) * 256 = (wd s.data.toList p : Nat) := by
  unfold wd; rw [getD_at s p (by omega), getD_out s (p + 1) (by omega)]; simp
theorem or_join8s (x y : Int) (h0 : 0 ≤ x) (h1 : x < 256) (hy : 0 ≤ y) (hy' : y < 256) :
    bits .or .i64 (x * 256) y = x * 256 + y := by
  rw [bits_join .i64 62 (by decide) (fun n h0 h1 => by rw [IntKind.wrap_i64]; omega) 8 _ _ (by omega) (by omega) (by omega) hy (by omega) (by omega)]

theorem and_low16 (x : Int) (h0 : 0 ≤ x) (h1 : x ≤ 9223372036854775807) : bits .and .i64 x 65535 = x % 65536 := by
  have h127 : (BitVec.ofInt 64 65535).toNat = 2 ^ 16 - 1 := by decide
  have key : (BitVec.ofInt 64 x &&& BitVec.ofInt 64 65535).toNat = (x % ((2 ^ 64 : Nat) : Int)).toNat % 2 ^ 16 := by
    rw [BitVec.toNat_and, BitVec.toNat_ofInt, h127, Nat.and_two_pow_sub_one_eq_mod]
  show IntKind.i64.wrap ((BitVec.ofInt 64 x &&& BitVec.ofInt 64 65535).toNat : Nat) = x % 65536
  rw [key, IntKind.wrap_i64]
  omega

theorem word_any (s : ByteArray) (p : Nat) (hs : s.size ≤ maxLen) (hp : p < s.size) (w : World) :
    Calls Try.prog 38 #[.string s, .int .i64 p] w fun e w' => e = .returned (.int .i64 (wd s.data.toList p : Nat)) ∧ w = w' := by
  unfold maxLen at hs
  have b1 := (s[p]).toNat_lt
  by_cases h : p + 1 < s.size
  · have HW := Lib.hid (wd_two s p h)
    have b2 := (s[p + 1]).toNat_lt
    have HO := Lib.hid (or_join8s (s[p]).toNat (s[p + 1]).toNat (by omega) (by omega) (by omega) (by omega))
    have h2 : (p : Int) + 1 < s.size := by omega
    go_enter Try.func38, Try.ntmps38
    go_wp2
    go_ret
    exact ⟨ret_int (by rw [← HW.out, ← HO.out]), rfl⟩
  · have HW := Lib.hid (wd_one s p (by omega))
    have h2 : ¬ ((p : Int) + 1 < s.size) := by omega
    go_enter Try.func38, Try.ntmps38
    go_wp2
    go_ret
    exact ⟨ret_int HW.out, rfl⟩

theorem fold_any (x : Int) (h0 : 0 ≤ x) (h1 : x ≤ 9223372036854775807) (w : World) :
    Calls Try.prog 34 #[.int .i64 x] w fun e w' => e = .returned (.int .i64 (res x.toNat : Nat)) ∧ w = w' := by
  go_enter Try.func34, Try.ntmps34
  go_wp2
  go_loop [0] (fun v => ∃ y : Nat, v = .int .i64 y ∧ y ≤ 9223372036854775807 ∧ res y = res x.toNat) (fun v => (intOf v).toNat)
  case atStart => exact ⟨x.toNat, by go_num, by omega, rfl⟩
  case round =>
    obtain ⟨y, rfl, hy, hr⟩ := hrel
    have Hr := Lib.hid hr
    clear hr
    by_cases h : 65535 < y
    · have HS := Lib.hid (res_step h)
      have HM := and_low16 y (by omega) (by omega)
      have h2 : (65535 : Int) < y := by omega
      go_wp2
      go_round
      case rel => exact ⟨y / 65536 + y % 65536, by go_num, by omega, by rw [HS.out]; exact Hr.out⟩
      case measure => simp [intOf]; omega
    · have HS := Lib.hid (res_small (x := y) (by omega))
      have h2 : ¬ ((65535 : Int) < y) := by omega
      go_wp2
      go_ret
      exact ⟨ret_int (by rw [← Hr.out, HS.out]), rfl⟩

def isW (x : Int) : Bool := decide (0 ≤ x ∧ x ≤ 65535)
end Go.Proofs.Ytklilelbebhinaa
