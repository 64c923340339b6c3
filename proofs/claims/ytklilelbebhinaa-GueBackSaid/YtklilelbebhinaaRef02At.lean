/- The document's Must at an offset; a byte of a string. -/
import Derived.Test.YtklilelbebhinaaRef02Walks
import Derived.Test.YtklilelbebhinaaBytesAt
namespace Go.Proofs.Ytklilelbebhinaa
open Go.RowKit
set_option linter.unusedVariables false

theorem byte_at (s : ByteArray) (i : Nat) (h : i < s.size) : (s[i]'h).toNat = bt s i := by
  unfold bt
  rw [List.getD_eq_getElem?_getD, List.getElem?_eq_getElem (by rw [← size_list]; omega)]; rfl
theorem wrap_in (x : Int) (h : -9223372036854775808 ≤ x ∧ x < 9223372036854775808) : wrap64 x = x := by unfold wrap64; omega
theorem R02.must_seg (s : ByteArray) (p k : Nat) (i j : Int) (hi : i = p) (hj : j = k) (hs : s.size ≤ maxLen) (h : p + k ≤ s.size) (h1 : 1 ≤ k) (h7 : k ≤ 7) (w : World) :
    Calls Try.prog 22 #[.string s, .int .i64 i, .int .i64 j] w fun e w' => e = .returned (.int .i64 (seg s p k : Nat)) ∧ w = w' := by
  subst hi hj
  have h2 := R02.must_any s p k hs (by unfold maxLen at hs; omega) (by omega) w
  have h3 := seg_lt s p k
  have h4 : (256 : Nat) ^ k ≤ 256 ^ 7 := Nat.pow_le_pow_right (by decide) h7
  rw [getN_yes (by omega) (by omega) (by omega) (by omega), Int.toNat_natCast, Int.toNat_natCast] at h2
  unfold seg at h3 ⊢
  have h5 : wrap64 (numB ((s.data.toList.drop p).take k) : Nat) = (numB ((s.data.toList.drop p).take k) : Nat) := wrap_in _ (by omega)
  rw [h5] at h2
  exact h2
end Go.Proofs.Ytklilelbebhinaa
