/- Pieces of bytes: their numbers, and where they stand. No program. -/
import Derived.Test.YtklilelbebhinaaFourMath
namespace Go.Proofs.Ytklilelbebhinaa
open Go.RowKit
set_option linter.unusedVariables false

/-- The number of k bytes from i on. -/
def seg (s : ByteArray) (i k : Nat) : Nat := numB ((s.data.toList.drop i).take k)
theorem seg_lt (s : ByteArray) (i k : Nat) : seg s i k < 256 ^ k := num_sub_lt s i k k (Nat.le_refl _)
theorem bt_num (s : ByteArray) (p : Nat) (h : p + 1 ≤ s.size) : numB ((s.data.toList.drop p).take 1) = bt s p := by
  rw [sub_snoc s p 0 (by omega)]
  show numB ([] ++ [_]) = _
  rw [numB_snoc]
  unfold bt
  rw [List.getD_eq_getElem?_getD, List.getElem?_eq_getElem (by rw [← size_list]; omega)]
  show 0 * 256 + _ = _
  simp
  rfl
theorem wt_num (s : ByteArray) (p : Nat) (h : p + 2 ≤ s.size) : numB ((s.data.toList.drop p).take 2) = wt s p := by
  rw [num_sub_snoc s p 1 (by omega), bt_num s p (by omega), wt_bt]
  unfold bt
  rw [List.getD_eq_getElem?_getD (l := s.data.toList) (i := p + 1), List.getElem?_eq_getElem (by rw [← size_list]; omega)]
  rfl
theorem ext_ext (s : ByteArray) (p a b : Nat) (h : p + b ≤ s.size) : (s.extract p s.size).extract a b = s.extract (p + a) (p + b) := by
  apply ext_eq
  rw [ext_str', ext_str', ext_str', List.drop_take, List.drop_drop, List.take_take, show min (b - a) (s.size - p - a) = b - a by omega, show p + b - (p + a) = b - a by omega]
theorem mid (a b c : List UInt8) {i k : Nat} (ha : a.length = i) (hb : b.length = k) : ((a ++ b ++ c).drop i).take k = b := by
  subst ha hb
  rw [List.append_assoc, List.drop_left, List.take_left]
/-- A number's bytes in the middle, read again. -/
theorem mid_num (a c : List UInt8) {i k n : Nat} (ha : a.length = i) (hn : n < 256 ^ k) : numB (((a ++ bigB k n ++ c).drop i).take k) = n := by
  rw [mid a _ c ha (bigB_length k n), numB_bigB, Nat.mod_eq_of_lt hn]
theorem numL_big (n k : Nat) (h1 : 1 ≤ k) (h8 : k ≤ 8) (hn : n < 18446744073709551616) : numL (n : Int) (k : Int) = bigB k n := by
  unfold numL putL
  rw [wrapU _ (by omega) (by omega), if_pos (by omega)]
  simp
/-- k bytes, read and written. -/
theorem big_seg (s : ByteArray) (i k : Nat) (h : i + k ≤ s.size) : bigB k (seg s i k) = (s.data.toList.drop i).take k := by
  have h1 := bigB_numB ((s.data.toList.drop i).take k)
  have h2 : ((s.data.toList.drop i).take k).length = k := by rw [List.length_take, List.length_drop, ← size_list]; omega
  rw [h2] at h1
  exact h1
end Go.Proofs.Ytklilelbebhinaa
