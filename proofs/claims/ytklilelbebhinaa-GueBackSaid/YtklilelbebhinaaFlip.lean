/- The bytes of a string, one bit turned, and a string again. -/
import Derived.Test.YtklilelbebhinaaProg
import Derived.Test.YtklilelbebhinaaKit
import Derived.Test.YtklilelbebhinaaSumMath
import Derived.Laws.IdiomStrings
namespace Go.Proofs.Ytklilelbebhinaa
open Go.RowKit
set_option linter.unusedVariables false

theorem bytes_cell {w : World} {g e cap : Nat} {t : ByteArray} {fr : Nat × Nat} (h : w.heap[g]? = some (.cells (bytesRow t cap) e fr)) (j : Nat) (hj : j < t.size) : w.cell? ⟨g, j, none⟩ = some (.int .u8 (bt t j : Nat)) := by
  rw [cell_of_row w g j _ e fr h, bytesRow_at t cap j hj]
  unfold bt
  rw [List.getD_eq_getElem?_getD, List.getElem?_eq_getElem (by rw [← size_list]; omega)]; rfl
theorem bytesRow_size (t : ByteArray) (cap : Nat) : t.size ≤ (bytesRow t cap).size := by
  unfold bytesRow; rw [Array.size_append, Array.size_map]; exact Nat.le_add_right _ _
theorem bytes_free {w : World} {g e cap k : Nat} {t : ByteArray} (h : w.heap[g]? = some (.cells (bytesRow t cap) e ((bytesRow t cap).size, k))) (j : Nat) (hj : j < t.size) : w.frozen? ⟨g, j, none⟩ = false := by
  have := bytesRow_size t cap
  simp [World.frozen?, h]
  omega
def flipS (T : ByteArray) (K : Nat) : ByteArray := ⟨(T.data.toList.set (K / 8) (UInt8.ofNat (bt T (K / 8) ^^^ 2 ^ (K % 8)))).toArray⟩
theorem flipS_size (T : ByteArray) (K : Nat) : (flipS T K).size = T.size := by
  show (T.data.toList.set _ _).toArray.size = _
  simp
theorem flip_byte (T : ByteArray) (K : Nat) : (UInt8.ofNat (bt T (K / 8) ^^^ 2 ^ (K % 8))).toNat = bt T (K / 8) ^^^ 2 ^ (K % 8) := by
  have h := (flip_bit (K % 8) (by omega) (bt T (K / 8)) (bt_lt _ _)).2
  rw [UInt8.toNat_ofNat']; exact Nat.mod_eq_of_lt h
theorem xor_turn (a M : Nat) (ha : a < 256) (hM : M < 8) : bits .xor .u8 (a : Int) (2 ^ M % 256) = ((a ^^^ 2 ^ M : Nat) : Int) := by
  have h2 : (2 : Nat) ^ M < 256 := Nat.lt_of_le_of_lt (Nat.pow_le_pow_right (n := 2) (i := M) (j := 7) (by omega) (by omega)) (by decide)
  have key : ∀ m : Nat, m < 8 → ((2 : Int) ^ m % 256) = ((2 ^ m : Nat) : Int) := by decide
  have e := key M hM
  rw [e, u8_xor_nat a (2 ^ M) ha h2]
theorem turned_conv (X : World) (g cap K : Nat) (T : ByteArray) (fr : Nat × Nat) (h : X.heap[g]? = some (.cells (bytesRow T cap) 5 fr)) (hJ : K / 8 < T.size) :
    (convert 32 9 (.slice (some ⟨g, 0, none⟩) T.size cap)).run Try.prog (X.setCell ⟨g, K / 8, none⟩ (.int .u8 ((bt T (K / 8) ^^^ 2 ^ (K % 8) : Nat) : Int))).drew = .ok (.string (flipS T K)) (X.setCell ⟨g, K / 8, none⟩ (.int .u8 ((bt T (K / 8) ^^^ 2 ^ (K % 8) : Nat) : Int))).drew := by
  have h2 : (X.setCell ⟨g, K / 8, none⟩ (.int .u8 ((bt T (K / 8) ^^^ 2 ^ (K % 8) : Nat) : Int))).drew.heap[g]? = some (.cells ((bytesRow T cap).setIfInBounds (K / 8) (.int .u8 ((bt T (K / 8) ^^^ 2 ^ (K % 8) : Nat) : Int))) 5 fr) := by
    show (X.setCell _ _).heap[g]? = _
    simp [World.setCell, Array.getElem?_modify, h]
  have hl : (T.data.toList.set (K / 8) (UInt8.ofNat (bt T (K / 8) ^^^ 2 ^ (K % 8)))).length = T.size := by rw [List.length_set]; rfl
  have h3 := run_convert_bytes_back (P := Try.prog) (X.setCell ⟨g, K / 8, none⟩ (.int .u8 ((bt T (K / 8) ^^^ 2 ^ (K % 8) : Nat) : Int))).drew 32 9 5 ⟨g, 0, none⟩ cap (T.data.toList.set (K / 8) (UInt8.ofNat (bt T (K / 8) ^^^ 2 ^ (K % 8)))) (by kernel_rfl) (by kernel_rfl) (by kernel_rfl) (fun j hj => by
    have hj2 : j < T.size := by rw [hl] at hj; exact hj
    have hsz := bytesRow_size T cap
    rw [addr_add, cell_of_row _ g j _ _ _ h2]
    by_cases hjk : K / 8 = j
    · subst hjk
      rw [Array.getElem?_setIfInBounds_self_of_lt (by omega), List.getElem_set_self, flip_byte]
    · rw [Array.getElem?_setIfInBounds_ne hjk, bytesRow_at T cap j hj2, List.getElem_set_ne hjk]
      rfl)
  rw [hl] at h3
  exact h3
end Go.Proofs.Ytklilelbebhinaa
