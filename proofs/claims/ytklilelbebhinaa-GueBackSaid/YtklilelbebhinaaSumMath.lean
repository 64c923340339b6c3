/- Sums of words: a check's word, a bit that is turned. No program. -/
import Derived.Test.YtklilelbebhinaaBytesAt
namespace Go.Proofs.Ytklilelbebhinaa
open Go.RowKit
set_option linter.unusedVariables false

/-- A bit that is turned. -/
theorem tw_set : ∀ (l : List UInt8) (j : Nat) (b : UInt8) (h : j < l.length), tw (l.set j b) + (if j % 2 = 0 then 256 else 1) * (l[j]).toNat = tw l + (if j % 2 = 0 then 256 else 1) * b.toNat
  | [], _, _, h => by simp at h
  | [a], 0, b, _ => by simp [tw]; omega
  | [a], j + 1, b, h => by simp at h
  | a :: c :: l, 0, b, _ => by simp [tw]; omega
  | a :: c :: l, 1, b, _ => by simp [tw]; omega
  | a :: c :: l, j + 2, b, h => by
    have ih := tw_set l j b (by simpa using h)
    simp only [List.set_cons_succ, tw, List.getElem_cons_succ, show (j + 2) % 2 = j % 2 by omega]
    omega
theorem flip_bit : ∀ m : Nat, m < 8 → ∀ a : Nat, a < 256 → (a ^^^ 2 ^ m = a + 2 ^ m ∨ a = (a ^^^ 2 ^ m) + 2 ^ m) ∧ a ^^^ 2 ^ m < 256 := by decide +kernel
theorem sum_turned (l : List UInt8) (j m : Nat) (b : UInt8) (h : j < l.length) (hm : m < 8) (hb : b.toNat = (l[j]).toNat ^^^ 2 ^ m) (hs : sumL l = 65535) : sumL (l.set j b) ≠ 65535 := by
  intro h2
  have ht := tw_set l j b h
  have hf := (flip_bit m hm (l[j]).toNat (l[j]).toNat_lt).1
  rw [← hb] at hf
  have m1 := res_mod (tw l)
  have m2 := res_mod (tw (l.set j b))
  unfold sumL at hs h2
  rw [hs] at m1
  rw [h2] at m2
  have hp : m = 0 ∨ m = 1 ∨ m = 2 ∨ m = 3 ∨ m = 4 ∨ m = 5 ∨ m = 6 ∨ m = 7 := by omega
  generalize (l[j]).toNat = x at *
  generalize b.toNat = y at *
  generalize tw (l.set j b) = u at *
  generalize tw l = v at *
  clear hb hs h2
  split at ht <;> rcases hp with rfl | rfl | rfl | rfl | rfl | rfl | rfl | rfl <;> omega
theorem tw_two (c : Nat) (h : c < 65536) : tw (bigB 2 c) = c := by
  have e : bigB 2 c = [UInt8.ofNat (c / 256 % 256), UInt8.ofNat (c % 256)] := rfl
  rw [e]
  show (UInt8.ofNat (c / 256 % 256)).toNat * 256 + (UInt8.ofNat (c % 256)).toNat + 0 = c
  rw [UInt8.toNat_ofNat', UInt8.toNat_ofNat']; omega
theorem tw_mid (A B : List UInt8) (c : Nat) (hA : A.length % 2 = 0) (hc : c < 65536) : tw (A ++ bigB 2 c ++ B) = tw (A ++ bigB 2 0 ++ B) + c := by
  have h2 : ∀ c, (bigB 2 c ++ B).length % 2 = B.length % 2 := fun c => by rw [List.length_append, bigB_length]; omega
  rw [List.append_assoc, List.append_assoc, tw_append _ _ hA, tw_append _ _ hA, tw_append (bigB 2 c) B (by rw [bigB_length]), tw_append (bigB 2 0) B (by rw [bigB_length]), tw_two c hc, tw_two 0 (by omega)]
  omega
/-- A check's word makes the sum full. -/
theorem check_sum (A B : List UInt8) (c : Nat) (hA : A.length % 2 = 0) (hx : tw (A ++ bigB 2 0 ++ B) ≠ 0) (hc : c = 65535 - sumL (A ++ bigB 2 0 ++ B)) : sumL (A ++ bigB 2 c ++ B) = 65535 := by
  unfold sumL
  rw [tw_mid A B c hA (by omega)]
  exact sum_full hx hc
/-- .. and no other word does, but 65535 for 0. -/
theorem check_back (A B : List UInt8) (c : Nat) (hA : A.length % 2 = 0) (hc : c < 65536) (hx : tw (A ++ bigB 2 0 ++ B) ≠ 0) (hs : sumL (A ++ bigB 2 c ++ B) = 65535) :
    65535 - sumL (A ++ bigB 2 0 ++ B) = c ∨ (c = 65535 ∧ sumL (A ++ bigB 2 0 ++ B) = 65535) := by
  unfold sumL at *
  rw [tw_mid A B c hA hc] at hs
  have h1 := res_le (tw (A ++ bigB 2 0 ++ B))
  have h2 := res_mod (tw (A ++ bigB 2 0 ++ B))
  have h3 := res_mod (tw (A ++ bigB 2 0 ++ B) + c)
  have h4 : res (tw (A ++ bigB 2 0 ++ B)) ≠ 0 := fun h => hx (res_zero.1 h)
  rw [hs] at h3
  generalize res (tw (A ++ bigB 2 0 ++ B)) = r at *
  generalize tw (A ++ bigB 2 0 ++ B) = x at *
  omega
theorem tw_pos {l : List UInt8} {b : UInt8} (h : b ∈ l) (hb : b.toNat ≠ 0) : tw l ≠ 0 := fun h0 => hb ((tw_zero l).1 h0 b h)
/-- A word set in the middle. -/
theorem setL_mid (A B : List UInt8) (i c : Nat) (hA : A.length = i) (hc : c < 18446744073709551616) : setL ⟨(A ++ bigB 2 0 ++ B).toArray⟩ i 2 c = A ++ bigB 2 c ++ B := by
  have hg : getOk ⟨(A ++ bigB 2 0 ++ B).toArray⟩ i 2 = true := getOk_yes (by omega) (by omega) (by omega) (by
    show (i : Int) + 2 ≤ ((A ++ bigB 2 0 ++ B).length : Nat)
    rw [List.length_append, List.length_append, bigB_length]; omega)
  unfold setL
  rw [if_pos hg]
  have hp : putL (c : Int) 2 = bigB 2 c := by unfold putL; rw [if_pos (by omega)]; simp
  rw [hp, Int.toNat_natCast, show ((i : Int) + 2).toNat = i + 2 by omega]
  show (A ++ bigB 2 0 ++ B).take i ++ bigB 2 c ++ (A ++ bigB 2 0 ++ B).drop (i + 2) = _
  have e1 : (A ++ bigB 2 0 ++ B).take i = A := by rw [List.append_assoc, ← hA, List.take_left]
  have e2 : (A ++ bigB 2 0 ++ B).drop (i + 2) = B := by
    rw [show i + 2 = (A ++ bigB 2 0).length by rw [List.length_append, bigB_length, hA], List.drop_left]
  rw [e1, e2]
theorem setL_len' (s : ByteArray) (p k n : Int) : (setL s p k n).length = s.size := by
  unfold setL
  by_cases hg : getOk s p k = true
  · rw [if_pos hg]
    obtain ⟨h1, h2, h3, h4⟩ : 1 ≤ k ∧ k ≤ 8 ∧ 0 ≤ p ∧ p + k ≤ s.size := of_decide_eq_true hg
    have : (putL n k).length = k.toNat := by unfold putL; rw [if_pos ⟨h1, h2⟩, bigB_length]
    simp only [List.length_append, List.length_take, List.length_drop, this, ← size_list]
    omega
  · rw [if_neg hg]; rfl
end Go.Proofs.Ytklilelbebhinaa
