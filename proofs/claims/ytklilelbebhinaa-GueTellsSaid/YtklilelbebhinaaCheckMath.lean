/- Plain lists of bytes for the layer check: words, their sum, a check that is turned. No program. -/
import Derived.Test.YtklilelbebhinaaOctetMath
namespace Go.Proofs.Ytklilelbebhinaa
open Go.RowKit
set_option linter.unusedVariables false

/-- What a total comes to. -/
def res (x : Nat) : Nat := if x = 0 then 0 else (x - 1) % 65535 + 1
theorem res_le (x : Nat) : res x ≤ 65535 := by unfold res; split <;> omega
theorem res_small {x : Nat} (h : x ≤ 65535) : res x = x := by unfold res; split <;> omega
theorem res_step {x : Nat} (h : 65535 < x) : res (x / 65536 + x % 65536) = res x := by
  unfold res; rw [if_neg (by omega), if_neg (by omega)]; omega
theorem res_zero {x : Nat} : res x = 0 ↔ x = 0 := by unfold res; split <;> omega
theorem res_mod (x : Nat) : res x % 65535 = x % 65535 := by unfold res; split <;> omega
theorem res_is {x y : Nat} (h1 : y ≤ 65535) (h2 : y = 0 ↔ x = 0) (h3 : y % 65535 = x % 65535) : res x = y := by
  unfold res; split <;> omega
theorem res_full {x : Nat} (h : x ≠ 0) (h3 : x % 65535 = 0) : res x = 65535 := by unfold res; rw [if_neg h]; omega

/-- The word at p of the bytes l. -/
def wd (l : List UInt8) (p : Nat) : Nat := (l.getD p 0).toNat * 256 + (l.getD (p + 1) 0).toNat
theorem wd_lt (l : List UInt8) (p : Nat) : wd l p ≤ 65535 := by
  unfold wd; have := (l.getD p 0).toNat_lt; have := (l.getD (p + 1) 0).toNat_lt; omega
/-- The sum of the first k words. -/
def tot (l : List UInt8) : Nat → Nat
  | 0 => 0
  | k + 1 => tot l k + wd l (2 * k)
theorem tot_le (l : List UInt8) : ∀ k, tot l k ≤ 65535 * k
  | 0 => Nat.le_refl _
  | k + 1 => by have := tot_le l k; have := wd_lt l (2 * k); simp only [tot]; omega
/-- The sum of all words, as a recursion over the bytes. -/
def tw : List UInt8 → Nat
  | [] => 0
  | [a] => a.toNat * 256
  | a :: b :: l => a.toNat * 256 + b.toNat + tw l
theorem tot_cons2 (a b : UInt8) (l : List UInt8) : ∀ k, tot (a :: b :: l) (k + 1) = a.toNat * 256 + b.toNat + tot l k
  | 0 => by simp [tot, wd]
  | k + 1 => by
    rw [tot, tot_cons2 a b l k, tot]
    have : wd (a :: b :: l) (2 * (k + 1)) = wd l (2 * k) := by unfold wd; simp [show 2 * (k + 1) = 2 * k + 1 + 1 by omega]
    rw [this]; omega
theorem tot_tw : ∀ l : List UInt8, tot l ((l.length + 1) / 2) = tw l
  | [] => rfl
  | [a] => by simp [tot, tw, wd]
  | a :: b :: l => by
    have h := tot_tw l
    rw [show ((a :: b :: l).length + 1) / 2 = (l.length + 1) / 2 + 1 by simp; omega, tot_cons2, h, tw]
theorem tw_append : ∀ (a b : List UInt8), a.length % 2 = 0 → tw (a ++ b) = tw a + tw b
  | [], b, _ => by simp [tw]
  | [_], _, h => by simp at h
  | x :: y :: l, b, h => by
    have := tw_append l b (by simp at h; omega)
    simp only [List.cons_append, tw]; omega
theorem tw_zero : ∀ l : List UInt8, tw l = 0 ↔ ∀ b ∈ l, b.toNat = 0
  | [] => by simp [tw]
  | [a] => by simp [tw]; omega
  | a :: b :: l => by have := tw_zero l; simp only [tw, List.mem_cons, forall_eq_or_imp, ← this]; omega
theorem tw_le (l : List UInt8) : tw l ≤ 65535 * ((l.length + 1) / 2) := by rw [← tot_tw]; exact tot_le l _

/-- The sum of the words of bytes. -/
def sumL (l : List UInt8) : Nat := res (tw l)
theorem sumL_le (l : List UInt8) : sumL l ≤ 65535 := res_le _

/-- A check that is turned. -/
def turnN (c f t : Int) : Int := if (0 ≤ c ∧ c ≤ 65535) ∧ (0 ≤ f ∧ f ≤ 65535) ∧ (0 ≤ t ∧ t ≤ 65535) then 65535 - (res (65535 - c + 65535 - f + t).toNat : Int) else 0
theorem turnN_bd (c f t : Int) : 0 ≤ turnN c f t ∧ turnN c f t ≤ 65535 := by
  unfold turnN; split
  · have := res_le (65535 - c + 65535 - f + t).toNat; omega
  · omega
theorem turnN_mod {c f t : Int} (hc : 0 ≤ c ∧ c ≤ 65535) (hf : 0 ≤ f ∧ f ≤ 65535) (ht : 0 ≤ t ∧ t ≤ 65535) : (turnN c f t + t) % 65535 = (c + f) % 65535 := by
  unfold turnN; rw [if_pos ⟨hc, hf, ht⟩]
  have h := res_mod (65535 - c + 65535 - f + t).toNat
  have h2 := res_le (65535 - c + 65535 - f + t).toNat
  omega
/-- .. by the first k words of a and b. -/
def turnsN (c : Int) (a b : List UInt8) : Nat → Int
  | 0 => c
  | k + 1 => turnN (turnsN c a b k) (wd a (2 * k)) (wd b (2 * k))
theorem turnsN_bd {c : Int} (hc : 0 ≤ c ∧ c ≤ 65535) (a b : List UInt8) : ∀ k, 0 ≤ turnsN c a b k ∧ turnsN c a b k ≤ 65535
  | 0 => hc
  | k + 1 => turnN_bd _ _ _
theorem turnsN_mod {c : Int} (hc : 0 ≤ c ∧ c ≤ 65535) (a b : List UInt8) : ∀ k, (turnsN c a b k + tot b k) % 65535 = (c + tot a k) % 65535
  | 0 => by simp [turnsN, tot]
  | k + 1 => by
    have ih := turnsN_mod hc a b k
    have h1 := wd_lt a (2 * k)
    have h2 := wd_lt b (2 * k)
    have h := turnN_mod (turnsN_bd hc a b k) (f := (wd a (2 * k) : Nat)) (t := (wd b (2 * k) : Nat)) (by omega) (by omega)
    simp only [turnsN, tot]
    omega
/-- Turned. -/
def turnedL (c : Int) (a b : List UInt8) : Int := if a.length = b.length ∧ a.length % 2 = 0 then turnsN c a b (a.length / 2) else c
theorem turnedL_mod {c : Int} (hc : 0 ≤ c ∧ c ≤ 65535) (a b : List UInt8) (h : a.length = b.length) (h2 : a.length % 2 = 0) :
    (turnedL c a b + tw b) % 65535 = (c + tw a) % 65535 ∧ 0 ≤ turnedL c a b ∧ turnedL c a b ≤ 65535 := by
  unfold turnedL
  rw [if_pos ⟨h, h2⟩, ← tot_tw a, ← tot_tw b, ← h, show (a.length + 1) / 2 = a.length / 2 by omega]
  exact ⟨turnsN_mod hc a b _, turnsN_bd hc a b _⟩

/-- Set. -/
def setL (s : ByteArray) (p k n : Int) : List UInt8 := if getOk s p k = true then s.data.toList.take p.toNat ++ putL n k ++ s.data.toList.drop (p + k).toNat else s.data.toList
end Go.Proofs.Ytklilelbebhinaa
