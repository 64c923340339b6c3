/- A reader at an offset; cells written one behind another. -/
import Derived.Test.YtklilelbebhinaaBytesAt
import Derived.Test.YtklilelbebhinaaReaderWalks
namespace Go.Proofs.Ytklilelbebhinaa
open Go.RowKit
set_option linter.unusedVariables false

theorem Rd.keep {w w' : World} {b c : Nat} {st : Option ByteArray} {S : Nat → Prop} (h : Rd w b c st) (hk : Kept S w w') (hb : ¬ S b) (hc : ¬ S c) : Rd w' b c st := by
  cases st with
  | some s => exact ⟨HasB.kept h.1 hk hb, HasB.kept h.2.1 hk hc, h.2.2⟩
  | none => exact HasB.kept h hk hb
theorem textR_at (s : ByteArray) (p k : Nat) (h : p + k ≤ s.size) : textR (some (s.extract p s.size)) k = (s.extract p (p + k), some (s.extract (p + k) s.size)) := by
  have hz : (s.extract p s.size).size = s.size - p := by rw [ByteArray.size_extract]; omega
  rw [textR_ok (by omega) (by rw [hz]; omega), hz]
  rw [show ((k : Nat) : Int).toNat = k by omega, ext_ext s p 0 k h, ext_ext s p k (s.size - p) (by omega), show p + (s.size - p) = s.size by omega, Nat.add_zero]
theorem numRd_at (s : ByteArray) (p k : Nat) (h : p + k ≤ s.size) (h1 : 1 ≤ k) (h7 : k ≤ 7) : numRd (some (s.extract p s.size)) k = ((numB ((s.data.toList.drop p).take k) : Int), some (s.extract (p + k) s.size)) := by
  unfold numRd
  rw [if_pos (by omega), textR_at s p k h]
  have hz : (s.extract p (p + k)).size = k := by rw [ByteArray.size_extract]; omega
  simp only
  rw [getN_yes (by omega) (by omega) (by omega) (by rw [hz]; omega), ext_str', show p + k - p = k by omega]
  simp only [Int.toNat_zero, List.drop_zero, Int.toNat_natCast, List.take_take, Nat.min_self]
theorem rd_sz (s : ByteArray) (p : Nat) (hs : s.size ≤ maxLen) : ∀ t, some (s.extract p s.size) = some t → t.size ≤ maxLen := by
  intro t ht
  cases ht
  rw [ByteArray.size_extract]; omega
theorem num1_at (b c : Nat) (s : ByteArray) (p : Nat) (w : World) (h : Rd w b c (some (s.extract p s.size))) (hs : s.size ≤ maxLen) (hp : p + 1 ≤ s.size) :
    Calls Try.prog 29 #[.pointer (some ⟨b, 0, none⟩), .int .i64 1] w fun e w' => e = .returned (.int .i64 (bt s p : Nat)) ∧ Rd w' b c (some (s.extract (p + 1) s.size)) ∧ Kept (fun k => k = b ∨ k = c) w w' := by
  have h1 := num_any b c _ 1 w h (rd_sz s p hs)
  have h2 := numRd_at s p 1 hp (by omega) (by omega)
  rw [bt_num s p hp] at h2
  unfold IsNum at h1
  rw [show numRd (some (s.extract p s.size)) 1 = _ from h2] at h1
  exact h1
theorem num2_at (b c : Nat) (s : ByteArray) (p : Nat) (w : World) (h : Rd w b c (some (s.extract p s.size))) (hs : s.size ≤ maxLen) (hp : p + 2 ≤ s.size) :
    Calls Try.prog 29 #[.pointer (some ⟨b, 0, none⟩), .int .i64 2] w fun e w' => e = .returned (.int .i64 (wt s p : Nat)) ∧ Rd w' b c (some (s.extract (p + 2) s.size)) ∧ Kept (fun k => k = b ∨ k = c) w w' := by
  have h1 := num_any b c _ 2 w h (rd_sz s p hs)
  have h2 := numRd_at s p 2 hp (by omega) (by omega)
  rw [wt_num s p hp] at h2
  unfold IsNum at h1
  rw [show numRd (some (s.extract p s.size)) 2 = _ from h2] at h1
  exact h1
theorem text_at (b c : Nat) (s : ByteArray) (p k : Nat) (n : Int) (hn : n = k) (w : World) (h : Rd w b c (some (s.extract p s.size))) (hs : s.size ≤ maxLen) (hp : p + k ≤ s.size) :
    Calls Try.prog 28 #[.pointer (some ⟨b, 0, none⟩), .int .i64 n] w fun e w' => e = .returned (.string (s.extract p (p + k))) ∧ Rd w' b c (some (s.extract (p + k) s.size)) ∧ Kept (fun k => k = b ∨ k = c) w w' := by
  subst hn
  have h1 := textRd_any b c _ k w h (rd_sz s p hs)
  unfold IsText at h1
  rw [textR_at s p k hp] at h1
  exact h1
/-- Values written one behind another. -/
def putAll (w : World) (g : Nat) : Nat → List Value → World
  | _, [] => w
  | i, v :: vs => putAll (w.setCell ⟨g, i, none⟩ v) g (i + 1) vs
theorem putAll_has (t : TypeId) (g : Nat) : ∀ (vs old pre : List Value) (w : World), old.length = vs.length → HasB w g t (pre ++ old).toArray → HasB (putAll w g pre.length vs) g t (pre ++ vs).toArray
  | [], old, pre, w, hl, h => by
    obtain rfl : old = [] := List.eq_nil_of_length_eq_zero hl
    exact h
  | v :: vs, [], pre, w, hl, h => by simp at hl
  | v :: vs, o :: old, pre, w, hl, h => by
    have h1 := HasB.put h pre.length v
    rw [List.setIfInBounds_toArray, List.set_append_right _ _ (Nat.le_refl _), Nat.sub_self, List.set_cons_zero, show pre ++ v :: old = (pre ++ [v]) ++ old by simp] at h1
    have h2 := putAll_has t g vs old (pre ++ [v]) _ (by simpa using hl) h1
    rw [List.length_append, List.length_singleton, show (pre ++ [v]) ++ vs = pre ++ v :: vs by simp] at h2
    exact h2
theorem putAll_hasB {t : TypeId} {g : Nat} {w : World} {cs : Array Value} (h : HasB w g t cs) (vs : List Value) (hl : cs.size = vs.length) : HasB (putAll w g 0 vs) g t vs.toArray :=
  putAll_has t g vs cs.toList [] w (by simpa using hl) (by simpa using h)
theorem putAll_kept {S : Nat → Prop} {a : World} {g : Nat} (hg : a.heap.size ≤ g ∨ S g) : ∀ (vs : List Value) (i : Nat) (w : World), Kept S a w → Kept S a (putAll w g i vs)
  | [], _, _, h => h
  | v :: vs, i, w, h => putAll_kept hg vs (i + 1) _ (h.setCell ⟨g, i, none⟩ hg v)
theorem putAll_size (g : Nat) : ∀ (vs : List Value) (i : Nat) (w : World), (putAll w g i vs).heap.size = w.heap.size
  | [], _, _ => rfl
  | v :: vs, i, w => (putAll_size g vs (i + 1) _).trans (by simp [World.setCell])
theorem putAll_below {B : Nat} {a : World} {g : Nat} (hg : B ≤ g) : ∀ (vs : List Value) (i : Nat) (w : World), Below B a w → Below B a (putAll w g i vs)
  | [], _, _, h => h
  | v :: vs, i, w, h => putAll_below hg vs (i + 1) _ (Below.setCell h hg v)
theorem num_at (b c : Nat) (s : ByteArray) (p k : Nat) (q : Int) (hq : q = k) (w : World) (h : Rd w b c (some (s.extract p s.size))) (hs : s.size ≤ maxLen) (hp : p + k ≤ s.size) (h1 : 1 ≤ k) (h7 : k ≤ 7) :
    Calls Try.prog 29 #[.pointer (some ⟨b, 0, none⟩), .int .i64 q] w fun e w' => e = .returned (.int .i64 (seg s p k : Nat)) ∧ Rd w' b c (some (s.extract (p + k) s.size)) ∧ Kept (fun k => k = b ∨ k = c) w w' := by
  subst hq
  have h1' := num_any b c _ k w h (rd_sz s p hs)
  have h2 := numRd_at s p k hp h1 h7
  unfold IsNum at h1'
  rw [show numRd (some (s.extract p s.size)) k = _ from h2] at h1'
  exact h1'
theorem Kept.ofBelow {S : Nat → Prop} {w w' : World} (h : Below w.heap.size w w') : Kept S w w' := ⟨h.os, h.tape, h.output, h.size, fun i hi _ => h.block i hi⟩
end Go.Proofs.Ytklilelbebhinaa
