/- The contracts of package ipfour: a reader at an offset, address, read. -/
import Derived.Test.YtdcmjmgpcpeacaaFourWalks
import Derived.Test.YtdcmjmgpcpeacaaReaderWalks
namespace Go.Proofs.Ytdcmjmgpcpeacaa
open Go.RowKit
set_option linter.unusedVariables false

theorem Rd.keep {w w' : World} {b c : Nat} {st : Option ByteArray} {S : Nat → Prop} (h : Rd w b c st) (hk : Kept S w w') (hb : ¬ S b) (hc : ¬ S c) : Rd w' b c st := by
  cases st with
  | some s => exact ⟨HasB.kept h.1 hk hb, HasB.kept h.2.1 hk hc, h.2.2⟩
  | none => exact HasB.kept h hk hb
theorem ext_ext (s : ByteArray) (p a b : Nat) (h : p + b ≤ s.size) : (s.extract p s.size).extract a b = s.extract (p + a) (p + b) := by
  apply ext_eq
  rw [ext_str', ext_str', ext_str', List.drop_take, List.drop_drop, List.take_take, show min (b - a) (s.size - p - a) = b - a by omega, show p + b - (p + a) = b - a by omega]
theorem textR_at (s : ByteArray) (p k : Nat) (h : p + k ≤ s.size) : textR (some (s.extract p s.size)) k = (s.extract p (p + k), some (s.extract (p + k) s.size)) := by
  have hz : (s.extract p s.size).size = s.size - p := by rw [ByteArray.size_extract]; omega
  rw [textR_ok (by omega) (by rw [hz]; omega), hz]
  rw [show ((k : Nat) : Int).toNat = k by omega, ext_ext s p 0 k h, ext_ext s p k (s.size - p) (by omega), show p + (s.size - p) = s.size by omega, Nat.add_zero]
theorem bt_num (s : ByteArray) (p : Nat) (h : p + 1 ≤ s.size) : numB ((s.data.toList.drop p).take 1) = bt s p := by
  rw [sub_snoc s p 0 (by omega)]
  show numB ([] ++ [_]) = _
  rw [numB_snoc]
  unfold bt
  rw [List.getD_eq_getElem?_getD, List.getElem?_eq_getElem (by rw [← size_list]; omega)]
  show 0 * 256 + _ = _
  simp
  rfl
theorem wt_num (s : ByteArray) (p : Nat) (h : p + 2 ≤ s.size) : numB ((s.data.toList.drop p).take 2) = wt s p := by
  rw [num_sub_snoc s p 1 (by omega), bt_num s p (by omega), wt_bt]
  unfold bt
  rw [List.getD_eq_getElem?_getD (l := s.data.toList) (i := p + 1), List.getElem?_eq_getElem (by rw [← size_list]; omega)]
  rfl
theorem numRd_at (s : ByteArray) (p k : Nat) (h : p + k ≤ s.size) (h1 : 1 ≤ k) (h7 : k ≤ 7) : numRd (some (s.extract p s.size)) k = ((numB ((s.data.toList.drop p).take k) : Int), some (s.extract (p + k) s.size)) := by
  unfold numRd
  rw [if_pos (by omega), textR_at s p k h]
  have hz : (s.extract p (p + k)).size = k := by rw [ByteArray.size_extract]; omega
  simp only
  rw [getN_yes (by omega) (by omega) (by omega) (by rw [hz]; omega), ext_str', show p + k - p = k by omega]
  simp only [Int.toNat_zero, List.drop_zero, Int.toNat_natCast, List.take_take, Nat.min_self]
theorem rd_sz (s : ByteArray) (p : Nat) (hs : s.size ≤ maxLen) : ∀ t, some (s.extract p s.size) = some t → t.size ≤ maxLen := by
  intro t ht
  cases ht
  rw [ByteArray.size_extract]; omega
theorem num1_at (b c : Nat) (s : ByteArray) (p : Nat) (w : World) (h : Rd w b c (some (s.extract p s.size))) (hs : s.size ≤ maxLen) (hp : p + 1 ≤ s.size) :
    Calls Try.prog 43 #[.pointer (some ⟨b, 0, none⟩), .int .i64 1] w fun e w' => e = .returned (.int .i64 (bt s p : Nat)) ∧ Rd w' b c (some (s.extract (p + 1) s.size)) ∧ Kept (fun k => k = b ∨ k = c) w w' := by
  have h1 := num_any b c _ 1 w h (rd_sz s p hs)
  have h2 := numRd_at s p 1 hp (by omega) (by omega)
  rw [bt_num s p hp] at h2
  unfold IsNum at h1
  rw [show numRd (some (s.extract p s.size)) 1 = _ from h2] at h1
  exact h1
theorem num2_at (b c : Nat) (s : ByteArray) (p : Nat) (w : World) (h : Rd w b c (some (s.extract p s.size))) (hs : s.size ≤ maxLen) (hp : p + 2 ≤ s.size) :
    Calls Try.prog 43 #[.pointer (some ⟨b, 0, none⟩), .int .i64 2] w fun e w' => e = .returned (.int .i64 (wt s p : Nat)) ∧ Rd w' b c (some (s.extract (p + 2) s.size)) ∧ Kept (fun k => k = b ∨ k = c) w w' := by
  have h1 := num_any b c _ 2 w h (rd_sz s p hs)
  have h2 := numRd_at s p 2 hp (by omega) (by omega)
  rw [wt_num s p hp] at h2
  unfold IsNum at h1
  rw [show numRd (some (s.extract p s.size)) 2 = _ from h2] at h1
  exact h1
theorem text_at (b c : Nat) (s : ByteArray) (p k : Nat) (n : Int) (hn : n = k) (w : World) (h : Rd w b c (some (s.extract p s.size))) (hs : s.size ≤ maxLen) (hp : p + k ≤ s.size) :
    Calls Try.prog 44 #[.pointer (some ⟨b, 0, none⟩), .int .i64 n] w fun e w' => e = .returned (.string (s.extract p (p + k))) ∧ Rd w' b c (some (s.extract (p + k) s.size)) ∧ Kept (fun k => k = b ∨ k = c) w w' := by
  subst hn
  have h1 := textRd_any b c _ k w h (rd_sz s p hs)
  unfold IsText at h1
  rw [textR_at s p k hp] at h1
  exact h1
/-- Values written one behind another. -/
def putAll (w : World) (g : Nat) : Nat → List Value → World
  | _, [] => w
  | i, v :: vs => putAll (w.setCell ⟨g, i, none⟩ v) g (i + 1) vs
theorem putAll_has (t : TypeId) (g : Nat) : ∀ (vs old pre : List Value) (w : World), old.length = vs.length → HasB w g t (pre ++ old).toArray → HasB (putAll w g pre.length vs) g t (pre ++ vs).toArray
  | [], old, pre, w, hl, h => by
    obtain rfl : old = [] := List.eq_nil_of_length_eq_zero hl
    exact h
  | v :: vs, [], pre, w, hl, h => by simp at hl
  | v :: vs, o :: old, pre, w, hl, h => by
    have h1 := HasB.put h pre.length v
    rw [List.setIfInBounds_toArray, List.set_append_right _ _ (Nat.le_refl _), Nat.sub_self, List.set_cons_zero, show pre ++ v :: old = (pre ++ [v]) ++ old by simp] at h1
    have h2 := putAll_has t g vs old (pre ++ [v]) _ (by simpa using hl) h1
    rw [List.length_append, List.length_singleton, show (pre ++ [v]) ++ vs = pre ++ v :: vs by simp] at h2
    exact h2
theorem putAll_hasB {t : TypeId} {g : Nat} {w : World} {cs : Array Value} (h : HasB w g t cs) (vs : List Value) (hl : cs.size = vs.length) : HasB (putAll w g 0 vs) g t vs.toArray :=
  putAll_has t g vs cs.toList [] w (by simpa using hl) (by simpa using h)
theorem putAll_kept {S : Nat → Prop} {a : World} {g : Nat} (hg : a.heap.size ≤ g ∨ S g) : ∀ (vs : List Value) (i : Nat) (w : World), Kept S a w → Kept S a (putAll w g i vs)
  | [], _, _, h => h
  | v :: vs, i, w, h => putAll_kept hg vs (i + 1) _ (h.setCell ⟨g, i, none⟩ hg v)
theorem putAll_size (g : Nat) : ∀ (vs : List Value) (i : Nat) (w : World), (putAll w g i vs).heap.size = w.heap.size
  | [], _, _ => rfl
  | v :: vs, i, w => (putAll_size g vs (i + 1) _).trans (by simp [World.setCell])
theorem putAll_below {B : Nat} {a : World} {g : Nat} (hg : B ≤ g) : ∀ (vs : List Value) (i : Nat) (w : World), Below B a w → Below B a (putAll w g i vs)
  | [], _, _, h => h
  | v :: vs, i, w, h => putAll_below hg vs (i + 1) _ (Below.setCell h hg v)
/-- The options: what stands between byte 20 and the head's end. -/
theorem textOp_at (b c : Nat) (s : ByteArray) (w : World) (h : Rd w b c (some (s.extract 20 s.size))) (hs : s.size ≤ maxLen) (hp : 20 ≤ s.size) :
    Calls Try.prog 44 #[.pointer (some ⟨b, 0, none⟩), .int .i64 ((sizeG s : Int) - 20)] w fun e w' => e = .returned (.string (opG s)) ∧ Kept (fun k => k = b ∨ k = c) w w' := by
  have hz : (s.extract 20 s.size).size = s.size - 20 := by rw [ByteArray.size_extract]; omega
  refine (textRd_any b c _ ((sizeG s : Int) - 20) w h (rd_sz s 20 hs)).mono ?_
  rintro e w' ⟨rfl, _, hk⟩
  refine ⟨?_, hk⟩
  unfold opG
  by_cases hh : 20 ≤ sizeG s ∧ sizeG s ≤ s.size
  · rw [if_pos hh, show ((sizeG s : Int) - 20) = ((sizeG s - 20 : Nat) : Int) by omega, textR_at s 20 (sizeG s - 20) (by omega), show 20 + (sizeG s - 20) = sizeG s by omega]
  · rw [if_neg hh, textR_no (by rw [hz]; omega)]
theorem low_addr (s : ByteArray) (p : Nat) (h : p + 4 ≤ s.size) : gV (s.extract p (p + 4)).data.toList = false ∧ gHi (s.extract p (p + 4)).data.toList = 0 ∧ gLo (s.extract p (p + 4)).data.toList = (lowG s p : Nat) := by
  have e : (s.extract p (p + 4)).data.toList = (s.data.toList.drop p).take 4 := by rw [ext_str', show p + 4 - p = 4 by omega]
  have hl : ((s.data.toList.drop p).take 4).length = 4 := by rw [List.length_take, List.length_drop, ← size_list]; omega
  rw [e]
  unfold gV gHi gLo lowG
  rw [if_neg (by omega), if_neg (by omega), if_pos hl]
  exact ⟨decide_eq_false (by omega), rfl, rfl⟩
theorem getA_at (s : ByteArray) (p : Nat) (h : p + 4 ≤ s.size) (w : World) :
    Calls Try.prog 52 #[.string (s.extract p (p + 4))] w fun e w' => e = .returned (.tuple #[.agg #[.bool false, .int .u64 0, .int .u64 (lowG s p : Nat)], .bool (gOk (s.extract p (p + 4)).data.toList)]) ∧ Below w.heap.size w w' := by
  have h1 := get_addr (s.extract p (p + 4)) (by rw [ByteArray.size_extract]; unfold maxLen; omega) w
  obtain ⟨e1, e2, e3⟩ := low_addr s p h
  rw [e1, e2, e3] at h1
  exact h1
theorem Kept.ofBelow {S : Nat → Prop} {w w' : World} (h : Below w.heap.size w w') : Kept S w w' := ⟨h.os, h.tape, h.output, h.size, fun i hi _ => h.block i hi⟩
theorem address_any (b c : Nat) (s : ByteArray) (p : Nat) (a1 a2 a3 a4 a5 a6 : Int) (a7 : Bool) (a8 a9 : Int) (a10 : Bool) (a11 a12 : Int) (a13 : Bool) (a14 a15 : Int) (a16 : ByteArray) (w : World) (h : Rd w b c (some (s.extract p s.size))) (hbc : b < w.heap.size ∧ c < w.heap.size) (hs : s.size ≤ maxLen) (hp : p + 4 ≤ s.size) :
    Calls Try.prog 45 #[.agg #[.pointer (some ⟨b, 0, none⟩), .int .i64 (a1), .int .i64 (a2), .int .i64 (a3), .int .i64 (a4), .int .i64 (a5), .int .i64 (a6), .bool (a7), .int .i64 (a8), .int .i64 (a9), .bool (a10), .int .u64 (a11), .int .u64 (a12), .bool (a13), .int .u64 (a14), .int .u64 (a15), .string (a16)]] w fun e w' => e = .returned (.agg #[.bool false, .int .u64 0, .int .u64 (lowG s p : Nat)]) ∧ Rd w' b c (some (s.extract (p + 4) s.size)) ∧ Kept (fun k => k = b ∨ k = c) w w' := by
  have HK0 : Kept (fun k => k = b ∨ k = c) w ((w.alloc (.cells #[.pointer (some ⟨b, 0, none⟩), .int .i64 (a1), .int .i64 (a2), .int .i64 (a3), .int .i64 (a4), .int .i64 (a5), .int .i64 (a6), .bool (a7), .int .i64 (a8), .int .i64 (a9), .bool (a10), .int .u64 (a11), .int .u64 (a12), .bool (a13), .int .u64 (a14), .int .u64 (a15), .string (a16)] 53)).alloc (.cells #[.bool false, .int .u64 0, .int .u64 0] 24)) := ((Kept.refl _ w).alloc _).alloc _
  have HR := Lib.hid (Rd.keep h (S := fun _ => False) (((Kept.refl _ w).alloc (.cells #[.pointer (some ⟨b, 0, none⟩), .int .i64 (a1), .int .i64 (a2), .int .i64 (a3), .int .i64 (a4), .int .i64 (a5), .int .i64 (a6), .bool (a7), .int .i64 (a8), .int .i64 (a9), .bool (a10), .int .u64 (a11), .int .u64 (a12), .bool (a13), .int .u64 (a14), .int .u64 (a15), .string (a16)] 53)).alloc (.cells #[.bool false, .int .u64 0, .int .u64 0] 24)) (by simp) (by simp))
  have HX := HasB.new (w.alloc (.cells #[.pointer (some ⟨b, 0, none⟩), .int .i64 (a1), .int .i64 (a2), .int .i64 (a3), .int .i64 (a4), .int .i64 (a5), .int .i64 (a6), .bool (a7), .int .i64 (a8), .int .i64 (a9), .bool (a10), .int .u64 (a11), .int .u64 (a12), .bool (a13), .int .u64 (a14), .int .u64 (a15), .string (a16)] 53)) 24 #[.bool false, .int .u64 0, .int .u64 0]
  rw [World.size_alloc] at HX
  have hz := hbc
  clear hbc h
  go_enter Try.func45, Try.ntmps45
  go_wp2_with fail
  (with_reducible refine (text_at b c s p 4 4 rfl _ HR.out hs hp).mono ?_)
  rintro e w1 ⟨rfl, hr, hk⟩
  have HK1 := Lib.hid (HK0.trans hk)
  have HX1 := HasB.kept HX hk (by omega)
  have hz1 := hk.size
  have HR1 := Lib.hid hr
  clear hr hk HX HK0 HR
  go_wp2_with fail
  (with_reducible refine (getA_at s p hp _).mono ?_)
  rintro e w2 ⟨rfl, hb⟩
  have HX2 := HasB.below HX1 hb HX1.lt
  have c0 := HasB.cell HX2 0 _ rfl
  have c1 := HasB.cell HX2 1 _ rfl
  have c2 := HasB.cell HX2 2 _ rfl
  have f0 := HasB.free HX2 0
  have f1 := HasB.free HX2 1
  have f2 := HasB.free HX2 2
  have hlt := HX2.lt
  go_wp2_with fail
  clear c0 c1 c2 f0 f1 f2
  have hX3 := (putAll_hasB HX2 [.bool false, .int .u64 0, .int .u64 (lowG s p : Nat)] rfl).alloc (.cells #[.bool false, .int .u64 0, .int .u64 (lowG s p : Nat)] 24)
  have hK3 := (putAll_kept (S := fun k => k = b ∨ k = c) (a := w) (g := w.heap.size + 1) (.inl (by omega)) [.bool false, .int .u64 0, .int .u64 (lowG s p : Nat)] 0 _ (HK1.out.trans (Kept.ofBelow hb))).alloc (.cells #[.bool false, .int .u64 0, .int .u64 (lowG s p : Nat)] 24)
  have hR3 := Rd.keep (Rd.keep HR1.out (S := fun _ => False) (Kept.ofBelow hb) (by simp) (by simp)) (S := fun k => k = w.heap.size + 1) ((putAll_kept (S := fun k => k = w.heap.size + 1) (a := w2) (g := w.heap.size + 1) (.inr rfl) [.bool false, .int .u64 0, .int .u64 (lowG s p : Nat)] 0 _ (Kept.refl _ _)).alloc (.cells #[.bool false, .int .u64 0, .int .u64 (lowG s p : Nat)] 24)) (by omega) (by omega)
  simp only [putAll, Nat.zero_add, Nat.reduceAdd] at hX3 hK3 hR3
  clear HX2 HX1 HK1 HR1 hb hlt hz1
  revert hX3 hK3 hR3
  generalize World.alloc (World.setCell (World.setCell (World.setCell _ _ _) _ _) _ _) _ = W
  intro hX3 hK3 hR3
  have c0 := HasB.cell hX3 0 (.bool false) rfl
  have c1 := HasB.cell hX3 1 (.int .u64 0) rfl
  have c2 := HasB.cell hX3 2 (.int .u64 (lowG s p : Nat)) rfl
  try simp only [Exit.inBlock, Exit.then]
  refine bodyPost_ret (v := .agg #[.bool false, .int .u64 0, .int .u64 (lowG s p : Nat)]) (by simp [results, Try.results45, go_sem, c0, c1, c2]; try rfl) rfl ?_
  exact ⟨rfl, hR3, hK3⟩
end Go.Proofs.Ytdcmjmgpcpeacaa
