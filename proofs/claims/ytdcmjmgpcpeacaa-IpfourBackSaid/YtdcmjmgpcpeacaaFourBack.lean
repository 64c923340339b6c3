/- Heads and bytes of the layer ipfour: there and back, and a bit that is turned. No program. -/
import Derived.Test.YtdcmjmgpcpeacaaFourMath
namespace Go.Proofs.Ytdcmjmgpcpeacaa
open Go.RowKit
set_option linter.unusedVariables false

theorem errP_ok {h : Hd} {p : ByteArray} (he : errP h p = 0) : validH h = true ∧ 20 + h.op.size + p.size ≤ 65535 := by
  unfold errP at he
  split at he
  · split at he
    · omega
    · rename_i hv hl; exact ⟨hv, by omega⟩
  · omega
theorem errP_is {h : Hd} {p : ByteArray} (hv : validH h = true) (hl : 20 + h.op.size + p.size ≤ 65535) : errP h p = 0 := by
  unfold errP; rw [if_pos hv, if_neg (by omega)]
/-- What Put answers, byte by byte. -/
theorem outP_is {h : Hd} {p : ByteArray} (he : errP h p = 0) (hs : 0 ≤ h.sl) (hd : 0 ≤ h.dl) :
    ∃ n0 n1 m0 m1 t r q a b c d e f g i k l, (n0 : UInt8).toNat * 256 + (n1 : UInt8).toNat = 20 + h.op.size + p.size ∧ ((m0 : UInt8).toNat * 256 + (m1 : UInt8).toNat : Int) = h.id ∧ ((t : UInt8).toNat : Int) = h.cl ∧ ((r : UInt8).toNat : Int) = h.tt ∧ ((q : UInt8).toNat : Int) = h.pr ∧
    numB [a, b, c, d] = h.sl.toNat ∧ numB [e, f, g, i] = h.dl.toNat ∧
    sumL (UInt8.ofNat (64 + (20 + h.op.size) / 4) :: t :: n0 :: n1 :: m0 :: m1 :: (if h.wh then 64 else 0) :: 0 :: r :: q :: k :: l :: a :: b :: c :: d :: e :: f :: g :: i :: h.op.data.toList) = 65535 ∧
    (outP h p).data.toList = (UInt8.ofNat (64 + (20 + h.op.size) / 4) :: t :: n0 :: n1 :: m0 :: m1 :: (if h.wh then 64 else 0) :: 0 :: r :: q :: k :: l :: a :: b :: c :: d :: e :: f :: g :: i :: h.op.data.toList) ++ p.data.toList := by
  obtain ⟨hv, hl⟩ := errP_ok he
  obtain ⟨v1, v2, v3, v4, v5, v6, v7, v8⟩ := valid_is hv
  have b1 := inB_is v1
  have b2 := inB_is v2
  have b3 := inB_is v3
  have b4 := inB_is v4
  obtain ⟨a, b, c, d, e, f, g, i, k, l, x1, x2, x3, x4⟩ := hsumL_is h (20 + (h.op.size : Int) + (p.size : Int)) hv hs hd (by omega) (by omega)
  rw [show (20 + (h.op.size : Int) + (p.size : Int)).toNat = 20 + h.op.size + p.size by omega] at x4
  refine ⟨UInt8.ofNat ((20 + h.op.size + p.size) / 256), UInt8.ofNat ((20 + h.op.size + p.size) % 256), UInt8.ofNat (h.id.toNat / 256), UInt8.ofNat (h.id.toNat % 256), UInt8.ofNat h.cl.toNat, UInt8.ofNat h.tt.toNat, UInt8.ofNat h.pr.toNat, a, b, c, d, e, f, g, i, k, l, ?_, ?_, ?_, ?_, ?_, x1, x2, ?_, ?_⟩
  · rw [UInt8.toNat_ofNat', UInt8.toNat_ofNat']; omega
  · rw [UInt8.toNat_ofNat', UInt8.toNat_ofNat']; omega
  · rw [UInt8.toNat_ofNat']; omega
  · rw [UInt8.toNat_ofNat']; omega
  · rw [UInt8.toNat_ofNat']; omega
  · rw [← x4]; exact x3
  · have ho : outP h p = ⟨(hsumL h (20 + (h.op.size : Int) + (p.size : Int))).toArray⟩ ++ p := if_pos he
    rw [ho, app_str, x4]
/-- A head and its payload come back, whatever stands behind. -/
theorem back_ok {h : Hd} {p : ByteArray} (he : errP h p = 0) (hs : 0 ≤ h.sl) (hd : 0 ≤ h.dl) (more : ByteArray) :
    (outP h p).size = 20 + h.op.size + p.size ∧ bt (outP h p) 0 = 64 + (20 + h.op.size) / 4 ∧ errG (outP h p ++ more) = 0 ∧ headG (outP h p ++ more) = h ∧ payG (outP h p ++ more) = p := by
  obtain ⟨n0, n1, m0, m1, t, r, q, a, b, c, d, e, f, g, i, k, l, z1, z2, z3, z4, z5, z6, z7, z8, z9⟩ := outP_is he hs hd
  obtain ⟨hv, hl⟩ := errP_ok he
  obtain ⟨v1, v2, v3, v4, v5, v6, v7, v8⟩ := valid_is hv
  obtain ⟨f1, f2, f3⟩ := four_is v5
  obtain ⟨g1, g2, g3⟩ := four_is v6
  have z9' : (outP h p).data.toList = UInt8.ofNat (64 + (20 + h.op.size) / 4) :: t :: n0 :: n1 :: m0 :: m1 :: (if h.wh then 64 else 0) :: 0 :: r :: q :: k :: l :: a :: b :: c :: d :: e :: f :: g :: i :: (h.op.data.toList ++ p.data.toList) := z9
  obtain ⟨a1, a2, _⟩ := read20 z9'
  have hb0 : (UInt8.ofNat (64 + (20 + h.op.size) / 4)).toNat = 64 + (20 + h.op.size) / 4 := by rw [UInt8.toNat_ofNat']; omega
  have hz9 : (outP h p ++ more).data.toList = (UInt8.ofNat (64 + (20 + h.op.size) / 4) :: t :: n0 :: n1 :: m0 :: m1 :: (if h.wh then 64 else 0) :: 0 :: r :: q :: k :: l :: a :: b :: c :: d :: e :: f :: g :: i :: h.op.data.toList) ++ (p.data.toList ++ more.data.toList) := by
    rw [app_str, z9, List.append_assoc]
  have hz9' : (outP h p ++ more).data.toList = UInt8.ofNat (64 + (20 + h.op.size) / 4) :: t :: n0 :: n1 :: m0 :: m1 :: (if h.wh then 64 else 0) :: 0 :: r :: q :: k :: l :: a :: b :: c :: d :: e :: f :: g :: i :: (h.op.data.toList ++ (p.data.toList ++ more.data.toList)) := hz9
  obtain ⟨c1, c2, c3, c4, c5, c6, c7, c8, c9, c10⟩ := read20 hz9'
  rw [List.length_append, List.length_append, ← size_list, ← size_list, ← size_list] at c1
  rw [List.length_append, ← size_list, ← size_list] at a1
  generalize hS : outP h p ++ more = S at *
  have hsz : sizeG S = 20 + h.op.size := by unfold sizeG; rw [c2, hb0]; omega
  have h6 : wt S 6 = if h.wh then 16384 else 0 := by rw [c6]; cases h.wh <;> rfl
  have hsum : sumL (S.data.toList.take (sizeG S)) = 65535 := by
    rw [hz9, List.take_append_of_le_length (by rw [hsz]; simp; omega), List.take_of_length_le (by rw [hsz]; simp; omega)]
    exact z8
  have hG : errG S = 0 := errG_is (by omega) (by rw [c2, hb0]; omega) (by omega) (by rw [c4, z1]; omega) (by rw [c4, z1]; omega) hsum (by rw [h6]; cases h.wh <;> simp)
  have hop : opG S = h.op := by
    unfold opG
    rw [if_pos ⟨by omega, by omega⟩]
    apply ext_eq
    rw [ext_str', hz9', hsz, show 20 + h.op.size - 20 = h.op.data.toList.length by rw [← size_list]; omega]
    show (h.op.data.toList ++ _).take _ = _
    rw [List.take_append_of_le_length (Nat.le_refl _), List.take_length]
  refine ⟨by omega, by rw [a2, hb0], hG, ?_, ?_⟩
  · unfold headG
    rw [if_pos hG]
    unfold rawG
    rw [hop, c3, c5, h6, c7, c8, c9, c10, z6, z7, z3, z4, z5]
    clear hop hsum c1 c2 c3 c4 c5 c6 c7 c8 c9 c10 z8 z9 z9' hz9 hz9' a1 a2 hb0 he hv hS hsz h6 hG v5 v6
    obtain ⟨cl, id, wh, tt, pr, sv, sh, sl, dv, dh, dl, op⟩ := h
    simp only at z2 z3 z4 z5 z6 z7 f1 f2 f3 g1 g2 g3 hs hd ⊢
    subst f1 f2 g1 g2 z2 z3 z4 z5
    rw [show ((sl.toNat : Nat) : Int) = sl by omega, show ((dl.toNat : Nat) : Int) = dl by omega, show decide ((if wh = true then 16384 else 0) / 16384 % 2 = 1) = wh by cases wh <;> rfl]
    congr 1
  · unfold payG
    rw [if_pos hG, hsz, c4, z1]
    apply ext_eq
    rw [ext_str', hz9, List.drop_append, List.drop_of_length_le (by simp; omega), List.nil_append]
    rw [show (20 + h.op.size - _) = 0 by simp; omega, List.drop_zero, show 20 + h.op.size + p.size - (20 + h.op.size) = p.data.toList.length by rw [← size_list]; omega, List.take_append_of_le_length (Nat.le_refl _), List.take_length]

theorem numB4 {a b c d e f g i : UInt8} (h : numB [a, b, c, d] = numB [e, f, g, i]) : a = e ∧ b = f ∧ c = g ∧ d = i := by
  have h1 := bigB_numB [a, b, c, d]
  have h2 := bigB_numB [e, f, g, i]
  rw [h] at h1
  have h3 : [a, b, c, d] = [e, f, g, i] := h1.symm.trans h2
  simpa using h3
theorem two_bytes {a b c d : UInt8} (h : a.toNat * 256 + b.toNat = c.toNat * 256 + d.toNat) : a = c ∧ b = d := by
  have := b.toNat_lt
  have := d.toNat_lt
  exact ⟨UInt8.toNat_inj.1 (by omega), UInt8.toNat_inj.1 (by omega)⟩
theorem two_cast {a b : UInt8} {n m : Nat} {x : Int} (h : (a.toNat * 256 + b.toNat : Int) = x) (hx : x = (n : Nat)) (hn : n = m) : a.toNat * 256 + b.toNat = m := by
  omega
/-- What is read is written as it was, but for its check. -/
theorem fwd_same {s : ByteArray} (h : errG s = 0) :
    errP (headG s) (payG s) = 0 ∧ 20 ≤ (outP (headG s) (payG s)).size ∧ (outP (headG s) (payG s)).size ≤ s.size ∧
    (outP (headG s) (payG s)).extract 0 10 = s.extract 0 10 ∧ (outP (headG s) (payG s)).extract 12 (outP (headG s) (payG s)).size = s.extract 12 (outP (headG s) (payG s)).size := by
  obtain ⟨h1, h2, h3, h4, h5, h6, h7⟩ := errG_ok h
  obtain ⟨hv, ho⟩ := validH_raw h
  have eh : headG s = rawG s := if_pos h
  have ep : payG s = s.extract (sizeG s) (wt s 2) := if_pos h
  rw [eh]
  have hps : (payG s).size = wt s 2 - sizeG s := by rw [ep, ByteArray.size_extract]; omega
  have hw := wt_le s 2
  have he : errP (rawG s) (payG s) = 0 := errP_is hv (by omega)
  obtain ⟨n0, n1, m0, m1, t, r, q, a, b, c, d, e, f, g, i, k, l, z1, z2, z3, z4, z5, z6, z7, z8, z9⟩ := outP_is he (by show (0 : Int) ≤ (lowG s 12 : Nat); omega) (by show (0 : Int) ≤ (lowG s 16 : Nat); omega)
  obtain ⟨x0, x1, x2, x3, x4, x5, x6, x7, x8, x9, x10, x11, x12, x13, x14, x15, x16, x17, x18, x19, R, hl⟩ := twenty s.data.toList (by rw [← size_list]; exact h1)
  obtain ⟨c1, c2, c3, c4, c5, c6, c7, c8, c9, c10⟩ := read20 hl
  have e0 : UInt8.ofNat (64 + (20 + (rawG s).op.size) / 4) = x0 := by
    apply UInt8.toNat_inj.1
    have hb := bt_lt s 0
    have hz : sizeG s = bt s 0 % 16 * 4 := rfl
    rw [UInt8.toNat_ofNat', ho, ← c2]
    omega
  have q1 : (rawG s).cl = (bt s 1 : Nat) := rfl
  have q2 : (rawG s).id = (wt s 4 : Nat) := rfl
  have q3 : (rawG s).tt = (bt s 8 : Nat) := rfl
  have q4 : (rawG s).pr = (bt s 9 : Nat) := rfl
  have e1 : t = x1 := UInt8.toNat_inj.1 (by omega)
  have e2 := two_bytes (a := n0) (b := n1) (c := x2) (d := x3) (by omega)
  have e4 := two_bytes (a := m0) (b := m1) (c := x4) (d := x5) (two_cast z2 q2 c5)
  have e8 : r = x8 := UInt8.toNat_inj.1 (by omega)
  have e9 : q = x9 := UInt8.toNat_inj.1 (by omega)
  have e12 := numB4 (z6.trans (show ((lowG s 12 : Nat) : Int).toNat = _ by rw [Int.toNat_natCast, c9]))
  have e16 := numB4 (z7.trans (show ((lowG s 16 : Nat) : Int).toNat = _ by rw [Int.toNat_natCast, c10]))
  have e6 : (if (rawG s).wh then (64 : UInt8) else 0) = x6 ∧ (0 : UInt8) = x7 := by
    have hb := x7.toNat_lt
    show (if decide (wt s 6 / 16384 % 2 = 1) then (64 : UInt8) else 0) = x6 ∧ (0 : UInt8) = x7
    rcases h7 with h7 | h7
    · rw [h7]
      exact ⟨UInt8.toNat_inj.1 (by show 0 = x6.toNat; omega), UInt8.toNat_inj.1 (by show 0 = x7.toNat; omega)⟩
    · rw [h7]
      exact ⟨UInt8.toNat_inj.1 (by show 64 = x6.toNat; omega), UInt8.toNat_inj.1 (by show 0 = x7.toNat; omega)⟩
  have eop : (rawG s).op.data.toList = R.take (sizeG s - 20) := by
    show (opG s).data.toList = _
    unfold opG
    rw [if_pos ⟨h3, by omega⟩, ext_str', hl]; rfl
  have epy : (payG s).data.toList = (R.drop (sizeG s - 20)).take (wt s 2 - sizeG s) := by
    rw [ep, ext_str', hl, show sizeG s = (sizeG s - 20) + 20 by omega]
    rfl
  have hcat : R.take (sizeG s - 20) ++ (R.drop (sizeG s - 20)).take (wt s 2 - sizeG s) = R.take (wt s 2 - 20) := by
    rw [show wt s 2 - 20 = (sizeG s - 20) + (wt s 2 - sizeG s) by omega, List.take_add]
  have key : (outP (rawG s) (payG s)).data.toList = x0 :: x1 :: x2 :: x3 :: x4 :: x5 :: x6 :: x7 :: x8 :: x9 :: k :: l :: x12 :: x13 :: x14 :: x15 :: x16 :: x17 :: x18 :: x19 :: R.take (wt s 2 - 20) := by
    rw [z9, e0, e1, e2.1, e2.2, e4.1, e4.2, e6.1, e6.2, e8, e9, e12.1, e12.2.1, e12.2.2.1, e12.2.2.2, e16.1, e16.2.1, e16.2.2.1, e16.2.2.2, eop, epy, ← hcat]; rfl
  have hsz : (outP (rawG s) (payG s)).size = wt s 2 := by
    rw [size_list, key]; simp; rw [c1] at h5; omega
  refine ⟨he, by omega, by omega, ?_, ?_⟩
  · apply ext_eq; rw [ext_str', ext_str', key, hl]; rfl
  · apply ext_eq
    rw [ext_str', ext_str', key, hl, hsz, show wt s 2 - 12 = (wt s 2 - 20) + 8 by omega]
    simp only [List.drop_succ_cons, List.drop_zero, List.take_succ_cons, List.take_take, Nat.min_self]

/-- A bit that is turned. -/
theorem tw_set : ∀ (l : List UInt8) (j : Nat) (b : UInt8) (h : j < l.length), tw (l.set j b) + (if j % 2 = 0 then 256 else 1) * (l[j]).toNat = tw l + (if j % 2 = 0 then 256 else 1) * b.toNat
  | [], _, _, h => by simp at h
  | [a], 0, b, _ => by simp [tw]; omega
  | [a], j + 1, b, h => by simp at h
  | a :: c :: l, 0, b, _ => by simp [tw]; omega
  | a :: c :: l, 1, b, _ => by simp [tw]; omega
  | a :: c :: l, j + 2, b, h => by
    have ih := tw_set l j b (by simpa using h)
    simp only [List.set_cons_succ, tw, List.getElem_cons_succ, show (j + 2) % 2 = j % 2 by omega]
    omega
theorem flip_bit : ∀ m : Nat, m < 8 → ∀ a : Nat, a < 256 → (a ^^^ 2 ^ m = a + 2 ^ m ∨ a = (a ^^^ 2 ^ m) + 2 ^ m) ∧ a ^^^ 2 ^ m < 256 := by decide +kernel
theorem sum_turned (l : List UInt8) (j m : Nat) (b : UInt8) (h : j < l.length) (hm : m < 8) (hb : b.toNat = (l[j]).toNat ^^^ 2 ^ m) (hs : sumL l = 65535) : sumL (l.set j b) ≠ 65535 := by
  intro h2
  have ht := tw_set l j b h
  have hf := (flip_bit m hm (l[j]).toNat (l[j]).toNat_lt).1
  rw [← hb] at hf
  have m1 := res_mod (tw l)
  have m2 := res_mod (tw (l.set j b))
  unfold sumL at hs h2
  rw [hs] at m1
  rw [h2] at m2
  have hp : m = 0 ∨ m = 1 ∨ m = 2 ∨ m = 3 ∨ m = 4 ∨ m = 5 ∨ m = 6 ∨ m = 7 := by omega
  generalize (l[j]).toNat = x at *
  generalize b.toNat = y at *
  generalize tw (l.set j b) = u at *
  generalize tw l = v at *
  clear hb hs h2
  split at ht <;> rcases hp with rfl | rfl | rfl | rfl | rfl | rfl | rfl | rfl <;> omega
/-- .. in a head behind its first byte is told. -/
theorem flip_told {h : Hd} {p : ByteArray} (he : errP h p = 0) (hs : 0 ≤ h.sl) (hd : 0 ≤ h.dl) (j m : Nat) (b : UInt8) (hj : 1 ≤ j) (hj2 : j < 20 + h.op.size) (hm : m < 8) (hb : b.toNat = bt (outP h p) j ^^^ 2 ^ m) (s : ByteArray) (hS : s.data.toList = (outP h p).data.toList.set j b) : errG s ≠ 0 := by
  intro h0
  obtain ⟨n0, n1, m0, m1, t, r, q, a, b', c, d, e, f, g, i, k, l, z1, z2, z3, z4, z5, z6, z7, z8, z9⟩ := outP_is he hs hd
  obtain ⟨o1, o2, _⟩ := back_ok he hs hd ⟨#[]⟩
  have v7 := (valid_is (errP_ok he).1).2.2.2.2.2.2
  obtain ⟨_, _, h3, _, _, h6, _⟩ := errG_ok h0
  generalize hL : UInt8.ofNat (64 + (20 + h.op.size) / 4) :: t :: n0 :: n1 :: m0 :: m1 :: (if h.wh then 64 else 0) :: 0 :: r :: q :: k :: l :: a :: b' :: c :: d :: e :: f :: g :: i :: h.op.data.toList = L at *
  have hLl : L.length = 20 + h.op.size := by rw [← hL]; simp; omega
  have hb0 : bt s 0 = bt (outP h p) 0 := by
    unfold bt
    rw [hS]
    rw [List.getD_eq_getElem?_getD, List.getD_eq_getElem?_getD, List.getElem?_set_ne (by omega)]
  have hsz : sizeG s = 20 + h.op.size := by unfold sizeG; rw [hb0, o2]; omega
  have hbj : bt (outP h p) j = (L[j]'(by omega)).toNat := by
    unfold bt
    rw [z9, List.getD_eq_getElem?_getD, List.getElem?_append_left (by omega), List.getElem?_eq_getElem (by omega)]; rfl
  rw [hS, z9, hsz, List.set_append_left _ _ (by omega), List.take_append_of_le_length (by rw [List.length_set]; omega), List.take_of_length_le (by rw [List.length_set]; omega)] at h6
  exact sum_turned L j m b (by omega) hm (by rw [hb, hbj]) z8 h6
end Go.Proofs.Ytdcmjmgpcpeacaa
