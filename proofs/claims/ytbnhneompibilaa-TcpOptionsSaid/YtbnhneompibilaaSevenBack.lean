/- Heads and bytes of the layer tcp: there and back, and a bit that is turned. No program. -/
import Derived.Test.YtbnhneompibilaaSevenMath
namespace Go.Proofs.Ytbnhneompibilaa
open Go.RowKit
set_option linter.unusedVariables false

theorem op_ext {s : ByteArray} {a b : List UInt8} {o : ByteArray} (h : s.data.toList = a ++ (o.data.toList ++ b)) {i j : Nat} (hi : a.length = i) (hj : j = i + o.size) : s.extract i j = o := by
  apply ext_eq
  rw [ext_str', h, ← List.append_assoc, show j - i = o.data.toList.length by rw [← size_list]; omega]
  exact mid _ _ _ hi rfl
theorem tail_ext {s : ByteArray} {a : List UInt8} {o : ByteArray} (h : s.data.toList = a ++ o.data.toList) {i : Nat} (hi : a.length = i) : s.extract i s.size = o := by
  have hz : s.size = i + o.size := by rw [size_list, h, List.length_append, hi, ← size_list]
  refine op_ext (s := s) (a := a) (b := []) (by rw [h, List.append_nil]) hi hz
/-- A head and its payload come back. -/
theorem back7_ok {h : T7} {P : List UInt8} {p : ByteArray} (he : err7 h P p = 0) (hb : B7 h) (hP : P.length % 2 = 0) :
    (out7 h P p).size = 20 + h.op.size + p.size ∧ bt (out7 h P p) 12 = 4 * (20 + h.op.size) ∧ sumL (P ++ (out7 h P p).data.toList) = 65535 ∧ (optsL h.op 0 ≠ none → errG7 (out7 h P p) P = 0 ∧ headG7 (out7 h P p) P = h ∧ payG7 (out7 h P p) P = p) := by
  obtain ⟨x, y, q, a, f, w, u, c, ex, ey, eq, ea, ef, ew, eu, hx, hy, hq, ha, hf, hw, hu, hc, _, hS, _, hL⟩ := out7_is he hb hP
  obtain ⟨hv, hPn, hl⟩ := err7_ok he
  obtain ⟨v1, v2, v3, v4, v5, v6, v7⟩ := valid7_is hv
  have h1 : (256 : Nat) ^ 1 = 256 := by decide
  have hL2 : (out7 h P p).data.toList = bigB 2 x ++ bigB 2 y ++ bigB 4 q ++ bigB 4 a ++ bigB 1 (4 * (20 + h.op.size)) ++ bigB 1 f ++ bigB 2 w ++ bigB 2 c ++ bigB 2 u ++ (h.op.data.toList ++ p.data.toList) := hL
  obtain ⟨z, s1, s2, s3, s4, s5, s6, s7, s8, s9⟩ := read9 hL2 hx hy hq ha (by omega) hf hw hc hu
  rw [List.length_append, ← size_list, ← size_list] at z
  have hA : (bigB 2 x ++ bigB 2 y ++ bigB 4 q ++ bigB 4 a ++ bigB 1 (4 * (20 + h.op.size)) ++ bigB 1 f ++ bigB 2 w ++ bigB 2 c ++ bigB 2 u).length = 20 := by simp only [List.length_append, bigB_length]
  refine ⟨by omega, s5, hS, fun ho => ?_⟩
  generalize out7 h P p = T at *
  have hsz : szG T = 20 + h.op.size := by unfold szG; rw [s5]; omega
  have e1 : T.extract 20 (szG T) = h.op := op_ext hL hA hsz
  have e2 : T.extract (szG T) T.size = p := by
    refine tail_ext (a := (bigB 2 x ++ bigB 2 y ++ bigB 4 q ++ bigB 4 a ++ bigB 1 (4 * (20 + h.op.size)) ++ bigB 1 f ++ bigB 2 w ++ bigB 2 c ++ bigB 2 u) ++ h.op.data.toList) ?_ ?_
    · rw [hL, List.append_assoc (_ ++ bigB 2 u)]
    · rw [List.length_append, hA, hsz, ← size_list]
  have hG : errG7 T P = 0 := errG7_is (by omega) (by omega) (by rw [s5]; omega) (by omega) hPn hS (by rw [e1]; exact ho)
  refine ⟨hG, ?_, ?_⟩
  · unfold headG7
    rw [if_pos hG]
    unfold raw7
    rw [s1, s2, s3, s4, s6, s7, s9, e1, ← ex, ← ey, ← eq, ← ea, ← ef, ← ew, ← eu]
  · unfold payG7
    rw [if_pos hG, e2]
/-- A bit that is turned from byte 14 on is told. -/
theorem flip7_told {h : T7} {P : List UInt8} {p : ByteArray} (he : err7 h P p = 0) (hb : B7 h) (hP : P.length % 2 = 0) (j m : Nat) (b : UInt8) (hj : 14 ≤ j) (hj2 : j < 20 + h.op.size + p.size) (hm : m < 8) (hbb : b.toNat = bt (out7 h P p) j ^^^ 2 ^ m) (s : ByteArray) (hS : s.data.toList = (out7 h P p).data.toList.set j b) : errG7 s P = 4 := by
  obtain ⟨z, s5, hsum, _⟩ := back7_ok he hb hP
  obtain ⟨hv, hPn, hl⟩ := err7_ok he
  obtain ⟨v1, v2, v3, v4, v5, v6, v7⟩ := valid7_is hv
  generalize out7 h P p = T at *
  have hsz : s.size = T.size := by rw [size_list, hS, List.length_set, ← size_list]
  have h12 : bt s 12 = bt T 12 := by
    unfold bt
    rw [hS, List.getD_eq_getElem?_getD, List.getD_eq_getElem?_getD, List.getElem?_set_ne (by omega)]
  have hz2 : szG s = 20 + h.op.size := by unfold szG; rw [h12, s5]; omega
  have hne : sumL (P ++ s.data.toList) ≠ 65535 := by
    have e1 : P ++ s.data.toList = (P ++ T.data.toList).set (P.length + j) b := by
      rw [hS, List.set_append_right _ _ (by omega)]; congr 2; omega
    rw [e1]
    have hlen : P.length + j < (P ++ T.data.toList).length := by rw [List.length_append, ← size_list]; omega
    refine sum_turned _ (P.length + j) m b hlen hm ?_ hsum
    rw [hbb]
    unfold bt
    rw [List.getD_eq_getElem?_getD, List.getElem?_eq_getElem (by rw [← size_list]; omega), List.getElem_append_right (by omega)]
    simp only [show P.length + j - P.length = j by omega]
    rfl
  unfold errG7
  rw [if_neg (by omega), if_neg (by rw [h12, s5]; omega), if_neg (by omega), if_neg hPn, if_pos hne]
theorem raw7_bd (s : ByteArray) : B7 (raw7 s) := by
  have h0 : (256 : Nat) ^ 4 = 4294967296 := by decide
  have h1 := seg_lt s 4 4
  have h2 := seg_lt s 8 4
  rw [h0] at h1 h2
  exact ⟨Int.natCast_nonneg _, by show ((seg s 4 4 : Nat) : Int) < _; omega, Int.natCast_nonneg _, by show ((seg s 8 4 : Nat) : Int) < _; omega⟩
theorem raw7_ok {s : ByteArray} {P : List UInt8} (h : errG7 s P = 0) : valid7 (raw7 s) = true ∧ (raw7 s).op.size = szG s - 20 := by
  obtain ⟨h1, h2, h3, h4, h5, h6, h7⟩ := errG7_ok h
  have b12 := bt_lt s 12
  have b13 := bt_lt s 13
  have e2 : (raw7 s).op.size = szG s - 20 := by
    show (s.extract 20 (szG s)).size = _
    rw [ByteArray.size_extract]; omega
  have hz : szG s ≤ 60 ∧ szG s % 4 = 0 := by unfold szG; omega
  refine ⟨?_, e2⟩
  have w0 := wt_le s 0
  have w2 := wt_le s 2
  have w14 := wt_le s 14
  have w18 := wt_le s 18
  unfold valid7
  rw [e2]
  have i1 : inB (raw7 s).sp 65535 = true := decide_eq_true (by show (0 : Int) ≤ (wt s 0 : Nat) ∧ ((wt s 0 : Nat) : Int) ≤ 65535; omega)
  have i2 : inB (raw7 s).dp 65535 = true := decide_eq_true (by show (0 : Int) ≤ (wt s 2 : Nat) ∧ ((wt s 2 : Nat) : Int) ≤ 65535; omega)
  have i3 : inB (raw7 s).fl 255 = true := decide_eq_true (by show (0 : Int) ≤ (bt s 13 : Nat) ∧ ((bt s 13 : Nat) : Int) ≤ 255; omega)
  have i4 : inB (raw7 s).wn 65535 = true := decide_eq_true (by show (0 : Int) ≤ (wt s 14 : Nat) ∧ ((wt s 14 : Nat) : Int) ≤ 65535; omega)
  have i5 : inB (raw7 s).ur 65535 = true := decide_eq_true (by show (0 : Int) ≤ (wt s 18 : Nat) ∧ ((wt s 18 : Nat) : Int) ≤ 65535; omega)
  rw [i1, i2, i3, i4, i5, decide_eq_true (show szG s - 20 ≤ 40 by omega), decide_eq_true (show (szG s - 20) % 4 = 0 by omega)]
  rfl
theorem take_step (l : List UInt8) (i k n : Nat) (hn : n = i + k) : l.take i ++ (l.drop i).take k = l.take n := by
  subst hn; rw [List.take_add]
/-- What is read is written as it was, but for a check of 65535. -/
theorem fwd7_same {s : ByteArray} {P : List UInt8} (h : errG7 s P = 0) (hP : P.length % 2 = 0) (hs : s.size ≤ 65535) :
    err7 (headG7 s P) P (payG7 s P) = 0 ∧ B7 (headG7 s P) ∧ 20 + (headG7 s P).op.size + (payG7 s P).size = s.size ∧ (out7 (headG7 s P) P (payG7 s P)).size = s.size ∧
    (out7 (headG7 s P) P (payG7 s P)).extract 0 16 = s.extract 0 16 ∧ (out7 (headG7 s P) P (payG7 s P)).extract 18 s.size = s.extract 18 s.size ∧ ((out7 (headG7 s P) P (payG7 s P)).extract 16 18 = s.extract 16 18 ∨ s.extract 16 18 = ⟨#[255, 255]⟩) := by
  obtain ⟨h1, h2, h3, h4, h5, h6, h7⟩ := errG7_ok h
  obtain ⟨hv, ho⟩ := raw7_ok h
  have eh : headG7 s P = raw7 s := if_pos h
  have ep : payG7 s P = s.extract (szG s) s.size := if_pos h
  have hps : (payG7 s P).size = s.size - szG s := by rw [ep, ByteArray.size_extract]; omega
  have b12 := bt_lt s 12
  rw [eh]
  have he : err7 (raw7 s) P (payG7 s P) = 0 := err7_is hv h5 (by omega)
  have hb := raw7_bd s
  have hsz := (back7_ok he hb hP).1
  refine ⟨he, hb, by omega, by omega, ?_⟩
  obtain ⟨x, y, q, a, f, w, u, c, ex, ey, eq, ea, ef, ew, eu, hx, hy, hq, ha, hf, hw, hu, hc, hck, hS, hPB, hL⟩ := out7_is he hb hP
  obtain rfl : wt s 0 = x := Int.ofNat.inj ex
  obtain rfl : wt s 2 = y := Int.ofNat.inj ey
  obtain rfl : seg s 4 4 = q := Int.ofNat.inj eq
  obtain rfl : seg s 8 4 = a := Int.ofNat.inj ea
  obtain rfl : bt s 13 = f := Int.ofNat.inj ef
  obtain rfl : wt s 14 = w := Int.ofNat.inj ew
  obtain rfl : wt s 18 = u := Int.ofNat.inj eu
  have h12 : 4 * (20 + (raw7 s).op.size) = bt s 12 := by unfold szG at ho h2; omega
  have hA : bigB 2 (wt s 0) ++ bigB 2 (wt s 2) ++ bigB 4 (seg s 4 4) ++ bigB 4 (seg s 8 4) ++ bigB 1 (4 * (20 + (raw7 s).op.size)) ++ bigB 1 (bt s 13) ++ bigB 2 (wt s 14) = s.data.toList.take 16 := by
    have e0 := big_seg s 0 2 (by omega)
    have e2 := big_seg s 2 2 (by omega)
    have e12 := big_seg s 12 1 (by omega)
    have e13 := big_seg s 13 1 (by omega)
    have e14 := big_seg s 14 2 (by omega)
    unfold seg at e0 e2 e12 e13 e14
    rw [wt_num s 0 (by omega)] at e0
    rw [wt_num s 2 (by omega)] at e2
    rw [bt_num s 12 (by omega)] at e12
    rw [bt_num s 13 (by omega)] at e13
    rw [wt_num s 14 (by omega)] at e14
    rw [h12, e0, e2, e12, e13, e14, big_seg s 4 4 (by omega), big_seg s 8 4 (by omega)]
    rw [List.drop_zero, take_step _ 2 2 4 rfl, take_step _ 4 4 8 rfl, take_step _ 8 4 12 rfl, take_step _ 12 1 13 rfl, take_step _ 13 1 14 rfl, take_step _ 14 2 16 rfl]
  have hB : bigB 2 (wt s 18) ++ ((raw7 s).op.data.toList ++ (payG7 s P).data.toList) = s.data.toList.drop 18 := by
    have e18 := big_seg s 18 2 (by omega)
    unfold seg at e18
    rw [wt_num s 18 (by omega)] at e18
    rw [e18, ep]
    show (s.data.toList.drop 18).take 2 ++ ((s.extract 20 (szG s)).data.toList ++ (s.extract (szG s) s.size).data.toList) = _
    rw [ext_str', ext_str', List.take_of_length_le (l := s.data.toList.drop (szG s)) (by rw [List.length_drop, ← size_list]; omega)]
    have e20 : (s.data.toList.drop 20).take (szG s - 20) ++ s.data.toList.drop (szG s) = s.data.toList.drop 20 := by
      have := List.take_append_drop (szG s - 20) (s.data.toList.drop 20)
      rw [List.drop_drop, show 20 + (szG s - 20) = szG s by omega] at this
      exact this
    rw [e20]
    have := List.take_append_drop 2 (s.data.toList.drop 18)
    rw [List.drop_drop] at this
    exact this
  have hW : bigB 2 (wt s 16) = (s.data.toList.drop 16).take 2 := by
    have e16 := big_seg s 16 2 (by omega)
    unfold seg at e16
    rw [wt_num s 16 (by omega)] at e16
    exact e16
  have hl : s.data.toList = s.data.toList.take 16 ++ bigB 2 (wt s 16) ++ s.data.toList.drop 18 := by
    rw [hW, take_step _ 16 2 18 rfl, List.take_append_drop]
  have hL2 : (out7 (raw7 s) P (payG7 s P)).data.toList = s.data.toList.take 16 ++ bigB 2 c ++ s.data.toList.drop 18 := by
    rw [hL, ← hA, ← hB]; simp only [List.append_assoc]
  rw [hA, hB] at hPB
  have hA16 : (s.data.toList.take 16).length = 16 := by rw [List.length_take, ← size_list]; omega
  have hB18 : (s.data.toList.drop 18).length = s.size - 18 := by rw [List.length_drop, ← size_list]
  have key := check_back (P ++ s.data.toList.take 16) (s.data.toList.drop 18) (wt s 16) (by rw [List.length_append, hA16]; omega) (by have := wt_le s 16; omega) (by
    have e1 : bigB 1 (4 * (20 + (raw7 s).op.size)) = [UInt8.ofNat (4 * (20 + (raw7 s).op.size) % 256)] := rfl
    refine tw_pos (b := UInt8.ofNat (4 * (20 + (raw7 s).op.size) % 256)) ?_ (by rw [UInt8.toNat_ofNat', h12]; unfold szG at h2; omega)
    rw [← hA, e1]
    simp) (by
    have : (P ++ s.data.toList.take 16) ++ bigB 2 (wt s 16) ++ s.data.toList.drop 18 = P ++ s.data.toList := by
      conv => rhs; rw [hl]
      simp only [List.append_assoc]
    rw [this]; exact h6)
  rw [← hPB] at key
  have hce : 65535 - sumL (P ++ body7 (raw7 s) (payG7 s P)) = c := hck.symm
  rw [hce] at key
  generalize out7 (raw7 s) P (payG7 s P) = T at *
  refine ⟨?_, ?_, ?_⟩
  · apply ext_eq
    rw [ext_str', ext_str', List.drop_zero, List.drop_zero, Nat.sub_zero, hL2, List.append_assoc, List.take_append_of_le_length (by omega), List.take_take]
    rfl
  · apply ext_eq
    rw [ext_str', ext_str', hL2, show 18 = (s.data.toList.take 16 ++ bigB 2 c).length by rw [List.length_append, hA16, bigB_length], List.drop_left]
  · rcases key with k | ⟨k, _⟩
    · left
      apply ext_eq
      rw [ext_str', ext_str', hL2, ← hW, k]
      exact mid _ _ _ hA16 (bigB_length _ _)
    · right
      apply ext_eq
      rw [ext_str', show 18 - 16 = 2 from rfl, ← hW, k]
      rfl
theorem opts_nil : optsL ⟨#[]⟩ 0 = some [] := opts_end (.inl (Nat.le_refl 0))
theorem opts_five : optsL ⟨#[5]⟩ 0 = none := opts_bad (by decide) (by decide) (by decide) (.inl (by decide))
/-- A stamp that is written is read. -/
theorem stamp_back (v e : Int) (v0 : 0 ≤ v) (v1 : v < 4294967296) (e0 : 0 ≤ e) (e1 : e < 4294967296) : stampS ⟨(stampB v e).toArray⟩ = (v, e, 4) := by
  obtain ⟨a, ha⟩ : ∃ a : Nat, v = a := ⟨v.toNat, by omega⟩
  obtain ⟨b, hb⟩ : ∃ b : Nat, e = b := ⟨e.toNat, by omega⟩
  subst ha hb
  have ea := numL_big a 4 (by omega) (by omega) (by omega)
  have eb := numL_big b 4 (by omega) (by omega) (by omega)
  rw [show ((4 : Nat) : Int) = 4 from rfl] at ea eb
  have hB : stampB (a : Int) (b : Int) = 1 :: 1 :: 8 :: 10 :: (bigB 4 a ++ bigB 4 b) := by unfold stampB; rw [ea, eb]; rfl
  rw [hB]
  obtain ⟨s, hs⟩ : ∃ s : ByteArray, s = ⟨(1 :: 1 :: 8 :: 10 :: (bigB 4 a ++ bigB 4 b)).toArray⟩ := ⟨_, rfl⟩
  rw [← hs]
  have hl : s.data.toList = 1 :: 1 :: 8 :: 10 :: (bigB 4 a ++ bigB 4 b) := by rw [hs]
  have hz : s.size = 12 := by rw [size_list, hl]; simp [bigB_length]
  have b0 : bt s 0 = 1 := by unfold bt; rw [hl]; rfl
  have b1' : bt s 1 = 1 := by unfold bt; rw [hl]; rfl
  have b2 : bt s 2 = 8 := by unfold bt; rw [hl]; rfl
  have b3 : bt s 3 = 10 := by unfold bt; rw [hl]; rfl
  have ho : optsL s 0 = some [⟨8, s.extract 4 12, 4⟩] := by
    rw [opts_pad (by omega) b0, opts_pad (by omega) b1', opts_one (i := 0 + 1 + 1) (by omega) (by rw [show 0 + 1 + 1 = 2 from rfl, b2]; decide) (by rw [show 0 + 1 + 1 = 2 from rfl, b2]; decide) (by rw [show 0 + 1 + 1 + 1 = 3 from rfl, b3]; omega)]
    rw [show 0 + 1 + 1 + 1 = 3 from rfl, show 0 + 1 + 1 = 2 from rfl, b2, b3, opts_end (.inl (by omega))]
    rfl
  have hd : (s.extract 4 12).data.toList = bigB 4 a ++ bigB 4 b := by
    rw [ext_str', hl]
    show (bigB 4 a ++ bigB 4 b).take 8 = _
    rw [List.take_of_length_le (by rw [List.length_append, bigB_length, bigB_length]; omega)]
  have h4 : (256 : Nat) ^ 4 = 4294967296 := by decide
  have s1 : seg (s.extract 4 12) 0 4 = a := by
    unfold seg
    rw [hd]
    have := mid_num [] (bigB 4 b) (i := 0) (k := 4) (n := a) rfl (by omega)
    simpa only [List.nil_append] using this
  have s2 : seg (s.extract 4 12) 4 4 = b := by
    unfold seg
    rw [hd]
    have := mid_num (bigB 4 a) [] (i := 4) (k := 4) (n := b) (bigB_length _ _) (by omega)
    simpa only [List.append_nil] using this
  unfold stampS optsV
  rw [ho]
  show stampO ⟨8, s.extract 4 12, 4⟩ = _
  unfold stampO
  rw [if_pos (by show (s.extract 4 12).size = 8; rw [ByteArray.size_extract]; omega)]
  show ((seg (s.extract 4 12) 0 4 : Int), (seg (s.extract 4 12) 4 4 : Int), ((4 : Nat) : Int)) = _
  rw [s1, s2]
  rfl
end Go.Proofs.Ytbnhneompibilaa
