/- Plain numbers and bytes for the layer ipsix: heads, their bytes, what bytes say. No program. -/
import Derived.Test.YtnlinfdfgalmjaaBytesAt
namespace Go.Proofs.Ytnlinfdfgalmjaa
open Go.RowKit
set_option linter.unusedVariables false

/-- A head of version 6. -/
structure H6 where
  cl : Int
  lb : Int
  nx : Int
  hp : Int
  sv : Bool
  sh : Int
  sl : Int
  dv : Bool
  dh : Int
  dl : Int
/-- The bounds of its addresses. -/
structure B6 (h : H6) : Prop where
  a0 : 0 ≤ h.sh
  a1 : h.sh < 18446744073709551616
  b0 : 0 ≤ h.sl
  b1 : h.sl < 18446744073709551616
  c0 : 0 ≤ h.dh
  c1 : h.dh < 18446744073709551616
  d0 : 0 ≤ h.dl
  d1 : h.dl < 18446744073709551616
def valid6 (h : H6) : Bool := inB h.cl 255 && (inB h.lb 1048575 && (inB h.nx 255 && (inB h.hp 255 && (h.sv && h.dv))))
theorem valid6_is {h : H6} (hv : valid6 h = true) : inB h.cl 255 = true ∧ inB h.lb 1048575 = true ∧ inB h.nx 255 = true ∧ inB h.hp 255 = true ∧ h.sv = true ∧ h.dv = true := by
  unfold valid6 at hv
  simp only [Bool.and_eq_true] at hv
  exact hv
theorem valid6_false {h : H6} (hv : valid6 h = false) :
    inB h.cl 255 = false ∨ (inB h.cl 255 = true ∧ inB h.lb 1048575 = false) ∨ (inB h.cl 255 = true ∧ inB h.lb 1048575 = true ∧ inB h.nx 255 = false) ∨ (inB h.cl 255 = true ∧ inB h.lb 1048575 = true ∧ inB h.nx 255 = true ∧ inB h.hp 255 = false) ∨
    (inB h.cl 255 = true ∧ inB h.lb 1048575 = true ∧ inB h.nx 255 = true ∧ inB h.hp 255 = true ∧ h.sv = false) ∨ (inB h.cl 255 = true ∧ inB h.lb 1048575 = true ∧ inB h.nx 255 = true ∧ inB h.hp 255 = true ∧ h.sv = true ∧ h.dv = false) := by
  unfold valid6 at hv
  cases c1 : inB h.cl 255 <;> cases c2 : inB h.lb 1048575 <;> cases c3 : inB h.nx 255 <;> cases c4 : inB h.hp 255 <;> cases c5 : h.sv <;> cases c6 : h.dv <;> simp [c1, c2, c3, c4, c5, c6] at hv ⊢
/-- The bytes of a head. -/
def head6 (h : H6) (n : Int) : List UInt8 := numL (1610612736 + h.cl * 1048576 + h.lb) 4 ++ numL n 2 ++ numL h.nx 1 ++ numL h.hp 1 ++ addrB h.sv h.sh h.sl ++ addrB h.dv h.dh h.dl
def err6 (h : H6) (p : ByteArray) : Int := if valid6 h then (if 65535 < p.size then 5 else 0) else 1
def out6 (h : H6) (p : ByteArray) : ByteArray := if err6 h p = 0 then ⟨(head6 h (p.size : Int)).toArray⟩ ++ p else ⟨#[]⟩
theorem err6_ok {h : H6} {p : ByteArray} (he : err6 h p = 0) : valid6 h = true ∧ p.size ≤ 65535 := by
  unfold err6 at he
  split at he
  · split at he
    · omega
    · rename_i hv hl; exact ⟨hv, by omega⟩
  · omega
theorem err6_is {h : H6} {p : ByteArray} (hv : valid6 h = true) (hl : p.size ≤ 65535) : err6 h p = 0 := by
  unfold err6; rw [if_pos hv, if_neg (by omega)]
theorem err6_cases (h : H6) (p : ByteArray) : (valid6 h = false ∧ err6 h p = 1) ∨ (valid6 h = true ∧ 65535 < p.size ∧ err6 h p = 5) ∨ (valid6 h = true ∧ p.size ≤ 65535 ∧ err6 h p = 0) := by
  unfold err6
  cases hv : valid6 h with
  | false => exact .inl ⟨rfl, rfl⟩
  | true =>
    by_cases hl : 65535 < p.size
    · exact .inr (.inl ⟨rfl, hl, by simp [hl]⟩)
    · exact .inr (.inr ⟨rfl, by omega, by simp [hl]⟩)
theorem addr6_len (hi lo : Int) : (addrB true hi lo).length = 16 := addrB_len true hi lo rfl
theorem head6_len (h : H6) (n : Int) (hv : valid6 h = true) : (head6 h n).length = 40 := by
  obtain ⟨v1, v2, v3, v4, v5, v6⟩ := valid6_is hv
  unfold head6
  rw [v5, v6]
  simp only [List.length_append, numL_len _ 4 (by omega) (by omega), numL_len _ 1 (by omega) (by omega), numL_len _ 2 (by omega) (by omega), addr6_len]
  rfl

/-- What bytes say. -/
def zero6 : H6 := ⟨0, 0, 0, 0, false, 0, 0, false, 0, 0⟩
def raw6 (s : ByteArray) : H6 := ⟨(seg s 0 4 / 1048576 % 256 : Nat), (seg s 0 4 % 1048576 : Nat), bt s 6, bt s 7, true, seg s 8 8, seg s 16 8, true, seg s 24 8, seg s 32 8⟩
def errG6 (s : ByteArray) : Int := if s.size < 40 then 2 else if ¬ seg s 0 4 / 268435456 = 6 then 3 else if s.size < 40 + wt s 4 then 2 else 0
def headG6 (s : ByteArray) : H6 := if errG6 s = 0 then raw6 s else zero6
def payG6 (s : ByteArray) : ByteArray := if errG6 s = 0 then s.extract 40 (40 + wt s 4) else ⟨#[]⟩
theorem errG6_ok {s : ByteArray} (h : errG6 s = 0) : 40 ≤ s.size ∧ seg s 0 4 / 268435456 = 6 ∧ 40 + wt s 4 ≤ s.size := by
  unfold errG6 at h
  split at h
  · omega
  · split at h
    · omega
    · split at h
      · omega
      · rename_i h1 h2 h3
        exact ⟨by omega, Decidable.not_not.1 h2, by omega⟩
theorem errG6_is {s : ByteArray} (h1 : 40 ≤ s.size) (h2 : seg s 0 4 / 268435456 = 6) (h3 : 40 + wt s 4 ≤ s.size) : errG6 s = 0 := by
  unfold errG6
  rw [if_neg (by omega), if_neg (by omega), if_neg (by omega)]
theorem headG6_no {s : ByteArray} {e : Int} (h : errG6 s = e) (he : e ≠ 0) : headG6 s = zero6 ∧ payG6 s = ⟨#[]⟩ := by
  unfold headG6 payG6
  rw [h, if_neg he, if_neg he]
  exact ⟨rfl, rfl⟩
theorem bounds6 (h : H6) (b : B6 h) : ∃ a b c d : Nat, h.sh = a ∧ h.sl = b ∧ h.dh = c ∧ h.dl = d ∧ a < 256 ^ 8 ∧ b < 256 ^ 8 ∧ c < 256 ^ 8 ∧ d < 256 ^ 8 := by
  have h0 : (256 : Nat) ^ 8 = 18446744073709551616 := by decide
  obtain ⟨a0, a1, b0, b1, c0, c1, d0, d1⟩ := b
  refine ⟨h.sh.toNat, h.sl.toNat, h.dh.toNat, h.dl.toNat, by omega, by omega, by omega, by omega, by omega, by omega, by omega, by omega⟩
theorem addr6_is (a b : Nat) : addrB true (a : Int) (b : Int) = bigB 8 a ++ bigB 8 b := by unfold addrB; simp
/-- The bytes of a valid head, number by number. -/
theorem head6_is (h : H6) (n : Nat) (hv : valid6 h = true) (hb : B6 h) (hn : n ≤ 65535) :
    ∃ f x y a b c d : Nat, f = 1610612736 + h.cl.toNat * 1048576 + h.lb.toNat ∧ h.nx = x ∧ h.hp = y ∧ h.sh = a ∧ h.sl = b ∧ h.dh = c ∧ h.dl = d ∧ f < 256 ^ 4 ∧ x < 256 ^ 1 ∧ y < 256 ^ 1 ∧ a < 256 ^ 8 ∧ b < 256 ^ 8 ∧ c < 256 ^ 8 ∧ d < 256 ^ 8 ∧
    head6 h n = bigB 4 f ++ bigB 2 n ++ bigB 1 x ++ bigB 1 y ++ bigB 8 a ++ bigB 8 b ++ bigB 8 c ++ bigB 8 d := by
  obtain ⟨v1, v2, v3, v4, v5, v6⟩ := valid6_is hv
  have b1 := inB_is v1
  have b2 := inB_is v2
  have b3 := inB_is v3
  have b4 := inB_is v4
  obtain ⟨a, b, c, d, ea, eb, ec, ed, ha, hb', hc, hd⟩ := bounds6 h hb
  have h0 : (256 : Nat) ^ 4 = 4294967296 := by decide
  have h1 : (256 : Nat) ^ 1 = 256 := by decide
  refine ⟨1610612736 + h.cl.toNat * 1048576 + h.lb.toNat, h.nx.toNat, h.hp.toNat, a, b, c, d, rfl, by omega, by omega, ea, eb, ec, ed, by omega, by omega, by omega, ha, hb', hc, hd, ?_⟩
  unfold head6
  rw [v5, v6, ea, eb, ec, ed, addr6_is, addr6_is, show 1610612736 + h.cl * 1048576 + h.lb = ((1610612736 + h.cl.toNat * 1048576 + h.lb.toNat : Nat) : Int) by omega, show h.nx = ((h.nx.toNat : Nat) : Int) by omega, show h.hp = ((h.hp.toNat : Nat) : Int) by omega]
  have e4 := numL_big (1610612736 + h.cl.toNat * 1048576 + h.lb.toNat) 4 (by omega) (by omega) (by omega)
  have e2 := numL_big n 2 (by omega) (by omega) (by omega)
  have e1 := numL_big h.nx.toNat 1 (by omega) (by omega) (by omega)
  have e1' := numL_big h.hp.toNat 1 (by omega) (by omega) (by omega)
  rw [show ((4 : Nat) : Int) = 4 from rfl] at e4
  rw [show ((2 : Nat) : Int) = 2 from rfl] at e2
  rw [show ((1 : Nat) : Int) = 1 from rfl] at e1 e1'
  rw [e4, e2, e1, e1', Int.toNat_natCast, Int.toNat_natCast]
  simp only [List.append_assoc]
/-- Eight numbers' bytes, read again. -/
theorem read40 {s : ByteArray} {f n x y a b c d : Nat} {r : List UInt8} (h : s.data.toList = bigB 4 f ++ bigB 2 n ++ bigB 1 x ++ bigB 1 y ++ bigB 8 a ++ bigB 8 b ++ bigB 8 c ++ bigB 8 d ++ r) (hf : f < 256 ^ 4) (hn : n < 256 ^ 2) (hx : x < 256 ^ 1) (hy : y < 256 ^ 1) (ha : a < 256 ^ 8) (hb : b < 256 ^ 8) (hc : c < 256 ^ 8) (hd : d < 256 ^ 8) :
    s.size = 40 + r.length ∧ seg s 0 4 = f ∧ wt s 4 = n ∧ bt s 6 = x ∧ bt s 7 = y ∧ seg s 8 8 = a ∧ seg s 16 8 = b ∧ seg s 24 8 = c ∧ seg s 32 8 = d := by
  have hz : s.size = 40 + r.length := by rw [size_list, h]; simp only [List.length_append, bigB_length]
  refine ⟨hz, ?_, ?_, ?_, ?_, ?_, ?_, ?_, ?_⟩
  · unfold seg
    rw [h]
    have := mid_num [] (bigB 2 n ++ bigB 1 x ++ bigB 1 y ++ bigB 8 a ++ bigB 8 b ++ bigB 8 c ++ bigB 8 d ++ r) (i := 0) (k := 4) (n := f) rfl hf
    simpa only [List.append_assoc, List.nil_append] using this
  · rw [← wt_num s 4 (by omega), h]
    have := mid_num (bigB 4 f) (bigB 1 x ++ bigB 1 y ++ bigB 8 a ++ bigB 8 b ++ bigB 8 c ++ bigB 8 d ++ r) (i := 4) (k := 2) (n := n) (bigB_length _ _) hn
    simpa only [List.append_assoc, List.nil_append] using this
  · rw [← bt_num s 6 (by omega), h]
    have := mid_num (bigB 4 f ++ bigB 2 n) (bigB 1 y ++ bigB 8 a ++ bigB 8 b ++ bigB 8 c ++ bigB 8 d ++ r) (i := 6) (k := 1) (n := x) (by simp only [List.length_append, bigB_length]) hx
    simpa only [List.append_assoc, List.nil_append] using this
  · rw [← bt_num s 7 (by omega), h]
    have := mid_num (bigB 4 f ++ bigB 2 n ++ bigB 1 x) (bigB 8 a ++ bigB 8 b ++ bigB 8 c ++ bigB 8 d ++ r) (i := 7) (k := 1) (n := y) (by simp only [List.length_append, bigB_length]) hy
    simpa only [List.append_assoc, List.nil_append] using this
  · unfold seg
    rw [h]
    have := mid_num (bigB 4 f ++ bigB 2 n ++ bigB 1 x ++ bigB 1 y) (bigB 8 b ++ bigB 8 c ++ bigB 8 d ++ r) (i := 8) (k := 8) (n := a) (by simp only [List.length_append, bigB_length]) ha
    simpa only [List.append_assoc, List.nil_append] using this
  · unfold seg
    rw [h]
    have := mid_num (bigB 4 f ++ bigB 2 n ++ bigB 1 x ++ bigB 1 y ++ bigB 8 a) (bigB 8 c ++ bigB 8 d ++ r) (i := 16) (k := 8) (n := b) (by simp only [List.length_append, bigB_length]) hb
    simpa only [List.append_assoc, List.nil_append] using this
  · unfold seg
    rw [h]
    have := mid_num (bigB 4 f ++ bigB 2 n ++ bigB 1 x ++ bigB 1 y ++ bigB 8 a ++ bigB 8 b) (bigB 8 d ++ r) (i := 24) (k := 8) (n := c) (by simp only [List.length_append, bigB_length]) hc
    simpa only [List.append_assoc, List.nil_append] using this
  · unfold seg
    rw [h]
    have := mid_num (bigB 4 f ++ bigB 2 n ++ bigB 1 x ++ bigB 1 y ++ bigB 8 a ++ bigB 8 b ++ bigB 8 c) r (i := 32) (k := 8) (n := d) (by simp only [List.length_append, bigB_length]) hd
    simpa only [List.append_assoc, List.nil_append] using this
/-- A head and its payload come back, whatever stands behind; a beginning is too short. -/
theorem back6_ok {h : H6} {p : ByteArray} (he : err6 h p = 0) (hb : B6 h) :
    (out6 h p).size = 40 + p.size ∧ bt (out6 h p) 0 / 16 = 6 ∧ (∀ more : ByteArray, errG6 (out6 h p ++ more) = 0 ∧ headG6 (out6 h p ++ more) = h ∧ payG6 (out6 h p ++ more) = p) ∧ ∀ i, i < 40 + p.size → errG6 ((out6 h p).extract 0 i) = 2 := by
  obtain ⟨hv, hl⟩ := err6_ok he
  obtain ⟨v1, v2, v3, v4, v5, v6⟩ := valid6_is hv
  have b1 := inB_is v1
  have b2 := inB_is v2
  obtain ⟨f, x, y, a, b, c, d, ef, ex, ey, ea, eb, ec, ed, hf, hx, hy, ha, hb', hc, hd, hh⟩ := head6_is h p.size hv hb hl
  have ho : out6 h p = ⟨(head6 h p.size).toArray⟩ ++ p := if_pos he
  have hL : (out6 h p).data.toList = bigB 4 f ++ bigB 2 p.size ++ bigB 1 x ++ bigB 1 y ++ bigB 8 a ++ bigB 8 b ++ bigB 8 c ++ bigB 8 d ++ p.data.toList := by
    rw [ho, app_str, hh]
  have h2 : (256 : Nat) ^ 2 = 65536 := by decide
  obtain ⟨z, s1, s2, s3, s4, s5, s6, s7, s8⟩ := read40 hL hf (by omega) hx hy ha hb' hc hd
  rw [← size_list] at z
  refine ⟨z, ?_, fun more => ?_, fun i hi => ?_⟩
  · have e1 : seg (out6 h p) 0 4 = ((bt (out6 h p) 0 * 256 + bt (out6 h p) 1) * 256 + bt (out6 h p) 2) * 256 + bt (out6 h p) 3 := by
      unfold seg
      rw [num_sub_snoc _ 0 3 (by omega), num_sub_snoc _ 0 2 (by omega), num_sub_snoc _ 0 1 (by omega), bt_num _ 0 (by omega)]
      unfold bt
      rw [List.getD_eq_getElem?_getD (i := 1), List.getElem?_eq_getElem (by rw [← size_list]; omega), List.getD_eq_getElem?_getD (i := 2), List.getElem?_eq_getElem (by rw [← size_list]; omega), List.getD_eq_getElem?_getD (i := 3), List.getElem?_eq_getElem (by rw [← size_list]; omega)]
      rfl
    have := bt_lt (out6 h p) 1
    have := bt_lt (out6 h p) 2
    have := bt_lt (out6 h p) 3
    omega
  · have hM : (out6 h p ++ more).data.toList = bigB 4 f ++ bigB 2 p.size ++ bigB 1 x ++ bigB 1 y ++ bigB 8 a ++ bigB 8 b ++ bigB 8 c ++ bigB 8 d ++ (p.data.toList ++ more.data.toList) := by
      rw [app_str, hL]; simp only [List.append_assoc]
    obtain ⟨z, s1, s2, s3, s4, s5, s6, s7, s8⟩ := read40 hM hf (by omega) hx hy ha hb' hc hd
    rw [List.length_append, ← size_list, ← size_list] at z
    generalize hS : out6 h p ++ more = S at *
    have hG : errG6 S = 0 := errG6_is (by omega) (by omega) (by omega)
    refine ⟨hG, ?_, ?_⟩
    · unfold headG6
      rw [if_pos hG]
      unfold raw6
      rw [s1, s3, s4, s5, s6, s7, s8]
      clear hL hM hh ho s1 s2 s3 s4 s5 s6 s7 s8 hG hS he hb hv v1 v2 v3 v4
      obtain ⟨cl, lb, nx, hp, sv, sh, sl, dv, dh, dl⟩ := h
      simp only at b1 b2 ef ex ey ea eb ec ed v5 v6 ⊢
      subst ex ey ea eb ec ed v5 v6
      rw [show ((f / 1048576 % 256 : Nat) : Int) = cl by omega, show ((f % 1048576 : Nat) : Int) = lb by omega]
    · unfold payG6
      rw [if_pos hG, s2]
      apply ext_eq
      rw [ext_str', hM, show 40 + p.size - 40 = p.data.toList.length by rw [← size_list]; omega, ← List.append_assoc]
      exact mid _ _ _ (by simp only [List.length_append, bigB_length]) rfl
  · have hsz : ((out6 h p).extract 0 i).size = i := by rw [ByteArray.size_extract]; omega
    have hle : ((out6 h p).extract 0 i).data.toList = (out6 h p).data.toList.take i := by rw [ext_str', List.drop_zero, Nat.sub_zero]
    unfold errG6
    rw [hsz]
    by_cases h40 : i < 40
    · rw [if_pos h40]
    · have hM : ((out6 h p).extract 0 i).data.toList = bigB 4 f ++ bigB 2 p.size ++ bigB 1 x ++ bigB 1 y ++ bigB 8 a ++ bigB 8 b ++ bigB 8 c ++ bigB 8 d ++ (p.data.toList.take (i - 40)) := by
        rw [hle, hL, List.take_append, show (bigB 4 f ++ bigB 2 p.size ++ bigB 1 x ++ bigB 1 y ++ bigB 8 a ++ bigB 8 b ++ bigB 8 c ++ bigB 8 d).length = 40 by simp only [List.length_append, bigB_length], List.take_of_length_le (by simp only [List.length_append, bigB_length]; omega)]
      obtain ⟨_, s1, s2, _⟩ := read40 hM hf (by omega) hx hy ha hb' hc hd
      rw [if_neg h40, s1, s2, if_neg (by omega), if_pos (by omega)]
theorem raw6_bd (s : ByteArray) : B6 (raw6 s) := by
  have h := fun i => seg_lt s i 8
  have h0 : (256 : Nat) ^ 8 = 18446744073709551616 := by decide
  rw [h0] at h
  have h1 := h 8
  have h2 := h 16
  have h3 := h 24
  have h4 := h 32
  exact ⟨Int.natCast_nonneg _, by show ((seg s 8 8 : Nat) : Int) < _; omega, Int.natCast_nonneg _, by show ((seg s 16 8 : Nat) : Int) < _; omega, Int.natCast_nonneg _, by show ((seg s 24 8 : Nat) : Int) < _; omega, Int.natCast_nonneg _, by show ((seg s 32 8 : Nat) : Int) < _; omega⟩
/-- What is read is written as it was. -/
theorem fwd6_same {s : ByteArray} (h : errG6 s = 0) : err6 (headG6 s) (payG6 s) = 0 ∧ B6 (headG6 s) ∧ (out6 (headG6 s) (payG6 s)).size ≤ s.size ∧ (payG6 s).size ≤ 65535 ∧ out6 (headG6 s) (payG6 s) = s.extract 0 (out6 (headG6 s) (payG6 s)).size := by
  obtain ⟨h1, h2, h3⟩ := errG6_ok h
  have eh : headG6 s = raw6 s := if_pos h
  have ep : payG6 s = s.extract 40 (40 + wt s 4) := if_pos h
  have hw := wt_le s 4
  have hps : (payG6 s).size = wt s 4 := by rw [ep, ByteArray.size_extract]; omega
  have b6 := bt_lt s 6
  have b7 := bt_lt s 7
  have f4 : seg s 0 4 < 4294967296 := seg_lt s 0 4
  have hv : valid6 (raw6 s) = true := by
    unfold valid6
    have i1 : inB (raw6 s).cl 255 = true := decide_eq_true (by show (0 : Int) ≤ (seg s 0 4 / 1048576 % 256 : Nat) ∧ ((seg s 0 4 / 1048576 % 256 : Nat) : Int) ≤ 255; omega)
    have i2 : inB (raw6 s).lb 1048575 = true := decide_eq_true (by show (0 : Int) ≤ (seg s 0 4 % 1048576 : Nat) ∧ ((seg s 0 4 % 1048576 : Nat) : Int) ≤ 1048575; omega)
    have i3 : inB (raw6 s).nx 255 = true := decide_eq_true (by show (0 : Int) ≤ (bt s 6 : Nat) ∧ ((bt s 6 : Nat) : Int) ≤ 255; omega)
    have i4 : inB (raw6 s).hp 255 = true := decide_eq_true (by show (0 : Int) ≤ (bt s 7 : Nat) ∧ ((bt s 7 : Nat) : Int) ≤ 255; omega)
    rw [i1, i2, i3, i4]
    rfl
  rw [eh]
  have he : err6 (raw6 s) (payG6 s) = 0 := err6_is hv (by omega)
  have hsz := (back6_ok he (raw6_bd s)).1
  refine ⟨he, raw6_bd s, by omega, by omega, ?_⟩
  obtain ⟨f, x, y, a, b, c, d, ef, ex, ey, ea, eb, ec, ed, hf, hx, hy, ha, hb', hc, hd, hh⟩ := head6_is (raw6 s) (payG6 s).size hv (raw6_bd s) (by omega)
  have ho : out6 (raw6 s) (payG6 s) = ⟨(head6 (raw6 s) (payG6 s).size).toArray⟩ ++ payG6 s := if_pos he
  apply ext_eq
  rw [ext_str', List.drop_zero, Nat.sub_zero, hsz, hps]
  rw [ho, app_str, hh, hps, ep, ext_str', show 40 + wt s 4 - 40 = wt s 4 by omega]
  obtain rfl : f = seg s 0 4 := by
    rw [ef]
    show 1610612736 + ((seg s 0 4 / 1048576 % 256 : Nat) : Int).toNat * 1048576 + ((seg s 0 4 % 1048576 : Nat) : Int).toNat = _
    omega
  obtain rfl : bt s 6 = x := Int.ofNat.inj ex
  obtain rfl : bt s 7 = y := Int.ofNat.inj ey
  obtain rfl : seg s 8 8 = a := Int.ofNat.inj ea
  obtain rfl : seg s 16 8 = b := Int.ofNat.inj eb
  obtain rfl : seg s 24 8 = c := Int.ofNat.inj ec
  obtain rfl : seg s 32 8 = d := Int.ofNat.inj ed
  rw [← bt_num s 6 (by omega), ← bt_num s 7 (by omega)]
  have e2 := big_seg s 4 2 (by omega)
  have e6 := big_seg s 6 1 (by omega)
  have e7 := big_seg s 7 1 (by omega)
  have e24 : bigB 2 (wt s 4) = (s.data.toList.drop 4).take 2 := by rw [← e2, ← wt_num s 4 (by omega)]; rfl
  unfold seg at e6 e7
  rw [big_seg s 0 4 (by omega), e24, e6, e7, big_seg s 8 8 (by omega), big_seg s 16 8 (by omega), big_seg s 24 8 (by omega), big_seg s 32 8 (by omega)]
  generalize s.data.toList = l
  generalize wt s 4 = n
  rw [List.take_add (i := 40) (j := n)]
  congr 1
  rw [show 40 = 4 + 36 from rfl, List.take_add (i := 4), show 36 = 2 + 34 from rfl, List.take_add (i := 2), show 34 = 1 + 33 from rfl, List.take_add (i := 1) (j := 33), show 33 = 1 + 32 from rfl, List.take_add (i := 1) (j := 32), show 32 = 8 + 24 from rfl, List.take_add (i := 8) (j := 24), show 24 = 8 + 16 from rfl, List.take_add (i := 8) (j := 16), show 16 = 8 + 8 from rfl, List.take_add (i := 8) (j := 8)]
  simp only [List.drop_drop, List.drop_zero, List.append_assoc]
end Go.Proofs.Ytnlinfdfgalmjaa
