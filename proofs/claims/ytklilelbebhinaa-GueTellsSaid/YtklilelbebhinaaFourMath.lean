/- Plain numbers and bytes for the layer ipfour: heads, their bytes, what bytes say. No program. -/
import Derived.Test.YtklilelbebhinaaOctetMath
import Derived.Test.YtklilelbebhinaaCheckMath
import Derived.Test.YtklilelbebhinaaAddrMath
import Derived.Laws.BitsAllLaws
namespace Go.Proofs.Ytklilelbebhinaa
open Go.RowKit
set_option linter.unusedVariables false

/-- A head of version 4. -/
structure Hd where
  cl : Int
  id : Int
  wh : Bool
  tt : Int
  pr : Int
  sv : Bool
  sh : Int
  sl : Int
  dv : Bool
  dh : Int
  dl : Int
  op : ByteArray

def inB (n m : Int) : Bool := decide (0 ≤ n ∧ n ≤ m)
def four (v : Bool) (hi lo : Int) : Bool := !v && rightA v hi lo
def numL (n k : Int) : List UInt8 := putL (IntKind.u64.wrap n) k
def validH (h : Hd) : Bool := inB h.cl 255 && (inB h.id 65535 && (inB h.tt 255 && (inB h.pr 255 && (four h.sv h.sh h.sl && (four h.dv h.dh h.dl && (decide (h.op.size ≤ 40) && decide (h.op.size % 4 = 0)))))))
theorem valid_is {h : Hd} (hv : validH h = true) : inB h.cl 255 = true ∧ inB h.id 65535 = true ∧ inB h.tt 255 = true ∧ inB h.pr 255 = true ∧ four h.sv h.sh h.sl = true ∧ four h.dv h.dh h.dl = true ∧ h.op.size ≤ 40 ∧ h.op.size % 4 = 0 := by
  unfold validH at hv
  simp only [Bool.and_eq_true, decide_eq_true_eq] at hv
  exact hv
theorem inB_is {n m : Int} (h : inB n m = true) : 0 ≤ n ∧ n ≤ m := of_decide_eq_true h
theorem four_is {v : Bool} {hi lo : Int} (h : four v hi lo = true) : v = false ∧ hi = 0 ∧ lo < 4294967296 := by
  unfold four rightA at h
  cases v
  · simp at h; exact ⟨rfl, h.1, h.2⟩
  · simp at h
theorem wrapU (n : Int) (h0 : 0 ≤ n) (h1 : n < 18446744073709551616) : IntKind.u64.wrap n = n := by rw [IntKind.wrap_u64]; omega
theorem wrapU_bd (n : Int) : 0 ≤ IntKind.u64.wrap n ∧ IntKind.u64.wrap n < 18446744073709551616 := by rw [IntKind.wrap_u64]; omega
theorem numL_len (n k : Int) (h1 : 1 ≤ k) (h8 : k ≤ 8) : (numL n k).length = k.toNat := by unfold numL putL; rw [if_pos ⟨h1, h8⟩, bigB_length]
theorem numL_1 (n : Int) (h0 : 0 ≤ n) (h1 : n ≤ 255) : numL n 1 = [UInt8.ofNat n.toNat] := by
  unfold numL putL
  rw [wrapU n h0 (by omega), if_pos (by omega), show (1 : Int).toNat = 1 from rfl, bigB, bigB, Nat.mod_eq_of_lt (by omega)]; rfl
theorem numL_2 (n : Int) (h0 : 0 ≤ n) (h1 : n ≤ 65535) : numL n 2 = [UInt8.ofNat (n.toNat / 256), UInt8.ofNat (n.toNat % 256)] := by
  unfold numL putL
  rw [wrapU n h0 (by omega), if_pos (by omega), show (2 : Int).toNat = 2 from rfl, bigB, bigB, bigB, Nat.mod_eq_of_lt (a := n.toNat / 256) (by omega)]; rfl

/-- The bytes of a head, its check 0; n: all bytes. -/
def headL (h : Hd) (n : Int) : List UInt8 :=
  numL (64 + (20 + (h.op.size : Int)) / 4) 1 ++ numL h.cl 1 ++ numL n 2 ++ numL h.id 2 ++ numL (if h.wh then 16384 else 0) 2 ++ numL h.tt 1 ++ numL h.pr 1 ++ numL 0 2 ++ addrB h.sv h.sh h.sl ++ addrB h.dv h.dh h.dl ++ h.op.data.toList
def hsumL (h : Hd) (n : Int) : List UInt8 := setL ⟨(headL h n).toArray⟩ 10 2 (65535 - (sumL (headL h n) : Nat))
def errP (h : Hd) (p : ByteArray) : Int := if validH h then (if 65535 < 20 + h.op.size + p.size then 5 else 0) else 1
def outP (h : Hd) (p : ByteArray) : ByteArray := if errP h p = 0 then ⟨(hsumL h (20 + (h.op.size : Int) + (p.size : Int))).toArray⟩ ++ p else ⟨#[]⟩

/-- What bytes say. -/
def bt (s : ByteArray) (i : Nat) : Nat := (s.data.toList.getD i 0).toNat
theorem bt_lt (s : ByteArray) (i : Nat) : bt s i < 256 := (s.data.toList.getD i 0).toNat_lt
def wt (s : ByteArray) (i : Nat) : Nat := wd s.data.toList i
theorem wt_le (s : ByteArray) (i : Nat) : wt s i ≤ 65535 := wd_lt _ _
theorem wt_bt (s : ByteArray) (i : Nat) : wt s i = bt s i * 256 + bt s (i + 1) := rfl
def lowG (s : ByteArray) (i : Nat) : Nat := numB ((s.data.toList.drop i).take 4)
def sizeG (s : ByteArray) : Nat := bt s 0 % 16 * 4
def opG (s : ByteArray) : ByteArray := if 20 ≤ sizeG s ∧ sizeG s ≤ s.size then s.extract 20 (sizeG s) else ⟨#[]⟩
def zeroH : Hd := ⟨0, 0, false, 0, 0, false, 0, 0, false, 0, 0, ⟨#[]⟩⟩
def rawG (s : ByteArray) : Hd := ⟨bt s 1, wt s 4, decide (wt s 6 / 16384 % 2 = 1), bt s 8, bt s 9, false, 0, lowG s 12, false, 0, lowG s 16, opG s⟩
def errG (s : ByteArray) : Int :=
  if s.size < 20 then 2 else if ¬ (bt s 0 / 16 = 4 ∧ 20 ≤ sizeG s ∧ sizeG s ≤ wt s 2) then 3 else if s.size < wt s 2 then 2
  else if sumL (s.data.toList.take (sizeG s)) ≠ 65535 then 4 else if wt s 6 ≠ 0 ∧ wt s 6 ≠ 16384 then 7 else 0
def headG (s : ByteArray) : Hd := if errG s = 0 then rawG s else zeroH
def payG (s : ByteArray) : ByteArray := if errG s = 0 then s.extract (sizeG s) (wt s 2) else ⟨#[]⟩
theorem errG_ok {s : ByteArray} (h : errG s = 0) : 20 ≤ s.size ∧ bt s 0 / 16 = 4 ∧ 20 ≤ sizeG s ∧ sizeG s ≤ wt s 2 ∧ wt s 2 ≤ s.size ∧ sumL (s.data.toList.take (sizeG s)) = 65535 ∧ (wt s 6 = 0 ∨ wt s 6 = 16384) := by
  unfold errG at h
  split at h
  · omega
  · split at h
    · omega
    · split at h
      · omega
      · split at h
        · omega
        · split at h
          · omega
          · rename_i h1 h2 h3 h4 h5
            refine ⟨by omega, ?_⟩
            have h2' := Decidable.not_not.1 h2
            refine ⟨h2'.1, h2'.2.1, h2'.2.2, by omega, Decidable.not_not.1 h4, by omega⟩
theorem errG_is {s : ByteArray} (h1 : 20 ≤ s.size) (h2 : bt s 0 / 16 = 4) (h3 : 20 ≤ sizeG s) (h4 : sizeG s ≤ wt s 2) (h5 : wt s 2 ≤ s.size) (h6 : sumL (s.data.toList.take (sizeG s)) = 65535) (h7 : wt s 6 = 0 ∨ wt s 6 = 16384) : errG s = 0 := by
  unfold errG
  rw [if_neg (by omega), if_neg (by omega), if_neg (by omega), if_neg (by omega), if_neg (by omega)]

theorem one_more {k : Nat} (l : List UInt8) (h : k + 1 ≤ l.length) : ∃ x r, l = x :: r ∧ k ≤ r.length := by
  match l, h with
  | x :: r, h => exact ⟨x, r, rfl, by simpa using h⟩
theorem twenty (l : List UInt8) (h : 20 ≤ l.length) : ∃ x0 x1 x2 x3 x4 x5 x6 x7 x8 x9 x10 x11 x12 x13 x14 x15 x16 x17 x18 x19 r, l = x0 :: x1 :: x2 :: x3 :: x4 :: x5 :: x6 :: x7 :: x8 :: x9 :: x10 :: x11 :: x12 :: x13 :: x14 :: x15 :: x16 :: x17 :: x18 :: x19 :: r := by
  obtain ⟨x0, r0, rfl, h0⟩ := one_more l h
  obtain ⟨x1, r1, rfl, h1⟩ := one_more r0 h0
  obtain ⟨x2, r2, rfl, h2⟩ := one_more r1 h1
  obtain ⟨x3, r3, rfl, h3⟩ := one_more r2 h2
  obtain ⟨x4, r4, rfl, h4⟩ := one_more r3 h3
  obtain ⟨x5, r5, rfl, h5⟩ := one_more r4 h4
  obtain ⟨x6, r6, rfl, h6⟩ := one_more r5 h5
  obtain ⟨x7, r7, rfl, h7⟩ := one_more r6 h6
  obtain ⟨x8, r8, rfl, h8⟩ := one_more r7 h7
  obtain ⟨x9, r9, rfl, h9⟩ := one_more r8 h8
  obtain ⟨x10, r10, rfl, h10⟩ := one_more r9 h9
  obtain ⟨x11, r11, rfl, h11⟩ := one_more r10 h10
  obtain ⟨x12, r12, rfl, h12⟩ := one_more r11 h11
  obtain ⟨x13, r13, rfl, h13⟩ := one_more r12 h12
  obtain ⟨x14, r14, rfl, h14⟩ := one_more r13 h13
  obtain ⟨x15, r15, rfl, h15⟩ := one_more r14 h14
  obtain ⟨x16, r16, rfl, h16⟩ := one_more r15 h15
  obtain ⟨x17, r17, rfl, h17⟩ := one_more r16 h16
  obtain ⟨x18, r18, rfl, h18⟩ := one_more r17 h17
  obtain ⟨x19, r19, rfl, h19⟩ := one_more r18 h18
  exact ⟨x0, x1, x2, x3, x4, x5, x6, x7, x8, x9, x10, x11, x12, x13, x14, x15, x16, x17, x18, x19, r19, rfl⟩
theorem four_list (l : List UInt8) (h : l.length = 4) : ∃ a b c d, l = [a, b, c, d] := by
  match l, h with
  | [a, b, c, d], _ => exact ⟨a, b, c, d, rfl⟩
theorem size_list (s : ByteArray) : s.size = s.data.toList.length := rfl
theorem byte_num (x : UInt8) : UInt8.ofNat x.toNat = x := UInt8.ofNat_toNat
theorem byte_hi (x y : UInt8) : UInt8.ofNat ((x.toNat * 256 + y.toNat) / 256) = x := by
  have := y.toNat_lt
  rw [show (x.toNat * 256 + y.toNat) / 256 = x.toNat by omega, byte_num]
theorem byte_lo (x y : UInt8) : UInt8.ofNat ((x.toNat * 256 + y.toNat) % 256) = y := by
  have := y.toNat_lt
  rw [show (x.toNat * 256 + y.toNat) % 256 = y.toNat by omega, byte_num]
theorem wholeL (w : Bool) : numL (if w then 16384 else 0) 2 = [if w then 64 else 0, 0] := by cases w <;> decide
theorem addr4 (v : Bool) (hi lo : Int) (h : four v hi lo = true) (h0 : 0 ≤ lo) : addrB v hi lo = bigB 4 lo.toNat := by
  obtain ⟨rfl, rfl, h3⟩ := four_is h
  unfold addrB rightA
  simp [h3]

/-- The bytes of a valid head, one by one. -/
theorem headL_is (h : Hd) (n : Int) (hv : validH h = true) (hs : 0 ≤ h.sl) (hd : 0 ≤ h.dl) (h0 : 0 ≤ n) (h1 : n ≤ 65535) :
    ∃ a b c d e f g i, numB [a, b, c, d] = h.sl.toNat ∧ numB [e, f, g, i] = h.dl.toNat ∧
    headL h n = UInt8.ofNat (64 + (20 + h.op.size) / 4) :: UInt8.ofNat h.cl.toNat :: UInt8.ofNat (n.toNat / 256) :: UInt8.ofNat (n.toNat % 256) :: UInt8.ofNat (h.id.toNat / 256) :: UInt8.ofNat (h.id.toNat % 256) :: (if h.wh then 64 else 0) :: 0 :: UInt8.ofNat h.tt.toNat :: UInt8.ofNat h.pr.toNat :: 0 :: 0 :: a :: b :: c :: d :: e :: f :: g :: i :: h.op.data.toList := by
  obtain ⟨v1, v2, v3, v4, v5, v6, v7, v8⟩ := valid_is hv
  have b1 := inB_is v1
  have b2 := inB_is v2
  have b3 := inB_is v3
  have b4 := inB_is v4
  obtain ⟨a, b, c, d, e1⟩ := four_list (bigB 4 h.sl.toNat) (bigB_length _ _)
  obtain ⟨e, f, g, i, e2⟩ := four_list (bigB 4 h.dl.toNat) (bigB_length _ _)
  refine ⟨a, b, c, d, e, f, g, i, ?_, ?_, ?_⟩
  · rw [← e1, numB_bigB]; have := (four_is v5).2.2; omega
  · rw [← e2, numB_bigB]; have := (four_is v6).2.2; omega
  · unfold headL
    rw [addr4 _ _ _ v5 hs, addr4 _ _ _ v6 hd, e1, e2, wholeL, numL_1 _ (by omega) (by omega), numL_1 _ b1.1 b1.2, numL_2 _ h0 h1, numL_2 _ b2.1 b2.2, numL_1 _ b3.1 b3.2, numL_1 _ b4.1 b4.2, numL_2 0 (by omega) (by omega)]
    rw [show (64 + (20 + (h.op.size : Int)) / 4).toNat = 64 + (20 + h.op.size) / 4 by omega]
    rfl
theorem set10 (x0 x1 x2 x3 x4 x5 x6 x7 x8 x9 x10 x11 : UInt8) (r : List UInt8) (c : Int) (h0 : 0 ≤ c) (h1 : c ≤ 65535) :
    setL ⟨(x0 :: x1 :: x2 :: x3 :: x4 :: x5 :: x6 :: x7 :: x8 :: x9 :: x10 :: x11 :: r).toArray⟩ 10 2 c = x0 :: x1 :: x2 :: x3 :: x4 :: x5 :: x6 :: x7 :: x8 :: x9 :: UInt8.ofNat (c.toNat / 256) :: UInt8.ofNat (c.toNat % 256) :: r := by
  have hg : getOk ⟨(x0 :: x1 :: x2 :: x3 :: x4 :: x5 :: x6 :: x7 :: x8 :: x9 :: x10 :: x11 :: r).toArray⟩ 10 2 = true := getOk_yes (by omega) (by omega) (by omega) (by simp [ByteArray.size]; omega)
  have hp : putL c 2 = [UInt8.ofNat (c.toNat / 256), UInt8.ofNat (c.toNat % 256)] := by
    have := numL_2 c h0 h1
    unfold numL at this
    rwa [wrapU c h0 (by omega)] at this
  unfold setL
  rw [if_pos hg, hp]
  rfl
theorem tw12 (x0 x1 x2 x3 x4 x5 x6 x7 x8 x9 x10 x11 : UInt8) (r : List UInt8) : tw (x0 :: x1 :: x2 :: x3 :: x4 :: x5 :: x6 :: x7 :: x8 :: x9 :: x10 :: x11 :: r) = tw (x0 :: x1 :: x2 :: x3 :: x4 :: x5 :: x6 :: x7 :: x8 :: x9 :: 0 :: 0 :: r) + (x10.toNat * 256 + x11.toNat) := by
  simp only [tw, show (0 : UInt8).toNat = 0 from rfl]; omega
theorem sum_full {x c : Nat} (h : x ≠ 0) (hc : c = 65535 - res x) : res (x + c) = 65535 := by
  have h1 := res_le x
  have h2 := res_mod x
  refine res_full (by omega) (by omega)
/-- A head's bytes with their check. -/
theorem hsumL_is (h : Hd) (n : Int) (hv : validH h = true) (hs : 0 ≤ h.sl) (hd : 0 ≤ h.dl) (h0 : 0 ≤ n) (h1 : n ≤ 65535) :
    ∃ a b c d e f g i k l, numB [a, b, c, d] = h.sl.toNat ∧ numB [e, f, g, i] = h.dl.toNat ∧ sumL (hsumL h n) = 65535 ∧
    hsumL h n = UInt8.ofNat (64 + (20 + h.op.size) / 4) :: UInt8.ofNat h.cl.toNat :: UInt8.ofNat (n.toNat / 256) :: UInt8.ofNat (n.toNat % 256) :: UInt8.ofNat (h.id.toNat / 256) :: UInt8.ofNat (h.id.toNat % 256) :: (if h.wh then 64 else 0) :: 0 :: UInt8.ofNat h.tt.toNat :: UInt8.ofNat h.pr.toNat :: k :: l :: a :: b :: c :: d :: e :: f :: g :: i :: h.op.data.toList := by
  obtain ⟨a, b, c, d, e, f, g, i, n1, n2, hh⟩ := headL_is h n hv hs hd h0 h1
  have v7 := (valid_is hv).2.2.2.2.2.2.1
  have hb := sumL_le (headL h n)
  refine ⟨a, b, c, d, e, f, g, i, UInt8.ofNat ((65535 - (sumL (headL h n) : Nat) : Int).toNat / 256), UInt8.ofNat ((65535 - (sumL (headL h n) : Nat) : Int).toNat % 256), n1, n2, ?_, ?_⟩
  · have hx : sumL (headL h n) = res (tw (headL h n)) := rfl
    unfold hsumL
    generalize sumL (headL h n) = z at *
    have hz : ∃ y : Nat, (65535 - (z : Nat) : Int) = y ∧ y = 65535 - z := ⟨65535 - z, by omega, rfl⟩
    obtain ⟨y, hy, hy2⟩ := hz
    rw [hy, hh, set10 _ _ _ _ _ _ _ _ _ _ _ _ _ _ (by omega) (by omega)]
    unfold sumL
    rw [tw12, ← hh]
    have e1 : (UInt8.ofNat ((y : Int).toNat / 256)).toNat * 256 + (UInt8.ofNat ((y : Int).toNat % 256)).toNat = y := by
      rw [UInt8.toNat_ofNat', UInt8.toNat_ofNat']; omega
    rw [e1]
    refine sum_full ?_ (by omega)
    rw [hh]
    simp only [tw]
    rw [UInt8.toNat_ofNat']
    omega
  · unfold hsumL
    generalize hz : (65535 - (sumL (headL h n) : Nat) : Int) = z
    rw [hh, set10 _ _ _ _ _ _ _ _ _ _ _ _ _ _ (by omega) (by omega)]

/-- Twenty bytes, read. -/
theorem read20 {s : ByteArray} {x0 x1 x2 x3 x4 x5 x6 x7 x8 x9 x10 x11 x12 x13 x14 x15 x16 x17 x18 x19 : UInt8} {r : List UInt8} (h : s.data.toList = x0 :: x1 :: x2 :: x3 :: x4 :: x5 :: x6 :: x7 :: x8 :: x9 :: x10 :: x11 :: x12 :: x13 :: x14 :: x15 :: x16 :: x17 :: x18 :: x19 :: r) :
    s.size = 20 + r.length ∧ bt s 0 = x0.toNat ∧ bt s 1 = x1.toNat ∧ wt s 2 = x2.toNat * 256 + x3.toNat ∧ wt s 4 = x4.toNat * 256 + x5.toNat ∧ wt s 6 = x6.toNat * 256 + x7.toNat ∧ bt s 8 = x8.toNat ∧ bt s 9 = x9.toNat ∧ lowG s 12 = numB [x12, x13, x14, x15] ∧ lowG s 16 = numB [x16, x17, x18, x19] := by
  refine ⟨by rw [size_list, h]; simp; omega, ?_⟩
  unfold bt wt wd lowG
  rw [h]
  exact ⟨rfl, rfl, rfl, rfl, rfl, rfl, rfl, rfl, rfl⟩
theorem ext_eq {s t : ByteArray} (h : s.data.toList = t.data.toList) : s = t := by
  apply ByteArray.ext; apply Array.ext'; exact h
theorem ext_str' (s : ByteArray) (a b : Nat) : (s.extract a b).data.toList = (s.data.toList.drop a).take (b - a) := by
  simp
theorem app_str (s t : ByteArray) : (s ++ t).data.toList = s.data.toList ++ t.data.toList := by simp
theorem validH_raw {s : ByteArray} (h : errG s = 0) : validH (rawG s) = true ∧ (rawG s).op.size = sizeG s - 20 := by
  obtain ⟨h1, h2, h3, h4, h5, h6, h7⟩ := errG_ok h
  have e1 : (rawG s).op = s.extract 20 (sizeG s) := by show opG s = _; unfold opG; rw [if_pos ⟨h3, by omega⟩]
  have e2 : (rawG s).op.size = sizeG s - 20 := by rw [e1, ByteArray.size_extract]; omega
  have b1 := bt_lt s 1
  have b8 := bt_lt s 8
  have b9 := bt_lt s 9
  have w4 := wt_le s 4
  have l12 : lowG s 12 < 4294967296 := num_sub_lt s 12 4 4 (by omega)
  have l16 : lowG s 16 < 4294967296 := num_sub_lt s 16 4 4 (by omega)
  refine ⟨?_, e2⟩
  have hz : sizeG s ≤ 60 ∧ sizeG s % 4 = 0 := by unfold sizeG; omega
  unfold validH
  rw [e2]
  have i1 : inB (rawG s).cl 255 = true := decide_eq_true (by show (0 : Int) ≤ (bt s 1 : Nat) ∧ ((bt s 1 : Nat) : Int) ≤ 255; omega)
  have i2 : inB (rawG s).id 65535 = true := decide_eq_true (by show (0 : Int) ≤ (wt s 4 : Nat) ∧ ((wt s 4 : Nat) : Int) ≤ 65535; omega)
  have i3 : inB (rawG s).tt 255 = true := decide_eq_true (by show (0 : Int) ≤ (bt s 8 : Nat) ∧ ((bt s 8 : Nat) : Int) ≤ 255; omega)
  have i4 : inB (rawG s).pr 255 = true := decide_eq_true (by show (0 : Int) ≤ (bt s 9 : Nat) ∧ ((bt s 9 : Nat) : Int) ≤ 255; omega)
  have i5 : four (rawG s).sv (rawG s).sh (rawG s).sl = true := by
    unfold four rightA rawG; simp; omega
  have i6 : four (rawG s).dv (rawG s).dh (rawG s).dl = true := by
    unfold four rightA rawG; simp; omega
  rw [i1, i2, i3, i4, i5, i6, decide_eq_true (show sizeG s - 20 ≤ 40 by omega), decide_eq_true (show (sizeG s - 20) % 4 = 0 by omega)]
  rfl
end Go.Proofs.Ytklilelbebhinaa
