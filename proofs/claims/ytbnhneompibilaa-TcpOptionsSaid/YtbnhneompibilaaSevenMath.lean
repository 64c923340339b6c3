/- Plain numbers and bytes for the layer tcp: heads, their bytes, options, what bytes say. No program. -/
import Derived.Test.YtbnhneompibilaaSumMath
import Derived.Test.YtbnhneompibilaaPseudoMath
namespace Go.Proofs.Ytbnhneompibilaa
open Go.RowKit
set_option linter.unusedVariables false

/-- An option. -/
structure Opx where
  kd : Nat
  da : ByteArray
  pl : Nat
/-- The options of s from i on. -/
def optsL (s : ByteArray) (i : Nat) : Option (List Opx) :=
  if h : s.size ≤ i ∨ bt s i = 0 then some []
  else if bt s i = 1 then optsL s (i + 1)
  else if h2 : s.size ≤ i + 1 ∨ bt s (i + 1) < 2 ∨ s.size - i < bt s (i + 1) then none
  else (optsL s (i + bt s (i + 1))).map (fun l => ⟨bt s i, s.extract (i + 2) (i + bt s (i + 1)), i + 2⟩ :: l)
termination_by s.size - i
theorem opts_end {s : ByteArray} {i : Nat} (h : s.size ≤ i ∨ bt s i = 0) : optsL s i = some [] := by rw [optsL, dif_pos h]
theorem opts_pad {s : ByteArray} {i : Nat} (h : i < s.size) (h1 : bt s i = 1) : optsL s i = optsL s (i + 1) := by
  conv => lhs; rw [optsL]
  rw [dif_neg (by omega), if_pos h1]
theorem opts_bad {s : ByteArray} {i : Nat} (h : i < s.size) (h0 : bt s i ≠ 0) (h1 : bt s i ≠ 1) (h2 : s.size ≤ i + 1 ∨ bt s (i + 1) < 2 ∨ s.size - i < bt s (i + 1)) : optsL s i = none := by
  rw [optsL, dif_neg (by omega), if_neg h1, dif_pos h2]
theorem opts_one {s : ByteArray} {i : Nat} (h : i < s.size) (h0 : bt s i ≠ 0) (h1 : bt s i ≠ 1) (h2 : ¬ (s.size ≤ i + 1 ∨ bt s (i + 1) < 2 ∨ s.size - i < bt s (i + 1))) : optsL s i = (optsL s (i + bt s (i + 1))).map (fun l => ⟨bt s i, s.extract (i + 2) (i + bt s (i + 1)), i + 2⟩ :: l) := by
  conv => lhs; rw [optsL]
  rw [dif_neg (by omega), if_neg h1, dif_neg h2]
/-- What List answers. -/
def optsV (s : ByteArray) : List Opx := (optsL s 0).getD []
def optsE (s : ByteArray) : Int := if (optsL s 0).isSome then 0 else 3
theorem opts_none {s : ByteArray} (h : optsL s 0 = none) : optsV s = [] ∧ optsE s = 3 := by unfold optsV optsE; rw [h]; exact ⟨rfl, rfl⟩
theorem opts_some {s : ByteArray} {l : List Opx} (h : optsL s 0 = some l) : optsV s = l ∧ optsE s = 0 := by unfold optsV optsE; rw [h]; exact ⟨rfl, rfl⟩
/-- The stamp among options. -/
def stampO (o : Opx) : Int × Int × Int := if o.da.size = 8 then ((seg o.da 0 4 : Nat), (seg o.da 4 4 : Nat), (o.pl : Nat)) else (0, 0, -1)
def stampL : List Opx → Int × Int × Int
  | [] => (0, 0, -1)
  | o :: l => if o.kd = 8 then stampO o else stampL l
def stampS (s : ByteArray) : Int × Int × Int := stampL (optsV s)
theorem stampL_drop {l : List Opx} {k : Nat} (h : ∀ (j : Nat) (hj : j < l.length), j < k → (l[j]).kd ≠ 8) : stampL l = stampL (l.drop k) := by
  induction k generalizing l with
  | zero => rfl
  | succ k ih =>
    match l with
    | [] => simp
    | o :: l =>
      have h0 : o.kd ≠ 8 := h 0 (by simp) (by omega)
      show (if o.kd = 8 then _ else stampL l) = stampL (l.drop k)
      rw [if_neg h0]
      exact ih (fun j hj hk => h (j + 1) (by simp; omega) (by omega))
theorem stampL_at {l : List Opx} {k : Nat} (hk : k < l.length) (h : ∀ (j : Nat) (hj : j < l.length), j < k → (l[j]).kd ≠ 8) : stampL l = if (l[k]).kd = 8 then stampO l[k] else stampL (l.drop (k + 1)) := by
  rw [stampL_drop h, List.drop_eq_getElem_cons hk]
  rfl
theorem stampL_none {l : List Opx} (h : ∀ (j : Nat) (hj : j < l.length), (l[j]).kd ≠ 8) : stampL l = (0, 0, -1) := by
  rw [stampL_drop (k := l.length) (fun j hj _ => h j hj), List.drop_length]
  rfl
/-- A stamp's bytes. -/
def stampB (v e : Int) : List UInt8 := [1, 1, 8, 10] ++ numL v 4 ++ numL e 4

/-- A head. -/
structure T7 where
  sp : Int
  dp : Int
  sq : Int
  ak : Int
  fl : Int
  wn : Int
  ur : Int
  op : ByteArray
structure B7 (h : T7) : Prop where
  a0 : 0 ≤ h.sq
  a1 : h.sq < 4294967296
  b0 : 0 ≤ h.ak
  b1 : h.ak < 4294967296
def valid7 (h : T7) : Bool := inB h.sp 65535 && (inB h.dp 65535 && (inB h.fl 255 && (inB h.wn 65535 && (inB h.ur 65535 && (decide (h.op.size ≤ 40) && decide (h.op.size % 4 = 0))))))
theorem valid7_is {h : T7} (hv : valid7 h = true) : inB h.sp 65535 = true ∧ inB h.dp 65535 = true ∧ inB h.fl 255 = true ∧ inB h.wn 65535 = true ∧ inB h.ur 65535 = true ∧ h.op.size ≤ 40 ∧ h.op.size % 4 = 0 := by
  unfold valid7 at hv
  simp only [Bool.and_eq_true, decide_eq_true_eq] at hv
  exact hv
theorem valid7_false {h : T7} (hv : valid7 h = false) :
    inB h.sp 65535 = false ∨ (inB h.sp 65535 = true ∧ inB h.dp 65535 = false) ∨ (inB h.sp 65535 = true ∧ inB h.dp 65535 = true ∧ inB h.fl 255 = false) ∨ (inB h.sp 65535 = true ∧ inB h.dp 65535 = true ∧ inB h.fl 255 = true ∧ inB h.wn 65535 = false) ∨
    (inB h.sp 65535 = true ∧ inB h.dp 65535 = true ∧ inB h.fl 255 = true ∧ inB h.wn 65535 = true ∧ inB h.ur 65535 = false) ∨
    (inB h.sp 65535 = true ∧ inB h.dp 65535 = true ∧ inB h.fl 255 = true ∧ inB h.wn 65535 = true ∧ inB h.ur 65535 = true ∧ ¬ h.op.size ≤ 40) ∨
    (inB h.sp 65535 = true ∧ inB h.dp 65535 = true ∧ inB h.fl 255 = true ∧ inB h.wn 65535 = true ∧ inB h.ur 65535 = true ∧ h.op.size ≤ 40 ∧ ¬ h.op.size % 4 = 0) := by
  unfold valid7 at hv
  cases c1 : inB h.sp 65535 <;> cases c2 : inB h.dp 65535 <;> cases c3 : inB h.fl 255 <;> cases c4 : inB h.wn 65535 <;> cases c5 : inB h.ur 65535 <;> simp [c1, c2, c3, c4, c5] at hv ⊢ <;> omega
/-- The bytes of a head with a check; .. and its payload. -/
def head7 (h : T7) (c : Int) : List UInt8 := numL h.sp 2 ++ numL h.dp 2 ++ numL h.sq 4 ++ numL h.ak 4 ++ numL (4 * (20 + (h.op.size : Int))) 1 ++ numL h.fl 1 ++ numL h.wn 2 ++ numL c 2 ++ numL h.ur 2 ++ h.op.data.toList
def body7 (h : T7) (p : ByteArray) : List UInt8 := head7 h 0 ++ p.data.toList
def err7 (h : T7) (P : List UInt8) (p : ByteArray) : Int := if valid7 h = true ∧ P ≠ [] then (if 65535 < 20 + h.op.size + p.size then 5 else 0) else 1
def ck7 (h : T7) (P : List UInt8) (p : ByteArray) : Nat := 65535 - sumL (P ++ body7 h p)
def out7 (h : T7) (P : List UInt8) (p : ByteArray) : ByteArray := if err7 h P p = 0 then ⟨(setL ⟨(body7 h p).toArray⟩ 16 2 (ck7 h P p)).toArray⟩ else ⟨#[]⟩
theorem err7_ok {h : T7} {P : List UInt8} {p : ByteArray} (he : err7 h P p = 0) : valid7 h = true ∧ P ≠ [] ∧ 20 + h.op.size + p.size ≤ 65535 := by
  unfold err7 at he
  split at he
  · split at he
    · omega
    · rename_i hv hl; exact ⟨hv.1, hv.2, by omega⟩
  · omega
theorem err7_is {h : T7} {P : List UInt8} {p : ByteArray} (hv : valid7 h = true) (hP : P ≠ []) (hl : 20 + h.op.size + p.size ≤ 65535) : err7 h P p = 0 := by
  unfold err7; rw [if_pos ⟨hv, hP⟩, if_neg (by omega)]
theorem err7_cases (h : T7) (P : List UInt8) (p : ByteArray) : ((valid7 h = false ∨ P = []) ∧ err7 h P p = 1) ∨ (valid7 h = true ∧ P ≠ [] ∧ 65535 < 20 + h.op.size + p.size ∧ err7 h P p = 5) ∨ (valid7 h = true ∧ P ≠ [] ∧ 20 + h.op.size + p.size ≤ 65535 ∧ err7 h P p = 0) := by
  cases hv : valid7 h with
  | false => exact .inl ⟨.inl rfl, by unfold err7; rw [if_neg (by simp [hv])]⟩
  | true =>
    by_cases hP : P = []
    · exact .inl ⟨.inr hP, by unfold err7; rw [if_neg (by simp [hP])]⟩
    · by_cases hl : 65535 < 20 + h.op.size + p.size
      · exact .inr (.inl ⟨rfl, hP, hl, by unfold err7; rw [if_pos ⟨hv, hP⟩, if_pos hl]⟩)
      · exact .inr (.inr ⟨rfl, hP, by omega, err7_is hv hP (by omega)⟩)
theorem head7_len (h : T7) (c : Int) : (head7 h c).length = 20 + h.op.size := by
  unfold head7
  simp only [List.length_append, numL_len _ 4 (by omega) (by omega), numL_len _ 1 (by omega) (by omega), numL_len _ 2 (by omega) (by omega), ← size_list]
  omega
theorem body7_len (h : T7) (p : ByteArray) : (body7 h p).length = 20 + h.op.size + p.size := by
  unfold body7; rw [List.length_append, head7_len, ← size_list]

/-- What bytes say. -/
def szG (s : ByteArray) : Nat := 4 * (bt s 12 / 16)
def zero7 : T7 := ⟨0, 0, 0, 0, 0, 0, 0, ⟨#[]⟩⟩
def raw7 (s : ByteArray) : T7 := ⟨wt s 0, wt s 2, seg s 4 4, seg s 8 4, bt s 13, wt s 14, wt s 18, s.extract 20 (szG s)⟩
def errG7 (s : ByteArray) (P : List UInt8) : Int :=
  if s.size < 20 then 2 else if szG s < 20 ∨ bt s 12 % 16 ≠ 0 then 3 else if s.size < szG s then 2 else if P = [] then 1 else if sumL (P ++ s.data.toList) ≠ 65535 then 4 else if optsL (s.extract 20 (szG s)) 0 = none then 3 else 0
def headG7 (s : ByteArray) (P : List UInt8) : T7 := if errG7 s P = 0 then raw7 s else zero7
def payG7 (s : ByteArray) (P : List UInt8) : ByteArray := if errG7 s P = 0 then s.extract (szG s) s.size else ⟨#[]⟩
theorem errG7_ok {s : ByteArray} {P : List UInt8} (h : errG7 s P = 0) : 20 ≤ s.size ∧ 20 ≤ szG s ∧ bt s 12 % 16 = 0 ∧ szG s ≤ s.size ∧ P ≠ [] ∧ sumL (P ++ s.data.toList) = 65535 ∧ optsL (s.extract 20 (szG s)) 0 ≠ none := by
  unfold errG7 at h
  split at h
  · omega
  · split at h
    · omega
    · split at h
      · omega
      · split at h
        · omega
        · split at h
          · omega
          · split at h
            · omega
            · rename_i h1 h2 h3 h4 h5 h6
              exact ⟨by omega, by omega, by omega, by omega, h4, Decidable.not_not.1 h5, h6⟩
theorem errG7_is {s : ByteArray} {P : List UInt8} (h1 : 20 ≤ s.size) (h2 : 20 ≤ szG s) (h3 : bt s 12 % 16 = 0) (h4 : szG s ≤ s.size) (h5 : P ≠ []) (h6 : sumL (P ++ s.data.toList) = 65535) (h7 : optsL (s.extract 20 (szG s)) 0 ≠ none) : errG7 s P = 0 := by
  unfold errG7
  rw [if_neg (by omega), if_neg (by omega), if_neg (by omega), if_neg h5, if_neg (by omega), if_neg h7]
theorem headG7_no {s : ByteArray} {P : List UInt8} {e : Int} (h : errG7 s P = e) (he : e ≠ 0) : headG7 s P = zero7 ∧ payG7 s P = ⟨#[]⟩ := by
  unfold headG7 payG7
  rw [h, if_neg he, if_neg he]
  exact ⟨rfl, rfl⟩

/-- The numbers of a valid head. -/
theorem head7_is (h : T7) (c : Nat) (hv : valid7 h = true) (hb : B7 h) (hc : c ≤ 65535) :
    ∃ x y q a f w u : Nat, h.sp = x ∧ h.dp = y ∧ h.sq = q ∧ h.ak = a ∧ h.fl = f ∧ h.wn = w ∧ h.ur = u ∧ x < 256 ^ 2 ∧ y < 256 ^ 2 ∧ q < 256 ^ 4 ∧ a < 256 ^ 4 ∧ f < 256 ^ 1 ∧ w < 256 ^ 2 ∧ u < 256 ^ 2 ∧
    head7 h c = bigB 2 x ++ bigB 2 y ++ bigB 4 q ++ bigB 4 a ++ bigB 1 (4 * (20 + h.op.size)) ++ bigB 1 f ++ bigB 2 w ++ bigB 2 c ++ bigB 2 u ++ h.op.data.toList := by
  obtain ⟨v1, v2, v3, v4, v5, v6, v7⟩ := valid7_is hv
  have b1 := inB_is v1
  have b2 := inB_is v2
  have b3 := inB_is v3
  have b4 := inB_is v4
  have b5 := inB_is v5
  have h4 : (256 : Nat) ^ 4 = 4294967296 := by decide
  have h2 : (256 : Nat) ^ 2 = 65536 := by decide
  have h1 : (256 : Nat) ^ 1 = 256 := by decide
  obtain ⟨q0, q1, a0, a1⟩ := hb
  refine ⟨h.sp.toNat, h.dp.toNat, h.sq.toNat, h.ak.toNat, h.fl.toNat, h.wn.toNat, h.ur.toNat, by omega, by omega, by omega, by omega, by omega, by omega, by omega, by omega, by omega, by omega, by omega, by omega, by omega, by omega, ?_⟩
  have e1 := numL_big h.sp.toNat 2 (by omega) (by omega) (by omega)
  have e2 := numL_big h.dp.toNat 2 (by omega) (by omega) (by omega)
  have e3 := numL_big h.sq.toNat 4 (by omega) (by omega) (by omega)
  have e4 := numL_big h.ak.toNat 4 (by omega) (by omega) (by omega)
  have e5 := numL_big (4 * (20 + h.op.size)) 1 (by omega) (by omega) (by omega)
  have e6 := numL_big h.fl.toNat 1 (by omega) (by omega) (by omega)
  have e7 := numL_big h.wn.toNat 2 (by omega) (by omega) (by omega)
  have e8 := numL_big c 2 (by omega) (by omega) (by omega)
  have e9 := numL_big h.ur.toNat 2 (by omega) (by omega) (by omega)
  rw [show ((h.sp.toNat : Nat) : Int) = h.sp by omega, show ((2 : Nat) : Int) = 2 from rfl] at e1
  rw [show ((h.dp.toNat : Nat) : Int) = h.dp by omega, show ((2 : Nat) : Int) = 2 from rfl] at e2
  rw [show ((h.sq.toNat : Nat) : Int) = h.sq by omega, show ((4 : Nat) : Int) = 4 from rfl] at e3
  rw [show ((h.ak.toNat : Nat) : Int) = h.ak by omega, show ((4 : Nat) : Int) = 4 from rfl] at e4
  rw [show ((4 * (20 + h.op.size) : Nat) : Int) = 4 * (20 + (h.op.size : Int)) by omega, show ((1 : Nat) : Int) = 1 from rfl] at e5
  rw [show ((h.fl.toNat : Nat) : Int) = h.fl by omega, show ((1 : Nat) : Int) = 1 from rfl] at e6
  rw [show ((h.wn.toNat : Nat) : Int) = h.wn by omega, show ((2 : Nat) : Int) = 2 from rfl] at e7
  rw [show ((2 : Nat) : Int) = 2 from rfl] at e8
  rw [show ((h.ur.toNat : Nat) : Int) = h.ur by omega, show ((2 : Nat) : Int) = 2 from rfl] at e9
  unfold head7
  rw [e1, e2, e3, e4, e5, e6, e7, e8, e9]
/-- Nine numbers' bytes, read again. -/
theorem read9 {s : ByteArray} {x y q a z f w c u : Nat} {r : List UInt8} (h : s.data.toList = bigB 2 x ++ bigB 2 y ++ bigB 4 q ++ bigB 4 a ++ bigB 1 z ++ bigB 1 f ++ bigB 2 w ++ bigB 2 c ++ bigB 2 u ++ r) (hx : x < 256 ^ 2) (hy : y < 256 ^ 2) (hq : q < 256 ^ 4) (ha : a < 256 ^ 4) (hz : z < 256 ^ 1) (hf : f < 256 ^ 1) (hw : w < 256 ^ 2) (hc : c < 256 ^ 2) (hu : u < 256 ^ 2) :
    s.size = 20 + r.length ∧ wt s 0 = x ∧ wt s 2 = y ∧ seg s 4 4 = q ∧ seg s 8 4 = a ∧ bt s 12 = z ∧ bt s 13 = f ∧ wt s 14 = w ∧ wt s 16 = c ∧ wt s 18 = u := by
  have hs : s.size = 20 + r.length := by rw [size_list, h]; simp only [List.length_append, bigB_length]
  refine ⟨hs, ?_, ?_, ?_, ?_, ?_, ?_, ?_, ?_, ?_⟩
  · rw [← wt_num s 0 (by omega), h]
    have := mid_num [] (bigB 2 y ++ bigB 4 q ++ bigB 4 a ++ bigB 1 z ++ bigB 1 f ++ bigB 2 w ++ bigB 2 c ++ bigB 2 u ++ r) (i := 0) (k := 2) (n := x) rfl hx
    simpa only [List.append_assoc, List.nil_append] using this
  · rw [← wt_num s 2 (by omega), h]
    have := mid_num (bigB 2 x) (bigB 4 q ++ bigB 4 a ++ bigB 1 z ++ bigB 1 f ++ bigB 2 w ++ bigB 2 c ++ bigB 2 u ++ r) (i := 2) (k := 2) (n := y) (bigB_length _ _) hy
    simpa only [List.append_assoc, List.nil_append] using this
  · unfold seg
    rw [h]
    have := mid_num (bigB 2 x ++ bigB 2 y) (bigB 4 a ++ bigB 1 z ++ bigB 1 f ++ bigB 2 w ++ bigB 2 c ++ bigB 2 u ++ r) (i := 4) (k := 4) (n := q) (by simp only [List.length_append, bigB_length]) hq
    simpa only [List.append_assoc, List.nil_append] using this
  · unfold seg
    rw [h]
    have := mid_num (bigB 2 x ++ bigB 2 y ++ bigB 4 q) (bigB 1 z ++ bigB 1 f ++ bigB 2 w ++ bigB 2 c ++ bigB 2 u ++ r) (i := 8) (k := 4) (n := a) (by simp only [List.length_append, bigB_length]) ha
    simpa only [List.append_assoc, List.nil_append] using this
  · rw [← bt_num s 12 (by omega), h]
    have := mid_num (bigB 2 x ++ bigB 2 y ++ bigB 4 q ++ bigB 4 a) (bigB 1 f ++ bigB 2 w ++ bigB 2 c ++ bigB 2 u ++ r) (i := 12) (k := 1) (n := z) (by simp only [List.length_append, bigB_length]) hz
    simpa only [List.append_assoc, List.nil_append] using this
  · rw [← bt_num s 13 (by omega), h]
    have := mid_num (bigB 2 x ++ bigB 2 y ++ bigB 4 q ++ bigB 4 a ++ bigB 1 z) (bigB 2 w ++ bigB 2 c ++ bigB 2 u ++ r) (i := 13) (k := 1) (n := f) (by simp only [List.length_append, bigB_length]) hf
    simpa only [List.append_assoc, List.nil_append] using this
  · rw [← wt_num s 14 (by omega), h]
    have := mid_num (bigB 2 x ++ bigB 2 y ++ bigB 4 q ++ bigB 4 a ++ bigB 1 z ++ bigB 1 f) (bigB 2 c ++ bigB 2 u ++ r) (i := 14) (k := 2) (n := w) (by simp only [List.length_append, bigB_length]) hw
    simpa only [List.append_assoc, List.nil_append] using this
  · rw [← wt_num s 16 (by omega), h]
    have := mid_num (bigB 2 x ++ bigB 2 y ++ bigB 4 q ++ bigB 4 a ++ bigB 1 z ++ bigB 1 f ++ bigB 2 w) (bigB 2 u ++ r) (i := 16) (k := 2) (n := c) (by simp only [List.length_append, bigB_length]) hc
    simpa only [List.append_assoc, List.nil_append] using this
  · rw [← wt_num s 18 (by omega), h]
    have := mid_num (bigB 2 x ++ bigB 2 y ++ bigB 4 q ++ bigB 4 a ++ bigB 1 z ++ bigB 1 f ++ bigB 2 w ++ bigB 2 c) r (i := 18) (k := 2) (n := u) (by simp only [List.length_append, bigB_length]) hu
    simpa only [List.append_assoc, List.nil_append] using this
/-- What Put answers, number by number; its sum. -/
theorem out7_is {h : T7} {P : List UInt8} {p : ByteArray} (he : err7 h P p = 0) (hb : B7 h) (hP : P.length % 2 = 0) :
    ∃ x y q a f w u c : Nat, h.sp = x ∧ h.dp = y ∧ h.sq = q ∧ h.ak = a ∧ h.fl = f ∧ h.wn = w ∧ h.ur = u ∧ x < 256 ^ 2 ∧ y < 256 ^ 2 ∧ q < 256 ^ 4 ∧ a < 256 ^ 4 ∧ f < 256 ^ 1 ∧ w < 256 ^ 2 ∧ u < 256 ^ 2 ∧ c < 256 ^ 2 ∧ c = ck7 h P p ∧
    sumL (P ++ (out7 h P p).data.toList) = 65535 ∧
    P ++ body7 h p = (P ++ (bigB 2 x ++ bigB 2 y ++ bigB 4 q ++ bigB 4 a ++ bigB 1 (4 * (20 + h.op.size)) ++ bigB 1 f ++ bigB 2 w)) ++ bigB 2 0 ++ (bigB 2 u ++ (h.op.data.toList ++ p.data.toList)) ∧
    (out7 h P p).data.toList = (bigB 2 x ++ bigB 2 y ++ bigB 4 q ++ bigB 4 a ++ bigB 1 (4 * (20 + h.op.size)) ++ bigB 1 f ++ bigB 2 w ++ bigB 2 c ++ bigB 2 u) ++ (h.op.data.toList ++ p.data.toList) := by
  obtain ⟨hv, hPn, hl⟩ := err7_ok he
  obtain ⟨x, y, q, a, f, w, u, ex, ey, eq, ea, ef, ew, eu, hx, hy, hq, ha, hf, hw, hu, hh⟩ := head7_is h 0 hv hb (by omega)
  have hcl : ck7 h P p ≤ 65535 := Nat.sub_le _ _
  have h2 : (256 : Nat) ^ 2 = 65536 := by decide
  have hB : body7 h p = (bigB 2 x ++ bigB 2 y ++ bigB 4 q ++ bigB 4 a ++ bigB 1 (4 * (20 + h.op.size)) ++ bigB 1 f ++ bigB 2 w) ++ bigB 2 0 ++ (bigB 2 u ++ (h.op.data.toList ++ p.data.toList)) := by
    unfold body7
    rw [show ((0 : Nat) : Int) = 0 from rfl] at hh
    rw [hh]
    simp only [List.append_assoc]
  have hA : (bigB 2 x ++ bigB 2 y ++ bigB 4 q ++ bigB 4 a ++ bigB 1 (4 * (20 + h.op.size)) ++ bigB 1 f ++ bigB 2 w).length = 16 := by simp only [List.length_append, bigB_length]
  obtain ⟨A, hAe⟩ : ∃ A, A = bigB 2 x ++ bigB 2 y ++ bigB 4 q ++ bigB 4 a ++ bigB 1 (4 * (20 + h.op.size)) ++ bigB 1 f ++ bigB 2 w := ⟨_, rfl⟩
  obtain ⟨B, hBe⟩ : ∃ B, B = bigB 2 u ++ (h.op.data.toList ++ p.data.toList) := ⟨_, rfl⟩
  rw [← hAe, ← hBe] at hB
  rw [← hAe] at hA
  have hO : (out7 h P p).data.toList = A ++ bigB 2 (ck7 h P p) ++ B := by
    have : out7 h P p = ⟨(setL ⟨(body7 h p).toArray⟩ 16 2 (ck7 h P p)).toArray⟩ := if_pos he
    have hm := setL_mid A B 16 (ck7 h P p) hA (by omega)
    rw [show ((16 : Nat) : Int) = 16 from rfl, ← hB] at hm
    rw [this, ← hm]
  have hPB : P ++ body7 h p = (P ++ A) ++ bigB 2 0 ++ B := by
    rw [hB]; simp only [List.append_assoc]
  have hS : sumL (P ++ (out7 h P p).data.toList) = 65535 := by
    rw [hO, show P ++ (A ++ bigB 2 (ck7 h P p) ++ B) = (P ++ A) ++ bigB 2 (ck7 h P p) ++ B by simp only [List.append_assoc]]
    refine check_sum _ _ _ (by rw [List.length_append, hA]; omega) ?_ (by rw [← hPB]; rfl)
    obtain ⟨v1, v2, v3, v4, v5, v6, v7⟩ := valid7_is hv
    have e1 : bigB 1 (4 * (20 + h.op.size)) = [UInt8.ofNat (4 * (20 + h.op.size) % 256)] := rfl
    refine tw_pos (b := UInt8.ofNat (4 * (20 + h.op.size) % 256)) ?_ (by rw [UInt8.toNat_ofNat']; omega)
    rw [hAe, e1]
    simp
  refine ⟨x, y, q, a, f, w, u, ck7 h P p, ex, ey, eq, ea, ef, ew, eu, hx, hy, hq, ha, hf, hw, hu, by omega, rfl, hS, ?_, ?_⟩
  · rw [hPB, hAe, hBe]
  · rw [hO, hAe, hBe]
    simp only [List.append_assoc]
end Go.Proofs.Ytbnhneompibilaa
