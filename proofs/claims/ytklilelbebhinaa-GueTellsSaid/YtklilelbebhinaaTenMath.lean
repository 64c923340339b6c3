/- Plain numbers and bytes for the layer gue: covers, their bytes, what bytes say, there and back, a bit that is turned. No program. -/
import Derived.Test.YtklilelbebhinaaSumMath
namespace Go.Proofs.Ytklilelbebhinaa
open Go.RowKit
set_option linter.unusedVariables false

/-- A cover. -/
structure CV where
  v6 : Bool
  bk : Int
  ck : Int
  fi : Bool
  ins : Int
structure BC (c : CV) : Prop where
  a0 : 0 ≤ c.ck
  a1 : c.ck < 18446744073709551616
def kindC (c : CV) : Nat := if c.v6 then 41 else 4
def firstC (c : CV) : Nat := if c.fi then 1 else 0
def okC (c : CV) : Bool := inB c.bk 65535 && inB c.ins 255
def headC (c : CV) : List UInt8 := [71, 85, 1] ++ numL (kindC c : Int) 1 ++ numL c.bk 2 ++ numL (firstC c : Int) 1 ++ numL c.ins 1
def cover10 (c : CV) : List UInt8 := headC c ++ [0, 0] ++ numL c.ck 8
def err10 (c : CV) (p : ByteArray) : Int := if okC c then (if 9000 < p.size then 5 else 0) else 1
def ck10 (c : CV) : Nat := 65535 - sumL (cover10 c)
def out10 (c : CV) (p : ByteArray) : ByteArray := if err10 c p = 0 then ⟨(setL ⟨(cover10 c).toArray⟩ 8 2 (ck10 c)).toArray⟩ ++ p else ⟨#[]⟩
theorem err10_cases (c : CV) (p : ByteArray) : (okC c = false ∧ err10 c p = 1) ∨ (okC c = true ∧ 9000 < p.size ∧ err10 c p = 5) ∨ (okC c = true ∧ p.size ≤ 9000 ∧ err10 c p = 0) := by
  unfold err10
  cases h : okC c with
  | false => exact .inl ⟨rfl, rfl⟩
  | true =>
    by_cases hl : 9000 < p.size
    · exact .inr (.inl ⟨rfl, hl, by simp [hl]⟩)
    · exact .inr (.inr ⟨rfl, by omega, by simp [hl]⟩)
theorem headC_len (c : CV) : (headC c).length = 8 := by
  unfold headC
  simp only [List.length_append, numL_len _ 1 (by omega) (by omega), numL_len _ 2 (by omega) (by omega)]
  rfl
theorem cover10_len (c : CV) : (cover10 c).length = 18 := by
  unfold cover10
  simp only [List.length_append, headC_len, numL_len _ 8 (by omega) (by omega)]
  rfl

/-- What bytes say. -/
def form10 (s : ByteArray) : Bool := decide (bt s 0 = 71 ∧ bt s 1 = 85 ∧ bt s 2 = 1) && (decide (bt s 3 = 4 ∨ bt s 3 = 41) && decide (bt s 6 ≤ 1))
def errG10 (s : ByteArray) : Int := if s.size < 18 then 2 else if form10 s = false then 3 else if 9018 < s.size then 5 else if sumL (s.data.toList.take 18) ≠ 65535 then 4 else 0
def zeroC : CV := ⟨false, 0, 0, false, 0⟩
def rawC (s : ByteArray) : CV := ⟨decide (bt s 3 = 41), (wt s 4 : Nat), (seg s 10 8 : Nat), decide (bt s 6 = 1), (bt s 7 : Nat)⟩
def coverG (s : ByteArray) : CV := if errG10 s = 0 then rawC s else zeroC
def payG10 (s : ByteArray) : ByteArray := if errG10 s = 0 then s.extract 18 s.size else ⟨#[]⟩
theorem coverG_no {s : ByteArray} (h : errG10 s ≠ 0) : coverG s = zeroC ∧ payG10 s = ⟨#[]⟩ := ⟨if_neg h, if_neg h⟩
theorem errG10_ok {s : ByteArray} (h : errG10 s = 0) : 18 ≤ s.size ∧ form10 s = true ∧ s.size ≤ 9018 ∧ sumL (s.data.toList.take 18) = 65535 := by
  unfold errG10 at h
  split at h
  · omega
  · split at h
    · omega
    · split at h
      · omega
      · split at h
        · omega
        · rename_i h1 h2 h3 h4
          exact ⟨by omega, by simpa using h2, by omega, Decidable.not_not.1 h4⟩
theorem errG10_is {s : ByteArray} (h1 : 18 ≤ s.size) (h2 : form10 s = true) (h3 : s.size ≤ 9018) (h4 : sumL (s.data.toList.take 18) = 65535) : errG10 s = 0 := by
  unfold errG10
  rw [if_neg (by omega), if_neg (by simp [h2]), if_neg (by omega), if_neg (by omega)]
theorem bt_midT (a b : List UInt8) {s : ByteArray} {i x : Nat} (hs : s.data.toList = a ++ bigB 1 x ++ b) (ha : a.length = i) (hx : x < 256) : bt s i = x := by
  rw [← bt_num s i (by rw [size_list, hs]; simp [bigB_length]; omega), hs]
  exact mid_num a b ha (by omega)

/-- There and back. -/
theorem out10_is {c : CV} {p : ByteArray} (he : err10 c p = 0) (hb : BC c) :
    ∃ x y k n : Nat, c.bk = x ∧ c.ins = y ∧ c.ck = k ∧ x < 65536 ∧ y < 256 ∧ k < 256 ^ 8 ∧ n < 65536 ∧ p.size ≤ 9000 ∧
    (out10 c p).data.toList = [71, 85, 1] ++ bigB 1 (kindC c) ++ bigB 2 x ++ bigB 1 (firstC c) ++ bigB 1 y ++ bigB 2 n ++ bigB 8 k ++ p.data.toList ∧
    sumL ([71, 85, 1] ++ bigB 1 (kindC c) ++ bigB 2 x ++ bigB 1 (firstC c) ++ bigB 1 y ++ bigB 2 n ++ bigB 8 k) = 65535 := by
  rcases err10_cases c p with ⟨_, h⟩ | ⟨_, _, h⟩ | ⟨ho, hl, _⟩
  · omega
  · omega
  unfold okC at ho
  rw [Bool.and_eq_true] at ho
  have b1 := inB_is ho.1
  have b2 := inB_is ho.2
  obtain ⟨k0, k1⟩ := hb
  have h8 : (256 : Nat) ^ 8 = 18446744073709551616 := by decide
  have hkk : kindC c < 256 := by unfold kindC; split <;> omega
  have hff : firstC c < 256 := by unfold firstC; split <;> omega
  obtain ⟨x, ex⟩ : ∃ x : Nat, c.bk = x := ⟨c.bk.toNat, by omega⟩
  obtain ⟨y, ey⟩ : ∃ y : Nat, c.ins = y := ⟨c.ins.toNat, by omega⟩
  obtain ⟨k, ek⟩ : ∃ k : Nat, c.ck = k := ⟨c.ck.toNat, by omega⟩
  have e1 := numL_big (kindC c) 1 (by omega) (by omega) (by omega)
  have e2 := numL_big x 2 (by omega) (by omega) (by omega)
  have e3 := numL_big (firstC c) 1 (by omega) (by omega) (by omega)
  have e4 := numL_big y 1 (by omega) (by omega) (by omega)
  have e5 := numL_big k 8 (by omega) (by omega) (by omega)
  rw [show ((1 : Nat) : Int) = 1 from rfl] at e1 e3 e4
  rw [show ((2 : Nat) : Int) = 2 from rfl] at e2
  rw [show ((8 : Nat) : Int) = 8 from rfl] at e5
  obtain ⟨A, hA⟩ : ∃ A, A = [71, 85, 1] ++ bigB 1 (kindC c) ++ bigB 2 x ++ bigB 1 (firstC c) ++ bigB 1 y := ⟨_, rfl⟩
  have hH : headC c = A := by unfold headC; rw [ex, ey, e1, e2, e3, e4, hA]
  have hA8 : A.length = 8 := by rw [← hH]; exact headC_len c
  have hB : cover10 c = A ++ bigB 2 0 ++ bigB 8 k := by unfold cover10; rw [hH, ek, e5]; rfl
  have hcl : ck10 c ≤ 65535 := Nat.sub_le _ _
  have hm := setL_mid A (bigB 8 k) 8 (ck10 c) hA8 (by omega)
  rw [show ((8 : Nat) : Int) = 8 from rfl, ← hB] at hm
  have hx0 : tw (A ++ bigB 2 0 ++ bigB 8 k) ≠ 0 := by
    refine tw_pos (b := 71) ?_ (by decide)
    rw [hA]; simp
  have hS : sumL (A ++ bigB 2 (ck10 c) ++ bigB 8 k) = 65535 := check_sum A (bigB 8 k) (ck10 c) (by omega) hx0 (by rw [← hB]; rfl)
  refine ⟨x, y, k, ck10 c, ex, ey, ek, by omega, by omega, by omega, by omega, hl, ?_, ?_⟩
  · have h3 : out10 c p = ⟨(setL ⟨(cover10 c).toArray⟩ 8 2 (ck10 c)).toArray⟩ ++ p := if_pos he
    rw [h3, app_str, hm, hA]
  · rw [hA] at hS; exact hS
theorem kindC_is (c : CV) : (kindC c = 4 ∨ kindC c = 41) ∧ decide (kindC c = 41) = c.v6 := by unfold kindC; cases c.v6 <;> decide
theorem firstC_is (c : CV) : firstC c ≤ 1 ∧ decide (firstC c = 1) = c.fi := by unfold firstC; cases c.fi <;> decide
theorem back10 {c : CV} {p : ByteArray} (he : err10 c p = 0) (hb : BC c) : (out10 c p).size = 18 + p.size ∧ p.size ≤ 9000 ∧ sumL ((out10 c p).data.toList.take 18) = 65535 ∧ errG10 (out10 c p) = 0 ∧ coverG (out10 c p) = c ∧ payG10 (out10 c p) = p := by
  obtain ⟨x, y, k, n, ex, ey, ek, hx, hy, hk, hn, hl, hO, hS⟩ := out10_is he hb
  obtain ⟨k1, k2⟩ := kindC_is c
  obtain ⟨f1, f2⟩ := firstC_is c
  have h8 : (256 : Nat) ^ 8 = 18446744073709551616 := by decide
  generalize out10 c p = s at *
  have hsz : s.size = 18 + p.size := by rw [size_list, hO]; simp only [List.length_append, bigB_length]; rw [← size_list]; simp
  have hT : s.data.toList.take 18 = [71, 85, 1] ++ bigB 1 (kindC c) ++ bigB 2 x ++ bigB 1 (firstC c) ++ bigB 1 y ++ bigB 2 n ++ bigB 8 k := by
    rw [hO, List.take_append_of_le_length (by simp only [List.length_append, bigB_length]; simp), List.take_of_length_le (by simp only [List.length_append, bigB_length]; simp)]
  have g0 : bt s 0 = 71 := by unfold bt; rw [hO]; rfl
  have g1 : bt s 1 = 85 := by unfold bt; rw [hO]; rfl
  have g2 : bt s 2 = 1 := by unfold bt; rw [hO]; rfl
  have g3 : bt s 3 = kindC c := bt_midT [71, 85, 1] (bigB 2 x ++ bigB 1 (firstC c) ++ bigB 1 y ++ bigB 2 n ++ bigB 8 k ++ p.data.toList) (by rw [hO]; simp only [List.append_assoc]) rfl (by omega)
  have g4 : wt s 4 = x := by
    rw [← wt_num s 4 (by omega), hO]
    have := mid_num ([71, 85, 1] ++ bigB 1 (kindC c)) (bigB 1 (firstC c) ++ bigB 1 y ++ bigB 2 n ++ bigB 8 k ++ p.data.toList) (i := 4) (k := 2) (n := x) rfl (by omega)
    simpa only [List.append_assoc] using this
  have g6 : bt s 6 = firstC c := bt_midT ([71, 85, 1] ++ bigB 1 (kindC c) ++ bigB 2 x) (bigB 1 y ++ bigB 2 n ++ bigB 8 k ++ p.data.toList) (by rw [hO]; simp only [List.append_assoc]) rfl (by omega)
  have g7 : bt s 7 = y := bt_midT ([71, 85, 1] ++ bigB 1 (kindC c) ++ bigB 2 x ++ bigB 1 (firstC c)) (bigB 2 n ++ bigB 8 k ++ p.data.toList) (by rw [hO]; simp only [List.append_assoc]) rfl (by omega)
  have g10 : seg s 10 8 = k := by
    unfold seg
    rw [hO]
    have := mid_num ([71, 85, 1] ++ bigB 1 (kindC c) ++ bigB 2 x ++ bigB 1 (firstC c) ++ bigB 1 y ++ bigB 2 n) p.data.toList (i := 10) (k := 8) (n := k) rfl hk
    simpa only [List.append_assoc] using this
  have hf : form10 s = true := by
    unfold form10
    rw [g0, g1, g2, g3, g6]
    rcases k1 with h | h <;> simp [h, f1]
  have hG : errG10 s = 0 := errG10_is (by omega) hf (by omega) (by rw [hT]; exact hS)
  refine ⟨hsz, hl, by rw [hT]; exact hS, hG, ?_, ?_⟩
  · have h1 : coverG s = rawC s := if_pos hG
    rw [h1]
    unfold rawC
    rw [g3, g4, g6, g7, g10, k2, f2, ← ex, ← ey, ← ek]
  · have h1 : payG10 s = s.extract 18 s.size := if_pos hG
    rw [h1]
    apply ext_eq
    rw [ext_str', hsz]
    have hd : s.data.toList.drop 18 = p.data.toList := by
      rw [hO]
      exact List.drop_left' (by simp only [List.length_append, bigB_length]; simp)
    rw [hd]
    exact List.take_of_length_le (by rw [← size_list]; omega)
/-- A bit that is turned in the cover is told. -/
theorem flip10 {c : CV} {p : ByteArray} (he : err10 c p = 0) (hb : BC c) (j m : Nat) (b : UInt8) (hj : j < 18) (hm : m < 8) (hbb : b.toNat = bt (out10 c p) j ^^^ 2 ^ m) (s : ByteArray) (hS : s.data.toList = (out10 c p).data.toList.set j b) : errG10 s ≠ 0 := by
  obtain ⟨hsz, hl, hsum, _⟩ := back10 he hb
  generalize out10 c p = T at *
  intro h0
  obtain ⟨_, _, _, h1⟩ := errG10_ok h0
  rw [hS, List.take_set] at h1
  have hlen : j < (T.data.toList.take 18).length := by rw [List.length_take, ← size_list]; omega
  refine sum_turned (T.data.toList.take 18) j m b hlen hm ?_ hsum h1
  rw [hbb]
  unfold bt
  rw [List.getD_eq_getElem?_getD, List.getElem?_eq_getElem (by rw [← size_list]; omega), List.getElem_take]
  rfl
end Go.Proofs.Ytklilelbebhinaa
