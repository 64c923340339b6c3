/- Plain numbers and bytes for the layer udp: datagrams, what bytes say, there and back, a bit that is turned. No program. -/
import Derived.Test.YtkbfiikhflehaaaSumMath
import Derived.Test.YtkbfiikhflehaaaPseudoMath
namespace Go.Proofs.Ytkbfiikhflehaaa
open Go.RowKit
set_option linter.unusedVariables false

/-- The bytes of a datagram, its check 0. -/
def body8 (sp dp : Int) (p : ByteArray) : List UInt8 := numL sp 2 ++ numL dp 2 ++ numL (8 + (p.size : Int)) 2 ++ [0, 0] ++ p.data.toList
def port (n : Int) : Bool := inB n 65535
def err8 (sp dp : Int) (P : List UInt8) (p : ByteArray) : Int := if (port sp && port dp) = true ∧ P ≠ [] then (if 65535 < 8 + p.size then 5 else 0) else 1
def of8 (sp dp : Int) (P : List UInt8) (p : ByteArray) : Nat := 65535 - sumL (P ++ body8 sp dp p)
def ck8 (sp dp : Int) (P : List UInt8) (p : ByteArray) : Nat := if of8 sp dp P p = 0 then 65535 else of8 sp dp P p
def out8 (sp dp : Int) (P : List UInt8) (p : ByteArray) : ByteArray := if err8 sp dp P p = 0 then ⟨(setL ⟨(body8 sp dp p).toArray⟩ 6 2 (ck8 sp dp P p)).toArray⟩ else ⟨#[]⟩
theorem err8_ok {sp dp : Int} {P : List UInt8} {p : ByteArray} (he : err8 sp dp P p = 0) : port sp = true ∧ port dp = true ∧ P ≠ [] ∧ 8 + p.size ≤ 65535 := by
  unfold err8 at he
  split at he
  · split at he
    · omega
    · rename_i hv hl
      rw [Bool.and_eq_true] at hv
      exact ⟨hv.1.1, hv.1.2, hv.2, by omega⟩
  · omega
theorem err8_is {sp dp : Int} {P : List UInt8} {p : ByteArray} (h1 : port sp = true) (h2 : port dp = true) (hP : P ≠ []) (hl : 8 + p.size ≤ 65535) : err8 sp dp P p = 0 := by
  unfold err8; rw [h1, h2, if_pos ⟨rfl, hP⟩, if_neg (by omega)]
theorem err8_cases (sp dp : Int) (P : List UInt8) (p : ByteArray) : ((port sp = false ∨ (port sp = true ∧ port dp = false) ∨ (port sp = true ∧ port dp = true ∧ P = [])) ∧ err8 sp dp P p = 1) ∨ (port sp = true ∧ port dp = true ∧ P ≠ [] ∧ 65535 < 8 + p.size ∧ err8 sp dp P p = 5) ∨ (port sp = true ∧ port dp = true ∧ P ≠ [] ∧ 8 + p.size ≤ 65535 ∧ err8 sp dp P p = 0) := by
  cases h1 : port sp with
  | false => exact .inl ⟨.inl rfl, by unfold err8; rw [if_neg (by simp [h1])]⟩
  | true =>
    cases h2 : port dp with
    | false => exact .inl ⟨.inr (.inl ⟨rfl, rfl⟩), by unfold err8; rw [if_neg (by simp [h2])]⟩
    | true =>
      by_cases hP : P = []
      · exact .inl ⟨.inr (.inr ⟨rfl, rfl, hP⟩), by unfold err8; rw [if_neg (by simp [hP])]⟩
      · by_cases hl : 65535 < 8 + p.size
        · exact .inr (.inl ⟨rfl, rfl, hP, hl, by unfold err8; rw [h1, h2, if_pos ⟨rfl, hP⟩, if_pos hl]⟩)
        · exact .inr (.inr ⟨rfl, rfl, hP, by omega, err8_is h1 h2 hP (by omega)⟩)
theorem body8_len (sp dp : Int) (p : ByteArray) : (body8 sp dp p).length = 8 + p.size := by
  unfold body8
  simp only [List.length_append, numL_len _ 2 (by omega) (by omega), ← size_list]
  simp

/-- What bytes say; P: the pseudo header; v: are the addresses of version 6? -/
def errG8 (s : ByteArray) (P : List UInt8) (v : Bool) : Int :=
  if s.size < 8 then 2 else if wt s 4 < 8 then 3 else if s.size < wt s 4 then 2 else if P = [] then 1
  else if wt s 6 = 0 then (if v then 4 else 0) else if sumL (P ++ s.data.toList.take (wt s 4)) ≠ 65535 then 4 else 0
def spG (s : ByteArray) (P : List UInt8) (v : Bool) : Int := if errG8 s P v = 0 then (wt s 0 : Nat) else 0
def dpG (s : ByteArray) (P : List UInt8) (v : Bool) : Int := if errG8 s P v = 0 then (wt s 2 : Nat) else 0
def payG8 (s : ByteArray) (P : List UInt8) (v : Bool) : ByteArray := if errG8 s P v = 0 then s.extract 8 (wt s 4) else ⟨#[]⟩
theorem headG8_no {s : ByteArray} {P : List UInt8} {v : Bool} {e : Int} (h : errG8 s P v = e) (he : e ≠ 0) : spG s P v = 0 ∧ dpG s P v = 0 ∧ payG8 s P v = ⟨#[]⟩ := by
  unfold spG dpG payG8
  rw [h, if_neg he, if_neg he, if_neg he]
  exact ⟨rfl, rfl, rfl⟩
theorem errG8_ok {s : ByteArray} {P : List UInt8} {v : Bool} (h : errG8 s P v = 0) : 8 ≤ s.size ∧ 8 ≤ wt s 4 ∧ wt s 4 ≤ s.size ∧ P ≠ [] ∧ ((wt s 6 = 0 ∧ v = false) ∨ (wt s 6 ≠ 0 ∧ sumL (P ++ s.data.toList.take (wt s 4)) = 65535)) := by
  unfold errG8 at h
  split at h
  · omega
  · split at h
    · omega
    · split at h
      · omega
      · split at h
        · omega
        · split at h
          · split at h
            · omega
            · rename_i h1 h2 h3 h4 h5 h6
              exact ⟨by omega, by omega, by omega, h4, .inl ⟨h5, by simpa using h6⟩⟩
          · split at h
            · omega
            · rename_i h1 h2 h3 h4 h5 h6
              exact ⟨by omega, by omega, by omega, h4, .inr ⟨h5, Decidable.not_not.1 h6⟩⟩
theorem errG8_is {s : ByteArray} {P : List UInt8} {v : Bool} (h1 : 8 ≤ s.size) (h2 : 8 ≤ wt s 4) (h3 : wt s 4 ≤ s.size) (h4 : P ≠ []) (h5 : wt s 6 ≠ 0) (h6 : sumL (P ++ s.data.toList.take (wt s 4)) = 65535) : errG8 s P v = 0 := by
  unfold errG8
  rw [if_neg (by omega), if_neg (by omega), if_neg (by omega), if_neg h4, if_neg h5, if_neg (by omega)]
/-- Four words, read again. -/
theorem read4w {s : ByteArray} {x y n c : Nat} {r : List UInt8} (h : s.data.toList = bigB 2 x ++ bigB 2 y ++ bigB 2 n ++ bigB 2 c ++ r) (hx : x < 256 ^ 2) (hy : y < 256 ^ 2) (hn : n < 256 ^ 2) (hc : c < 256 ^ 2) :
    s.size = 8 + r.length ∧ wt s 0 = x ∧ wt s 2 = y ∧ wt s 4 = n ∧ wt s 6 = c := by
  have hs : s.size = 8 + r.length := by rw [size_list, h]; simp only [List.length_append, bigB_length]
  refine ⟨hs, ?_, ?_, ?_, ?_⟩
  · rw [← wt_num s 0 (by omega), h]
    have := mid_num [] (bigB 2 y ++ bigB 2 n ++ bigB 2 c ++ r) (i := 0) (k := 2) (n := x) rfl hx
    simpa only [List.append_assoc, List.nil_append] using this
  · rw [← wt_num s 2 (by omega), h]
    have := mid_num (bigB 2 x) (bigB 2 n ++ bigB 2 c ++ r) (i := 2) (k := 2) (n := y) (bigB_length _ _) hy
    simpa only [List.append_assoc, List.nil_append] using this
  · rw [← wt_num s 4 (by omega), h]
    have := mid_num (bigB 2 x ++ bigB 2 y) (bigB 2 c ++ r) (i := 4) (k := 2) (n := n) (by simp only [List.length_append, bigB_length]) hn
    simpa only [List.append_assoc, List.nil_append] using this
  · rw [← wt_num s 6 (by omega), h]
    have := mid_num (bigB 2 x ++ bigB 2 y ++ bigB 2 n) r (i := 6) (k := 2) (n := c) (by simp only [List.length_append, bigB_length]) hc
    simpa only [List.append_assoc, List.nil_append] using this
theorem out8_is {sp dp : Int} {P : List UInt8} {p : ByteArray} (he : err8 sp dp P p = 0) (hP : P.length % 2 = 0) :
    ∃ x y c : Nat, sp = x ∧ dp = y ∧ x < 256 ^ 2 ∧ y < 256 ^ 2 ∧ 0 < c ∧ c < 256 ^ 2 ∧ sumL (P ++ (out8 sp dp P p).data.toList) = 65535 ∧
    (out8 sp dp P p).data.toList = bigB 2 x ++ bigB 2 y ++ bigB 2 (8 + p.size) ++ bigB 2 c ++ p.data.toList := by
  obtain ⟨h1, h2, hPn, hl⟩ := err8_ok he
  have b1 := inB_is h1
  have b2 := inB_is h2
  have h22 : (256 : Nat) ^ 2 = 65536 := by decide
  obtain ⟨x, ex⟩ : ∃ x : Nat, sp = x := ⟨sp.toNat, by omega⟩
  obtain ⟨y, ey⟩ : ∃ y : Nat, dp = y := ⟨dp.toNat, by omega⟩
  subst ex ey
  have e1 := numL_big x 2 (by omega) (by omega) (by omega)
  have e2 := numL_big y 2 (by omega) (by omega) (by omega)
  have e3 := numL_big (8 + p.size) 2 (by omega) (by omega) (by omega)
  rw [show ((2 : Nat) : Int) = 2 from rfl] at e1 e2 e3
  rw [show ((8 + p.size : Nat) : Int) = 8 + (p.size : Int) by omega] at e3
  obtain ⟨A, hA⟩ : ∃ A, A = bigB 2 x ++ bigB 2 y ++ bigB 2 (8 + p.size) := ⟨_, rfl⟩
  have hA6 : A.length = 6 := by rw [hA]; simp only [List.length_append, bigB_length]
  have hB : body8 (x : Int) (y : Int) p = A ++ bigB 2 0 ++ p.data.toList := by
    unfold body8
    rw [e1, e2, e3, hA]; rfl
  have hck : 0 < ck8 x y P p ∧ ck8 x y P p ≤ 65535 := by
    unfold ck8
    have := Nat.sub_le 65535 (sumL (P ++ body8 x y p))
    split
    · omega
    · unfold of8 at *; omega
  have hO : (out8 x y P p).data.toList = A ++ bigB 2 (ck8 x y P p) ++ p.data.toList := by
    have h3 : out8 x y P p = ⟨(setL ⟨(body8 x y p).toArray⟩ 6 2 (ck8 x y P p)).toArray⟩ := if_pos he
    have hm := setL_mid A p.data.toList 6 (ck8 x y P p) hA6 (by omega)
    rw [show ((6 : Nat) : Int) = 6 from rfl, ← hB] at hm
    rw [h3, ← hm]
  have hPB : P ++ body8 x y p = (P ++ A) ++ bigB 2 0 ++ p.data.toList := by rw [hB]; simp only [List.append_assoc]
  have hx0 : tw ((P ++ A) ++ bigB 2 0 ++ p.data.toList) ≠ 0 := by
    have hev : (P ++ (bigB 2 x ++ bigB 2 y)).length % 2 = 0 := by simp only [List.length_append, bigB_length]; omega
    have := tw_mid (P ++ (bigB 2 x ++ bigB 2 y)) (bigB 2 0 ++ p.data.toList) (8 + p.size) hev (by omega)
    rw [show (P ++ A) ++ bigB 2 0 ++ p.data.toList = (P ++ (bigB 2 x ++ bigB 2 y)) ++ bigB 2 (8 + p.size) ++ (bigB 2 0 ++ p.data.toList) by rw [hA]; simp only [List.append_assoc], this]
    omega
  have hS : sumL (P ++ (out8 x y P p).data.toList) = 65535 := by
    rw [hO, show P ++ (A ++ bigB 2 (ck8 x y P p) ++ p.data.toList) = (P ++ A) ++ bigB 2 (ck8 x y P p) ++ p.data.toList by simp only [List.append_assoc]]
    have hev : (P ++ A).length % 2 = 0 := by rw [List.length_append, hA6]; omega
    unfold sumL
    rw [tw_mid _ _ _ hev (by omega)]
    have hof : of8 x y P p = 65535 - res (tw ((P ++ A) ++ bigB 2 0 ++ p.data.toList)) := by unfold of8 sumL; rw [hPB]
    have r1 := res_le (tw ((P ++ A) ++ bigB 2 0 ++ p.data.toList))
    have r2 := res_mod (tw ((P ++ A) ++ bigB 2 0 ++ p.data.toList))
    unfold ck8
    rw [hof]
    generalize tw ((P ++ A) ++ bigB 2 0 ++ p.data.toList) = z at *
    refine res_full ?_ ?_
    · omega
    · split <;> omega
  refine ⟨x, y, ck8 x y P p, rfl, rfl, by omega, by omega, hck.1, by omega, hS, ?_⟩
  rw [hO, hA]
/-- A datagram comes back, whatever stands behind. -/
theorem back8_ok {sp dp : Int} {P : List UInt8} {p : ByteArray} (he : err8 sp dp P p = 0) (hP : P.length % 2 = 0) (v : Bool) :
    (out8 sp dp P p).size = 8 + p.size ∧ wt (out8 sp dp P p) 4 = 8 + p.size ∧ wt (out8 sp dp P p) 6 ≠ 0 ∧ sumL (P ++ (out8 sp dp P p).data.toList) = 65535 ∧
    ∀ more : ByteArray, wt (out8 sp dp P p ++ more) 4 = 8 + p.size ∧ errG8 (out8 sp dp P p ++ more) P v = 0 ∧ spG (out8 sp dp P p ++ more) P v = sp ∧ dpG (out8 sp dp P p ++ more) P v = dp ∧ payG8 (out8 sp dp P p ++ more) P v = p := by
  obtain ⟨x, y, c, ex, ey, hx, hy, hc0, hc, hS, hL⟩ := out8_is he hP
  obtain ⟨h1, h2, hPn, hl⟩ := err8_ok he
  have h22 : (256 : Nat) ^ 2 = 65536 := by decide
  obtain ⟨z, s1, s2, s3, s4⟩ := read4w hL hx hy (by omega) hc
  rw [← size_list] at z
  refine ⟨z, s3, by omega, hS, fun more => ?_⟩
  have hM : (out8 sp dp P p ++ more).data.toList = bigB 2 x ++ bigB 2 y ++ bigB 2 (8 + p.size) ++ bigB 2 c ++ (p.data.toList ++ more.data.toList) := by
    rw [app_str, hL]; simp only [List.append_assoc]
  have hT : (out8 sp dp P p ++ more).data.toList.take (8 + p.size) = (out8 sp dp P p).data.toList := by
    rw [app_str, List.take_append_of_le_length (by rw [← size_list]; omega), List.take_of_length_le (by rw [← size_list]; omega)]
  obtain ⟨z', s1', s2', s3', s4'⟩ := read4w hM hx hy (by omega) hc
  rw [List.length_append, ← size_list, ← size_list] at z'
  generalize out8 sp dp P p ++ more = S at *
  have hG : errG8 S P v = 0 := errG8_is (by omega) (by omega) (by omega) hPn (by omega) (by rw [s3', hT]; exact hS)
  refine ⟨s3', hG, ?_, ?_, ?_⟩
  · unfold spG; rw [if_pos hG, s1', ex]
  · unfold dpG; rw [if_pos hG, s2', ey]
  · unfold payG8
    rw [if_pos hG, s3']
    apply ext_eq
    rw [ext_str', hM, ← List.append_assoc, show 8 + p.size - 8 = p.data.toList.length by rw [← size_list]; omega]
    exact mid _ _ _ (by simp only [List.length_append, bigB_length]) rfl
theorem wt_set {s t : ByteArray} {j i : Nat} {b : UInt8} (h : s.data.toList = t.data.toList.set j b) (h1 : j ≠ i) (h2 : j ≠ i + 1) : wt s i = wt t i := by
  unfold wt wd
  rw [h, List.getD_eq_getElem?_getD, List.getD_eq_getElem?_getD, List.getD_eq_getElem?_getD, List.getD_eq_getElem?_getD, List.getElem?_set_ne (by omega), List.getElem?_set_ne (by omega)]
/-- A bit that is turned in the ports or the payload is told. -/
theorem flip8_told {sp dp : Int} {P : List UInt8} {p : ByteArray} (he : err8 sp dp P p = 0) (hP : P.length % 2 = 0) (v : Bool) (j m : Nat) (b : UInt8) (hj : j < 4 ∨ 8 ≤ j) (hj2 : j < 8 + p.size) (hm : m < 8) (hbb : b.toNat = bt (out8 sp dp P p) j ^^^ 2 ^ m) (s : ByteArray) (hS : s.data.toList = (out8 sp dp P p).data.toList.set j b) : wt s 4 = 8 + p.size ∧ errG8 s P v = 4 := by
  obtain ⟨z, w4, w6, hsum, _⟩ := back8_ok he hP v
  obtain ⟨h1, h2, hPn, hl⟩ := err8_ok he
  generalize out8 sp dp P p = T at *
  have hsz : s.size = T.size := by rw [size_list, hS, List.length_set, ← size_list]
  have e4 : wt s 4 = wt T 4 := wt_set hS (by omega) (by omega)
  have e6 : wt s 6 = wt T 6 := wt_set hS (by omega) (by omega)
  refine ⟨by omega, ?_⟩
  have hne : sumL (P ++ s.data.toList.take (wt s 4)) ≠ 65535 := by
    rw [List.take_of_length_le (by rw [← size_list]; omega)]
    have e1 : P ++ s.data.toList = (P ++ T.data.toList).set (P.length + j) b := by
      rw [hS, List.set_append_right _ _ (by omega)]; congr 2; omega
    rw [e1]
    have hlen : P.length + j < (P ++ T.data.toList).length := by rw [List.length_append, ← size_list]; omega
    refine sum_turned _ (P.length + j) m b hlen hm ?_ hsum
    rw [hbb]
    unfold bt
    rw [List.getD_eq_getElem?_getD, List.getElem?_eq_getElem (by rw [← size_list]; omega), List.getElem_append_right (by omega)]
    simp only [show P.length + j - P.length = j by omega]
    rfl
  unfold errG8
  rw [if_neg (by omega), if_neg (by omega), if_neg (by omega), if_neg hPn, if_neg (by omega), if_pos hne]
end Go.Proofs.Ytkbfiikhflehaaa
