/- Plain numbers and bytes for the layer quic: heads, their bytes, what bytes say, there and back, another id. No program. -/
import Derived.Test.YtniaelmloealbaaBytesAt
namespace Go.Proofs.Ytniaelmloealbaa
open Go.RowKit
set_option linter.unusedVariables false

/-- A head. -/
structure H9 where
  lg : Bool
  bi : Int
  ve : Int
  dc : ByteArray
  sc : ByteArray
  re : ByteArray
structure B9 (h : H9) : Prop where
  a0 : 0 ≤ h.ve
  a1 : h.ve < 4294967296
def ok9 (h : H9) : Bool := inB h.bi 63 && (if h.lg then decide (h.dc.size ≤ 20) && decide (h.sc.size ≤ 20) else decide (h.dc.size = 8) && (decide (h.sc.size = 0) && decide (h.ve = 0)))
def body9 (h : H9) : List UInt8 :=
  if h.lg then numL (192 + h.bi) 1 ++ numL h.ve 4 ++ numL (h.dc.size : Int) 1 ++ h.dc.data.toList ++ numL (h.sc.size : Int) 1 ++ h.sc.data.toList ++ h.re.data.toList
  else numL (64 + h.bi) 1 ++ h.dc.data.toList ++ h.re.data.toList
def err9 (h : H9) : Int := if ok9 h then 0 else 1
def out9 (h : H9) : ByteArray := if ok9 h then ⟨(body9 h).toArray⟩ else ⟨#[]⟩
theorem ok9_long {b : Int} {v : Int} {d s r : ByteArray} (h : ok9 ⟨true, b, v, d, s, r⟩ = true) : inB b 63 = true ∧ d.size ≤ 20 ∧ s.size ≤ 20 := by
  unfold ok9 at h
  simpa using h
theorem ok9_short {b : Int} {v : Int} {d s r : ByteArray} (h : ok9 ⟨false, b, v, d, s, r⟩ = true) : inB b 63 = true ∧ d.size = 8 ∧ s.size = 0 ∧ v = 0 := by
  unfold ok9 at h
  simpa using h
theorem ok9_isL {b : Int} {v : Int} {d s r : ByteArray} (h1 : inB b 63 = true) (h2 : d.size ≤ 20) (h3 : s.size ≤ 20) : ok9 ⟨true, b, v, d, s, r⟩ = true := by
  unfold ok9; simp [h1, h2, h3]
theorem ok9_isS {b : Int} {v : Int} {d s r : ByteArray} (h1 : inB b 63 = true) (h2 : d.size = 8) (h3 : s.size = 0) (h4 : v = 0) : ok9 ⟨false, b, v, d, s, r⟩ = true := by
  unfold ok9; simp [h1, h2, h3, h4]
theorem size_0 {s : ByteArray} (h : s.size = 0) : s = ⟨#[]⟩ := by
  apply ext_eq
  have : s.data.toList.length = 0 := h
  rw [List.eq_nil_of_length_eq_zero this]

/-- An id at a place: how it is wrong, it, where it ends. -/
def idE (s : ByteArray) (i : Nat) : Int := if s.size ≤ i then 2 else if 20 < bt s i then 3 else if s.size - i - 1 < bt s i then 2 else 0
def idT (s : ByteArray) (i : Nat) : ByteArray := if idE s i = 0 then s.extract (i + 1) (i + 1 + bt s i) else ⟨#[]⟩
def idN (s : ByteArray) (i : Nat) : Nat := if idE s i = 0 then i + 1 + bt s i else 0
theorem idE_ok {s : ByteArray} {i : Nat} (h : idE s i = 0) : i < s.size ∧ bt s i ≤ 20 ∧ i + 1 + bt s i ≤ s.size ∧ idT s i = s.extract (i + 1) (i + 1 + bt s i) ∧ idN s i = i + 1 + bt s i := by
  have h0 := h
  unfold idE at h
  refine ⟨?_, ?_, ?_, if_pos h0, if_pos h0⟩ <;> (split at h <;> try omega) <;> (split at h <;> try omega) <;> (split at h <;> omega)
theorem idE_is {s : ByteArray} {i : Nat} (h1 : i < s.size) (h2 : bt s i ≤ 20) (h3 : i + 1 + bt s i ≤ s.size) : idE s i = 0 := by
  unfold idE; rw [if_neg (by omega), if_neg (by omega), if_neg (by omega)]
theorem idE_no {s : ByteArray} {i : Nat} (h : idE s i ≠ 0) : idT s i = ⟨#[]⟩ ∧ idN s i = 0 := ⟨if_neg h, if_neg h⟩
/-- What bytes say. -/
def errG9 (s : ByteArray) : Int :=
  if s.size = 0 then 2 else if bt s 0 / 64 % 2 = 0 then 3 else if bt s 0 < 128 then (if s.size < 9 then 2 else 0) else if s.size < 5 then 2 else if idE s 5 = 0 then idE s (idN s 5) else idE s 5
def zero9 : H9 := ⟨false, 0, 0, ⟨#[]⟩, ⟨#[]⟩, ⟨#[]⟩⟩
def raw9 (s : ByteArray) : H9 :=
  if bt s 0 < 128 then ⟨false, (bt s 0 % 64 : Nat), 0, s.extract 1 9, ⟨#[]⟩, s.extract 9 s.size⟩
  else ⟨true, (bt s 0 % 64 : Nat), (seg s 1 4 : Nat), idT s 5, idT s (idN s 5), s.extract (idN s (idN s 5)) s.size⟩
def headG9 (s : ByteArray) : H9 := if errG9 s = 0 then raw9 s else zero9
theorem headG9_no {s : ByteArray} (h : errG9 s ≠ 0) : headG9 s = zero9 := if_neg h
theorem errG9_short {s : ByteArray} (h : errG9 s = 0) (hs : bt s 0 < 128) : bt s 0 / 64 % 2 = 1 ∧ 9 ≤ s.size ∧ headG9 s = ⟨false, (bt s 0 % 64 : Nat), 0, s.extract 1 9, ⟨#[]⟩, s.extract 9 s.size⟩ := by
  have hh : headG9 s = raw9 s := if_pos h
  rw [hh]
  unfold raw9
  rw [if_pos hs]
  unfold errG9 at h
  split at h
  · omega
  · split at h
    · omega
    · split at h
      · omega
      · exact ⟨by omega, by omega, rfl⟩
theorem errG9_long {s : ByteArray} (h : errG9 s = 0) (hs : ¬ bt s 0 < 128) : bt s 0 / 64 % 2 = 1 ∧ 5 ≤ s.size ∧ idE s 5 = 0 ∧ idE s (idN s 5) = 0 ∧ headG9 s = ⟨true, (bt s 0 % 64 : Nat), (seg s 1 4 : Nat), idT s 5, idT s (idN s 5), s.extract (idN s (idN s 5)) s.size⟩ := by
  have hh : headG9 s = raw9 s := if_pos h
  rw [hh]
  unfold raw9
  rw [if_neg hs]
  unfold errG9 at h
  split at h
  · omega
  · split at h
    · omega
    · split at h
      · omega
      · split at h
        · rename_i h1 h2 h3 h4
          exact ⟨by omega, by omega, h4, h, rfl⟩
        · rename_i h1 h2 h3 h4
          exact absurd h h4
theorem errG9_isS {s : ByteArray} (h1 : bt s 0 / 64 % 2 = 1) (h2 : bt s 0 < 128) (h3 : 9 ≤ s.size) : errG9 s = 0 := by
  unfold errG9; rw [if_neg (by omega), if_neg (by omega), if_pos h2, if_neg (by omega)]
theorem errG9_isL {s : ByteArray} (h1 : bt s 0 / 64 % 2 = 1) (h2 : ¬ bt s 0 < 128) (h3 : 5 ≤ s.size) (h4 : idE s 5 = 0) (h5 : idE s (idN s 5) = 0) : errG9 s = 0 := by
  unfold errG9; rw [if_neg (by omega), if_neg (by omega), if_neg h2, if_neg (by omega), if_pos h4]; exact h5

/-- There and back. -/
theorem out9_len {h : H9} (ho : ok9 h = true) : (out9 h).data.toList = body9 h := by unfold out9; rw [if_pos ho]
theorem bt_mid (a b c : List UInt8) {s : ByteArray} {i x : Nat} (hs : s.data.toList = a ++ bigB 1 x ++ c) (ha : a.length = i) (hx : x < 256) : bt s i = x := by
  rw [← bt_num s i (by rw [size_list, hs]; simp [bigB_length]; omega), hs]
  exact mid_num a c ha (by omega)
theorem back9 {h : H9} (ho : ok9 h = true) (hb : B9 h) : errG9 (out9 h) = 0 ∧ headG9 (out9 h) = h := by
  have e := out9_len ho
  obtain ⟨lg, b, v, d, c, r⟩ := h
  generalize out9 _ = s at e ⊢
  cases lg with
  | false =>
    obtain ⟨h1, h2, h3, rfl⟩ := ok9_short ho
    have hbi := inB_is h1
    obtain ⟨n, hn⟩ : ∃ n : Nat, b = n := ⟨b.toNat, by omega⟩
    subst hn
    have e1 := numL_big (64 + n) 1 (by omega) (by omega) (by omega)
    unfold body9 at e
    rw [if_neg (by simp)] at e
    simp only at e
    rw [show (64 : Int) + (n : Int) = ((64 + n : Nat) : Int) by omega, show (1 : Int) = ((1 : Nat) : Int) from rfl, e1] at e
    have g0 : bt s 0 = 64 + n := bt_mid [] [] (d.data.toList ++ r.data.toList) (by rw [e]; simp) rfl (by omega)
    have hsz : s.size = 9 + r.size := by rw [size_list, e]; simp only [List.length_append, bigB_length]; rw [← size_list, ← size_list]; omega
    have he : errG9 s = 0 := errG9_isS (by omega) (by omega) (by omega)
    refine ⟨he, ?_⟩
    rw [(errG9_short he (by omega)).2.2, size_0 h3]
    have x1 : s.extract 1 9 = d := by
      apply ext_eq
      rw [ext_str', e]
      exact mid (bigB 1 (64 + n)) d.data.toList r.data.toList (bigB_length _ _) (by rw [← size_list]; omega)
    have x2 : s.extract 9 s.size = r := by
      apply ext_eq
      rw [ext_str', e, hsz]
      have := mid (bigB 1 (64 + n) ++ d.data.toList) r.data.toList [] (i := 9) (k := 9 + r.size - 9) (by rw [List.length_append, bigB_length, ← size_list]; omega) (by rw [← size_list]; omega)
      simpa using this
    rw [x1, x2, show bt s 0 % 64 = n by omega]
  | true =>
    obtain ⟨h1, h2, h3⟩ := ok9_long ho
    have hbi := inB_is h1
    obtain ⟨n, hn⟩ : ∃ n : Nat, b = n := ⟨b.toNat, by omega⟩
    subst hn
    have hv := hb.a0
    have hv1 := hb.a1
    simp only at hv hv1
    obtain ⟨q, hq⟩ : ∃ q : Nat, v = q := ⟨v.toNat, by omega⟩
    subst hq
    have e1 := numL_big (192 + n) 1 (by omega) (by omega) (by omega)
    have e2 := numL_big q 4 (by omega) (by omega) (by omega)
    have e3 := numL_big d.size 1 (by omega) (by omega) (by omega)
    have e4 := numL_big c.size 1 (by omega) (by omega) (by omega)
    have h4 : (256 : Nat) ^ 4 = 4294967296 := by decide
    unfold body9 at e
    rw [if_pos (by simp)] at e
    simp only at e
    rw [show (192 : Int) + (n : Int) = ((192 + n : Nat) : Int) by omega, show (1 : Int) = ((1 : Nat) : Int) from rfl, show (4 : Int) = ((4 : Nat) : Int) from rfl, e1, e2, e3, e4] at e
    have hsz : s.size = 7 + d.size + c.size + r.size := by rw [size_list, e]; simp only [List.length_append, bigB_length]; rw [← size_list, ← size_list, ← size_list]; omega
    have g0 : bt s 0 = 192 + n := bt_mid [] [] (bigB 4 q ++ bigB 1 d.size ++ d.data.toList ++ bigB 1 c.size ++ c.data.toList ++ r.data.toList) (by rw [e]; simp) rfl (by omega)
    have g5 : bt s 5 = d.size := bt_mid (bigB 1 (192 + n) ++ bigB 4 q) [] (d.data.toList ++ bigB 1 c.size ++ c.data.toList ++ r.data.toList) (by rw [e]; simp) (by simp [bigB_length]) (by omega)
    have i5 : idE s 5 = 0 := idE_is (by omega) (by omega) (by omega)
    obtain ⟨_, _, _, t5, n5⟩ := idE_ok i5
    have n5' : idN s 5 = 6 + d.size := by omega
    have g6 : bt s (6 + d.size) = c.size := bt_mid (bigB 1 (192 + n) ++ bigB 4 q ++ bigB 1 d.size ++ d.data.toList) [] (c.data.toList ++ r.data.toList) (by rw [e]; simp) (by simp only [List.length_append, bigB_length]; have := size_list d; omega) (by omega)
    have i6 : idE s (idN s 5) = 0 := by rw [n5']; exact idE_is (by omega) (by omega) (by omega)
    obtain ⟨_, _, _, t6, n6⟩ := idE_ok i6
    rw [n5', g6] at t6 n6
    rw [g5] at t5
    have he : errG9 s = 0 := errG9_isL (by omega) (by omega) (by omega) i5 i6
    refine ⟨he, ?_⟩
    rw [(errG9_long he (by omega)).2.2.2.2]
    have x0 : seg s 1 4 = q := by
      unfold seg
      rw [e]
      have := mid_num (bigB 1 (192 + n)) (bigB 1 d.size ++ d.data.toList ++ bigB 1 c.size ++ c.data.toList ++ r.data.toList) (i := 1) (k := 4) (n := q) (bigB_length _ _) (by omega)
      simpa only [List.append_assoc] using this
    have x1 : idT s 5 = d := by
      rw [t5]
      apply ext_eq
      rw [ext_str', e]
      have := mid (bigB 1 (192 + n) ++ bigB 4 q ++ bigB 1 d.size) d.data.toList (bigB 1 c.size ++ c.data.toList ++ r.data.toList) (i := 5 + 1) (k := 5 + 1 + d.size - (5 + 1)) (by simp only [List.length_append, bigB_length]) (by rw [← size_list]; omega)
      simpa only [List.append_assoc] using this
    have x2 : idT s (idN s 5) = c := by
      rw [n5', t6]
      apply ext_eq
      rw [ext_str', e]
      have := mid (bigB 1 (192 + n) ++ bigB 4 q ++ bigB 1 d.size ++ d.data.toList ++ bigB 1 c.size) c.data.toList r.data.toList (i := 6 + d.size + 1) (k := 6 + d.size + 1 + c.size - (6 + d.size + 1)) (by simp only [List.length_append, bigB_length]; have := size_list d; omega) (by rw [← size_list]; omega)
      simpa only [List.append_assoc] using this
    have x3 : s.extract (idN s (idN s 5)) s.size = r := by
      rw [n5', n6]
      apply ext_eq
      rw [ext_str', e, hsz]
      have := mid (bigB 1 (192 + n) ++ bigB 4 q ++ bigB 1 d.size ++ d.data.toList ++ bigB 1 c.size ++ c.data.toList) r.data.toList [] (i := 6 + d.size + 1 + c.size) (k := 7 + d.size + c.size + r.size - (6 + d.size + 1 + c.size)) (by simp only [List.length_append, bigB_length]; have := size_list d; have := size_list c; omega) (by rw [← size_list]; omega)
      simpa using this
    rw [x0, x1, x2, x3, show bt s 0 % 64 = n by omega]
theorem piece (l : List UInt8) (i k j : Nat) (h : i + k = j) : l.drop i = (l.drop i).take k ++ l.drop j := by
  subst h
  rw [← List.drop_drop]
  exact (List.take_append_drop k (l.drop i)).symm
theorem bt_big (s : ByteArray) (i : Nat) (h : i < s.size) : bigB 1 (bt s i) = (s.data.toList.drop i).take 1 := by
  have := big_seg s i 1 (by omega)
  unfold seg at this
  rw [bt_num s i (by omega)] at this
  exact this
theorem last (s : ByteArray) (i : Nat) : (s.extract i s.size).data.toList = s.data.toList.drop i := by
  rw [ext_str']
  exact List.take_of_length_le (by rw [List.length_drop, ← size_list]; omega)
theorem fwd9 {s : ByteArray} (he : errG9 s = 0) : ok9 (headG9 s) = true ∧ B9 (headG9 s) ∧ out9 (headG9 s) = s ∧ (headG9 s).dc.size ≤ 20 ∧ (headG9 s).sc.size ≤ 20 ∧ (headG9 s).re.size ≤ s.size := by
  have b0 := bt_lt s 0
  by_cases hs : bt s 0 < 128
  · obtain ⟨h1, h2, h3⟩ := errG9_short he hs
    have z1 : (s.extract 1 9).size = 8 := by rw [ByteArray.size_extract]; omega
    have z2 : (s.extract 9 s.size).size ≤ s.size := by rw [ByteArray.size_extract]; omega
    have ho : ok9 (headG9 s) = true := by rw [h3]; exact ok9_isS (decide_eq_true ⟨by omega, by omega⟩) z1 rfl rfl
    refine ⟨ho, by rw [h3]; exact ⟨by simp, by simp⟩, ?_, by rw [h3]; simp only; omega, by rw [h3]; show (⟨#[]⟩ : ByteArray).size ≤ 20; exact Nat.zero_le _, by rw [h3]; exact z2⟩
    apply ext_eq
    rw [out9_len ho, h3]
    unfold body9
    rw [if_neg (by simp)]
    simp only
    have e1 := numL_big (bt s 0) 1 (by omega) (by omega) (by omega)
    rw [show (64 : Int) + ((bt s 0 % 64 : Nat) : Int) = ((bt s 0 : Nat) : Int) by omega, show (1 : Int) = ((1 : Nat) : Int) from rfl, e1, bt_big s 0 (by omega), ext_str', last]
    have p0 := piece s.data.toList 0 1 1 rfl
    have p1 := piece s.data.toList 1 8 9 rfl
    rw [List.drop_zero] at p0 ⊢
    rw [show (9 : Nat) - 1 = 8 from rfl, List.append_assoc, ← p1, ← p0]
  · obtain ⟨h1, h2, h3, h4, h5⟩ := errG9_long he hs
    obtain ⟨i1, i2, i3, i4, i5⟩ := idE_ok h3
    rw [i5] at h4 h5
    obtain ⟨j1, j2, j3, j4, j5⟩ := idE_ok h4
    obtain ⟨n1, hn1⟩ : ∃ n, bt s 5 = n := ⟨_, rfl⟩
    rw [hn1] at i2 i3 i4 i5 j1 j2 j3 j4 j5 h4 h5
    obtain ⟨n2, hn2⟩ : ∃ n, bt s (5 + 1 + n1) = n := ⟨_, rfl⟩
    rw [hn2] at j2 j3 j4 j5
    rw [j5, j4, i4] at h5
    have z1 : (s.extract (5 + 1) (5 + 1 + n1)).size = n1 := by rw [ByteArray.size_extract]; omega
    have z2 : (s.extract (5 + 1 + n1 + 1) (5 + 1 + n1 + 1 + n2)).size = n2 := by rw [ByteArray.size_extract]; omega
    have z3 : (s.extract (5 + 1 + n1 + 1 + n2) s.size).size ≤ s.size := by rw [ByteArray.size_extract]; omega
    have hq := seg_lt s 1 4
    have h44 : (256 : Nat) ^ 4 = 4294967296 := by decide
    have ho : ok9 (headG9 s) = true := by rw [h5]; exact ok9_isL (decide_eq_true ⟨by omega, by omega⟩) (by omega) (by omega)
    refine ⟨ho, by rw [h5]; exact ⟨by simp, by simp only; omega⟩, ?_, by rw [h5]; simp only; omega, by rw [h5]; simp only; omega, by rw [h5]; exact z3⟩
    apply ext_eq
    rw [out9_len ho, h5]
    unfold body9
    rw [if_pos (by simp)]
    simp only
    rw [z1, z2, last]
    have e1 := numL_big (bt s 0) 1 (by omega) (by omega) (by omega)
    have e2 := numL_big (seg s 1 4) 4 (by omega) (by omega) (by omega)
    have e3 := numL_big n1 1 (by omega) (by omega) (by omega)
    have e4 := numL_big n2 1 (by omega) (by omega) (by omega)
    rw [show (192 : Int) + ((bt s 0 % 64 : Nat) : Int) = ((bt s 0 : Nat) : Int) by omega, show (1 : Int) = ((1 : Nat) : Int) from rfl, show (4 : Int) = ((4 : Nat) : Int) from rfl, e1, e2, e3, e4]
    rw [← hn2, bt_big s (5 + 1 + n1) (by omega), hn2]
    rw [bt_big s 0 (by omega), big_seg s 1 4 (by omega)]
    conv => lhs; rw [← hn1]
    rw [bt_big s 5 (by omega), hn1, ext_str', ext_str']
    have p0 := piece s.data.toList 0 1 1 rfl
    have p1 := piece s.data.toList 1 4 5 rfl
    have p2 := piece s.data.toList 5 1 (5 + 1) rfl
    have p3 := piece s.data.toList (5 + 1) n1 (5 + 1 + n1) rfl
    have p4 := piece s.data.toList (5 + 1 + n1) 1 (5 + 1 + n1 + 1) rfl
    have p5 := piece s.data.toList (5 + 1 + n1 + 1) n2 (5 + 1 + n1 + 1 + n2) rfl
    rw [List.drop_zero] at p0 ⊢
    rw [show 5 + 1 + n1 - (5 + 1) = n1 by omega, show 5 + 1 + n1 + 1 + n2 - (5 + 1 + n1 + 1) = n2 by omega]
    simp only [List.append_assoc]
    rw [← p5, ← p4, ← p3, ← p2, ← p1, ← p0]
/-- Another id. -/
def swap9 (h : H9) (c : ByteArray) : H9 := if h.lg then ⟨h.lg, h.bi, h.ve, h.dc, c, h.re⟩ else ⟨h.lg, h.bi, h.ve, c, h.sc, h.re⟩
def withE (s c : ByteArray) : Int := if errG9 s = 0 then (if c.size = 8 then 0 else 1) else errG9 s
def withO (s c : ByteArray) : ByteArray := if withE s c = 0 then out9 (swap9 (headG9 s) c) else ⟨#[]⟩
theorem out9_size (h : H9) : (out9 h).size ≤ 12 + h.dc.size + h.sc.size + h.re.size := by
  unfold out9
  split
  · show (body9 h).length ≤ _
    unfold body9
    split
    · simp only [List.length_append, numL_len _ 1 (by omega) (by omega), numL_len _ 4 (by omega) (by omega), ← size_list]
      omega
    · simp only [List.length_append, numL_len _ 1 (by omega) (by omega), ← size_list]
      omega
  · exact Nat.zero_le _
theorem swap9_ok {h : H9} {c : ByteArray} (ho : ok9 h = true) (hc : c.size = 8) : ok9 (swap9 h c) = true := by
  obtain ⟨lg, b, v, d, s, r⟩ := h
  cases lg with
  | true => obtain ⟨h1, h2, h3⟩ := ok9_long ho; exact ok9_isL h1 h2 (by omega)
  | false => obtain ⟨h1, h2, h3, h4⟩ := ok9_short ho; exact ok9_isS h1 hc h3 h4
theorem swap9_b {h : H9} {c : ByteArray} (hb : B9 h) : B9 (swap9 h c) := by
  obtain ⟨lg, b, v, d, s, r⟩ := h
  cases lg <;> exact ⟨hb.a0, hb.a1⟩
theorem err9_is {h : H9} (ho : ok9 h = true) : err9 h = 0 := if_pos ho
theorem err9_no {h : H9} (ho : ok9 h = false) : err9 h = 1 ∧ out9 h = ⟨#[]⟩ := ⟨if_neg (by simp [ho]), if_neg (by simp [ho])⟩
theorem with_ok {s c : ByteArray} (he : errG9 s = 0) (hc : c.size = 8) : withE s c = 0 ∧ withO s c = out9 (swap9 (headG9 s) c) ∧ errG9 (withO s c) = 0 ∧ headG9 (withO s c) = swap9 (headG9 s) c := by
  have h1 : withE s c = 0 := by unfold withE; rw [if_pos he, if_pos hc]
  have h2 : withO s c = out9 (swap9 (headG9 s) c) := if_pos h1
  obtain ⟨f1, f2, _⟩ := fwd9 he
  obtain ⟨g1, g2⟩ := back9 (swap9_ok f1 hc) (swap9_b (c := c) f2)
  exact ⟨h1, h2, by rw [h2]; exact g1, by rw [h2]; exact g2⟩
theorem with_bad {s c : ByteArray} (he : errG9 s ≠ 0) : withE s c = errG9 s ∧ withO s c = ⟨#[]⟩ := by
  have h1 : withE s c = errG9 s := if_neg he
  exact ⟨h1, if_neg (by rw [h1]; exact he)⟩
theorem with_arg {s c : ByteArray} (he : errG9 s = 0) (hc : c.size ≠ 8) : withE s c = 1 ∧ withO s c = ⟨#[]⟩ := by
  have h1 : withE s c = 1 := by unfold withE; rw [if_pos he, if_neg hc]
  exact ⟨h1, if_neg (by rw [h1]; omega)⟩
end Go.Proofs.Ytniaelmloealbaa
