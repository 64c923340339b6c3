/- Plain lists of bytes for the layer octet: a number's bytes, the number of bytes, hexadecimal digits. No program. -/
import Derived.WalkKit
import Derived.Laws.Bits64b
namespace Go.Proofs.Ytklilelbebhinaa
open Go.RowKit
set_option linter.unusedVariables false

theorem snoc_ind {α : Type} {P : List α → Prop} (h0 : P []) (h1 : ∀ l a, P l → P (l ++ [a])) (l : List α) : P l := by
  have h : ∀ m : List α, P m.reverse := fun m => by
    induction m with
    | nil => exact h0
    | cons a m ih => rw [List.reverse_cons]; exact h1 _ _ ih
  have := h l.reverse
  rwa [List.reverse_reverse] at this

/-- The k lowest bytes of n, the most significant first. -/
def bigB : Nat → Nat → List UInt8
  | 0, _ => []
  | k + 1, n => bigB k (n / 256) ++ [UInt8.ofNat (n % 256)]
theorem bigB_length : ∀ k n, (bigB k n).length = k
  | 0, _ => rfl
  | k + 1, n => by simp [bigB, bigB_length k]
def putL (n k : Int) : List UInt8 := if 1 ≤ k ∧ k ≤ 8 then bigB k.toNat n.toNat else []

/-- The number of bytes in big-endian order. -/
def numB (l : List UInt8) : Nat := l.foldl (fun a b => a * 256 + b.toNat) 0
theorem numB_snoc (l : List UInt8) (b : UInt8) : numB (l ++ [b]) = numB l * 256 + b.toNat := by simp [numB]
theorem numB_lt (l : List UInt8) : numB l < 256 ^ l.length := by
  refine snoc_ind (P := fun l => numB l < 256 ^ l.length) (by simp [numB]) (fun l b ih => ?_) l
  · rw [numB_snoc, List.length_append, List.length_singleton, Nat.pow_succ]
    have := b.toNat_lt
    omega
theorem numB_bigB : ∀ k n, numB (bigB k n) = n % 256 ^ k
  | 0, n => by simp [numB, bigB, Nat.mod_one]
  | k + 1, n => by
    rw [bigB, numB_snoc, numB_bigB k]
    have h : (UInt8.ofNat (n % 256)).toNat = n % 256 := by simp [UInt8.toNat_ofNat']
    rw [h, Nat.pow_succ, Nat.mul_comm (256 ^ k) 256, Nat.mod_mul]
    omega
theorem bigB_numB (l : List UInt8) : bigB l.length (numB l) = l := by
  refine snoc_ind (P := fun l => bigB l.length (numB l) = l) rfl (fun l b ih => ?_) l
  · rw [List.length_append, List.length_singleton, bigB, numB_snoc]
    have := b.toNat_lt
    rw [show (numB l * 256 + b.toNat) / 256 = numB l by omega, show (numB l * 256 + b.toNat) % 256 = b.toNat by omega, ih]
    simp

def getOk (s : ByteArray) (p k : Int) : Bool := decide (1 ≤ k ∧ k ≤ 8 ∧ 0 ≤ p ∧ p + k ≤ s.size)
def getN (s : ByteArray) (p k : Int) : Int := if getOk s p k then (numB ((s.data.toList.drop p.toNat).take k.toNat) : Int) else 0
theorem getOk_yes {s : ByteArray} {p k : Int} (h1 : 1 ≤ k) (h2 : k ≤ 8) (h3 : 0 ≤ p) (h4 : p + k ≤ s.size) : getOk s p k = true := by
  unfold getOk; exact decide_eq_true ⟨h1, h2, h3, h4⟩
theorem getOk_no {s : ByteArray} {p k : Int} (h : ¬ (1 ≤ k ∧ k ≤ 8 ∧ 0 ≤ p ∧ p + k ≤ s.size)) : getOk s p k = false := by
  unfold getOk; exact decide_eq_false h
theorem getN_no {s : ByteArray} {p k : Int} (h : ¬ (1 ≤ k ∧ k ≤ 8 ∧ 0 ≤ p ∧ p + k ≤ s.size)) : getN s p k = 0 := by
  unfold getN; rw [getOk_no h]; rfl
theorem getN_yes {s : ByteArray} {p k : Int} (h1 : 1 ≤ k) (h2 : k ≤ 8) (h3 : 0 ≤ p) (h4 : p + k ≤ s.size) : getN s p k = (numB ((s.data.toList.drop p.toNat).take k.toNat) : Int) := by
  unfold getN; rw [getOk_yes h1 h2 h3 h4]; rfl

/-- One byte more of what is read from p on. -/
theorem sub_snoc (s : ByteArray) (p k : Nat) (h : p + k < s.size) : (s.data.toList.drop p).take (k + 1) = (s.data.toList.drop p).take k ++ [s[p + k]] := by
  have h1 : k < (s.data.toList.drop p).length := by simp; have : s.data.size = s.size := rfl; omega
  rw [List.take_succ_eq_append_getElem h1]
  congr 2
  simp
  rfl
theorem num_sub_snoc (s : ByteArray) (p k : Nat) (h : p + k < s.size) : numB ((s.data.toList.drop p).take (k + 1)) = numB ((s.data.toList.drop p).take k) * 256 + (s[p + k]).toNat := by
  rw [sub_snoc s p k h, numB_snoc]
theorem num_sub_lt (s : ByteArray) (p k j : Nat) (h : k ≤ j) : numB ((s.data.toList.drop p).take k) < 256 ^ j := by
  refine Nat.lt_of_lt_of_le (numB_lt _) (Nat.pow_le_pow_right (by omega) ?_)
  have := List.length_take_le k (s.data.toList.drop p)
  omega
theorem or_join8 (x y : Int) (h0 : 0 ≤ x) (h1 : x < 72057594037927936) (hy : 0 ≤ y) (hy' : y < 256) :
    bits .or .u64 (x * 256) y = x * 256 + y := by
  rw [bits_join .u64 64 (by decide) (fun n h0 h1 => by rw [IntKind.wrap_u64]; omega) 8 _ _ (by omega) (by omega) (by omega) hy (by omega) (by omega)]

/-- Hexadecimal digits. -/
def hexD (n : Nat) : UInt8 := if n < 10 then UInt8.ofNat (48 + n) else UInt8.ofNat (87 + n)
def hexL : List UInt8 → List UInt8
  | [] => []
  | b :: l => hexD (b.toNat / 16) :: hexD (b.toNat % 16) :: hexL l
def valI (c : Int) : Option Nat := if 48 ≤ c ∧ c ≤ 57 then some (c - 48).toNat else if 97 ≤ c ∧ c ≤ 102 then some (c - 87).toNat else none
def valD (c : UInt8) : Option Nat := valI c.toNat
def valN (c : Int) : Int := ((valI c).getD 0 : Nat)
def valOk (c : Int) : Bool := (valI c).isSome
def unhexL : List UInt8 → Option (List UInt8)
  | [] => some []
  | [_] => none
  | a :: b :: l => match valD a, valD b, unhexL l with
    | some x, some y, some r => some (UInt8.ofNat (16 * x + y) :: r)
    | _, _, _ => none
theorem hexL_length : ∀ l : List UInt8, (hexL l).length = 2 * l.length
  | [] => rfl
  | b :: l => by simp [hexL, hexL_length l]; omega
theorem valD_hexD : ∀ n : Nat, n < 16 → valD (hexD n) = some n := by decide
theorem hexD_toNat (n : Nat) (h : n < 16) : (hexD n).toNat = if n < 10 then 48 + n else 87 + n := by
  unfold hexD; split <;> simp <;> omega
theorem valI_some {c : Int} {v : Nat} (h : valI c = some v) : v < 16 ∧ ((hexD v).toNat : Int) = c := by
  unfold valI at h
  split at h
  · cases h; refine ⟨by omega, ?_⟩; rw [hexD_toNat _ (by omega), if_pos (by omega)]; omega
  · split at h
    · cases h; refine ⟨by omega, ?_⟩; rw [hexD_toNat _ (by omega), if_neg (by omega)]; omega
    · cases h
theorem valI_hexD (n : Nat) (h : n < 16) : valI ((hexD n).toNat : Int) = some n := valD_hexD n h
theorem valI_none {c : Int} (h : ∀ j, j < 16 → ((hexD j).toNat : Int) ≠ c) : valI c = none := by
  cases hv : valI c with
  | none => rfl
  | some v => obtain ⟨h1, h2⟩ := valI_some hv; exact absurd h2 (h v h1)
theorem valI_high {c : Int} (h : 128 ≤ c) : valI c = none := by unfold valI; rw [if_neg (by omega), if_neg (by omega)]
theorem valN_some {c : Int} {v : Nat} (h : valI c = some v) : valN c = v ∧ valOk c = true := by unfold valN valOk; rw [h]; exact ⟨rfl, rfl⟩
theorem valN_none {c : Int} (h : valI c = none) : valN c = 0 ∧ valOk c = false := by unfold valN valOk; rw [h]; exact ⟨rfl, rfl⟩

theorem unhexL_append : ∀ (a b : List UInt8), a.length % 2 = 0 → unhexL (a ++ b) = (match unhexL a, unhexL b with | some x, some y => some (x ++ y) | _, _ => none)
  | [], b, _ => by simp only [List.nil_append, unhexL]; cases unhexL b <;> rfl
  | [_], _, h => by simp at h
  | x :: y :: l, b, h => by
    have ih := unhexL_append l b (by simp at h; omega)
    simp only [List.cons_append, unhexL]
    rw [ih]
    cases valD x <;> cases valD y <;> cases unhexL l <;> cases unhexL b <;> rfl
theorem unhexL_odd : ∀ (l : List UInt8), l.length % 2 = 1 → unhexL l = none
  | [], h => by simp at h
  | [_], _ => rfl
  | x :: y :: l, h => by
    simp only [unhexL]
    rw [unhexL_odd l (by simp at h; omega)]
    cases valD x <;> cases valD y <;> rfl
theorem unhexL_bad2 (a b : List UInt8) (x y : UInt8) (h : a.length % 2 = 0) (hv : valD x = none ∨ valD y = none) : unhexL (a ++ x :: y :: b) = none := by
  rw [unhexL_append a _ h]
  have h1 : unhexL (x :: y :: b) = none := by
    simp only [unhexL]
    rcases hv with hv | hv <;> rw [hv] <;> cases valD x <;> rfl
  rw [h1]
  cases unhexL a <;> rfl
theorem unhexL_step (a : List UInt8) (x y : UInt8) (r : List UInt8) (u v : Nat) (h : a.length % 2 = 0) (ha : unhexL a = some r) (hx : valD x = some u) (hy : valD y = some v) : unhexL (a ++ [x, y]) = some (r ++ [UInt8.ofNat (16 * u + v)]) := by
  rw [unhexL_append a _ h, ha]
  simp only [unhexL, hx, hy]
theorem unhexL_length : ∀ (l r : List UInt8), unhexL l = some r → l.length = 2 * r.length
  | [], r, h => by cases h; rfl
  | [_], _, h => by cases h
  | x :: y :: l, r, h => by
    simp only [unhexL] at h
    cases hx : valD x <;> cases hy : valD y <;> cases hl : unhexL l <;> rw [hx, hy, hl] at h <;> try cases h
    rename_i q
    have := unhexL_length l q hl
    simp; omega
def unhexV (l : List UInt8) : List UInt8 := (unhexL l).getD []
def unhexOk (l : List UInt8) : Bool := (unhexL l).isSome
theorem unhex_some {l r : List UInt8} (h : unhexL l = some r) : unhexV l = r ∧ unhexOk l = true := by unfold unhexV unhexOk; rw [h]; exact ⟨rfl, rfl⟩
theorem unhex_none {l : List UInt8} (h : unhexL l = none) : unhexV l = [] ∧ unhexOk l = false := by unfold unhexV unhexOk; rw [h]; exact ⟨rfl, rfl⟩
/-- The bytes of Unhex while the digits are read one by one: what stands at j when pos digits were read. -/
def vv (L : List UInt8) (i : Nat) : Int := valN ((L.getD i 0).toNat : Int)
def hcell (L : List UInt8) (pos j : Nat) : Int := if 2 * j < pos then (if 2 * j + 1 < pos then 16 * vv L (2 * j) + vv L (2 * j + 1) else vv L (2 * j)) else 0
theorem valN_bd (c : Int) : 0 ≤ valN c ∧ valN c < 16 := by
  cases h : valI c with
  | none => rw [(valN_none h).1]; omega
  | some v => rw [(valN_some h).1]; have := (valI_some h).1; omega
theorem hcell_next (L : List UInt8) (pos : Nat) : hcell L (pos + 1) (pos / 2) = hcell L pos (pos / 2) * 16 + vv L pos ∧ 0 ≤ hcell L pos (pos / 2) ∧ hcell L pos (pos / 2) < 16 := by
  have h1 := valN_bd ((L.getD (2 * (pos / 2)) 0).toNat : Int)
  unfold hcell
  rcases (show pos % 2 = 0 ∨ pos % 2 = 1 by omega) with h | h
  · rw [if_pos (by omega), if_neg (by omega), if_neg (by omega), show 2 * (pos / 2) = pos by omega]
    omega
  · rw [if_pos (by omega), if_pos (by omega), if_pos (by omega), if_neg (by omega), show 2 * (pos / 2) + 1 = pos by omega]
    unfold vv at *
    omega
theorem hcell_bd (L : List UInt8) (pos j : Nat) : 0 ≤ hcell L pos j ∧ hcell L pos j < 256 := by
  have h1 := valN_bd ((L.getD (2 * j) 0).toNat : Int)
  have h2 := valN_bd ((L.getD (2 * j + 1) 0).toNat : Int)
  unfold hcell vv
  split
  · split <;> omega
  · omega
def hcells (L : List UInt8) (pos : Nat) : Array Value := ((List.range (L.length / 2)).map fun j => Value.int .u8 (hcell L pos j)).toArray
theorem hcells_at (L : List UInt8) (pos j : Nat) (h : j < L.length / 2) : (hcells L pos)[j]? = some (.int .u8 (hcell L pos j)) := by
  unfold hcells; simp [h]
theorem hcells_out (L : List UInt8) (pos j : Nat) (h : ¬ j < L.length / 2) : (hcells L pos)[j]? = none := by
  unfold hcells; simp; omega
theorem hcell_same (L : List UInt8) (pos j : Nat) (h : pos / 2 ≠ j) : hcell L pos j = hcell L (pos + 1) j := by
  unfold hcell
  by_cases h3 : 2 * j < pos
  · have h4 : 2 * j + 1 < pos := by omega
    have h5 : 2 * j < pos + 1 := by omega
    have h6 : 2 * j + 1 < pos + 1 := by omega
    rw [if_pos h3, if_pos h4, if_pos h5, if_pos h6]
  · rw [if_neg h3, if_neg (by omega)]
theorem hcells_set (L : List UInt8) (pos : Nat) : (hcells L pos).setIfInBounds (pos / 2) (.int .u8 (hcell L (pos + 1) (pos / 2))) = hcells L (pos + 1) := by
  apply Array.ext_getElem?
  intro j
  by_cases hj : j < L.length / 2
  · rw [hcells_at L (pos + 1) j hj, Array.getElem?_setIfInBounds]
    by_cases h : pos / 2 = j
    · subst h
      rw [if_pos rfl, if_pos (by unfold hcells; simpa using hj)]
    · rw [if_neg h, hcells_at L pos j hj, hcell_same L pos j h]
  · rw [hcells_out L (pos + 1) j hj, Array.getElem?_setIfInBounds, hcells_out L pos j hj]
    split
    · rw [if_neg (by unfold hcells; simp; omega)]
    · rfl
theorem hcells_zero (L : List UInt8) : hcells L 0 = Array.replicate (L.length / 2) (.int .u8 0) := by
  unfold hcells hcell
  apply Array.ext <;> simp
theorem unhexL_all : ∀ (L : List UInt8), L.length % 2 = 0 → (∀ i, i < L.length → valOk ((L.getD i 0).toNat : Int) = true) →
    unhexL L = some ((List.range (L.length / 2)).map fun j => UInt8.ofNat (hcell L L.length j).toNat)
  | [], _, _ => rfl
  | [_], h, _ => by simp at h
  | x :: y :: l, h, hv => by
    have ih := unhexL_all l (by simp at h; omega) (fun i hi => hv (i + 2) (by simp; omega))
    have hx := hv 0 (by simp)
    have hy := hv 1 (by simp)
    simp only [List.getD_cons_zero, List.getD_cons_succ] at hx hy
    have hx1 : ∃ u, valI (x.toNat : Int) = some u := by unfold valOk at hx; exact Option.isSome_iff_exists.1 hx
    have hy1 : ∃ u, valI (y.toNat : Int) = some u := by unfold valOk at hy; exact Option.isSome_iff_exists.1 hy
    obtain ⟨u, hu⟩ := hx1
    obtain ⟨v, hv2⟩ := hy1
    simp only [unhexL, valD, hu, hv2, ih]
    have e1 : (x :: y :: l).length / 2 = l.length / 2 + 1 := by simp; omega
    rw [e1, List.range_succ_eq_map, List.map_cons, List.map_map]
    congr 2
    · unfold hcell vv
      simp only [List.getD_cons_zero, List.getD_cons_succ, Nat.mul_zero, Nat.zero_add]
      rw [if_pos (by simp), if_pos (by simp), (valN_some hu).1, (valN_some hv2).1, show (16 * (u : Int) + (v : Int)).toNat = 16 * u + v by omega]
    · apply List.map_congr_left
      intro j hj
      simp only [List.mem_range] at hj
      simp only [Function.comp]
      congr 2
      unfold hcell vv
      rw [if_pos (by omega), if_pos (by omega), if_pos (by simp; omega), if_pos (by simp; omega)]
      simp only [show 2 * (j + 1) = 2 * j + 1 + 1 by omega, Nat.succ_eq_add_one, List.getD_cons_succ]
theorem unhexL_none_at (L : List UInt8) (i : Nat) (hi : i < L.length) (h : valI ((L.getD i 0).toNat : Int) = none) : unhexL L = none := by
  by_cases hp : L.length % 2 = 0
  · have hk : i / 2 * 2 + 1 < L.length := by omega
    have e1 : L = L.take (i / 2 * 2) ++ L[i / 2 * 2] :: L[i / 2 * 2 + 1] :: L.drop (i / 2 * 2 + 2) := by
      conv => lhs; rw [← List.take_append_drop (i / 2 * 2) L]
      congr 1
      rw [List.drop_eq_getElem_cons (by omega), List.drop_eq_getElem_cons (by omega)]
    rw [e1]
    refine unhexL_bad2 _ _ _ _ (by simp; omega) ?_
    rcases (show i = i / 2 * 2 ∨ i = i / 2 * 2 + 1 by omega) with hh | hh
    · left
      have : L.getD i 0 = L[i / 2 * 2] := by rw [List.getD_eq_getElem?_getD, List.getElem?_eq_getElem hi, Option.getD_some]; congr 1
      unfold valD; rw [← this]; exact h
    · right
      have : L.getD i 0 = L[i / 2 * 2 + 1] := by rw [List.getD_eq_getElem?_getD, List.getElem?_eq_getElem hi, Option.getD_some]; congr 1
      unfold valD; rw [← this]; exact h
  · exact unhexL_odd L (by omega)
theorem or_join4 (x y : Int) (h0 : 0 ≤ x) (h1 : x < 16) (hy : 0 ≤ y) (hy' : y < 16) :
    bits .or .u8 (x * 16) y = x * 16 + y := by
  rw [bits_join .u8 8 (by decide) (fun n h0 h1 => by rw [IntKind.wrap_u8]; omega) 4 _ _ (by omega) (by omega) (by omega) hy (by omega) (by omega)]
theorem unhexL_hexL : ∀ l : List UInt8, unhexL (hexL l) = some l
  | [] => rfl
  | b :: l => by
    have := b.toNat_lt
    rw [hexL, unhexL, valD_hexD _ (by omega), valD_hexD _ (by omega), unhexL_hexL l]
    simp only []
    rw [show 16 * (b.toNat / 16) + b.toNat % 16 = b.toNat by omega]
    simp
theorem hexL_append : ∀ l m : List UInt8, hexL (l ++ m) = hexL l ++ hexL m
  | [], m => rfl
  | b :: l, m => by simp [hexL, hexL_append l m]
end Go.Proofs.Ytklilelbebhinaa
