/- Plain lists of bytes for the layer addr: parts between separators, decimal digits, texts of addresses. No program. -/
import Derived.Test.YtklilelbebhinaaOctetMath
import Derived.Lib.Join
import Derived.Lib.ItoaNum
import Derived.Lib.Bytealg
namespace Go.Proofs.Ytklilelbebhinaa
open Go.RowKit
set_option linter.unusedVariables false

/-- The parts of l between the bytes c. -/
def partsL (c : UInt8) : List UInt8 → List (List UInt8)
  | [] => [[]]
  | b :: l => if b = c then [] :: partsL c l else (b :: (partsL c l).headD []) :: (partsL c l).tail
theorem partsL_pos (c : UInt8) (l : List UInt8) : ∃ g gs, partsL c l = g :: gs := by
  cases l with
  | nil => exact ⟨_, _, rfl⟩
  | cons b l => unfold partsL; split <;> exact ⟨_, _, rfl⟩
theorem partsL_len (c : UInt8) (l : List UInt8) : 1 ≤ (partsL c l).length := by
  obtain ⟨g, gs, h⟩ := partsL_pos c l; rw [h]; simp
theorem partsL_none (c : UInt8) : ∀ l : List UInt8, c ∉ l → partsL c l = [l]
  | [], _ => rfl
  | b :: l, h => by
    rw [partsL, if_neg (by rintro rfl; exact h (List.mem_cons_self ..)), partsL_none c l (fun h' => h (List.mem_cons_of_mem _ h'))]; rfl
theorem partsL_app (c : UInt8) : ∀ (g r : List UInt8), c ∉ g → partsL c (g ++ c :: r) = g :: partsL c r
  | [], r, _ => by simp [partsL]
  | b :: g, r, h => by
    rw [List.cons_append, partsL, if_neg (by rintro rfl; exact h (List.mem_cons_self ..)), partsL_app c g r (fun h' => h (List.mem_cons_of_mem _ h'))]; rfl
theorem joinC (c : UInt8) (x y : List UInt8) (r : List (List UInt8)) : Lib.join (x :: y :: r) [c] = x ++ c :: Lib.join (y :: r) [c] := by
  rw [Lib.join_cons, Lib.join_cons]; simp [Lib.joinTail]
theorem partsL_join (c : UInt8) : ∀ (gs : List (List UInt8)), gs ≠ [] → (∀ g ∈ gs, c ∉ g) → partsL c (Lib.join gs [c]) = gs
  | [], h, _ => absurd rfl h
  | [x], _, h => by rw [Lib.join_one]; exact partsL_none c x (h x (List.mem_cons_self ..))
  | x :: y :: r, _, h => by
    rw [joinC, partsL_app c x _ (h x (List.mem_cons_self ..)), partsL_join c (y :: r) (by simp) (fun g hg => h g (List.mem_cons_of_mem _ hg))]
theorem join_partsL (c : UInt8) : ∀ l : List UInt8, Lib.join (partsL c l) [c] = l
  | [] => rfl
  | b :: l => by
    have ih := join_partsL c l
    obtain ⟨g, gs, hg⟩ := partsL_pos c l
    rw [partsL]
    split
    · rename_i hb
      rw [hg] at ih ⊢
      rw [joinC, ih, hb]; rfl
    · rw [hg] at ih ⊢
      simp only [List.headD_cons, List.tail_cons]
      rw [Lib.join_cons] at ih ⊢
      rw [List.cons_append, ih]
/-- What stands ahead of the first c, and behind it. -/
def cutA (c : UInt8) (l : List UInt8) : List UInt8 := l.takeWhile (· != c)
def cutB (c : UInt8) (l : List UInt8) : List UInt8 := (l.dropWhile (· != c)).drop 1
def cutT (c : UInt8) (l : List UInt8) : Bool := decide (c ∈ l)
theorem cutA_none (c : UInt8) (l : List UInt8) (h : c ∉ l) : cutA c l = l ∧ cutB c l = [] := by
  induction l with
  | nil => exact ⟨rfl, rfl⟩
  | cons b l ih =>
    have hb : b ≠ c := by rintro rfl; exact h (List.mem_cons_self ..)
    have := ih (fun h' => h (List.mem_cons_of_mem _ h'))
    unfold cutA cutB at this ⊢
    simp only [List.takeWhile_cons, List.dropWhile_cons, show (b != c) = true by simpa using hb, if_true, this.1, this.2]
    simp
theorem cutA_not (c : UInt8) : ∀ l : List UInt8, c ∉ cutA c l
  | [] => by simp [cutA]
  | b :: l => by
    have ih := cutA_not c l
    unfold cutA at ih ⊢
    rw [List.takeWhile_cons]
    split
    · rename_i hb
      intro h
      rcases List.mem_cons.1 h with h | h
      · subst h; simp at hb
      · exact ih h
    · simp
theorem cut_eq (c : UInt8) : ∀ l : List UInt8, c ∈ l → l = cutA c l ++ c :: cutB c l
  | [], h => by simp at h
  | b :: l, h => by
    unfold cutA cutB
    by_cases hb : b = c
    · subst hb; simp
    · have h' : c ∈ l := by simpa [Ne.symm hb] using h
      have ih := cut_eq c l h'
      unfold cutA cutB at ih
      rw [List.takeWhile_cons, List.dropWhile_cons, if_pos (by simpa using hb), if_pos (by simpa using hb), List.cons_append, ← ih]
theorem index_none (c : UInt8) : ∀ l : List UInt8, c ∉ l → Lib.indexByte l c = -1
  | [], _ => rfl
  | b :: l, h => by
    have hb : b ≠ c := by rintro rfl; exact h (List.mem_cons_self ..)
    have ih := index_none c l (fun h' => h (List.mem_cons_of_mem _ h'))
    unfold Lib.indexByte
    rw [if_neg (by simpa using hb), ih]; rfl
theorem index_some (c : UInt8) : ∀ l : List UInt8, c ∈ l → Lib.indexByte l c = ((cutA c l).length : Int)
  | [], h => by simp at h
  | b :: l, h => by
    unfold Lib.indexByte cutA
    by_cases hb : b = c
    · subst hb; simp
    · have h' : c ∈ l := by simpa [Ne.symm hb] using h
      have ih := index_some c l h'
      unfold cutA at ih
      have e : (b :: l).takeWhile (· != c) = b :: l.takeWhile (· != c) := by simp [hb]
      rw [if_neg (by simpa using hb), e, ih, if_neg (by simp)]; simp

/-- The decimal digits of a number below 1000. -/
def digL (n : Nat) : List UInt8 := if n < 10 then [UInt8.ofNat (48 + n)] else if n < 100 then [UInt8.ofNat (48 + n / 10), UInt8.ofNat (48 + n % 10)] else [UInt8.ofNat (48 + n / 100), UInt8.ofNat (48 + n / 10 % 10), UInt8.ofNat (48 + n % 10)]
theorem digL_dec (n : Nat) (h : n < 1000) : Lib.decDigits n = digL n := by
  unfold digL
  split
  · rw [Lib.decDigits, dif_pos (by assumption)]
  · split
    · rw [Lib.decDigits, dif_neg (by assumption), Lib.decDigits, dif_pos (by omega)]; rfl
    · rw [Lib.decDigits, dif_neg (by assumption), Lib.decDigits, dif_neg (by omega), Lib.decDigits, dif_pos (by omega), show n / 10 / 10 = n / 100 by omega]; rfl
def isD (b : UInt8) : Bool := decide (48 ≤ b.toNat ∧ b.toNat ≤ 57)
def numD (l : List UInt8) : Nat := l.foldl (fun a b => 10 * a + (b.toNat - 48)) 0
theorem numD_snoc (l : List UInt8) (b : UInt8) : numD (l ++ [b]) = 10 * numD l + (b.toNat - 48) := by simp [numD]
def isDec (l : List UInt8) : Bool := decide (1 ≤ l.length ∧ l.length ≤ 3 ∧ (1 < l.length → l.headD 0 ≠ 48) ∧ l.all isD = true ∧ numD l ≤ 255)
def decV (l : List UInt8) : Nat := if isDec l then numD l else 0
theorem isDec_no {l : List UInt8} (h : ¬ (1 ≤ l.length ∧ l.length ≤ 3 ∧ (1 < l.length → l.headD 0 ≠ 48) ∧ l.all isD = true ∧ numD l ≤ 255)) : isDec l = false ∧ decV l = 0 := by
  have : isDec l = false := decide_eq_false h
  exact ⟨this, by unfold decV; rw [if_neg (by simp [this])]⟩
theorem isDec_yes {l : List UInt8} (h : 1 ≤ l.length ∧ l.length ≤ 3 ∧ (1 < l.length → l.headD 0 ≠ 48) ∧ l.all isD = true ∧ numD l ≤ 255) : isDec l = true ∧ decV l = numD l := by
  have : isDec l = true := decide_eq_true h
  exact ⟨this, by unfold decV; rw [if_pos this]⟩
theorem numD_lt (l : List UInt8) (h : l.all isD = true) : numD l < 10 ^ l.length := by
  induction l using snoc_ind with
  | h0 => simp [numD]
  | h1 l b ih =>
    have hl : l.all isD = true := by simp at h ⊢; exact h.1
    have hb : isD b = true := by simp at h; exact h.2
    have := ih hl
    unfold isD at hb
    have hb := of_decide_eq_true hb
    rw [numD_snoc, List.length_append, List.length_singleton, Nat.pow_succ]; omega
theorem byte_dig (b : UInt8) (n : Nat) (h1 : 48 ≤ b.toNat) (h2 : b.toNat - 48 = n) : UInt8.ofNat (48 + n) = b := by
  subst h2; rw [show 48 + (b.toNat - 48) = b.toNat by omega]; exact UInt8.ofNat_toNat
theorem digL_numD (l : List UInt8) (h : isDec l = true) : numD l < 256 ∧ digL (numD l) = l := by
  obtain ⟨h1, h2, h3, h4, h5⟩ := of_decide_eq_true h
  refine ⟨by omega, ?_⟩
  have hd : ∀ x ∈ l, 48 ≤ x.toNat ∧ x.toNat ≤ 57 := fun x hx => of_decide_eq_true ((List.all_eq_true.1 h4) x hx)
  match l, h1, h2, h3, hd with
  | [a], _, _, _, hd =>
    have ha := hd a (by simp)
    have : numD [a] = a.toNat - 48 := by simp [numD]
    rw [this]; unfold digL; rw [if_pos (by omega), byte_dig a _ ha.1 rfl]
  | [a, b], _, _, h3, hd =>
    have ha := hd a (by simp)
    have hb := hd b (by simp)
    have hz : a ≠ 48 := h3 (by simp)
    have hz' : a.toNat ≠ 48 := fun e => hz (UInt8.toNat_inj.1 e)
    have : numD [a, b] = 10 * (a.toNat - 48) + (b.toNat - 48) := by simp [numD]
    rw [this]; unfold digL
    rw [if_neg (by omega), if_pos (by omega), byte_dig a _ ha.1 (by omega), byte_dig b _ hb.1 (by omega)]
  | [a, b, c], _, _, h3, hd =>
    have ha := hd a (by simp)
    have hb := hd b (by simp)
    have hc := hd c (by simp)
    have hz : a ≠ 48 := h3 (by simp)
    have hz' : a.toNat ≠ 48 := fun e => hz (UInt8.toNat_inj.1 e)
    have : numD [a, b, c] = 10 * (10 * (a.toNat - 48) + (b.toNat - 48)) + (c.toNat - 48) := by simp [numD]
    rw [this]; unfold digL
    rw [if_neg (by omega), if_neg (by omega), byte_dig a _ ha.1 (by omega), byte_dig b _ hb.1 (by omega), byte_dig c _ hc.1 (by omega)]
  | [], h1, _, _, _ => simp at h1
  | _ :: _ :: _ :: _ :: _, _, h2, _, _ => simp at h2
theorem dec_digL : ∀ n : Nat, n < 256 → isDec (digL n) = true ∧ numD (digL n) = n := by decide +kernel
theorem digL_no (c : UInt8) (hc : isD c = false) (n : Nat) (h : n < 256) : c ∉ digL n := by
  intro hm
  have := (of_decide_eq_true (dec_digL n h).1).2.2.2.1
  have := (List.all_eq_true.1 this) c hm
  rw [hc] at this; cases this

/-- The text of four bytes, of sixteen. -/
def text4 (b : List UInt8) : List UInt8 := Lib.join (b.map fun x => digL x.toNat) [46]
def grp (b : List UInt8) (i : Nat) : List UInt8 := (b.drop (2 * i)).take 2
def text6 (b : List UInt8) : List UInt8 := Lib.join ((List.range 8).map fun i => hexL (grp b i)) [58]
def isFour (l : List UInt8) : Bool := decide ((partsL 46 l).length = 4) && (partsL 46 l).all isDec
def fourB (l : List UInt8) : List UInt8 := (partsL 46 l).map fun g => UInt8.ofNat (numD g)
theorem four_text (l : List UInt8) (h : isFour l = true) : (fourB l).length = 4 ∧ text4 (fourB l) = l := by
  unfold isFour at h
  rw [Bool.and_eq_true] at h
  have h1 := of_decide_eq_true h.1
  refine ⟨by unfold fourB; simpa using h1, ?_⟩
  unfold text4 fourB
  rw [List.map_map]
  have : (partsL 46 l).map ((fun x : UInt8 => digL x.toNat) ∘ fun g => UInt8.ofNat (numD g)) = partsL 46 l := by
    conv => rhs; rw [← List.map_id (partsL 46 l)]
    apply List.map_congr_left
    intro g hg
    have := digL_numD g ((List.all_eq_true.1 h.2) g hg)
    simp only [Function.comp, UInt8.toNat_ofNat', id]
    rw [Nat.mod_eq_of_lt this.1]; exact this.2
  rw [this, join_partsL]
theorem parts_text4 (b : List UInt8) (h : b ≠ []) : partsL 46 (text4 b) = b.map fun x => digL x.toNat := by
  unfold text4
  refine partsL_join 46 _ (by simpa using h) ?_
  intro g hg
  obtain ⟨x, _, rfl⟩ := List.mem_map.1 hg
  exact digL_no 46 (by decide) _ x.toNat_lt
theorem text4_four (b : List UInt8) (h : b.length = 4) : isFour (text4 b) = true ∧ fourB (text4 b) = b := by
  have hn : b ≠ [] := by rintro rfl; simp at h
  unfold isFour fourB
  rw [parts_text4 b hn]
  refine ⟨?_, ?_⟩
  · rw [Bool.and_eq_true]
    refine ⟨by simpa using h, ?_⟩
    rw [List.all_eq_true]
    intro g hg
    obtain ⟨x, _, rfl⟩ := List.mem_map.1 hg
    exact (dec_digL _ x.toNat_lt).1
  · rw [List.map_map]
    conv => rhs; rw [← List.map_id b]
    apply List.map_congr_left
    intro x _
    simp only [Function.comp, id]
    rw [(dec_digL _ x.toNat_lt).2]; exact UInt8.ofNat_toNat

theorem hexL_unhexL : ∀ (l r : List UInt8), unhexL l = some r → hexL r = l
  | [], r, h => by simp [unhexL] at h; subst h; rfl
  | [_], r, h => by simp [unhexL] at h
  | a :: b :: l, r, h => by
    rw [unhexL] at h
    cases ha : valD a with
    | none => rw [ha] at h; simp at h
    | some x => cases hb : valD b with
      | none => rw [ha, hb] at h; simp at h
      | some y => cases hl : unhexL l with
        | none => rw [ha, hb, hl] at h; simp at h
        | some q =>
          rw [ha, hb, hl] at h
          simp only [Option.some.injEq] at h
          subst h
          have h1 := valI_some ha
          have h2 := valI_some hb
          have e1 : hexD x = a := UInt8.toNat_inj.1 (by have := h1.2; omega)
          have e2 : hexD y = b := UInt8.toNat_inj.1 (by have := h2.2; omega)
          rw [hexL, hexL_unhexL l q hl, UInt8.toNat_ofNat', show (16 * x + y) % 2 ^ 8 / 16 = x by omega, show (16 * x + y) % 2 ^ 8 % 16 = y by omega, e1, e2]
theorem hexL_drop : ∀ (k : Nat) (l : List UInt8), (hexL l).drop (2 * k) = hexL (l.drop k)
  | 0, l => by simp
  | k + 1, [] => by simp [hexL]
  | k + 1, b :: l => by rw [hexL, show 2 * (k + 1) = 2 * k + 2 by omega, List.drop_succ_cons, List.drop_succ_cons, hexL_drop k l, List.drop_succ_cons]
theorem hexL_take : ∀ (k : Nat) (l : List UInt8), (hexL l).take (2 * k) = hexL (l.take k)
  | 0, l => by simp [hexL]
  | k + 1, [] => by simp [hexL]
  | k + 1, b :: l => by rw [hexL, show 2 * (k + 1) = 2 * k + 2 by omega, List.take_succ_cons, List.take_succ_cons, hexL_take k l, List.take_succ_cons, hexL]
theorem hexD_no (c : UInt8) (hc : valD c = none) (n : Nat) (h : n < 16) : hexD n ≠ c := by
  rintro rfl; rw [valD_hexD n h] at hc; cases hc
theorem hexL_no (c : UInt8) (hc : valD c = none) : ∀ l : List UInt8, c ∉ hexL l
  | [] => by simp [hexL]
  | b :: l => by
    have := b.toNat_lt
    have h1 := hexD_no c hc (b.toNat / 16) (by omega)
    have h2 := hexD_no c hc (b.toNat % 16) (by omega)
    have := hexL_no c hc l
    simp [hexL, Ne.symm h1, Ne.symm h2, this]
def isSix (l : List UInt8) : Bool := decide ((partsL 58 l).length = 8) && (partsL 58 l).all (fun g => decide (g.length = 4)) && unhexOk (partsL 58 l).flatten
def sixB (l : List UInt8) : List UInt8 := unhexV (partsL 58 l).flatten
theorem flat_len (n : Nat) : ∀ gs : List (List UInt8), (∀ g ∈ gs, g.length = n) → gs.flatten.length = n * gs.length
  | [], _ => by simp
  | g :: gs, h => by
    rw [List.flatten_cons, List.length_append, flat_len n gs (fun x hx => h x (List.mem_cons_of_mem _ hx)), h g (List.mem_cons_self ..), List.length_cons, Nat.mul_succ]; omega
theorem flat_grp (n : Nat) : ∀ (gs : List (List UInt8)) (i : Nat), (∀ g ∈ gs, g.length = n) → i < gs.length → (gs.flatten.drop (n * i)).take n = gs.getD i []
  | [], i, _, h => by simp at h
  | g :: gs, 0, h, _ => by simp [h g (List.mem_cons_self ..)]
  | g :: gs, i + 1, h, hi => by
    have hg := h g (List.mem_cons_self ..)
    rw [List.flatten_cons, show n * (i + 1) = g.length + n * i by rw [hg, Nat.mul_succ]; omega, List.drop_append, List.drop_of_length_le (by omega), List.nil_append, Nat.add_sub_cancel_left, flat_grp n gs i (fun x hx => h x (List.mem_cons_of_mem _ hx)) (by simpa using hi)]
    simp
theorem unhex_flat : ∀ (gs : List (List UInt8)), (∀ g ∈ gs, g.length = 4) → unhexOk gs.flatten = true → (∀ g ∈ gs, unhexOk g = true) ∧ unhexV gs.flatten = (gs.map unhexV).flatten
  | [], _, _ => ⟨fun _ h => by simp at h, rfl⟩
  | g :: gs, h, ho => by
    have hg := h g (List.mem_cons_self ..)
    rw [List.flatten_cons] at ho ⊢
    unfold unhexOk at ho
    rw [unhexL_append g gs.flatten (by omega)] at ho
    cases h1 : unhexL g with
    | none => rw [h1] at ho; simp at ho
    | some x => cases h2 : unhexL gs.flatten with
      | none => rw [h1, h2] at ho; simp at ho
      | some y =>
        have ih := unhex_flat gs (fun x hx => h x (List.mem_cons_of_mem _ hx)) (unhex_some h2).2
        have e : unhexL (g ++ gs.flatten) = some (x ++ y) := by rw [unhexL_append g _ (by omega), h1, h2]
        refine ⟨?_, ?_⟩
        · intro q hq
          rcases List.mem_cons.1 hq with rfl | hq
          · exact (unhex_some h1).2
          · exact ih.1 q hq
        · rw [(unhex_some e).1, List.map_cons, List.flatten_cons, (unhex_some h1).1, ← ih.2, (unhex_some h2).1]
theorem range8 {α : Type} (f : Nat → α) : (List.range 8).map f = [f 0, f 1, f 2, f 3, f 4, f 5, f 6, f 7] := rfl
theorem grp_flat (b : List UInt8) (h : b.length = 16) : ((List.range 8).map (grp b)).flatten = b ∧ ∀ i, i < 8 → (grp b i).length = 2 := by
  have hl : ∀ i, i < 8 → (grp b i).length = 2 := fun i hi => by unfold grp; simp; omega
  refine ⟨?_, hl⟩
  match b, h with
  | [_, _, _, _, _, _, _, _, _, _, _, _, _, _, _, _], _ => rfl
theorem hex_grp (b : List UInt8) (h : b.length = 16) : ((List.range 8).map fun i => hexL (grp b i)).flatten = hexL b := by
  conv => rhs; rw [← (grp_flat b h).1]
  rw [range8, range8]
  simp only [List.flatten_cons, List.flatten_nil, hexL_append, hexL]
theorem parts_text6 (b : List UInt8) : partsL 58 (text6 b) = (List.range 8).map fun i => hexL (grp b i) := by
  unfold text6
  refine partsL_join 58 _ (by simp) ?_
  intro g hg
  obtain ⟨i, _, rfl⟩ := List.mem_map.1 hg
  exact hexL_no 58 (by decide) _
theorem text6_six (b : List UInt8) (h : b.length = 16) : isSix (text6 b) = true ∧ sixB (text6 b) = b := by
  unfold isSix sixB
  rw [parts_text6, hex_grp b h, (unhex_some (unhexL_hexL b)).1, (unhex_some (unhexL_hexL b)).2]
  refine ⟨?_, rfl⟩
  rw [Bool.and_true, Bool.and_eq_true]
  refine ⟨by simp, ?_⟩
  rw [List.all_eq_true]
  intro g hg
  obtain ⟨i, hi, rfl⟩ := List.mem_map.1 hg
  have := (grp_flat b h).2 i (by simpa using hi)
  simp [hexL_length, this]
theorem six_text (l : List UInt8) (h : isSix l = true) : (sixB l).length = 16 ∧ text6 (sixB l) = l := by
  unfold isSix at h
  rw [Bool.and_eq_true, Bool.and_eq_true] at h
  obtain ⟨⟨h1, h2⟩, h3⟩ := h
  have h1 := of_decide_eq_true h1
  have h4 : ∀ g ∈ partsL 58 l, g.length = 4 := fun g hg => of_decide_eq_true ((List.all_eq_true.1 h2) g hg)
  have hf := flat_len 4 _ h4
  unfold unhexOk at h3
  cases hu : unhexL (partsL 58 l).flatten with
  | none => rw [hu] at h3; cases h3
  | some r =>
    have hs : sixB l = r := (unhex_some hu).1
    have hr := unhexL_length _ _ hu
    have hx := hexL_unhexL _ _ hu
    have hl : r.length = 16 := by omega
    rw [hs]
    refine ⟨hl, ?_⟩
    have e : (List.range 8).map (fun i => hexL (grp r i)) = partsL 58 l := by
      apply List.ext_getElem
      · simp [h1]
      · intro i hi hi'
        have hi8 : i < 8 := by simpa using hi
        rw [List.getElem_map, List.getElem_range]
        have h5 := flat_grp 4 (partsL 58 l) i h4 (by omega)
        rw [← hx, show 4 * i = 2 * (2 * i) by omega, hexL_drop, show (4 : Nat) = 2 * 2 from rfl, hexL_take] at h5
        unfold grp
        rw [h5]
        simp [hi']
    unfold text6
    rw [e, join_partsL]

/-- An address as it stands: its bytes; the address of bytes. -/
def rightA (v : Bool) (hi lo : Int) : Bool := v || (decide (hi = 0) && decide (lo < 4294967296))
def addrB (v : Bool) (hi lo : Int) : List UInt8 := if v then bigB 8 hi.toNat ++ bigB 8 lo.toNat else if rightA v hi lo then bigB 4 lo.toNat else []
def gOk (b : List UInt8) : Bool := decide (b.length = 4 ∨ b.length = 16)
def gV (b : List UInt8) : Bool := decide (b.length = 16)
def gHi (b : List UInt8) : Int := if b.length = 16 then (numB (b.take 8) : Int) else 0
def gLo (b : List UInt8) : Int := if b.length = 16 then (numB (b.drop 8) : Int) else if b.length = 4 then (numB b : Int) else 0
def textB (b : List UInt8) : List UInt8 := if b.length = 4 then text4 b else if b.length = 16 then text6 b else []
def textA (v : Bool) (hi lo : Int) : List UInt8 := textB (addrB v hi lo)
theorem gHi_bd (b : List UInt8) : 0 ≤ gHi b ∧ gHi b < 18446744073709551616 := by
  unfold gHi; split
  · have := numB_lt (b.take 8); rw [List.length_take, show min 8 b.length = 8 by omega] at this; omega
  · omega
theorem gLo_bd (b : List UInt8) : 0 ≤ gLo b ∧ gLo b < 18446744073709551616 := by
  unfold gLo; split
  · have := numB_lt (b.drop 8); rw [List.length_drop, show b.length - 8 = 8 by omega] at this; omega
  · split
    · have := numB_lt b; rename_i h; rw [h] at this; omega
    · omega
theorem g_right (b : List UInt8) : rightA (gV b) (gHi b) (gLo b) = true := by
  unfold rightA gV gHi gLo
  by_cases h : b.length = 16
  · simp [h]
  · simp only [h, decide_false, if_false, Bool.false_or]
    split
    · have := numB_lt b; rename_i h4; rw [h4] at this
      rw [Bool.and_eq_true]; exact ⟨by simp, decide_eq_true (by omega)⟩
    · simp
theorem addrB_g (b : List UInt8) (h : gOk b = true) : addrB (gV b) (gHi b) (gLo b) = b := by
  have hr := g_right b
  unfold addrB
  rw [hr]
  rcases of_decide_eq_true h with h4 | h4
  · have hn : ¬ b.length = 16 := by omega
    unfold gV gLo
    rw [if_neg (by simp [hn]), if_pos rfl, if_neg hn, if_pos h4]
    have := bigB_numB b; rw [h4] at this
    exact this
  · unfold gV gLo gHi
    rw [if_pos (by simp [h4]), if_pos h4, if_pos h4]
    have h1 := bigB_numB (b.take 8); rw [List.length_take, show min 8 b.length = 8 by omega] at h1
    have h2 := bigB_numB (b.drop 8); rw [List.length_drop, show b.length - 8 = 8 by omega] at h2
    rw [Int.toNat_natCast, Int.toNat_natCast, h1, h2, List.take_append_drop]
theorem addrB_len (v : Bool) (hi lo : Int) (h : rightA v hi lo = true) : (addrB v hi lo).length = if v then 16 else 4 := by
  unfold addrB
  rw [h]
  cases v <;> simp [bigB_length]
theorem addrB_no (v : Bool) (hi lo : Int) (h : rightA v hi lo = false) : addrB v hi lo = [] := by
  unfold addrB
  have hv : v = false := by cases v <;> simp [rightA] at h ⊢
  rw [h, hv]; rfl
/-- An address comes back from its bytes. -/
theorem g_addrB (v : Bool) (hi lo : Int) (h : rightA v hi lo = true) (h0 : 0 ≤ hi) (h1 : hi < 18446744073709551616) (l0 : 0 ≤ lo) (l1 : lo < 18446744073709551616) :
    gOk (addrB v hi lo) = true ∧ gV (addrB v hi lo) = v ∧ gHi (addrB v hi lo) = hi ∧ gLo (addrB v hi lo) = lo := by
  have hl := addrB_len v hi lo h
  unfold gOk gV gHi gLo
  rw [hl]
  cases v
  · unfold rightA at h
    simp only [Bool.false_or, Bool.and_eq_true, decide_eq_true_eq] at h
    unfold addrB rightA
    rw [h.1]
    simp only [Bool.false_eq_true, if_false, Bool.false_or, decide_true, Bool.true_and, decide_eq_true h.2, if_true]
    rw [numB_bigB]
    refine ⟨by decide, by decide, by simp, ?_⟩
    simp
    omega
  · unfold addrB
    simp only [if_true]
    have t8 : (bigB 8 hi.toNat ++ bigB 8 lo.toNat).take 8 = bigB 8 hi.toNat := by rw [List.take_append_of_le_length (by rw [bigB_length]; omega), List.take_of_length_le (by rw [bigB_length]; omega)]
    have d8 : (bigB 8 hi.toNat ++ bigB 8 lo.toNat).drop 8 = bigB 8 lo.toNat := by rw [List.drop_append, bigB_length, List.drop_of_length_le (by rw [bigB_length]; omega)]; simp
    rw [t8, d8, numB_bigB, numB_bigB]
    refine ⟨by decide, by decide, ?_, ?_⟩ <;> omega
/-- What Read makes of a text: the bytes. -/
def readB (l : List UInt8) : List UInt8 := if isFour l then fourB l else if isSix l then sixB l else []
theorem textB_4 (b : List UInt8) (h : b.length = 4) : textB b = text4 b := by unfold textB; rw [if_pos h]
theorem textB_6 (b : List UInt8) (h : b.length = 16) : textB b = text6 b := by unfold textB; rw [if_neg (by omega), if_pos h]
theorem textB_no (b : List UInt8) (h : gOk b = false) : textB b = [] := by
  have := of_decide_eq_false h
  unfold textB; rw [if_neg (by omega), if_neg (by omega)]
theorem text6_no4 (b : List UInt8) : isFour (text6 b) = false := by
  have hn : (46 : UInt8) ∉ text6 b := by
    unfold text6
    rw [range8, Lib.join_cons]
    have h := fun i => hexL_no 46 (by decide) (grp b i)
    simp [Lib.joinTail, h]
  unfold isFour
  rw [partsL_none 46 _ hn]; simp
/-- A text is read as the bytes whose text it is; what is read has this text. -/
theorem readB_text (b : List UInt8) (h : gOk b = true) : readB (textB b) = b := by
  unfold readB
  rcases of_decide_eq_true h with h4 | h4
  · rw [textB_4 b h4, if_pos (text4_four b h4).1, (text4_four b h4).2]
  · rw [textB_6 b h4, if_neg (by rw [text6_no4]; decide), if_pos (text6_six b h4).1, (text6_six b h4).2]
theorem text_readB (l : List UInt8) (h : gOk (readB l) = true) : textB (readB l) = l := by
  unfold readB at h ⊢
  split at h
  · rename_i h4
    rw [if_pos h4]
    have := four_text l h4
    rw [textB_4 _ this.1, this.2]
  · rename_i h4
    rw [if_neg h4]
    split at h
    · rename_i h6
      rw [if_pos h6]
      have := six_text l h6
      rw [textB_6 _ this.1, this.2]
    · cases h
theorem readB_four {l : List UInt8} (h : isFour l = true) : readB l = fourB l := if_pos h
theorem readB_six {l : List UInt8} (h4 : isFour l = false) (h : isSix l = true) : readB l = sixB l := by unfold readB; rw [if_neg (by simp [h4]), if_pos h]
theorem readB_no {l : List UInt8} (h4 : isFour l = false) (h : isSix l = false) : readB l = [] := by unfold readB; rw [if_neg (by simp [h4]), if_neg (by simp [h])]
theorem readA_text (v : Bool) (hi lo : Int) (h : rightA v hi lo = true) (h0 : 0 ≤ hi) (h1 : hi < 18446744073709551616) (l0 : 0 ≤ lo) (l1 : lo < 18446744073709551616) : readB (textA v hi lo) = addrB v hi lo :=
  readB_text _ (g_addrB v hi lo h h0 h1 l0 l1).1
theorem textA_read (l : List UInt8) (h : gOk (readB l) = true) : textA (gV (readB l)) (gHi (readB l)) (gLo (readB l)) = l := by
  unfold textA; rw [addrB_g _ h, text_readB l h]
/-- The order. -/
def lessA (v : Bool) (hi lo : Int) (v' : Bool) (hi' lo' : Int) : Bool := if v ≠ v' then v' else if hi ≠ hi' then decide (hi < hi') else decide (lo < lo')
/-- What the reference makes of a text ahead of its look at the text. -/
def numR (l : List UInt8) : Nat := if l.length < 20 then l.foldl (fun a b => if isD b ∧ a < 576460752303423488 then 10 * a + (b.toNat - 48) else a) 0 else 0
def refB (l : List UInt8) : List UInt8 := if (partsL 46 l).length = 4 then (partsL 46 l).map fun g => UInt8.ofNat (numR g % 256) else if (partsL 58 l).length = 8 then ((partsL 58 l).map unhexV).flatten else []
theorem numR_dec (l : List UInt8) (h : isDec l = true) : numR l = numD l := by
  obtain ⟨h1, h2, _, h4, h5⟩ := of_decide_eq_true h
  unfold numR numD
  rw [if_pos (by omega)]
  have key : ∀ (m : List UInt8) (a : Nat), m.all isD = true → a * 1000 < 576460752303423488 → m.length ≤ 3 → m.foldl (fun a b => if isD b ∧ a < 576460752303423488 then 10 * a + (b.toNat - 48) else a) a = m.foldl (fun a b => 10 * a + (b.toNat - 48)) a := by
    intro m
    match m with
    | [] => intros; rfl
    | [x] => intro a ha h _; simp at ha; simp [ha]; omega
    | [x, y] => intro a ha h _; simp at ha; have := of_decide_eq_true ha.1; simp [ha]; rw [if_pos (show a < 576460752303423488 by omega), if_pos (by omega)]
    | [x, y, z] => intro a ha h _; simp at ha; have := of_decide_eq_true ha.1; have := of_decide_eq_true ha.2.1; simp [ha]; rw [if_pos (show a < 576460752303423488 by omega), if_pos (show 10 * a + (x.toNat - 48) < 576460752303423488 by omega), if_pos (by omega)]
    | _ :: _ :: _ :: _ :: _ => intro a _ _ h; simp at h
  exact key l 0 h4 (by omega) h2
/-- The reference's answer is the program's. -/
theorem ref_read (l : List UInt8) : (gOk (refB l) = true ∧ textB (refB l) = l ∧ readB l = refB l) ∨ (¬ (gOk (refB l) = true ∧ textB (refB l) = l) ∧ readB l = []) := by
  by_cases h : gOk (refB l) = true ∧ textB (refB l) = l
  · refine .inl ⟨h.1, h.2, ?_⟩
    have := readB_text (refB l) h.1
    rwa [h.2] at this
  · refine .inr ⟨h, ?_⟩
    have key : ∀ b : List UInt8, refB l = b → gOk b = true → textB b ≠ l := fun b hb hg ht => h ⟨by rw [hb]; exact hg, by rw [hb]; exact ht⟩
    cases h4 : isFour l with
    | true =>
      have h5 := four_text l h4
      refine absurd ?_ (key (fourB l) ?_ (decide_eq_true (.inl h5.1)))
      · rw [textB_4 _ h5.1, h5.2]
      · unfold isFour at h4
        rw [Bool.and_eq_true] at h4
        unfold refB fourB
        rw [if_pos (of_decide_eq_true h4.1)]
        apply List.map_congr_left
        intro g hg
        have hd := (List.all_eq_true.1 h4.2) g hg
        rw [numR_dec g hd, Nat.mod_eq_of_lt (digL_numD g hd).1]
    | false => cases h6 : isSix l with
      | false => exact readB_no h4 h6
      | true =>
        have h5 := six_text l h6
        refine absurd ?_ (key (sixB l) ?_ (decide_eq_true (.inr h5.1)))
        · rw [textB_6 _ h5.1, h5.2]
        · have hn : (46 : UInt8) ∉ l := by
            rw [← h5.2]; unfold text6
            rw [range8, Lib.join_cons]
            have h := fun i => hexL_no 46 (by decide) (grp (sixB l) i)
            simp [Lib.joinTail, h]
          unfold isSix at h6
          rw [Bool.and_eq_true, Bool.and_eq_true] at h6
          unfold refB sixB
          rw [partsL_none 46 l hn, if_neg (by simp), if_pos (of_decide_eq_true h6.1.1)]
          exact (unhex_flat _ (fun g hg => of_decide_eq_true ((List.all_eq_true.1 h6.1.2) g hg)) h6.2).2.symm
end Go.Proofs.Ytklilelbebhinaa
