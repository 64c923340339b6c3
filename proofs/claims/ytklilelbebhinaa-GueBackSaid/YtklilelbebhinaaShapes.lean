/- What an argument of plain data is, by its shape: numbers, truth values, strings, structs, arrays, slices of them. No program. -/
import Derived.Carry
import Derived.OpenShut
import Derived.ChangeSame
import Derived.Deep.Slices
import Derived.WalkKit
namespace Go.Proofs.Ytklilelbebhinaa
open Go.ChangeShapes Go.WideShapes Go.RowKit
set_option linter.unusedVariables false

inductive Shp where
  | int (k : IntKind)
  | bool
  | str
  | nil
  | two (a b : Shp)
  | sl (e : Shp)

def Shp.width : Shp → Nat
  | .int _ => 1
  | .bool => 1
  | .str => 1
  | .nil => 0
  | .two a b => a.width + b.width
  | .sl _ => 1

/-- The cells cs read as a value of the shape. -/
def Fits (w : World) : Shp → List Value → Prop
  | .int k, cs => ∃ n, cs = [.int k n] ∧ (Lit.int k n).wf = true
  | .bool, cs => ∃ b, cs = [.bool b]
  | .str, cs => ∃ s : ByteArray, cs = [.string s] ∧ s.size ≤ maxLen
  | .nil, cs => cs = []
  | .two a b, cs => ∃ c1 c2, cs = c1 ++ c2 ∧ c1.length = a.width ∧ Fits w a c1 ∧ Fits w b c2
  | .sl e, cs => cs = [.slice none 0 0] ∨ ∃ (a : Addr) (n cap : Nat), cs = [.slice (some a) n cap] ∧ n ≤ cap ∧ cap ≤ maxLen ∧
      ∀ i, i < n → ∃ c, c.length = e.width ∧ (∀ j u, c[j]? = some u → w.cell? (a.add (i * e.width + j)) = some u) ∧ Fits w e c

/-- The type t has the shape. -/
def mtch (P : Program) : Shp → (TypeId ⊕ (List Field × Nat)) → Bool
  | .int k, .inl t => match P.underlying t with
    | some (.int k') => decide (k' = k)
    | _ => false
  | .bool, .inl t => match P.underlying t with
    | some .bool => true
    | _ => false
  | .str, .inl t => match P.underlying t with
    | some .string => true
    | _ => false
  | .sl e, .inl t => match P.underlying t with
    | some (.slice te) => decide (P.cellsOf te = e.width) && mtch P e (.inl te)
    | _ => false
  | .nil, .inr ([], _) => true
  | .two a b, .inl t => match P.underlying t with
    | some (.struct fs) => (match fs.toList with
      | f :: r => decide (f.offset = 0) && (decide (P.cellsOf f.type = a.width) && (decide (P.cellsOf t = a.width + b.width) && (mtch P a (.inl f.type) && mtch P b (.inr (r, a.width)))))
      | [] => false)
    | _ => false
  | .two a b, .inr (f :: r, off) => decide (f.offset = off) && (decide (P.cellsOf f.type = a.width) && (mtch P a (.inl f.type) && mtch P b (.inr (r, off + a.width))))
  | _, _ => false

section
variable {H : Type} {enc : TypeId × Value → H} {P : Program} {w : World} {base : Nat} {spare : Nat → Bool} {held : Bool}

/-- What the fields from offset off on read as. -/
def Reads (enc : TypeId × Value → H) (P : Program) (w : World) (base : Nat) (spare : Nat → Bool) (held : Bool) (n : Nat) (cs : List Value) (fs : List Field) : Prop :=
  ∀ (i : Nat) (f : Field), fs[i]? = some f → ∃ x, DataW.trod enc P w base spare held n f.type ((cs.drop f.offset).take (P.cellsOf f.type)) = some x

theorem fits_trod : ∀ (s : Shp),
    (∀ t, mtch P s (.inl t) = true → ∀ fuel cs x, DataW.trod enc P w base spare held fuel t cs = some x → Fits w s cs ∧ cs.length = s.width) ∧
    (∀ fs off, mtch P s (.inr (fs, off)) = true → ∀ n cs, cs.length = off + s.width → Reads enc P w base spare held n cs fs → Fits w s (cs.drop off))
  | .int k => by
    refine ⟨fun t hm fuel cs x h => ?_, fun fs off hm => by simp [mtch] at hm⟩
    unfold mtch at hm
    split at hm
    · rename_i k' hu
      have : k' = k := of_decide_eq_true hm
      subst this
      obtain ⟨n, h1, _, h3⟩ := DataW.trod_int hu h
      exact ⟨⟨n, h1, h3⟩, by rw [h1]; rfl⟩
    · cases hm
  | .bool => by
    refine ⟨fun t hm fuel cs x h => ?_, fun fs off hm => by simp [mtch] at hm⟩
    unfold mtch at hm
    split at hm
    · rename_i hu
      obtain ⟨b, h1, _⟩ := DataW.trod_bool hu h
      exact ⟨⟨b, h1⟩, by rw [h1]; rfl⟩
    · cases hm
  | .str => by
    refine ⟨fun t hm fuel cs x h => ?_, fun fs off hm => by simp [mtch] at hm⟩
    unfold mtch at hm
    split at hm
    · rename_i hu
      obtain ⟨s, h1, _, h3⟩ := DataW.trod_string hu h
      exact ⟨⟨s, h1, h3⟩, by rw [h1]; rfl⟩
    · cases hm
  | .nil => by
    refine ⟨fun t hm => by simp [mtch] at hm, fun fs off hm n cs hl _ => ?_⟩
    show cs.drop off = []
    simp only [Shp.width] at hl
    exact List.drop_of_length_le (by omega)
  | .sl e => by
    refine ⟨fun t hm fuel cs x h => ?_, fun fs off hm => by simp [mtch] at hm⟩
    unfold mtch at hm
    split at hm
    · rename_i te hu
      simp only [Bool.and_eq_true, decide_eq_true_eq] at hm
      obtain ⟨hc, he⟩ := hm
      rcases Deep.open_slice hu h with ⟨h1, _⟩ | ⟨a, len, cap, m, n, D, Pl, h1, _, hl, hm, hmm, _, hx⟩
      · exact ⟨.inl h1, by rw [h1]; rfl⟩
      · refine ⟨.inr ⟨a, len, cap, h1, hl, hm, fun i hi => ?_⟩, by rw [h1]; rfl⟩
        have him : i < m := by rw [hmm]; split <;> omega
        obtain ⟨c, hc1, hc2⟩ := hx i him
        rw [hc] at hc1
        obtain ⟨_, hlen, hcell⟩ := World.cells?_some hc1
        refine ⟨c, hlen, fun j u hj => ?_, ((fits_trod e).1 te he _ _ _ hc2).1⟩
        have hjl : j < e.width := by
          have := (List.getElem?_eq_some_iff.1 hj).1
          omega
        rw [← Deep.add_add, hcell j hjl]
        exact hj
    · cases hm
  | .two a b => by
    refine ⟨fun t hm fuel cs x h => ?_, fun fs off hm n cs hl hr => ?_⟩
    · unfold mtch at hm
      split at hm
      · rename_i fs hu
        split at hm
        · rename_i f r hfs
          simp only [Bool.and_eq_true, decide_eq_true_eq] at hm
          obtain ⟨h0, hca, hct, hma, hmb⟩ := hm
          obtain ⟨xs, n, _, _, hcl, hxl, hf⟩ := DataW.trod_struct hu h
          have hget : ∀ (i : Nat) (g : Field), (f :: r)[i]? = some g → ∃ y, DataW.trod enc P w base spare held n g.type ((cs.drop g.offset).take (P.cellsOf g.type)) = some y := by
            intro i g hg
            have hg2 : fs[i]? = some g := by rw [← hfs] at hg; simpa using hg
            have hi : i < xs.length := by rw [hxl]; exact (Array.getElem?_eq_some_iff.1 hg2).1
            exact ⟨xs[i], (hf i g hg2).trans (List.getElem?_eq_getElem hi)⟩
          obtain ⟨y, hy⟩ := hget 0 f rfl
          rw [h0, List.drop_zero, hca] at hy
          have hA := (fits_trod a).1 f.type hma _ _ _ hy
          have hB := (fits_trod b).2 r a.width hmb n cs (by rw [hcl, hct]) (fun i g hg => hget (i + 1) g (by simpa using hg))
          exact ⟨⟨cs.take a.width, cs.drop a.width, (List.take_append_drop _ _).symm, hA.2, hA.1, hB⟩, by rw [hcl, hct]; rfl⟩
        · cases hm
      · cases hm
    · cases fs with
      | nil => simp [mtch] at hm
      | cons f r =>
        simp only [mtch, Bool.and_eq_true, decide_eq_true_eq] at hm
        obtain ⟨h0, hca, hma, hmb⟩ := hm
        obtain ⟨y, hy⟩ := hr 0 f rfl
        rw [h0, hca] at hy
        have hA := (fits_trod a).1 f.type hma _ _ _ hy
        simp only [Shp.width] at hl
        have hB := (fits_trod b).2 r (off + a.width) hmb n cs (by omega) (fun i g hg => hr (i + 1) g (by simpa using hg))
        refine ⟨(cs.drop off).take a.width, cs.drop (off + a.width), ?_, hA.2, hA.1, hB⟩
        rw [← List.drop_drop]
        exact (List.take_append_drop _ _).symm

/-- An argument whose type has the shape. -/
theorem fits_arg {t : TypeId} {v : Value} {d : DataW H} {p : List MemPlace} (s : Shp) (hm : mtch P s (.inl t) = true) (h : DataW.Trod enc P w base spare held t v d p) : Fits w s v.cells.toList := by
  obtain ⟨fuel, hf⟩ := h
  exact ((fits_trod s).1 t hm _ _ _ hf).1
end
end Go.Proofs.Ytklilelbebhinaa
