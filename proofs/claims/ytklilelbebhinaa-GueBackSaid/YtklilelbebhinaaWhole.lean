/- A struct of many cells, whole, out of a block and into it: one step, whatever the number of cells. No program. -/
import Derived.Test.YtklilelbebhinaaKit
import Derived.Laws.Tables
import Derived.Deep.WholeRow
import Derived.Deep.MidRow
import Derived.Laws.CopyOwn
namespace Go.Proofs.Ytklilelbebhinaa
open Go.RowKit
set_option linter.unusedVariables false

/-- A block's cells; is it a block of n cells that may be written? -/
def rowOf (w : World) (g : Nat) : Array Value := match w.heap[g]? with
  | some (.cells cs _ _) => cs
  | _ => #[]
def rowOk (n : Nat) (w : World) (g : Nat) : Bool := match w.heap[g]? with
  | some (.cells cs _ fr) => decide (cs.size = n) && decide (fr = (0, 0))
  | _ => false
def rowAt (w : World) : Value → Array Value
  | .pointer (some a) => rowOf w a.block
  | _ => #[]
def rowOkAt (n : Nat) (w : World) : Value → Bool
  | .pointer (some a) => decide (a = ⟨a.block, 0, none⟩) && rowOk n w a.block
  | _ => false
def setAt (w : World) : Value → Array Value → World
  | .pointer (some a), cs => w.setRow a.block cs
  | _, _ => w
def aggOf : Value → Array Value
  | .agg cs => cs
  | _ => #[]
def aggOk (n : Nat) : Value → Bool
  | .agg cs => decide (cs.size = n) && cs.all (·.oneCell')
  | _ => false
theorem rowAt_p (w : World) (a : Addr) : rowAt w (.pointer (some a)) = rowOf w a.block := rfl
theorem rowOkAt_p (n : Nat) (w : World) (g : Nat) : rowOkAt n w (.pointer (some ⟨g, 0, none⟩)) = rowOk n w g := by simp [rowOkAt]
theorem setAt_p (w : World) (a : Addr) (cs : Array Value) : setAt w (.pointer (some a)) cs = w.setRow a.block cs := rfl
theorem aggOf_a (cs : Array Value) : aggOf (.agg cs) = cs := rfl
theorem HasB.rowOf {w : World} {g : Nat} {t : TypeId} {cs : Array Value} (h : HasB w g t cs) : rowOf w g = cs := by
  unfold Proofs.Ytklilelbebhinaa.rowOf; unfold HasB at h; rw [h]
theorem HasB.rowOk {w : World} {g : Nat} {t : TypeId} {cs : Array Value} {n : Nat} (h : HasB w g t cs) (hn : cs.size = n) : rowOk n w g = true := by
  unfold Proofs.Ytklilelbebhinaa.rowOk; unfold HasB at h; rw [h]; simp [hn]
theorem rowOk_is {n : Nat} {w : World} {g : Nat} (h : rowOk n w g = true) : ∃ t, w.heap[g]? = some (.cells (rowOf w g) t (0, 0)) ∧ (rowOf w g).size = n := by
  unfold rowOk at h
  unfold rowOf
  split at h
  · rename_i cs t fr hg
    simp only [Bool.and_eq_true, decide_eq_true_eq] at h
    obtain ⟨h1, rfl⟩ := h
    exact ⟨t, hg, h1⟩
  · cases h
theorem rowOkAt_is {n : Nat} {w : World} {v : Value} (h : rowOkAt n w v = true) : ∃ g, v = .pointer (some ⟨g, 0, none⟩) ∧ rowOk n w g = true := by
  unfold rowOkAt at h
  split at h
  · rename_i a
    simp only [Bool.and_eq_true, decide_eq_true_eq] at h
    exact ⟨a.block, by rw [← h.1], h.2⟩
  · cases h
theorem aggOk_is {n : Nat} {v : Value} (h : aggOk n v = true) : ∃ cs, v = .agg cs ∧ cs.size = n ∧ cs.all (·.oneCell') = true := by
  unfold aggOk at h
  split at h
  · rename_i cs
    simp only [Bool.and_eq_true, decide_eq_true_eq] at h
    exact ⟨cs, rfl, h.1, h.2⟩
  · cases h
theorem rowOk_new {w : World} {g n : Nat} {c : Array Value} {t : TypeId} (hg : w.heap.size = g) (hc : c.size = n) : rowOk n (w.alloc (.cells c t)) g = true := by
  subst hg; exact HasB.rowOk (HasB.new w t c) hc
theorem rowOf_new {w : World} {g : Nat} {c : Array Value} {t : TypeId} (hg : w.heap.size = g) : rowOf (w.alloc (.cells c t)) g = c := by
  subst hg; exact HasB.rowOf (HasB.new w t c)
theorem setRow_new {w : World} {g : Nat} {c c' : Array Value} {t : TypeId} (hg : w.heap.size = g) : (w.alloc (.cells c t)).setRow g c' = w.alloc (.cells c' t) := by
  subst hg; exact World.setRow_alloc_new w c c' t
theorem HasB.setRow {w : World} {g : Nat} {t : TypeId} {old : Array Value} (h : HasB w g t old) (cs : Array Value) : HasB (w.setRow g cs) g t cs := setRow_heap w g old cs t (0, 0) h
theorem HasB.setRow_other {w : World} {g : Nat} {t : TypeId} {old : Array Value} (h : HasB w g t old) (k : Nat) (cs : Array Value) (hk : g ≠ k) : HasB (w.setRow k cs) g t old := (Go.setRow_other w k g cs hk).trans h
theorem Kept.setRow {S : Nat → Prop} {a w : World} (h : Kept S a w) (g : Nat) (hg : a.heap.size ≤ g ∨ S g) (cs : Array Value) : Kept S a (w.setRow g cs) :=
  ⟨h.os, h.tape, h.output, by simpa using h.size, fun i hi hs => (Go.setRow_other w g i cs (by
    rintro rfl
    rcases hg with hg | hg
    · omega
    · exact hs hg)).trans (h.block i hi hs)⟩
section
variable {P : Program}
theorem exec_load {T : TypeId} {n : Nat} {fs : Array Field} (hi : (P.info? T).map (·.size) = some n) (hu : P.underlying T = some (.struct fs)) {ρ : Operand → Value} {x : Operand} {dst : Option Tmp} {ty : TypeId} {pos : String} {after : Array Edge} {guard : Option (Nat × Bool)} {w : World}
    (h : rowOkAt n w (ρ x) = true) : (execOp ρ { dst, op := .load T x, type := ty, pos, after, guard }).run P w = .ok (.value (.agg (rowAt w (ρ x)))) w := by
  obtain ⟨g, hv, h1⟩ := rowOkAt_is h
  obtain ⟨t, h2, h3⟩ := rowOk_is h1
  have h4 := run_loadVar_row (P := P) w g t T _ _ (.struct fs) h2 hu rfl (by rw [h3]; exact hi)
  rw [hv]
  unfold execOp
  simp only [hv, Instr.loadAt, Instr.sureAddr, Sem.run_bind, Sem.run_pure, Result.andThen_ok, h4]
  rfl
theorem exec_store {T : TypeId} {n : Nat} (hi : (P.info? T).map (·.size) = some n) {ρ : Operand → Value} {x y : Operand} {dst : Option Tmp} {ty : TypeId} {pos : String} {after : Array Edge} {guard : Option (Nat × Bool)} {w : World}
    (h : rowOkAt n w (ρ x) = true) (hy : aggOk n (ρ y) = true) : (execOp ρ { dst, op := .store T x y, type := ty, pos, after, guard }).run P w = .ok .skip (setAt w (ρ x) (aggOf (ρ y))) := by
  obtain ⟨g, hv, h1⟩ := rowOkAt_is h
  obtain ⟨t, h2, h3⟩ := rowOk_is h1
  obtain ⟨cs, hc, h4, h5⟩ := aggOk_is hy
  have h6 := run_storeVar_row (P := P) w g t T _ cs h2 (by rw [h4]; exact hi) (by rw [h3, h4]) h5
  rw [hv, hc]
  unfold execOp
  simp only [hv, hc, Instr.storeAt, Instr.sureAddr, Sem.run_bind, Sem.run_pure, Result.andThen_ok, h6]
  rfl
theorem results_cell3 {fn : Func} {p q r : Tmp} {ty : TypeId} (h : fn.results = #[.cell p ty, .tmp q, .tmp r]) (tmps : Array Value) (w : World) (g : Nat) (t : TypeId) (cs : Array Value) {fs : Array Field} {a b : Value}
    (hp : tmps.getD p undef = .pointer (some ⟨g, 0, none⟩)) (hg : HasB w g t cs) (hu : P.underlying ty = some (.struct fs)) (hi : (P.info? ty).map (·.size) = some cs.size) (ha : tmps.getD q undef = a) (hb : tmps.getD r undef = b) :
    (results fn tmps).run P w = .ok (.tuple #[.agg cs, a, b]) w := by
  have hp' : tmps[p]?.getD undef = .pointer (some ⟨g, 0, none⟩) := by simpa using hp
  have ha' : tmps[q]?.getD undef = a := by simpa using ha
  have hb' : tmps[r]?.getD undef = b := by simpa using hb
  simp [results, h, hp', ha', hb', asAddr, run_loadVar_row w g t ty cs (0, 0) (.struct fs) hg hu rfl hi]
end
end Go.Proofs.Ytklilelbebhinaa
