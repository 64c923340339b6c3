/- Blocks that stay over calls that make memory. No program. -/
import Derived.Test.YtklilelbebhinaaKit
namespace Go.Proofs.Ytklilelbebhinaa
open Go.RowKit
set_option linter.unusedVariables false

/-- A block that stays, and all below a mark. -/
def Held (B g : Nat) (t : TypeId) (cs : Array Value) (w0 w : World) : Prop := HasB w g t cs ∧ Below B w0 w ∧ B ≤ w.heap.size
theorem Held.next {B g : Nat} {t : TypeId} {cs : Array Value} {w0 w w' : World} (h : Held B g t cs w0 w) (hb : Below w.heap.size w w') : Held B g t cs w0 w' :=
  ⟨HasB.below h.1 hb h.1.lt, h.2.1.trans (hb.mono h.2.2), Nat.le_trans h.2.2 hb.size⟩
theorem Held.drew {B g : Nat} {t : TypeId} {cs : Array Value} {w0 w : World} (h : Held B g t cs w0 w) : Held B g t cs w0 w.drew := ⟨h.1, h.2.1.drew, h.2.2⟩
/-- Two blocks that stay. -/
def Held2 (B g : Nat) (t : TypeId) (cs : Array Value) (g' : Nat) (t' : TypeId) (cs' : Array Value) (w0 w : World) : Prop := HasB w g t cs ∧ HasB w g' t' cs' ∧ Below B w0 w ∧ B ≤ w.heap.size
theorem Held2.next {B g : Nat} {t : TypeId} {cs : Array Value} {g' : Nat} {t' : TypeId} {cs' : Array Value} {w0 w w' : World} (h : Held2 B g t cs g' t' cs' w0 w) (hb : Below w.heap.size w w') : Held2 B g t cs g' t' cs' w0 w' :=
  ⟨HasB.below h.1 hb h.1.lt, HasB.below h.2.1 hb h.2.1.lt, h.2.2.1.trans (hb.mono h.2.2.2), Nat.le_trans h.2.2.2 hb.size⟩
theorem Held2.drew {B g : Nat} {t : TypeId} {cs : Array Value} {g' : Nat} {t' : TypeId} {cs' : Array Value} {w0 w : World} (h : Held2 B g t cs g' t' cs' w0 w) : Held2 B g t cs g' t' cs' w0 w.drew := ⟨h.1, h.2.1, h.2.2.1.drew, h.2.2.2⟩
/-- Three blocks that stay. -/
def Held3 (B g : Nat) (t : TypeId) (cs : Array Value) (g' : Nat) (t' : TypeId) (cs' : Array Value) (g2 : Nat) (t2 : TypeId) (cs2 : Array Value) (w0 w : World) : Prop := HasB w g t cs ∧ HasB w g' t' cs' ∧ HasB w g2 t2 cs2 ∧ Below B w0 w ∧ B ≤ w.heap.size
theorem Held3.next {B g : Nat} {t : TypeId} {cs : Array Value} {g' : Nat} {t' : TypeId} {cs' : Array Value} {g2 : Nat} {t2 : TypeId} {cs2 : Array Value} {w0 w w' : World} (h : Held3 B g t cs g' t' cs' g2 t2 cs2 w0 w) (hb : Below w.heap.size w w') : Held3 B g t cs g' t' cs' g2 t2 cs2 w0 w' :=
  ⟨HasB.below h.1 hb h.1.lt, HasB.below h.2.1 hb h.2.1.lt, HasB.below h.2.2.1 hb h.2.2.1.lt, h.2.2.2.1.trans (hb.mono h.2.2.2.2), Nat.le_trans h.2.2.2.2 hb.size⟩
theorem Held3.drew {B g : Nat} {t : TypeId} {cs : Array Value} {g' : Nat} {t' : TypeId} {cs' : Array Value} {g2 : Nat} {t2 : TypeId} {cs2 : Array Value} {w0 w : World} (h : Held3 B g t cs g' t' cs' g2 t2 cs2 w0 w) : Held3 B g t cs g' t' cs' g2 t2 cs2 w0 w.drew := ⟨h.1, h.2.1, h.2.2.1, h.2.2.2.1.drew, h.2.2.2.2⟩
theorem Held2.cells {B g g' : Nat} {t t' : TypeId} {v v' : Bool} {hi lo hi' lo' : Int} {w0 w : World} (h : Held2 B g t #[.bool v, .int .u64 hi, .int .u64 lo] g' t' #[.bool v', .int .u64 hi', .int .u64 lo'] w0 w) : w.cell? ⟨g, 0, none⟩ = some (.bool v) ∧ w.cell? ⟨g, 1, none⟩ = some (.int .u64 hi) ∧ w.cell? ⟨g, 2, none⟩ = some (.int .u64 lo) ∧ w.cell? ⟨g', 0, none⟩ = some (.bool v') ∧ w.cell? ⟨g', 1, none⟩ = some (.int .u64 hi') ∧ w.cell? ⟨g', 2, none⟩ = some (.int .u64 lo') :=
  ⟨HasB.cell h.1 0 _ rfl, HasB.cell h.1 1 _ rfl, HasB.cell h.1 2 _ rfl, HasB.cell h.2.1 0 _ rfl, HasB.cell h.2.1 1 _ rfl, HasB.cell h.2.1 2 _ rfl⟩
end Go.Proofs.Ytklilelbebhinaa
