/- Whole covers out of blocks and into them. -/
import Derived.Test.YtklilelbebhinaaProg
import Derived.Test.YtklilelbebhinaaWhole
import Derived.Test.YtklilelbebhinaaTenMath
namespace Go.Proofs.Ytklilelbebhinaa
open Go.RowKit
set_option linter.unusedVariables false

theorem infoCV : (Try.prog.info? 24).map (·.size) = some 5 := by kernel_rfl
theorem ldCV {ρ : Operand → Value} {x : Operand} {dst : Option Tmp} {ty : TypeId} {pos : String} {after : Array Edge} {guard : Option (Nat × Bool)} {w : World} (h : rowOkAt 5 w (ρ x) = true) : (execOp ρ { dst, op := .load 24 x, type := ty, pos, after, guard }).run Try.prog w = .ok (.value (.agg (rowAt w (ρ x)))) w := exec_load infoCV Try.underlying24 h
theorem stCV {ρ : Operand → Value} {x y : Operand} {dst : Option Tmp} {ty : TypeId} {pos : String} {after : Array Edge} {guard : Option (Nat × Bool)} {w : World} (h : rowOkAt 5 w (ρ x) = true) (hy : aggOk 5 (ρ y) = true) : (execOp ρ { dst, op := .store 24 x y, type := ty, pos, after, guard }).run Try.prog w = .ok .skip (setAt w (ρ x) (aggOf (ρ y))) := exec_store infoCV h hy
theorem aggCV (v : Bool) (b k : Int) (f : Bool) (i : Int) : aggOk 5 (.agg #[.bool (v), .int .i64 (b), .int .u64 (k), .bool (f), .int .i64 (i)]) = true := by simp [aggOk, Value.oneCell']
theorem aggCT (x : CV) : aggOk 5 (.agg #[.bool x.v6, .int .i64 x.bk, .int .u64 x.ck, .bool x.fi, .int .i64 x.ins]) = true := by simp [aggOk, Value.oneCell']
theorem cells5 {g : Nat} {t : TypeId} {v : Bool} {b k : Int} {f : Bool} {i : Int} {w : World} (H : HasB w g t #[.bool (v), .int .i64 (b), .int .u64 (k), .bool (f), .int .i64 (i)]) : w.cell? ⟨g, 0, none⟩ = some (.bool (v)) ∧ w.cell? ⟨g, 1, none⟩ = some (.int .i64 (b)) ∧ w.cell? ⟨g, 2, none⟩ = some (.int .u64 (k)) ∧ w.cell? ⟨g, 3, none⟩ = some (.bool (f)) ∧ w.cell? ⟨g, 4, none⟩ = some (.int .i64 (i)) :=
  ⟨HasB.cell H 0 _ rfl, HasB.cell H 1 _ rfl, HasB.cell H 2 _ rfl, HasB.cell H 3 _ rfl, HasB.cell H 4 _ rfl⟩
end Go.Proofs.Ytklilelbebhinaa
