/- Whole heads out of blocks and into them. -/
import Derived.Test.YtnlinfdfgalmjaaProg
import Derived.Test.YtnlinfdfgalmjaaWhole
import Derived.Test.YtnlinfdfgalmjaaSixMath
namespace Go.Proofs.Ytnlinfdfgalmjaa
open Go.RowKit
set_option linter.unusedVariables false

theorem infoH6 : (Try.prog.info? 31).map (·.size) = some 10 := by kernel_rfl
theorem ldH6 {ρ : Operand → Value} {x : Operand} {dst : Option Tmp} {ty : TypeId} {pos : String} {after : Array Edge} {guard : Option (Nat × Bool)} {w : World} (h : rowOkAt 10 w (ρ x) = true) : (execOp ρ { dst, op := .load 31 x, type := ty, pos, after, guard }).run Try.prog w = .ok (.value (.agg (rowAt w (ρ x)))) w := exec_load infoH6 Try.underlying31 h
theorem stH6 {ρ : Operand → Value} {x y : Operand} {dst : Option Tmp} {ty : TypeId} {pos : String} {after : Array Edge} {guard : Option (Nat × Bool)} {w : World} (h : rowOkAt 10 w (ρ x) = true) (hy : aggOk 10 (ρ y) = true) : (execOp ρ { dst, op := .store 31 x y, type := ty, pos, after, guard }).run Try.prog w = .ok .skip (setAt w (ρ x) (aggOf (ρ y))) := exec_store infoH6 h hy
theorem infoR6 : (Try.prog.info? 26).map (·.size) = some 10 := by kernel_rfl
theorem ldR6 {ρ : Operand → Value} {x : Operand} {dst : Option Tmp} {ty : TypeId} {pos : String} {after : Array Edge} {guard : Option (Nat × Bool)} {w : World} (h : rowOkAt 10 w (ρ x) = true) : (execOp ρ { dst, op := .load 26 x, type := ty, pos, after, guard }).run Try.prog w = .ok (.value (.agg (rowAt w (ρ x)))) w := exec_load infoR6 Try.underlying26 h
theorem stR6 {ρ : Operand → Value} {x y : Operand} {dst : Option Tmp} {ty : TypeId} {pos : String} {after : Array Edge} {guard : Option (Nat × Bool)} {w : World} (h : rowOkAt 10 w (ρ x) = true) (hy : aggOk 10 (ρ y) = true) : (execOp ρ { dst, op := .store 26 x y, type := ty, pos, after, guard }).run Try.prog w = .ok .skip (setAt w (ρ x) (aggOf (ρ y))) := exec_store infoR6 h hy
theorem agg10 (cl lb nx hp : Int) (sv : Bool) (sh sl : Int) (dv : Bool) (dh dl : Int) : aggOk 10 (.agg #[.int .i64 (cl), .int .i64 (lb), .int .i64 (nx), .int .i64 (hp), .bool (sv), .int .u64 (sh), .int .u64 (sl), .bool (dv), .int .u64 (dh), .int .u64 (dl)]) = true := by simp [aggOk, Value.oneCell']
theorem aggH6 (x : H6) : aggOk 10 (.agg #[.int .i64 x.cl, .int .i64 x.lb, .int .i64 x.nx, .int .i64 x.hp, .bool x.sv, .int .u64 x.sh, .int .u64 x.sl, .bool x.dv, .int .u64 x.dh, .int .u64 x.dl]) = true := by simp [aggOk, Value.oneCell']
theorem cells10 {g : Nat} {t : TypeId} {h : H6} {w : World} (H : HasB w g t #[.int .i64 h.cl, .int .i64 h.lb, .int .i64 h.nx, .int .i64 h.hp, .bool h.sv, .int .u64 h.sh, .int .u64 h.sl, .bool h.dv, .int .u64 h.dh, .int .u64 h.dl]) : w.cell? ⟨g, 0, none⟩ = some (.int .i64 h.cl) ∧ w.cell? ⟨g, 1, none⟩ = some (.int .i64 h.lb) ∧ w.cell? ⟨g, 2, none⟩ = some (.int .i64 h.nx) ∧ w.cell? ⟨g, 3, none⟩ = some (.int .i64 h.hp) ∧ w.cell? ⟨g, 4, none⟩ = some (.bool h.sv) ∧ w.cell? ⟨g, 5, none⟩ = some (.int .u64 h.sh) ∧ w.cell? ⟨g, 6, none⟩ = some (.int .u64 h.sl) ∧ w.cell? ⟨g, 7, none⟩ = some (.bool h.dv) ∧ w.cell? ⟨g, 8, none⟩ = some (.int .u64 h.dh) ∧ w.cell? ⟨g, 9, none⟩ = some (.int .u64 h.dl) :=
  ⟨HasB.cell H 0 _ rfl, HasB.cell H 1 _ rfl, HasB.cell H 2 _ rfl, HasB.cell H 3 _ rfl, HasB.cell H 4 _ rfl, HasB.cell H 5 _ rfl, HasB.cell H 6 _ rfl, HasB.cell H 7 _ rfl, HasB.cell H 8 _ rfl, HasB.cell H 9 _ rfl⟩
end Go.Proofs.Ytnlinfdfgalmjaa
