/- Whole heads out of blocks and into them. -/
import Derived.Test.YtbnhneompibilaaProg
import Derived.Test.YtbnhneompibilaaWhole
import Derived.Test.YtbnhneompibilaaSevenMath
namespace Go.Proofs.Ytbnhneompibilaa
open Go.RowKit
set_option linter.unusedVariables false

theorem infoH7 : (Try.prog.info? 34).map (·.size) = some 8 := by kernel_rfl
theorem ldH7 {ρ : Operand → Value} {x : Operand} {dst : Option Tmp} {ty : TypeId} {pos : String} {after : Array Edge} {guard : Option (Nat × Bool)} {w : World} (h : rowOkAt 8 w (ρ x) = true) : (execOp ρ { dst, op := .load 34 x, type := ty, pos, after, guard }).run Try.prog w = .ok (.value (.agg (rowAt w (ρ x)))) w := exec_load infoH7 Try.underlying34 h
theorem stH7 {ρ : Operand → Value} {x y : Operand} {dst : Option Tmp} {ty : TypeId} {pos : String} {after : Array Edge} {guard : Option (Nat × Bool)} {w : World} (h : rowOkAt 8 w (ρ x) = true) (hy : aggOk 8 (ρ y) = true) : (execOp ρ { dst, op := .store 34 x y, type := ty, pos, after, guard }).run Try.prog w = .ok .skip (setAt w (ρ x) (aggOf (ρ y))) := exec_store infoH7 h hy
theorem infoR7 : (Try.prog.info? 24).map (·.size) = some 8 := by kernel_rfl
theorem ldR7 {ρ : Operand → Value} {x : Operand} {dst : Option Tmp} {ty : TypeId} {pos : String} {after : Array Edge} {guard : Option (Nat × Bool)} {w : World} (h : rowOkAt 8 w (ρ x) = true) : (execOp ρ { dst, op := .load 24 x, type := ty, pos, after, guard }).run Try.prog w = .ok (.value (.agg (rowAt w (ρ x)))) w := exec_load infoR7 Try.underlying24 h
theorem stR7 {ρ : Operand → Value} {x y : Operand} {dst : Option Tmp} {ty : TypeId} {pos : String} {after : Array Edge} {guard : Option (Nat × Bool)} {w : World} (h : rowOkAt 8 w (ρ x) = true) (hy : aggOk 8 (ρ y) = true) : (execOp ρ { dst, op := .store 24 x y, type := ty, pos, after, guard }).run Try.prog w = .ok .skip (setAt w (ρ x) (aggOf (ρ y))) := exec_store infoR7 h hy
theorem agg7 (sp dp sq ak fl wn ur : Int) (op : ByteArray) : aggOk 8 (.agg #[.int .i64 (sp), .int .i64 (dp), .int .u32 (sq), .int .u32 (ak), .int .i64 (fl), .int .i64 (wn), .int .i64 (ur), .string (op)]) = true := by simp [aggOk, Value.oneCell']
theorem aggT7 (x : T7) : aggOk 8 (.agg #[.int .i64 x.sp, .int .i64 x.dp, .int .u32 x.sq, .int .u32 x.ak, .int .i64 x.fl, .int .i64 x.wn, .int .i64 x.ur, .string x.op]) = true := by simp [aggOk, Value.oneCell']
theorem cells8T {g : Nat} {t : TypeId} {h : T7} {w : World} (H : HasB w g t #[.int .i64 h.sp, .int .i64 h.dp, .int .u32 h.sq, .int .u32 h.ak, .int .i64 h.fl, .int .i64 h.wn, .int .i64 h.ur, .string h.op]) : w.cell? ⟨g, 0, none⟩ = some (.int .i64 h.sp) ∧ w.cell? ⟨g, 1, none⟩ = some (.int .i64 h.dp) ∧ w.cell? ⟨g, 2, none⟩ = some (.int .u32 h.sq) ∧ w.cell? ⟨g, 3, none⟩ = some (.int .u32 h.ak) ∧ w.cell? ⟨g, 4, none⟩ = some (.int .i64 h.fl) ∧ w.cell? ⟨g, 5, none⟩ = some (.int .i64 h.wn) ∧ w.cell? ⟨g, 6, none⟩ = some (.int .i64 h.ur) ∧ w.cell? ⟨g, 7, none⟩ = some (.string h.op) :=
  ⟨HasB.cell H 0 _ rfl, HasB.cell H 1 _ rfl, HasB.cell H 2 _ rfl, HasB.cell H 3 _ rfl, HasB.cell H 4 _ rfl, HasB.cell H 5 _ rfl, HasB.cell H 6 _ rfl, HasB.cell H 7 _ rfl⟩
end Go.Proofs.Ytbnhneompibilaa
