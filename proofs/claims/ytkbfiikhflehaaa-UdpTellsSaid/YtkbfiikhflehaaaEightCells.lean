/- Whole heads out of blocks and into them. -/
import Derived.Test.YtkbfiikhflehaaaProg
import Derived.Test.YtkbfiikhflehaaaWhole
import Derived.Test.YtkbfiikhflehaaaEightMath
namespace Go.Proofs.Ytkbfiikhflehaaa
open Go.RowKit
set_option linter.unusedVariables false

theorem infoH8 : (Try.prog.info? 33).map (·.size) = some 2 := by kernel_rfl
theorem infoR8 : (Try.prog.info? 23).map (·.size) = some 2 := by kernel_rfl
theorem ldH8 {ρ : Operand → Value} {x : Operand} {dst : Option Tmp} {ty : TypeId} {pos : String} {after : Array Edge} {guard : Option (Nat × Bool)} {w : World} (h : rowOkAt 2 w (ρ x) = true) : (execOp ρ { dst, op := .load 33 x, type := ty, pos, after, guard }).run Try.prog w = .ok (.value (.agg (rowAt w (ρ x)))) w := exec_load infoH8 Try.underlying33 h
theorem stH8 {ρ : Operand → Value} {x y : Operand} {dst : Option Tmp} {ty : TypeId} {pos : String} {after : Array Edge} {guard : Option (Nat × Bool)} {w : World} (h : rowOkAt 2 w (ρ x) = true) (hy : aggOk 2 (ρ y) = true) : (execOp ρ { dst, op := .store 33 x y, type := ty, pos, after, guard }).run Try.prog w = .ok .skip (setAt w (ρ x) (aggOf (ρ y))) := exec_store infoH8 h hy
theorem ldR8 {ρ : Operand → Value} {x : Operand} {dst : Option Tmp} {ty : TypeId} {pos : String} {after : Array Edge} {guard : Option (Nat × Bool)} {w : World} (h : rowOkAt 2 w (ρ x) = true) : (execOp ρ { dst, op := .load 23 x, type := ty, pos, after, guard }).run Try.prog w = .ok (.value (.agg (rowAt w (ρ x)))) w := exec_load infoR8 Try.underlying23 h
theorem stR8 {ρ : Operand → Value} {x y : Operand} {dst : Option Tmp} {ty : TypeId} {pos : String} {after : Array Edge} {guard : Option (Nat × Bool)} {w : World} (h : rowOkAt 2 w (ρ x) = true) (hy : aggOk 2 (ρ y) = true) : (execOp ρ { dst, op := .store 23 x y, type := ty, pos, after, guard }).run Try.prog w = .ok .skip (setAt w (ρ x) (aggOf (ρ y))) := exec_store infoR8 h hy
theorem agg2 (x y : Int) : aggOk 2 (.agg #[.int .i64 (x), .int .i64 (y)]) = true := by simp [aggOk, Value.oneCell']
end Go.Proofs.Ytkbfiikhflehaaa
