/- Whole heads out of blocks and into them. -/
import Derived.Test.YtniaelmloealbaaProg
import Derived.Test.YtniaelmloealbaaWhole
import Derived.Test.YtniaelmloealbaaNineMath
namespace Go.Proofs.Ytniaelmloealbaa
open Go.RowKit
set_option linter.unusedVariables false

theorem infoH9 : (Try.prog.info? 31).map (·.size) = some 6 := by kernel_rfl
theorem ldH9 {ρ : Operand → Value} {x : Operand} {dst : Option Tmp} {ty : TypeId} {pos : String} {after : Array Edge} {guard : Option (Nat × Bool)} {w : World} (h : rowOkAt 6 w (ρ x) = true) : (execOp ρ { dst, op := .load 31 x, type := ty, pos, after, guard }).run Try.prog w = .ok (.value (.agg (rowAt w (ρ x)))) w := exec_load infoH9 Try.underlying31 h
theorem stH9 {ρ : Operand → Value} {x y : Operand} {dst : Option Tmp} {ty : TypeId} {pos : String} {after : Array Edge} {guard : Option (Nat × Bool)} {w : World} (h : rowOkAt 6 w (ρ x) = true) (hy : aggOk 6 (ρ y) = true) : (execOp ρ { dst, op := .store 31 x y, type := ty, pos, after, guard }).run Try.prog w = .ok .skip (setAt w (ρ x) (aggOf (ρ y))) := exec_store infoH9 h hy
theorem infoR9 : (Try.prog.info? 24).map (·.size) = some 6 := by kernel_rfl
theorem ldR9 {ρ : Operand → Value} {x : Operand} {dst : Option Tmp} {ty : TypeId} {pos : String} {after : Array Edge} {guard : Option (Nat × Bool)} {w : World} (h : rowOkAt 6 w (ρ x) = true) : (execOp ρ { dst, op := .load 24 x, type := ty, pos, after, guard }).run Try.prog w = .ok (.value (.agg (rowAt w (ρ x)))) w := exec_load infoR9 Try.underlying24 h
theorem stR9 {ρ : Operand → Value} {x y : Operand} {dst : Option Tmp} {ty : TypeId} {pos : String} {after : Array Edge} {guard : Option (Nat × Bool)} {w : World} (h : rowOkAt 6 w (ρ x) = true) (hy : aggOk 6 (ρ y) = true) : (execOp ρ { dst, op := .store 24 x y, type := ty, pos, after, guard }).run Try.prog w = .ok .skip (setAt w (ρ x) (aggOf (ρ y))) := exec_store infoR9 h hy
theorem agg9 (lg : Bool) (bi ve : Int) (dc sc re : ByteArray) : aggOk 6 (.agg #[.bool lg, .int .i64 (bi), .int .u32 (ve), .string (dc), .string (sc), .string (re)]) = true := by simp [aggOk, Value.oneCell']
theorem aggT9 (x : H9) : aggOk 6 (.agg #[.bool x.lg, .int .i64 x.bi, .int .u32 x.ve, .string x.dc, .string x.sc, .string x.re]) = true := by simp [aggOk, Value.oneCell']
theorem cells6N {g : Nat} {t : TypeId} {lg : Bool} {bi ve : Int} {dc sc re : ByteArray} {w : World} (H : HasB w g t #[.bool lg, .int .i64 (bi), .int .u32 (ve), .string (dc), .string (sc), .string (re)]) : w.cell? ⟨g, 0, none⟩ = some (.bool lg) ∧ w.cell? ⟨g, 1, none⟩ = some (.int .i64 (bi)) ∧ w.cell? ⟨g, 2, none⟩ = some (.int .u32 (ve)) ∧ w.cell? ⟨g, 3, none⟩ = some (.string (dc)) ∧ w.cell? ⟨g, 4, none⟩ = some (.string (sc)) ∧ w.cell? ⟨g, 5, none⟩ = some (.string (re)) :=
  ⟨HasB.cell H 0 _ rfl, HasB.cell H 1 _ rfl, HasB.cell H 2 _ rfl, HasB.cell H 3 _ rfl, HasB.cell H 4 _ rfl, HasB.cell H 5 _ rfl⟩
end Go.Proofs.Ytniaelmloealbaa
