/- Whole heads and fields out of blocks and into them. -/
import Derived.Test.YtdcmjmgpcpeacaaProg
import Derived.Test.YtdcmjmgpcpeacaaWhole
import Derived.Test.YtdcmjmgpcpeacaaFourMath
namespace Go.Proofs.Ytdcmjmgpcpeacaa
open Go.RowKit
set_option linter.unusedVariables false

theorem info53 : (Try.prog.info? 53).map (·.size) = some 17 := by kernel_rfl
theorem ld53 {ρ : Operand → Value} {x : Operand} {dst : Option Tmp} {ty : TypeId} {pos : String} {after : Array Edge} {guard : Option (Nat × Bool)} {w : World} (h : rowOkAt 17 w (ρ x) = true) : (execOp ρ { dst, op := .load 53 x, type := ty, pos, after, guard }).run Try.prog w = .ok (.value (.agg (rowAt w (ρ x)))) w := exec_load info53 Try.underlying53 h
theorem st53 {ρ : Operand → Value} {x y : Operand} {dst : Option Tmp} {ty : TypeId} {pos : String} {after : Array Edge} {guard : Option (Nat × Bool)} {w : World} (h : rowOkAt 17 w (ρ x) = true) (hy : aggOk 17 (ρ y) = true) : (execOp ρ { dst, op := .store 53 x y, type := ty, pos, after, guard }).run Try.prog w = .ok .skip (setAt w (ρ x) (aggOf (ρ y))) := exec_store info53 h hy
theorem agg17 (q : Option Addr) (v z t p cl id : Int) (wh : Bool) (tt pr : Int) (sv : Bool) (sh sl : Int) (dv : Bool) (dh dl : Int) (op : ByteArray) : aggOk 17 (.agg #[.pointer q, .int .i64 (v), .int .i64 (z), .int .i64 (t), .int .i64 (p), .int .i64 (cl), .int .i64 (id), .bool (wh), .int .i64 (tt), .int .i64 (pr), .bool (sv), .int .u64 (sh), .int .u64 (sl), .bool (dv), .int .u64 (dh), .int .u64 (dl), .string (op)]) = true := by simp [aggOk, Value.oneCell']
theorem info31 : (Try.prog.info? 31).map (·.size) = some 12 := by kernel_rfl
theorem ld31 {ρ : Operand → Value} {x : Operand} {dst : Option Tmp} {ty : TypeId} {pos : String} {after : Array Edge} {guard : Option (Nat × Bool)} {w : World} (h : rowOkAt 12 w (ρ x) = true) : (execOp ρ { dst, op := .load 31 x, type := ty, pos, after, guard }).run Try.prog w = .ok (.value (.agg (rowAt w (ρ x)))) w := exec_load info31 Try.underlying31 h
theorem st31 {ρ : Operand → Value} {x y : Operand} {dst : Option Tmp} {ty : TypeId} {pos : String} {after : Array Edge} {guard : Option (Nat × Bool)} {w : World} (h : rowOkAt 12 w (ρ x) = true) (hy : aggOk 12 (ρ y) = true) : (execOp ρ { dst, op := .store 31 x y, type := ty, pos, after, guard }).run Try.prog w = .ok .skip (setAt w (ρ x) (aggOf (ρ y))) := exec_store info31 h hy
theorem info26 : (Try.prog.info? 26).map (·.size) = some 12 := by kernel_rfl
theorem ld26 {ρ : Operand → Value} {x : Operand} {dst : Option Tmp} {ty : TypeId} {pos : String} {after : Array Edge} {guard : Option (Nat × Bool)} {w : World} (h : rowOkAt 12 w (ρ x) = true) : (execOp ρ { dst, op := .load 26 x, type := ty, pos, after, guard }).run Try.prog w = .ok (.value (.agg (rowAt w (ρ x)))) w := exec_load info26 Try.underlying26 h
theorem st26 {ρ : Operand → Value} {x y : Operand} {dst : Option Tmp} {ty : TypeId} {pos : String} {after : Array Edge} {guard : Option (Nat × Bool)} {w : World} (h : rowOkAt 12 w (ρ x) = true) (hy : aggOk 12 (ρ y) = true) : (execOp ρ { dst, op := .store 26 x y, type := ty, pos, after, guard }).run Try.prog w = .ok .skip (setAt w (ρ x) (aggOf (ρ y))) := exec_store info26 h hy
theorem agg12 (cl id : Int) (wh : Bool) (tt pr : Int) (sv : Bool) (sh sl : Int) (dv : Bool) (dh dl : Int) (op : ByteArray) : aggOk 12 (.agg #[.int .i64 cl, .int .i64 id, .bool wh, .int .i64 tt, .int .i64 pr, .bool sv, .int .u64 sh, .int .u64 sl, .bool dv, .int .u64 dh, .int .u64 dl, .string op]) = true := by simp [aggOk, Value.oneCell']
end Go.Proofs.Ytdcmjmgpcpeacaa
