/- The law TcpTells, walked. -/
import Derived.Test.YtbnhneompibilaaTcpOk
import Derived.Test.YtbnhneompibilaaLaw07Tells
namespace Go.Proofs.Ytbnhneompibilaa
open Go.RowKit Go.WideShapes

theorem tcpTells_walk (a b c : Array Value) (p s : ByteArray) (w3 : p.size ≤ maxLen) (w4 : s.size ≤ maxLen) (w : World) (fa : Fits w (.two (.int .i64) (.two (.int .i64) (.two (.int .u32) (.two (.int .u32) (.two (.int .i64) (.two (.int .i64) (.two (.int .i64) (.two .str .nil)))))))) (Value.agg a).cells.toList) (fb : Fits w (.two .bool (.two (.int .u64) (.two (.int .u64) .nil))) (Value.agg b).cells.toList) (fc : Fits w (.two .bool (.two (.int .u64) (.two (.int .u64) .nil))) (Value.agg c).cells.toList) :
    Calls Try.prog 3 #[.agg a, .agg b, .agg c, .string p, .string s] w fun e w' => e = .returned (.bool true) ∧ Below w.heap.size w w' :=
  have _ := w3
  have _ := w4
  tcpTells_any tcpOK a b c p s w fa fb fc
end Go.Proofs.Ytbnhneompibilaa
