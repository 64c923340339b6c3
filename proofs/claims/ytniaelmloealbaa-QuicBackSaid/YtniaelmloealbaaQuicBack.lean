/- The law QuicBack, walked. -/
import Derived.Test.YtniaelmloealbaaQuicOk
import Derived.Test.YtniaelmloealbaaLaw09BackW
namespace Go.Proofs.Ytniaelmloealbaa
open Go.RowKit Go.WideShapes

theorem quicBack_walk (a : Array Value) (s c : ByteArray) (w1 : s.size ≤ maxLen) (w2 : c.size ≤ maxLen) (w : World) (fa : Fits w (.two .bool (.two (.int .i64) (.two (.int .u32) (.two .str (.two .str (.two .str .nil)))))) (Value.agg a).cells.toList) :
    Calls Try.prog 4 #[.agg a, .string s, .string c] w fun e w' => e = .returned (.bool true) ∧ Below w.heap.size w w' :=
  have _ := w1
  have _ := w2
  quicBack_any quicOK a s c w fa
end Go.Proofs.Ytniaelmloealbaa
