/- The law GueBack, walked. -/
import Derived.Test.YtklilelbebhinaaGueOk
import Derived.Test.YtklilelbebhinaaLaw10Back
namespace Go.Proofs.Ytklilelbebhinaa
open Go.RowKit Go.WideShapes

theorem gueBack_walk (a : Array Value) (p : ByteArray) (k : Int) (w1 : p.size ≤ maxLen) (wk : (Lit.int .u8 k).wf = true) (w : World) (fa : Fits w (.two .bool (.two (.int .i64) (.two (.int .u64) (.two .bool (.two (.int .i64) .nil))))) (Value.agg a).cells.toList) :
    Calls Try.prog 4 #[.agg a, .string p, .int .u8 k] w fun e w' => e = .returned (.bool true) ∧ Below w.heap.size w w' :=
  have _ := w1
  gueBack_any gueOK a p k wk w fa
end Go.Proofs.Ytklilelbebhinaa
