/- The law GueTells, walked. -/
import Derived.Test.YtklilelbebhinaaGueOk
namespace Go.Proofs.Ytklilelbebhinaa
open Go.RowKit Go.WideShapes

theorem gueTells_walk (a : Array Value) (p s : ByteArray) (w1 : p.size ≤ maxLen) (w2 : s.size ≤ maxLen) (w : World) (fa : Fits w (.two .bool (.two (.int .i64) (.two (.int .u64) (.two .bool (.two (.int .i64) .nil))))) (Value.agg a).cells.toList) :
    Calls Try.prog 3 #[.agg a, .string p, .string s] w fun e w' => e = .returned (.bool true) ∧ Below w.heap.size w w' :=
  have _ := w1
  have _ := w2
  gueTells_any gueOK a p s w fa
end Go.Proofs.Ytklilelbebhinaa
