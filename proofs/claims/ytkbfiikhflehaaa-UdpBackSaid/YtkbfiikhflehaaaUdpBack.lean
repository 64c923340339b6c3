/- The law UdpBack, walked. -/
import Derived.Test.YtkbfiikhflehaaaUdpOk
import Derived.Test.YtkbfiikhflehaaaLaw08Back
namespace Go.Proofs.Ytkbfiikhflehaaa
open Go.RowKit Go.WideShapes

theorem udpBack_walk (a b c : Array Value) (p s : ByteArray) (k : Int) (w3 : p.size ≤ maxLen) (w4 : s.size ≤ maxLen) (wk : (Lit.int .u16 k).wf = true) (w : World) (fa : Fits w (.two (.int .i64) (.two (.int .i64) .nil)) (Value.agg a).cells.toList) (fb : Fits w (.two .bool (.two (.int .u64) (.two (.int .u64) .nil))) (Value.agg b).cells.toList) (fc : Fits w (.two .bool (.two (.int .u64) (.two (.int .u64) .nil))) (Value.agg c).cells.toList) :
    Calls Try.prog 4 #[.agg a, .agg b, .agg c, .string p, .string s, .int .u16 k] w fun e w' => e = .returned (.bool true) ∧ Below w.heap.size w w' :=
  have _ := w3
  have _ := w4
  udpBack_any udpOK a b c p s k wk w fa fb fc
end Go.Proofs.Ytkbfiikhflehaaa
