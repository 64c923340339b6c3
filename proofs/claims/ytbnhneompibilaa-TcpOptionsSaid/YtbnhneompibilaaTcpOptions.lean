/- The law TcpOptions, walked. -/
import Derived.Test.YtbnhneompibilaaTcpOk
import Derived.Test.YtbnhneompibilaaLaw07Options
namespace Go.Proofs.Ytbnhneompibilaa
open Go.RowKit Go.WideShapes

theorem tcpOptions_walk (s : ByteArray) (a b : Int) (w0 : s.size ≤ maxLen) (w1 : (Lit.int .u32 a).wf = true) (w2 : (Lit.int .u32 b).wf = true) (w : World) :
    Calls Try.prog 4 #[.string s, .int .u32 a, .int .u32 b] w fun e w' => e = .returned (.bool true) ∧ Below w.heap.size w w' :=
  have _ := w0
  tcpOptions_any tcpOK s a b w1 w2 w
end Go.Proofs.Ytbnhneompibilaa
