/-
  No cell of these rows narrows 'for every input' (looked for: loops, veiled, ifaces, maps, wideKeys, modest, calm, conditions, laid).
  DERIVED. THE GIVEN ROWS OF THIS SEAT. 2 by the template 'for every input the law returns true; each argument reads behind the call as it read before'; 0 by the template 'total and deterministic' (their statements: YtdcmjmgpcpeacaaTotals.lean).
  GIVEN WITH THE SEED: the statements are not yours to turn. If you find one false, say at which input.
  Laid BY PROGRAM, IN A SANDBOX (cutbox-rows.mjs): the forced cells as the released guide's own fill.sh prints them over the translation f95d12ba32ba71dc… (all of the seat's roots in one cut). By AI agents, Wed Nov 11 2026. No macro, syntax, notation, axiom, sorry.
-/
import Derived.Test.YtdcmjmgpcpeacaaChecked
import GoSem.Claim
import GoSem.ClaimJoined
import GoSem.ClaimMapViews
import Derived.JoinedTies
import Derived.KernelRfl
namespace Go.Proofs.Ytdcmjmgpcpeacaa
/- THE CELL 'sum', in the pinned program and in every row, IS THE sha256 OF THE DUMP (.gsa) THAT YtdcmjmgpcpeacaaProg.lean LOADS. Nothing in Lean hashes anything: it is a label: what it is worth is what the hold of that sum in a sandbox is worth. -/
noncomputable def Try.pinned : Pinned := { name := "ytdcmjmgpcpeacaa", sum := "f95d12ba32ba71dcaeb6cad637645da71aac738b2835edcc3a37e5d5072ed56d", checked := Try.checked }
namespace Rows
def none {H : Type} : Left H := { results := [], args := [] }

/-- 'cloakroomlaw05.IpfourTells': WHATEVER THE INPUT: true; the input reads as it did. -/
def ipfourTellsSpec : ChangeSpec := { name := "ipfourTells", fn := fun _ => fun
  | [d1, d2, d3, d4] => { results := [.lit (.bool true)], args := [d1, d2, d3, d4] }
  | _ => none }
def ipfourTellsRow : OpenClaim := { program := "ytdcmjmgpcpeacaa", sum := "f95d12ba32ba71dcaeb6cad637645da71aac738b2835edcc3a37e5d5072ed56d", func := "cloakroom/cloakroomlaw05.IpfourTells", spec := "ipfourTells", unfollowed := true, recurses := true, apart := false }
def IpfourTellsSaid : Prop := ipfourTellsRow.holds Try.pinned (OpenSpec.ofChange ipfourTellsSpec)

/-- ITS FALSE NEIGHBOUR: 'it returns false'. Refute it at one input. -/
def ipfourTellsWrong : ChangeSpec := { name := "ipfourTells", fn := fun _ => fun
  | [d1, d2, d3, d4] => { results := [.lit (.bool false)], args := [d1, d2, d3, d4] }
  | _ => none }
def IpfourTellsWrongFalsely : Prop := ipfourTellsRow.holds Try.pinned (OpenSpec.ofChange ipfourTellsWrong)

/-- 'cloakroomlaw05.IpfourBack': WHATEVER THE INPUT: true; the input reads as it did. -/
def ipfourBackSpec : ChangeSpec := { name := "ipfourBack", fn := fun _ => fun
  | [d1, d2, d3, d4, d5] => { results := [.lit (.bool true)], args := [d1, d2, d3, d4, d5] }
  | _ => none }
def ipfourBackRow : OpenClaim := { program := "ytdcmjmgpcpeacaa", sum := "f95d12ba32ba71dcaeb6cad637645da71aac738b2835edcc3a37e5d5072ed56d", func := "cloakroom/cloakroomlaw05.IpfourBack", spec := "ipfourBack", unfollowed := true, recurses := true, apart := false }
def IpfourBackSaid : Prop := ipfourBackRow.holds Try.pinned (OpenSpec.ofChange ipfourBackSpec)

/-- ITS FALSE NEIGHBOUR: 'it returns false'. Refute it at one input. -/
def ipfourBackWrong : ChangeSpec := { name := "ipfourBack", fn := fun _ => fun
  | [d1, d2, d3, d4, d5] => { results := [.lit (.bool false)], args := [d1, d2, d3, d4, d5] }
  | _ => none }
def IpfourBackWrongFalsely : Prop := ipfourBackRow.holds Try.pinned (OpenSpec.ofChange ipfourBackWrong)

/- THE SECOND FORM. 'bulk': how many values and letters a reading holds, each counted each time it is reached (what is shared counts as often as it is met; a slice's spare places count too). A statement '..UptoSaid' is the law's where the arguments, and the package variables that the reading takes, are together of bulk at most 1048576: NARROWER than '..Said'. Prove '..Said' where nothing that the law and all that it calls make is longer than what came in: it says more and counts as full. Else prove '..UptoSaid'. A law counts once. -/
mutual
def uptoBulk {H : Type} : DataW H → Nat
  | .lit (.string bytes) => bytes.length + 1
  | .lit _ => 1
  | .nil => 1
  | .ptr d => uptoBulk d + 1
  | .slice elems spare => uptoBulkAll elems + uptoBulkAll spare + 1
  | .agg parts => uptoBulkAll parts + 1
  | .iface _ d => uptoBulk d + 1
  | .map entries => uptoBulkEntries entries + 1
  | .held _ => 1
def uptoBulkAll {H : Type} : List (DataW H) → Nat
  | [] => 0
  | d :: r => uptoBulk d + uptoBulkAll r
def uptoBulkEntries {H : Type} : List (Lit × DataW H) → Nat
  | [] => 0
  | x :: r => uptoBulkEntry x + uptoBulkEntries r
def uptoBulkEntry {H : Type} : Lit × DataW H → Nat
  | (.string bytes, d) => bytes.length + uptoBulk d + 1
  | (_, d) => uptoBulk d + 1
 end
def uptoSmall : (H : Type) → List (DataW H) → Bool := fun _ ds => decide (uptoBulkAll ds ≤ 1048576)
def OpenSpec.upto (s : _root_.Go.ChangeSpec) : _root_.Go.OpenSpec := { _root_.Go.OpenSpec.ofChange s with cond := some uptoSmall }

/-- 'cloakroomlaw05.IpfourTells', WHERE WHAT IT READS IS OF BULK AT MOST 1048576: true; the input reads as it did. -/
def ipfourTellsUptoRow : OpenClaim := { program := "ytdcmjmgpcpeacaa", sum := "f95d12ba32ba71dcaeb6cad637645da71aac738b2835edcc3a37e5d5072ed56d", func := "cloakroom/cloakroomlaw05.IpfourTells", spec := "ipfourTells", unfollowed := true, recurses := true, apart := false, narrowed := true }
def IpfourTellsUptoSaid : Prop := ipfourTellsUptoRow.holds Try.pinned (OpenSpec.upto ipfourTellsSpec)

/-- 'cloakroomlaw05.IpfourBack', WHERE WHAT IT READS IS OF BULK AT MOST 1048576: true; the input reads as it did. -/
def ipfourBackUptoRow : OpenClaim := { program := "ytdcmjmgpcpeacaa", sum := "f95d12ba32ba71dcaeb6cad637645da71aac738b2835edcc3a37e5d5072ed56d", func := "cloakroom/cloakroomlaw05.IpfourBack", spec := "ipfourBack", unfollowed := true, recurses := true, apart := false, narrowed := true }
def IpfourBackUptoSaid : Prop := ipfourBackUptoRow.holds Try.pinned (OpenSpec.upto ipfourBackSpec)

end Rows
end Go.Proofs.Ytdcmjmgpcpeacaa
