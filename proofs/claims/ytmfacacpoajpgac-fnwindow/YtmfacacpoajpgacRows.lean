/-
  No cell of these rows narrows 'for every input' (looked for: loops, veiled, ifaces, maps, wideKeys, modest, calm, conditions, laid).
  DERIVED. THE GIVEN ROWS OF THIS SEAT. 6 by the template 'for every input the law returns true; each argument reads behind the call as it read before'; 0 by the template 'total and deterministic' (their statements: YtmfacacpoajpgacTotals.lean).
  GIVEN WITH THE SEED: the statements are not yours to turn. If you find one false, say at which input.
  Laid BY PROGRAM, IN A SANDBOX (cutbox-rows.mjs): the forced cells as the released guide's own fill.sh prints them over the translation 604a0baf6cc64489… (all of the seat's roots in one cut). By AI agents, Wed Nov 11 2026. No macro, syntax, notation, axiom, sorry.
-/
import Derived.Test.YtmfacacpoajpgacChecked
import GoSem.Claim
import GoSem.ClaimJoined
import GoSem.ClaimMapViews
import Derived.JoinedTies
import Derived.KernelRfl
namespace Go.Proofs.Ytmfacacpoajpgac
/- THE CELL 'sum', in the pinned program and in every row, IS THE sha256 OF THE DUMP (.gsa) THAT YtmfacacpoajpgacProg.lean LOADS. Nothing in Lean hashes anything: it is a label: what it is worth is what the hold of that sum in a sandbox is worth. -/
noncomputable def Try.pinned : Pinned := { name := "ytmfacacpoajpgac", sum := "604a0baf6cc64489dc08e0d048b1c3dc44da972f3b83e4dd7a801d63eb2834a4", checked := Try.checked }
namespace Rows
def none {H : Type} : Left H := { results := [], args := [] }

/-- 'laws.FnExactHuffCodes': WHATEVER THE INPUT: true; the input reads as it did. -/
def fnExactHuffCodesSpec : ChangeSpec := { name := "fnExactHuffCodes", fn := fun _ => fun
  | [d] => { results := [.lit (.bool true)], args := [d] }
  | _ => none }
def fnExactHuffCodesRow : OpenClaim := { program := "ytmfacacpoajpgac", sum := "604a0baf6cc64489dc08e0d048b1c3dc44da972f3b83e4dd7a801d63eb2834a4", func := "loop.example/s02972/laws.FnExactHuffCodes", spec := "fnExactHuffCodes", apart := false }
def FnExactHuffCodesSaid : Prop := fnExactHuffCodesRow.holds Try.pinned (OpenSpec.ofChange fnExactHuffCodesSpec)

/-- ITS FALSE NEIGHBOUR: 'it returns false'. Refute it at one input. -/
def fnExactHuffCodesWrong : ChangeSpec := { name := "fnExactHuffCodes", fn := fun _ => fun
  | [d] => { results := [.lit (.bool false)], args := [d] }
  | _ => none }
def FnExactHuffCodesWrongFalsely : Prop := fnExactHuffCodesRow.holds Try.pinned (OpenSpec.ofChange fnExactHuffCodesWrong)

/-- 'laws.FnExactHuffNext': WHATEVER THE INPUT: true; the input reads as it did. -/
def fnExactHuffNextSpec : ChangeSpec := { name := "fnExactHuffNext", fn := fun _ => fun
  | [d1, d2, d3] => { results := [.lit (.bool true)], args := [d1, d2, d3] }
  | _ => none }
def fnExactHuffNextRow : OpenClaim := { program := "ytmfacacpoajpgac", sum := "604a0baf6cc64489dc08e0d048b1c3dc44da972f3b83e4dd7a801d63eb2834a4", func := "loop.example/s02972/laws.FnExactHuffNext", spec := "fnExactHuffNext", apart := false }
def FnExactHuffNextSaid : Prop := fnExactHuffNextRow.holds Try.pinned (OpenSpec.ofChange fnExactHuffNextSpec)

/-- ITS FALSE NEIGHBOUR: 'it returns false'. Refute it at one input. -/
def fnExactHuffNextWrong : ChangeSpec := { name := "fnExactHuffNext", fn := fun _ => fun
  | [d1, d2, d3] => { results := [.lit (.bool false)], args := [d1, d2, d3] }
  | _ => none }
def FnExactHuffNextWrongFalsely : Prop := fnExactHuffNextRow.holds Try.pinned (OpenSpec.ofChange fnExactHuffNextWrong)

/-- 'laws.FnWindow': WHATEVER THE INPUT: true; the input reads as it did. -/
def fnWindowSpec : ChangeSpec := { name := "fnWindow", fn := fun _ => fun
  | [d1, d2] => { results := [.lit (.bool true)], args := [d1, d2] }
  | _ => none }
def fnWindowRow : OpenClaim := { program := "ytmfacacpoajpgac", sum := "604a0baf6cc64489dc08e0d048b1c3dc44da972f3b83e4dd7a801d63eb2834a4", func := "loop.example/s02972/laws.FnWindow", spec := "fnWindow", apart := false }
def FnWindowSaid : Prop := fnWindowRow.holds Try.pinned (OpenSpec.ofChange fnWindowSpec)

/-- ITS FALSE NEIGHBOUR: 'it returns false'. Refute it at one input. -/
def fnWindowWrong : ChangeSpec := { name := "fnWindow", fn := fun _ => fun
  | [d1, d2] => { results := [.lit (.bool false)], args := [d1, d2] }
  | _ => none }
def FnWindowWrongFalsely : Prop := fnWindowRow.holds Try.pinned (OpenSpec.ofChange fnWindowWrong)

/-- 'laws.FnExactValidWindow': WHATEVER THE INPUT: true; the input reads as it did. -/
def fnExactValidWindowSpec : ChangeSpec := { name := "fnExactValidWindow", fn := fun _ => fun
  | [d] => { results := [.lit (.bool true)], args := [d] }
  | _ => none }
def fnExactValidWindowRow : OpenClaim := { program := "ytmfacacpoajpgac", sum := "604a0baf6cc64489dc08e0d048b1c3dc44da972f3b83e4dd7a801d63eb2834a4", func := "loop.example/s02972/laws.FnExactValidWindow", spec := "fnExactValidWindow", apart := false }
def FnExactValidWindowSaid : Prop := fnExactValidWindowRow.holds Try.pinned (OpenSpec.ofChange fnExactValidWindowSpec)

/-- ITS FALSE NEIGHBOUR: 'it returns false'. Refute it at one input. -/
def fnExactValidWindowWrong : ChangeSpec := { name := "fnExactValidWindow", fn := fun _ => fun
  | [d] => { results := [.lit (.bool false)], args := [d] }
  | _ => none }
def FnExactValidWindowWrongFalsely : Prop := fnExactValidWindowRow.holds Try.pinned (OpenSpec.ofChange fnExactValidWindowWrong)

/-- 'laws.FnExactWindowNew': WHATEVER THE INPUT: true; the input reads as it did. -/
def fnExactWindowNewSpec : ChangeSpec := { name := "fnExactWindowNew", fn := fun _ => fun
  | [d1, d2] => { results := [.lit (.bool true)], args := [d1, d2] }
  | _ => none }
def fnExactWindowNewRow : OpenClaim := { program := "ytmfacacpoajpgac", sum := "604a0baf6cc64489dc08e0d048b1c3dc44da972f3b83e4dd7a801d63eb2834a4", func := "loop.example/s02972/laws.FnExactWindowNew", spec := "fnExactWindowNew", apart := false }
def FnExactWindowNewSaid : Prop := fnExactWindowNewRow.holds Try.pinned (OpenSpec.ofChange fnExactWindowNewSpec)

/-- ITS FALSE NEIGHBOUR: 'it returns false'. Refute it at one input. -/
def fnExactWindowNewWrong : ChangeSpec := { name := "fnExactWindowNew", fn := fun _ => fun
  | [d1, d2] => { results := [.lit (.bool false)], args := [d1, d2] }
  | _ => none }
def FnExactWindowNewWrongFalsely : Prop := fnExactWindowNewRow.holds Try.pinned (OpenSpec.ofChange fnExactWindowNewWrong)

/-- 'laws.FnExactWindowPut': WHATEVER THE INPUT: true; the input reads as it did. -/
def fnExactWindowPutSpec : ChangeSpec := { name := "fnExactWindowPut", fn := fun _ => fun
  | [d1, d2] => { results := [.lit (.bool true)], args := [d1, d2] }
  | _ => none }
def fnExactWindowPutRow : OpenClaim := { program := "ytmfacacpoajpgac", sum := "604a0baf6cc64489dc08e0d048b1c3dc44da972f3b83e4dd7a801d63eb2834a4", func := "loop.example/s02972/laws.FnExactWindowPut", spec := "fnExactWindowPut", apart := false }
def FnExactWindowPutSaid : Prop := fnExactWindowPutRow.holds Try.pinned (OpenSpec.ofChange fnExactWindowPutSpec)

/-- ITS FALSE NEIGHBOUR: 'it returns false'. Refute it at one input. -/
def fnExactWindowPutWrong : ChangeSpec := { name := "fnExactWindowPut", fn := fun _ => fun
  | [d1, d2] => { results := [.lit (.bool false)], args := [d1, d2] }
  | _ => none }
def FnExactWindowPutWrongFalsely : Prop := fnExactWindowPutRow.holds Try.pinned (OpenSpec.ofChange fnExactWindowPutWrong)

/- THE SECOND FORM. 'bulk': how many values and letters a reading holds, each counted each time it is reached (what is shared counts as often as it is met; a slice's spare places count too). A statement '..UptoSaid' is the law's where the arguments, and the package variables that the reading takes, are together of bulk at most 1048576: NARROWER than '..Said'. Prove '..Said' where nothing that the law and all that it calls make is longer than what came in: it says more and counts as full. Else prove '..UptoSaid'. A law counts once. -/
mutual
def uptoBulk {H : Type} : DataW H → Nat
  | .lit (.string bytes) => bytes.length + 1
  | .lit _ => 1
  | .nil => 1
  | .ptr d => uptoBulk d + 1
  | .slice elems spare => uptoBulkAll elems + uptoBulkAll spare + 1
  | .agg parts => uptoBulkAll parts + 1
  | .iface _ d => uptoBulk d + 1
  | .map entries => uptoBulkEntries entries + 1
  | .held _ => 1
def uptoBulkAll {H : Type} : List (DataW H) → Nat
  | [] => 0
  | d :: r => uptoBulk d + uptoBulkAll r
def uptoBulkEntries {H : Type} : List (Lit × DataW H) → Nat
  | [] => 0
  | x :: r => uptoBulkEntry x + uptoBulkEntries r
def uptoBulkEntry {H : Type} : Lit × DataW H → Nat
  | (.string bytes, d) => bytes.length + uptoBulk d + 1
  | (_, d) => uptoBulk d + 1
 end
def uptoSmall : (H : Type) → List (DataW H) → Bool := fun _ ds => decide (uptoBulkAll ds ≤ 1048576)
def OpenSpec.upto (s : _root_.Go.ChangeSpec) : _root_.Go.OpenSpec := { _root_.Go.OpenSpec.ofChange s with cond := some uptoSmall }

/-- 'laws.FnExactHuffCodes', WHERE WHAT IT READS IS OF BULK AT MOST 1048576: true; the input reads as it did. -/
def fnExactHuffCodesUptoRow : OpenClaim := { program := "ytmfacacpoajpgac", sum := "604a0baf6cc64489dc08e0d048b1c3dc44da972f3b83e4dd7a801d63eb2834a4", func := "loop.example/s02972/laws.FnExactHuffCodes", spec := "fnExactHuffCodes", apart := false, narrowed := true }
def FnExactHuffCodesUptoSaid : Prop := fnExactHuffCodesUptoRow.holds Try.pinned (OpenSpec.upto fnExactHuffCodesSpec)

/-- 'laws.FnExactHuffNext', WHERE WHAT IT READS IS OF BULK AT MOST 1048576: true; the input reads as it did. -/
def fnExactHuffNextUptoRow : OpenClaim := { program := "ytmfacacpoajpgac", sum := "604a0baf6cc64489dc08e0d048b1c3dc44da972f3b83e4dd7a801d63eb2834a4", func := "loop.example/s02972/laws.FnExactHuffNext", spec := "fnExactHuffNext", apart := false, narrowed := true }
def FnExactHuffNextUptoSaid : Prop := fnExactHuffNextUptoRow.holds Try.pinned (OpenSpec.upto fnExactHuffNextSpec)

/-- 'laws.FnWindow', WHERE WHAT IT READS IS OF BULK AT MOST 1048576: true; the input reads as it did. -/
def fnWindowUptoRow : OpenClaim := { program := "ytmfacacpoajpgac", sum := "604a0baf6cc64489dc08e0d048b1c3dc44da972f3b83e4dd7a801d63eb2834a4", func := "loop.example/s02972/laws.FnWindow", spec := "fnWindow", apart := false, narrowed := true }
def FnWindowUptoSaid : Prop := fnWindowUptoRow.holds Try.pinned (OpenSpec.upto fnWindowSpec)

/-- 'laws.FnExactValidWindow', WHERE WHAT IT READS IS OF BULK AT MOST 1048576: true; the input reads as it did. -/
def fnExactValidWindowUptoRow : OpenClaim := { program := "ytmfacacpoajpgac", sum := "604a0baf6cc64489dc08e0d048b1c3dc44da972f3b83e4dd7a801d63eb2834a4", func := "loop.example/s02972/laws.FnExactValidWindow", spec := "fnExactValidWindow", apart := false, narrowed := true }
def FnExactValidWindowUptoSaid : Prop := fnExactValidWindowUptoRow.holds Try.pinned (OpenSpec.upto fnExactValidWindowSpec)

/-- 'laws.FnExactWindowNew', WHERE WHAT IT READS IS OF BULK AT MOST 1048576: true; the input reads as it did. -/
def fnExactWindowNewUptoRow : OpenClaim := { program := "ytmfacacpoajpgac", sum := "604a0baf6cc64489dc08e0d048b1c3dc44da972f3b83e4dd7a801d63eb2834a4", func := "loop.example/s02972/laws.FnExactWindowNew", spec := "fnExactWindowNew", apart := false, narrowed := true }
def FnExactWindowNewUptoSaid : Prop := fnExactWindowNewUptoRow.holds Try.pinned (OpenSpec.upto fnExactWindowNewSpec)

/-- 'laws.FnExactWindowPut', WHERE WHAT IT READS IS OF BULK AT MOST 1048576: true; the input reads as it did. -/
def fnExactWindowPutUptoRow : OpenClaim := { program := "ytmfacacpoajpgac", sum := "604a0baf6cc64489dc08e0d048b1c3dc44da972f3b83e4dd7a801d63eb2834a4", func := "loop.example/s02972/laws.FnExactWindowPut", spec := "fnExactWindowPut", apart := false, narrowed := true }
def FnExactWindowPutUptoSaid : Prop := fnExactWindowPutUptoRow.holds Try.pinned (OpenSpec.upto fnExactWindowPutSpec)

end Rows
end Go.Proofs.Ytmfacacpoajpgac
