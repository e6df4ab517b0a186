/-
  No cell of these rows narrows 'for every input' (looked for: loops, veiled, ifaces, maps, wideKeys, modest, calm, conditions, laid).
  DERIVED. THE GIVEN ROWS OF THIS SEAT. 6 by the template 'for every input the law returns true; each argument reads behind the call as it read before'; 0 by the template 'total and deterministic' (their statements: YthlhfmbaeafdfabTotals.lean).
  GIVEN WITH THE SEED: the statements are not yours to turn. If you find one false, say at which input.
  Laid BY PROGRAM, IN A SANDBOX (cutbox-rows.mjs): the forced cells as the released guide's own fill.sh prints them over the translation b8199f2f32966109… (all of the seat's roots in one cut). By AI agents, Wed Nov 11 2026. No macro, syntax, notation, axiom, sorry.
-/
import Derived.Test.YthlhfmbaeafdfabChecked
import GoSem.Claim
import GoSem.ClaimJoined
import GoSem.ClaimMapViews
import Derived.JoinedTies
import Derived.KernelRfl
namespace Go.Proofs.Ythlhfmbaeafdfab
/- THE CELL 'sum', in the pinned program and in every row, IS THE sha256 OF THE DUMP (.gsa) THAT YthlhfmbaeafdfabProg.lean LOADS. Nothing in Lean hashes anything: it is a label: what it is worth is what the hold of that sum in a sandbox is worth. -/
noncomputable def Try.pinned : Pinned := { name := "ythlhfmbaeafdfab", sum := "b8199f2f3296610903b4725f10057711131046f677d010d87f068e0567ebbe74", checked := Try.checked }
namespace Rows
def none {H : Type} : Left H := { results := [], args := [] }

/-- 'laws.FnExactValidWindow': WHATEVER THE INPUT: true; the input reads as it did. -/
def fnExactValidWindowSpec : ChangeSpec := { name := "fnExactValidWindow", fn := fun _ => fun
  | [d] => { results := [.lit (.bool true)], args := [d] }
  | _ => none }
def fnExactValidWindowRow : OpenClaim := { program := "ythlhfmbaeafdfab", sum := "b8199f2f3296610903b4725f10057711131046f677d010d87f068e0567ebbe74", func := "loop.example/s02972/laws.FnExactValidWindow", spec := "fnExactValidWindow", apart := false }
def FnExactValidWindowSaid : Prop := fnExactValidWindowRow.holds Try.pinned (OpenSpec.ofChange fnExactValidWindowSpec)

/-- ITS FALSE NEIGHBOUR: 'it returns false'. Refute it at one input. -/
def fnExactValidWindowWrong : ChangeSpec := { name := "fnExactValidWindow", fn := fun _ => fun
  | [d] => { results := [.lit (.bool false)], args := [d] }
  | _ => none }
def FnExactValidWindowWrongFalsely : Prop := fnExactValidWindowRow.holds Try.pinned (OpenSpec.ofChange fnExactValidWindowWrong)

/-- 'laws.FnLongSums': WHATEVER THE INPUT: true; the input reads as it did. -/
def fnLongSumsSpec : ChangeSpec := { name := "fnLongSums", fn := fun _ => fun
  | [d] => { results := [.lit (.bool true)], args := [d] }
  | _ => none }
def fnLongSumsRow : OpenClaim := { program := "ythlhfmbaeafdfab", sum := "b8199f2f3296610903b4725f10057711131046f677d010d87f068e0567ebbe74", func := "loop.example/s02972/laws.FnLongSums", spec := "fnLongSums", inPlace := ["(*sync.WaitGroup).Add", "internal/race.ReleaseMerge", "internal/race.Disable", "internal/race.Enable", "internal/synctest.IsInBubble", "internal/synctest.Associate[sync.WaitGroup]", "sync.fatal", "sync/atomic.OrUint64", "sync/atomic.AddUint64", "internal/race.Read", "sync/atomic.LoadUint64", "sync/atomic.StoreUint64", "internal/synctest.Disassociate[sync.WaitGroup]", "sync.runtime_Semrelease", "(*sync.WaitGroup).Done", "(*sync.WaitGroup).Wait", "internal/race.Acquire", "internal/synctest.IsAssociated[sync.WaitGroup]", "sync/atomic.CompareAndSwapUint64", "internal/race.Write", "sync.runtime_SemacquireWaitGroup"], unfollowed := true, recurses := true, apart := false }
def FnLongSumsSaid : Prop := fnLongSumsRow.holds Try.pinned (OpenSpec.ofChange fnLongSumsSpec)

/-- ITS FALSE NEIGHBOUR: 'it returns false'. Refute it at one input. -/
def fnLongSumsWrong : ChangeSpec := { name := "fnLongSums", fn := fun _ => fun
  | [d] => { results := [.lit (.bool false)], args := [d] }
  | _ => none }
def FnLongSumsWrongFalsely : Prop := fnLongSumsRow.holds Try.pinned (OpenSpec.ofChange fnLongSumsWrong)

/-- 'laws.FnExactValidBits': WHATEVER THE INPUT: true; the input reads as it did. -/
def fnExactValidBitsSpec : ChangeSpec := { name := "fnExactValidBits", fn := fun _ => fun
  | [d] => { results := [.lit (.bool true)], args := [d] }
  | _ => none }
def fnExactValidBitsRow : OpenClaim := { program := "ythlhfmbaeafdfab", sum := "b8199f2f3296610903b4725f10057711131046f677d010d87f068e0567ebbe74", func := "loop.example/s02972/laws.FnExactValidBits", spec := "fnExactValidBits", apart := false }
def FnExactValidBitsSaid : Prop := fnExactValidBitsRow.holds Try.pinned (OpenSpec.ofChange fnExactValidBitsSpec)

/-- ITS FALSE NEIGHBOUR: 'it returns false'. Refute it at one input. -/
def fnExactValidBitsWrong : ChangeSpec := { name := "fnExactValidBits", fn := fun _ => fun
  | [d] => { results := [.lit (.bool false)], args := [d] }
  | _ => none }
def FnExactValidBitsWrongFalsely : Prop := fnExactValidBitsRow.holds Try.pinned (OpenSpec.ofChange fnExactValidBitsWrong)

/-- 'laws.FnExactValidMember': WHATEVER THE INPUT: true; the input reads as it did. -/
def fnExactValidMemberSpec : ChangeSpec := { name := "fnExactValidMember", fn := fun _ => fun
  | [d] => { results := [.lit (.bool true)], args := [d] }
  | _ => none }
def fnExactValidMemberRow : OpenClaim := { program := "ythlhfmbaeafdfab", sum := "b8199f2f3296610903b4725f10057711131046f677d010d87f068e0567ebbe74", func := "loop.example/s02972/laws.FnExactValidMember", spec := "fnExactValidMember", apart := false }
def FnExactValidMemberSaid : Prop := fnExactValidMemberRow.holds Try.pinned (OpenSpec.ofChange fnExactValidMemberSpec)

/-- ITS FALSE NEIGHBOUR: 'it returns false'. Refute it at one input. -/
def fnExactValidMemberWrong : ChangeSpec := { name := "fnExactValidMember", fn := fun _ => fun
  | [d] => { results := [.lit (.bool false)], args := [d] }
  | _ => none }
def FnExactValidMemberWrongFalsely : Prop := fnExactValidMemberRow.holds Try.pinned (OpenSpec.ofChange fnExactValidMemberWrong)

/-- 'laws.FnExactWindowNew': WHATEVER THE INPUT: true; the input reads as it did. -/
def fnExactWindowNewSpec : ChangeSpec := { name := "fnExactWindowNew", fn := fun _ => fun
  | [d1, d2] => { results := [.lit (.bool true)], args := [d1, d2] }
  | _ => none }
def fnExactWindowNewRow : OpenClaim := { program := "ythlhfmbaeafdfab", sum := "b8199f2f3296610903b4725f10057711131046f677d010d87f068e0567ebbe74", func := "loop.example/s02972/laws.FnExactWindowNew", spec := "fnExactWindowNew", apart := false }
def FnExactWindowNewSaid : Prop := fnExactWindowNewRow.holds Try.pinned (OpenSpec.ofChange fnExactWindowNewSpec)

/-- ITS FALSE NEIGHBOUR: 'it returns false'. Refute it at one input. -/
def fnExactWindowNewWrong : ChangeSpec := { name := "fnExactWindowNew", fn := fun _ => fun
  | [d1, d2] => { results := [.lit (.bool false)], args := [d1, d2] }
  | _ => none }
def FnExactWindowNewWrongFalsely : Prop := fnExactWindowNewRow.holds Try.pinned (OpenSpec.ofChange fnExactWindowNewWrong)

/-- 'laws.FnWindow': WHATEVER THE INPUT: true; the input reads as it did. -/
def fnWindowSpec : ChangeSpec := { name := "fnWindow", fn := fun _ => fun
  | [d1, d2] => { results := [.lit (.bool true)], args := [d1, d2] }
  | _ => none }
def fnWindowRow : OpenClaim := { program := "ythlhfmbaeafdfab", sum := "b8199f2f3296610903b4725f10057711131046f677d010d87f068e0567ebbe74", func := "loop.example/s02972/laws.FnWindow", spec := "fnWindow", apart := false }
def FnWindowSaid : Prop := fnWindowRow.holds Try.pinned (OpenSpec.ofChange fnWindowSpec)

/-- ITS FALSE NEIGHBOUR: 'it returns false'. Refute it at one input. -/
def fnWindowWrong : ChangeSpec := { name := "fnWindow", fn := fun _ => fun
  | [d1, d2] => { results := [.lit (.bool false)], args := [d1, d2] }
  | _ => none }
def FnWindowWrongFalsely : Prop := fnWindowRow.holds Try.pinned (OpenSpec.ofChange fnWindowWrong)

/- THE SECOND FORM. 'bulk': how many values and letters a reading holds, each counted each time it is reached (what is shared counts as often as it is met; a slice's spare places count too). A statement '..UptoSaid' is the law's where the arguments, and the package variables that the reading takes, are together of bulk at most 1048576: NARROWER than '..Said'. Prove '..Said' where nothing that the law and all that it calls make is longer than what came in: it says more and counts as full. Else prove '..UptoSaid'. A law counts once. -/
mutual
def uptoBulk {H : Type} : DataW H → Nat
  | .lit (.string bytes) => bytes.length + 1
  | .lit _ => 1
  | .nil => 1
  | .ptr d => uptoBulk d + 1
  | .slice elems spare => uptoBulkAll elems + uptoBulkAll spare + 1
  | .agg parts => uptoBulkAll parts + 1
  | .iface _ d => uptoBulk d + 1
  | .map entries => uptoBulkEntries entries + 1
  | .held _ => 1
def uptoBulkAll {H : Type} : List (DataW H) → Nat
  | [] => 0
  | d :: r => uptoBulk d + uptoBulkAll r
def uptoBulkEntries {H : Type} : List (Lit × DataW H) → Nat
  | [] => 0
  | x :: r => uptoBulkEntry x + uptoBulkEntries r
def uptoBulkEntry {H : Type} : Lit × DataW H → Nat
  | (.string bytes, d) => bytes.length + uptoBulk d + 1
  | (_, d) => uptoBulk d + 1
 end
def uptoSmall : (H : Type) → List (DataW H) → Bool := fun _ ds => decide (uptoBulkAll ds ≤ 1048576)
def OpenSpec.upto (s : _root_.Go.ChangeSpec) : _root_.Go.OpenSpec := { _root_.Go.OpenSpec.ofChange s with cond := some uptoSmall }

/-- 'laws.FnExactValidWindow', WHERE WHAT IT READS IS OF BULK AT MOST 1048576: true; the input reads as it did. -/
def fnExactValidWindowUptoRow : OpenClaim := { program := "ythlhfmbaeafdfab", sum := "b8199f2f3296610903b4725f10057711131046f677d010d87f068e0567ebbe74", func := "loop.example/s02972/laws.FnExactValidWindow", spec := "fnExactValidWindow", apart := false, narrowed := true }
def FnExactValidWindowUptoSaid : Prop := fnExactValidWindowUptoRow.holds Try.pinned (OpenSpec.upto fnExactValidWindowSpec)

/-- 'laws.FnLongSums', WHERE WHAT IT READS IS OF BULK AT MOST 1048576: true; the input reads as it did. -/
def fnLongSumsUptoRow : OpenClaim := { program := "ythlhfmbaeafdfab", sum := "b8199f2f3296610903b4725f10057711131046f677d010d87f068e0567ebbe74", func := "loop.example/s02972/laws.FnLongSums", spec := "fnLongSums", inPlace := ["(*sync.WaitGroup).Add", "internal/race.ReleaseMerge", "internal/race.Disable", "internal/race.Enable", "internal/synctest.IsInBubble", "internal/synctest.Associate[sync.WaitGroup]", "sync.fatal", "sync/atomic.OrUint64", "sync/atomic.AddUint64", "internal/race.Read", "sync/atomic.LoadUint64", "sync/atomic.StoreUint64", "internal/synctest.Disassociate[sync.WaitGroup]", "sync.runtime_Semrelease", "(*sync.WaitGroup).Done", "(*sync.WaitGroup).Wait", "internal/race.Acquire", "internal/synctest.IsAssociated[sync.WaitGroup]", "sync/atomic.CompareAndSwapUint64", "internal/race.Write", "sync.runtime_SemacquireWaitGroup"], unfollowed := true, recurses := true, apart := false, narrowed := true }
def FnLongSumsUptoSaid : Prop := fnLongSumsUptoRow.holds Try.pinned (OpenSpec.upto fnLongSumsSpec)

/-- 'laws.FnExactValidBits', WHERE WHAT IT READS IS OF BULK AT MOST 1048576: true; the input reads as it did. -/
def fnExactValidBitsUptoRow : OpenClaim := { program := "ythlhfmbaeafdfab", sum := "b8199f2f3296610903b4725f10057711131046f677d010d87f068e0567ebbe74", func := "loop.example/s02972/laws.FnExactValidBits", spec := "fnExactValidBits", apart := false, narrowed := true }
def FnExactValidBitsUptoSaid : Prop := fnExactValidBitsUptoRow.holds Try.pinned (OpenSpec.upto fnExactValidBitsSpec)

/-- 'laws.FnExactValidMember', WHERE WHAT IT READS IS OF BULK AT MOST 1048576: true; the input reads as it did. -/
def fnExactValidMemberUptoRow : OpenClaim := { program := "ythlhfmbaeafdfab", sum := "b8199f2f3296610903b4725f10057711131046f677d010d87f068e0567ebbe74", func := "loop.example/s02972/laws.FnExactValidMember", spec := "fnExactValidMember", apart := false, narrowed := true }
def FnExactValidMemberUptoSaid : Prop := fnExactValidMemberUptoRow.holds Try.pinned (OpenSpec.upto fnExactValidMemberSpec)

/-- 'laws.FnExactWindowNew', WHERE WHAT IT READS IS OF BULK AT MOST 1048576: true; the input reads as it did. -/
def fnExactWindowNewUptoRow : OpenClaim := { program := "ythlhfmbaeafdfab", sum := "b8199f2f3296610903b4725f10057711131046f677d010d87f068e0567ebbe74", func := "loop.example/s02972/laws.FnExactWindowNew", spec := "fnExactWindowNew", apart := false, narrowed := true }
def FnExactWindowNewUptoSaid : Prop := fnExactWindowNewUptoRow.holds Try.pinned (OpenSpec.upto fnExactWindowNewSpec)

/-- 'laws.FnWindow', WHERE WHAT IT READS IS OF BULK AT MOST 1048576: true; the input reads as it did. -/
def fnWindowUptoRow : OpenClaim := { program := "ythlhfmbaeafdfab", sum := "b8199f2f3296610903b4725f10057711131046f677d010d87f068e0567ebbe74", func := "loop.example/s02972/laws.FnWindow", spec := "fnWindow", apart := false, narrowed := true }
def FnWindowUptoSaid : Prop := fnWindowUptoRow.holds Try.pinned (OpenSpec.upto fnWindowSpec)

end Rows
end Go.Proofs.Ythlhfmbaeafdfab
