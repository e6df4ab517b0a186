/-
  No cell of these rows narrows 'for every input' (looked for: loops, veiled, ifaces, maps, wideKeys, modest, calm, conditions, laid).
  DERIVED. THE GIVEN ROWS OF THIS SEAT. 6 by the template 'for every input the law returns true; each argument reads behind the call as it read before'; 0 by the template 'total and deterministic' (their statements: YtlffompekagihaaTotals.lean).
  GIVEN WITH THE SEED: the statements are not yours to turn. If you find one false, say at which input.
  Laid BY PROGRAM, IN A SANDBOX (cutbox-rows.mjs): the forced cells as the released guide's own fill.sh prints them over the translation 8931bf8448ce7388… (all of the seat's roots in one cut). By AI agents, Wed Nov 11 2026. No macro, syntax, notation, axiom, sorry.
-/
import Derived.Test.YtlffompekagihaaChecked
import GoSem.Claim
import GoSem.ClaimJoined
import GoSem.ClaimMapViews
import Derived.JoinedTies
import Derived.KernelRfl
namespace Go.Proofs.Ytlffompekagihaa
/- THE CELL 'sum', in the pinned program and in every row, IS THE sha256 OF THE DUMP (.gsa) THAT YtlffompekagihaaProg.lean LOADS. Nothing in Lean hashes anything: it is a label: what it is worth is what the hold of that sum in a sandbox is worth. -/
noncomputable def Try.pinned : Pinned := { name := "ytlffompekagihaa", sum := "8931bf8448ce73883ed1ae40c62360303e9f14c92a68715451eeef9b8bfc77f3", checked := Try.checked }
namespace Rows
def none {H : Type} : Left H := { results := [], args := [] }

/-- 'laws.FnExactAdlerJoin': WHATEVER THE INPUT: true; the input reads as it did. -/
def fnExactAdlerJoinSpec : ChangeSpec := { name := "fnExactAdlerJoin", fn := fun _ => fun
  | [d1, d2, d3] => { results := [.lit (.bool true)], args := [d1, d2, d3] }
  | _ => none }
def fnExactAdlerJoinRow : OpenClaim := { program := "ytlffompekagihaa", sum := "8931bf8448ce73883ed1ae40c62360303e9f14c92a68715451eeef9b8bfc77f3", func := "loop.example/s02972/laws.FnExactAdlerJoin", spec := "fnExactAdlerJoin", apart := false }
def FnExactAdlerJoinSaid : Prop := fnExactAdlerJoinRow.holds Try.pinned (OpenSpec.ofChange fnExactAdlerJoinSpec)

/-- ITS FALSE NEIGHBOUR: 'it returns false'. Refute it at one input. -/
def fnExactAdlerJoinWrong : ChangeSpec := { name := "fnExactAdlerJoin", fn := fun _ => fun
  | [d1, d2, d3] => { results := [.lit (.bool false)], args := [d1, d2, d3] }
  | _ => none }
def FnExactAdlerJoinWrongFalsely : Prop := fnExactAdlerJoinRow.holds Try.pinned (OpenSpec.ofChange fnExactAdlerJoinWrong)

/-- 'laws.FnExactAdlerUpdate': WHATEVER THE INPUT: true; the input reads as it did. -/
def fnExactAdlerUpdateSpec : ChangeSpec := { name := "fnExactAdlerUpdate", fn := fun _ => fun
  | [d1, d2] => { results := [.lit (.bool true)], args := [d1, d2] }
  | _ => none }
def fnExactAdlerUpdateRow : OpenClaim := { program := "ytlffompekagihaa", sum := "8931bf8448ce73883ed1ae40c62360303e9f14c92a68715451eeef9b8bfc77f3", func := "loop.example/s02972/laws.FnExactAdlerUpdate", spec := "fnExactAdlerUpdate", inPlace := ["(*sync.WaitGroup).Add", "internal/race.ReleaseMerge", "internal/race.Disable", "internal/race.Enable", "internal/synctest.IsInBubble", "internal/synctest.Associate[sync.WaitGroup]", "sync.fatal", "sync/atomic.OrUint64", "sync/atomic.AddUint64", "internal/race.Read", "sync/atomic.LoadUint64", "sync/atomic.StoreUint64", "internal/synctest.Disassociate[sync.WaitGroup]", "sync.runtime_Semrelease", "(*sync.WaitGroup).Done", "(*sync.WaitGroup).Wait", "internal/race.Acquire", "internal/synctest.IsAssociated[sync.WaitGroup]", "sync/atomic.CompareAndSwapUint64", "internal/race.Write", "sync.runtime_SemacquireWaitGroup"], unfollowed := true, recurses := true, apart := false }
def FnExactAdlerUpdateSaid : Prop := fnExactAdlerUpdateRow.holds Try.pinned (OpenSpec.ofChange fnExactAdlerUpdateSpec)

/-- ITS FALSE NEIGHBOUR: 'it returns false'. Refute it at one input. -/
def fnExactAdlerUpdateWrong : ChangeSpec := { name := "fnExactAdlerUpdate", fn := fun _ => fun
  | [d1, d2] => { results := [.lit (.bool false)], args := [d1, d2] }
  | _ => none }
def FnExactAdlerUpdateWrongFalsely : Prop := fnExactAdlerUpdateRow.holds Try.pinned (OpenSpec.ofChange fnExactAdlerUpdateWrong)

/-- 'laws.FnExactCrcJoin': WHATEVER THE INPUT: true; the input reads as it did. -/
def fnExactCrcJoinSpec : ChangeSpec := { name := "fnExactCrcJoin", fn := fun _ => fun
  | [d1, d2, d3] => { results := [.lit (.bool true)], args := [d1, d2, d3] }
  | _ => none }
def fnExactCrcJoinRow : OpenClaim := { program := "ytlffompekagihaa", sum := "8931bf8448ce73883ed1ae40c62360303e9f14c92a68715451eeef9b8bfc77f3", func := "loop.example/s02972/laws.FnExactCrcJoin", spec := "fnExactCrcJoin", apart := false }
def FnExactCrcJoinSaid : Prop := fnExactCrcJoinRow.holds Try.pinned (OpenSpec.ofChange fnExactCrcJoinSpec)

/-- ITS FALSE NEIGHBOUR: 'it returns false'. Refute it at one input. -/
def fnExactCrcJoinWrong : ChangeSpec := { name := "fnExactCrcJoin", fn := fun _ => fun
  | [d1, d2, d3] => { results := [.lit (.bool false)], args := [d1, d2, d3] }
  | _ => none }
def FnExactCrcJoinWrongFalsely : Prop := fnExactCrcJoinRow.holds Try.pinned (OpenSpec.ofChange fnExactCrcJoinWrong)

/-- 'laws.FnExactCrcUpdate': WHATEVER THE INPUT: true; the input reads as it did. -/
def fnExactCrcUpdateSpec : ChangeSpec := { name := "fnExactCrcUpdate", fn := fun _ => fun
  | [d1, d2] => { results := [.lit (.bool true)], args := [d1, d2] }
  | _ => none }
def fnExactCrcUpdateRow : OpenClaim := { program := "ytlffompekagihaa", sum := "8931bf8448ce73883ed1ae40c62360303e9f14c92a68715451eeef9b8bfc77f3", func := "loop.example/s02972/laws.FnExactCrcUpdate", spec := "fnExactCrcUpdate", inPlace := ["(*sync.WaitGroup).Add", "internal/race.ReleaseMerge", "internal/race.Disable", "internal/race.Enable", "internal/synctest.IsInBubble", "internal/synctest.Associate[sync.WaitGroup]", "sync.fatal", "sync/atomic.OrUint64", "sync/atomic.AddUint64", "internal/race.Read", "sync/atomic.LoadUint64", "sync/atomic.StoreUint64", "internal/synctest.Disassociate[sync.WaitGroup]", "sync.runtime_Semrelease", "(*sync.WaitGroup).Done", "(*sync.WaitGroup).Wait", "internal/race.Acquire", "internal/synctest.IsAssociated[sync.WaitGroup]", "sync/atomic.CompareAndSwapUint64", "internal/race.Write", "sync.runtime_SemacquireWaitGroup"], unfollowed := true, recurses := true, apart := false }
def FnExactCrcUpdateSaid : Prop := fnExactCrcUpdateRow.holds Try.pinned (OpenSpec.ofChange fnExactCrcUpdateSpec)

/-- ITS FALSE NEIGHBOUR: 'it returns false'. Refute it at one input. -/
def fnExactCrcUpdateWrong : ChangeSpec := { name := "fnExactCrcUpdate", fn := fun _ => fun
  | [d1, d2] => { results := [.lit (.bool false)], args := [d1, d2] }
  | _ => none }
def FnExactCrcUpdateWrongFalsely : Prop := fnExactCrcUpdateRow.holds Try.pinned (OpenSpec.ofChange fnExactCrcUpdateWrong)

/-- 'laws.FnExactHuffKind': WHATEVER THE INPUT: true; the input reads as it did. -/
def fnExactHuffKindSpec : ChangeSpec := { name := "fnExactHuffKind", fn := fun _ => fun
  | [d] => { results := [.lit (.bool true)], args := [d] }
  | _ => none }
def fnExactHuffKindRow : OpenClaim := { program := "ytlffompekagihaa", sum := "8931bf8448ce73883ed1ae40c62360303e9f14c92a68715451eeef9b8bfc77f3", func := "loop.example/s02972/laws.FnExactHuffKind", spec := "fnExactHuffKind", apart := false }
def FnExactHuffKindSaid : Prop := fnExactHuffKindRow.holds Try.pinned (OpenSpec.ofChange fnExactHuffKindSpec)

/-- ITS FALSE NEIGHBOUR: 'it returns false'. Refute it at one input. -/
def fnExactHuffKindWrong : ChangeSpec := { name := "fnExactHuffKind", fn := fun _ => fun
  | [d] => { results := [.lit (.bool false)], args := [d] }
  | _ => none }
def FnExactHuffKindWrongFalsely : Prop := fnExactHuffKindRow.holds Try.pinned (OpenSpec.ofChange fnExactHuffKindWrong)

/-- 'laws.FnExactEncodeStored': WHATEVER THE INPUT: true; the input reads as it did. -/
def fnExactEncodeStoredSpec : ChangeSpec := { name := "fnExactEncodeStored", fn := fun _ => fun
  | [d1, d2] => { results := [.lit (.bool true)], args := [d1, d2] }
  | _ => none }
def fnExactEncodeStoredRow : OpenClaim := { program := "ytlffompekagihaa", sum := "8931bf8448ce73883ed1ae40c62360303e9f14c92a68715451eeef9b8bfc77f3", func := "loop.example/s02972/laws.FnExactEncodeStored", spec := "fnExactEncodeStored", apart := false }
def FnExactEncodeStoredSaid : Prop := fnExactEncodeStoredRow.holds Try.pinned (OpenSpec.ofChange fnExactEncodeStoredSpec)

/-- ITS FALSE NEIGHBOUR: 'it returns false'. Refute it at one input. -/
def fnExactEncodeStoredWrong : ChangeSpec := { name := "fnExactEncodeStored", fn := fun _ => fun
  | [d1, d2] => { results := [.lit (.bool false)], args := [d1, d2] }
  | _ => none }
def FnExactEncodeStoredWrongFalsely : Prop := fnExactEncodeStoredRow.holds Try.pinned (OpenSpec.ofChange fnExactEncodeStoredWrong)

/- THE SECOND FORM. 'bulk': how many values and letters a reading holds, each counted each time it is reached (what is shared counts as often as it is met; a slice's spare places count too). A statement '..UptoSaid' is the law's where the arguments, and the package variables that the reading takes, are together of bulk at most 1048576: NARROWER than '..Said'. Prove '..Said' where nothing that the law and all that it calls make is longer than what came in: it says more and counts as full. Else prove '..UptoSaid'. A law counts once. -/
mutual
def uptoBulk {H : Type} : DataW H → Nat
  | .lit (.string bytes) => bytes.length + 1
  | .lit _ => 1
  | .nil => 1
  | .ptr d => uptoBulk d + 1
  | .slice elems spare => uptoBulkAll elems + uptoBulkAll spare + 1
  | .agg parts => uptoBulkAll parts + 1
  | .iface _ d => uptoBulk d + 1
  | .map entries => uptoBulkEntries entries + 1
  | .held _ => 1
def uptoBulkAll {H : Type} : List (DataW H) → Nat
  | [] => 0
  | d :: r => uptoBulk d + uptoBulkAll r
def uptoBulkEntries {H : Type} : List (Lit × DataW H) → Nat
  | [] => 0
  | x :: r => uptoBulkEntry x + uptoBulkEntries r
def uptoBulkEntry {H : Type} : Lit × DataW H → Nat
  | (.string bytes, d) => bytes.length + uptoBulk d + 1
  | (_, d) => uptoBulk d + 1
 end
def uptoSmall : (H : Type) → List (DataW H) → Bool := fun _ ds => decide (uptoBulkAll ds ≤ 1048576)
def OpenSpec.upto (s : _root_.Go.ChangeSpec) : _root_.Go.OpenSpec := { _root_.Go.OpenSpec.ofChange s with cond := some uptoSmall }

/-- 'laws.FnExactAdlerJoin', WHERE WHAT IT READS IS OF BULK AT MOST 1048576: true; the input reads as it did. -/
def fnExactAdlerJoinUptoRow : OpenClaim := { program := "ytlffompekagihaa", sum := "8931bf8448ce73883ed1ae40c62360303e9f14c92a68715451eeef9b8bfc77f3", func := "loop.example/s02972/laws.FnExactAdlerJoin", spec := "fnExactAdlerJoin", apart := false, narrowed := true }
def FnExactAdlerJoinUptoSaid : Prop := fnExactAdlerJoinUptoRow.holds Try.pinned (OpenSpec.upto fnExactAdlerJoinSpec)

/-- 'laws.FnExactAdlerUpdate', WHERE WHAT IT READS IS OF BULK AT MOST 1048576: true; the input reads as it did. -/
def fnExactAdlerUpdateUptoRow : OpenClaim := { program := "ytlffompekagihaa", sum := "8931bf8448ce73883ed1ae40c62360303e9f14c92a68715451eeef9b8bfc77f3", func := "loop.example/s02972/laws.FnExactAdlerUpdate", spec := "fnExactAdlerUpdate", inPlace := ["(*sync.WaitGroup).Add", "internal/race.ReleaseMerge", "internal/race.Disable", "internal/race.Enable", "internal/synctest.IsInBubble", "internal/synctest.Associate[sync.WaitGroup]", "sync.fatal", "sync/atomic.OrUint64", "sync/atomic.AddUint64", "internal/race.Read", "sync/atomic.LoadUint64", "sync/atomic.StoreUint64", "internal/synctest.Disassociate[sync.WaitGroup]", "sync.runtime_Semrelease", "(*sync.WaitGroup).Done", "(*sync.WaitGroup).Wait", "internal/race.Acquire", "internal/synctest.IsAssociated[sync.WaitGroup]", "sync/atomic.CompareAndSwapUint64", "internal/race.Write", "sync.runtime_SemacquireWaitGroup"], unfollowed := true, recurses := true, apart := false, narrowed := true }
def FnExactAdlerUpdateUptoSaid : Prop := fnExactAdlerUpdateUptoRow.holds Try.pinned (OpenSpec.upto fnExactAdlerUpdateSpec)

/-- 'laws.FnExactCrcJoin', WHERE WHAT IT READS IS OF BULK AT MOST 1048576: true; the input reads as it did. -/
def fnExactCrcJoinUptoRow : OpenClaim := { program := "ytlffompekagihaa", sum := "8931bf8448ce73883ed1ae40c62360303e9f14c92a68715451eeef9b8bfc77f3", func := "loop.example/s02972/laws.FnExactCrcJoin", spec := "fnExactCrcJoin", apart := false, narrowed := true }
def FnExactCrcJoinUptoSaid : Prop := fnExactCrcJoinUptoRow.holds Try.pinned (OpenSpec.upto fnExactCrcJoinSpec)

/-- 'laws.FnExactCrcUpdate', WHERE WHAT IT READS IS OF BULK AT MOST 1048576: true; the input reads as it did. -/
def fnExactCrcUpdateUptoRow : OpenClaim := { program := "ytlffompekagihaa", sum := "8931bf8448ce73883ed1ae40c62360303e9f14c92a68715451eeef9b8bfc77f3", func := "loop.example/s02972/laws.FnExactCrcUpdate", spec := "fnExactCrcUpdate", inPlace := ["(*sync.WaitGroup).Add", "internal/race.ReleaseMerge", "internal/race.Disable", "internal/race.Enable", "internal/synctest.IsInBubble", "internal/synctest.Associate[sync.WaitGroup]", "sync.fatal", "sync/atomic.OrUint64", "sync/atomic.AddUint64", "internal/race.Read", "sync/atomic.LoadUint64", "sync/atomic.StoreUint64", "internal/synctest.Disassociate[sync.WaitGroup]", "sync.runtime_Semrelease", "(*sync.WaitGroup).Done", "(*sync.WaitGroup).Wait", "internal/race.Acquire", "internal/synctest.IsAssociated[sync.WaitGroup]", "sync/atomic.CompareAndSwapUint64", "internal/race.Write", "sync.runtime_SemacquireWaitGroup"], unfollowed := true, recurses := true, apart := false, narrowed := true }
def FnExactCrcUpdateUptoSaid : Prop := fnExactCrcUpdateUptoRow.holds Try.pinned (OpenSpec.upto fnExactCrcUpdateSpec)

/-- 'laws.FnExactHuffKind', WHERE WHAT IT READS IS OF BULK AT MOST 1048576: true; the input reads as it did. -/
def fnExactHuffKindUptoRow : OpenClaim := { program := "ytlffompekagihaa", sum := "8931bf8448ce73883ed1ae40c62360303e9f14c92a68715451eeef9b8bfc77f3", func := "loop.example/s02972/laws.FnExactHuffKind", spec := "fnExactHuffKind", apart := false, narrowed := true }
def FnExactHuffKindUptoSaid : Prop := fnExactHuffKindUptoRow.holds Try.pinned (OpenSpec.upto fnExactHuffKindSpec)

/-- 'laws.FnExactEncodeStored', WHERE WHAT IT READS IS OF BULK AT MOST 1048576: true; the input reads as it did. -/
def fnExactEncodeStoredUptoRow : OpenClaim := { program := "ytlffompekagihaa", sum := "8931bf8448ce73883ed1ae40c62360303e9f14c92a68715451eeef9b8bfc77f3", func := "loop.example/s02972/laws.FnExactEncodeStored", spec := "fnExactEncodeStored", apart := false, narrowed := true }
def FnExactEncodeStoredUptoSaid : Prop := fnExactEncodeStoredUptoRow.holds Try.pinned (OpenSpec.upto fnExactEncodeStoredSpec)

end Rows
end Go.Proofs.Ytlffompekagihaa
