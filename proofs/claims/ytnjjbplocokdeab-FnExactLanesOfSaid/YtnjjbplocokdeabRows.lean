/-
  No cell of these rows narrows 'for every input' (looked for: loops, veiled, ifaces, maps, wideKeys, modest, calm, conditions, laid).
  DERIVED. THE GIVEN ROWS OF THIS SEAT. 4 by the template 'for every input the law returns true; each argument reads behind the call as it read before'; 0 by the template 'total and deterministic' (their statements: YtnjjbplocokdeabTotals.lean).
  GIVEN WITH THE SEED: the statements are not yours to turn. If you find one false, say at which input.
  Laid BY PROGRAM, IN A SANDBOX (cutbox-rows.mjs): the forced cells as the released guide's own fill.sh prints them over the translation 6df14526fb69ffa5… (all of the seat's roots in one cut). By AI agents, Wed Nov 11 2026. No macro, syntax, notation, axiom, sorry.
-/
import Derived.Test.YtnjjbplocokdeabChecked
import GoSem.Claim
import GoSem.ClaimJoined
import GoSem.ClaimMapViews
import Derived.JoinedTies
import Derived.KernelRfl
namespace Go.Proofs.Ytnjjbplocokdeab
/- THE CELL 'sum', in the pinned program and in every row, IS THE sha256 OF THE DUMP (.gsa) THAT YtnjjbplocokdeabProg.lean LOADS. Nothing in Lean hashes anything: it is a label: what it is worth is what the hold of that sum in a sandbox is worth. -/
noncomputable def Try.pinned : Pinned := { name := "ytnjjbplocokdeab", sum := "6df14526fb69ffa5b946e60515c882f7ad71de1b077425807a463064e09115c9", checked := Try.checked }
namespace Rows
def none {H : Type} : Left H := { results := [], args := [] }

/-- 'laws.FnExactTxnsConflict': WHATEVER THE INPUT: true; the input reads as it did. -/
def fnExactTxnsConflictSpec : ChangeSpec := { name := "fnExactTxnsConflict", fn := fun _ => fun
  | [d1, d2] => { results := [.lit (.bool true)], args := [d1, d2] }
  | _ => none }
def fnExactTxnsConflictRow : OpenClaim := { program := "ytnjjbplocokdeab", sum := "6df14526fb69ffa5b946e60515c882f7ad71de1b077425807a463064e09115c9", func := "loop.example/dagconsensus/laws.FnExactTxnsConflict", spec := "fnExactTxnsConflict", apart := false }
def FnExactTxnsConflictSaid : Prop := fnExactTxnsConflictRow.holds Try.pinned (OpenSpec.ofChange fnExactTxnsConflictSpec)

/-- ITS FALSE NEIGHBOUR: 'it returns false'. Refute it at one input. -/
def fnExactTxnsConflictWrong : ChangeSpec := { name := "fnExactTxnsConflict", fn := fun _ => fun
  | [d1, d2] => { results := [.lit (.bool false)], args := [d1, d2] }
  | _ => none }
def FnExactTxnsConflictWrongFalsely : Prop := fnExactTxnsConflictRow.holds Try.pinned (OpenSpec.ofChange fnExactTxnsConflictWrong)

/-- 'laws.FnExactLanesOf': WHATEVER THE INPUT: true; the input reads as it did. -/
def fnExactLanesOfSpec : ChangeSpec := { name := "fnExactLanesOf", fn := fun _ => fun
  | [d] => { results := [.lit (.bool true)], args := [d] }
  | _ => none }
def fnExactLanesOfRow : OpenClaim := { program := "ytnjjbplocokdeab", sum := "6df14526fb69ffa5b946e60515c882f7ad71de1b077425807a463064e09115c9", func := "loop.example/dagconsensus/laws.FnExactLanesOf", spec := "fnExactLanesOf", apart := false }
def FnExactLanesOfSaid : Prop := fnExactLanesOfRow.holds Try.pinned (OpenSpec.ofChange fnExactLanesOfSpec)

/-- ITS FALSE NEIGHBOUR: 'it returns false'. Refute it at one input. -/
def fnExactLanesOfWrong : ChangeSpec := { name := "fnExactLanesOf", fn := fun _ => fun
  | [d] => { results := [.lit (.bool false)], args := [d] }
  | _ => none }
def FnExactLanesOfWrongFalsely : Prop := fnExactLanesOfRow.holds Try.pinned (OpenSpec.ofChange fnExactLanesOfWrong)

/-- 'laws.FnExactLanesDepth': WHATEVER THE INPUT: true; the input reads as it did. -/
def fnExactLanesDepthSpec : ChangeSpec := { name := "fnExactLanesDepth", fn := fun _ => fun
  | [d] => { results := [.lit (.bool true)], args := [d] }
  | _ => none }
def fnExactLanesDepthRow : OpenClaim := { program := "ytnjjbplocokdeab", sum := "6df14526fb69ffa5b946e60515c882f7ad71de1b077425807a463064e09115c9", func := "loop.example/dagconsensus/laws.FnExactLanesDepth", spec := "fnExactLanesDepth", apart := false }
def FnExactLanesDepthSaid : Prop := fnExactLanesDepthRow.holds Try.pinned (OpenSpec.ofChange fnExactLanesDepthSpec)

/-- ITS FALSE NEIGHBOUR: 'it returns false'. Refute it at one input. -/
def fnExactLanesDepthWrong : ChangeSpec := { name := "fnExactLanesDepth", fn := fun _ => fun
  | [d] => { results := [.lit (.bool false)], args := [d] }
  | _ => none }
def FnExactLanesDepthWrongFalsely : Prop := fnExactLanesDepthRow.holds Try.pinned (OpenSpec.ofChange fnExactLanesDepthWrong)

/-- 'laws.FnExactLanesRun': WHATEVER THE INPUT: true; the input reads as it did. -/
def fnExactLanesRunSpec : ChangeSpec := { name := "fnExactLanesRun", fn := fun _ => fun
  | [d1, d2] => { results := [.lit (.bool true)], args := [d1, d2] }
  | _ => none }
def fnExactLanesRunRow : OpenClaim := { program := "ytnjjbplocokdeab", sum := "6df14526fb69ffa5b946e60515c882f7ad71de1b077425807a463064e09115c9", func := "loop.example/dagconsensus/laws.FnExactLanesRun", spec := "fnExactLanesRun", inPlace := ["(*sync.WaitGroup).Add", "internal/race.ReleaseMerge", "internal/race.Disable", "internal/race.Enable", "internal/synctest.IsInBubble", "internal/synctest.Associate[sync.WaitGroup]", "sync.fatal", "sync/atomic.OrUint64", "sync/atomic.AddUint64", "internal/race.Read", "sync/atomic.LoadUint64", "sync/atomic.StoreUint64", "internal/synctest.Disassociate[sync.WaitGroup]", "sync.runtime_Semrelease", "(*sync.WaitGroup).Done", "(*sync.WaitGroup).Wait", "internal/race.Acquire", "internal/synctest.IsAssociated[sync.WaitGroup]", "sync/atomic.CompareAndSwapUint64", "internal/race.Write", "sync.runtime_SemacquireWaitGroup"], unfollowed := true, recurses := true, leaving := true, apart := false }
def FnExactLanesRunSaid : Prop := fnExactLanesRunRow.holds Try.pinned (OpenSpec.ofChange fnExactLanesRunSpec)

/-- ITS FALSE NEIGHBOUR: 'it returns false'. Refute it at one input. -/
def fnExactLanesRunWrong : ChangeSpec := { name := "fnExactLanesRun", fn := fun _ => fun
  | [d1, d2] => { results := [.lit (.bool false)], args := [d1, d2] }
  | _ => none }
def FnExactLanesRunWrongFalsely : Prop := fnExactLanesRunRow.holds Try.pinned (OpenSpec.ofChange fnExactLanesRunWrong)

/- THE SECOND FORM. 'bulk': how many values and letters a reading holds, each counted each time it is reached (what is shared counts as often as it is met; a slice's spare places count too). A statement '..UptoSaid' is the law's where the arguments, and the package variables that the reading takes, are together of bulk at most 1048576: NARROWER than '..Said'. Prove '..Said' where nothing that the law and all that it calls make is longer than what came in: it says more and counts as full. Else prove '..UptoSaid'. A law counts once. -/
mutual
def uptoBulk {H : Type} : DataW H → Nat
  | .lit (.string bytes) => bytes.length + 1
  | .lit _ => 1
  | .nil => 1
  | .ptr d => uptoBulk d + 1
  | .slice elems spare => uptoBulkAll elems + uptoBulkAll spare + 1
  | .agg parts => uptoBulkAll parts + 1
  | .iface _ d => uptoBulk d + 1
  | .map entries => uptoBulkEntries entries + 1
  | .held _ => 1
def uptoBulkAll {H : Type} : List (DataW H) → Nat
  | [] => 0
  | d :: r => uptoBulk d + uptoBulkAll r
def uptoBulkEntries {H : Type} : List (Lit × DataW H) → Nat
  | [] => 0
  | x :: r => uptoBulkEntry x + uptoBulkEntries r
def uptoBulkEntry {H : Type} : Lit × DataW H → Nat
  | (.string bytes, d) => bytes.length + uptoBulk d + 1
  | (_, d) => uptoBulk d + 1
 end
def uptoSmall : (H : Type) → List (DataW H) → Bool := fun _ ds => decide (uptoBulkAll ds ≤ 1048576)
def OpenSpec.upto (s : _root_.Go.ChangeSpec) : _root_.Go.OpenSpec := { _root_.Go.OpenSpec.ofChange s with cond := some uptoSmall }

/-- 'laws.FnExactTxnsConflict', WHERE WHAT IT READS IS OF BULK AT MOST 1048576: true; the input reads as it did. -/
def fnExactTxnsConflictUptoRow : OpenClaim := { program := "ytnjjbplocokdeab", sum := "6df14526fb69ffa5b946e60515c882f7ad71de1b077425807a463064e09115c9", func := "loop.example/dagconsensus/laws.FnExactTxnsConflict", spec := "fnExactTxnsConflict", apart := false, narrowed := true }
def FnExactTxnsConflictUptoSaid : Prop := fnExactTxnsConflictUptoRow.holds Try.pinned (OpenSpec.upto fnExactTxnsConflictSpec)

/-- 'laws.FnExactLanesOf', WHERE WHAT IT READS IS OF BULK AT MOST 1048576: true; the input reads as it did. -/
def fnExactLanesOfUptoRow : OpenClaim := { program := "ytnjjbplocokdeab", sum := "6df14526fb69ffa5b946e60515c882f7ad71de1b077425807a463064e09115c9", func := "loop.example/dagconsensus/laws.FnExactLanesOf", spec := "fnExactLanesOf", apart := false, narrowed := true }
def FnExactLanesOfUptoSaid : Prop := fnExactLanesOfUptoRow.holds Try.pinned (OpenSpec.upto fnExactLanesOfSpec)

/-- 'laws.FnExactLanesDepth', WHERE WHAT IT READS IS OF BULK AT MOST 1048576: true; the input reads as it did. -/
def fnExactLanesDepthUptoRow : OpenClaim := { program := "ytnjjbplocokdeab", sum := "6df14526fb69ffa5b946e60515c882f7ad71de1b077425807a463064e09115c9", func := "loop.example/dagconsensus/laws.FnExactLanesDepth", spec := "fnExactLanesDepth", apart := false, narrowed := true }
def FnExactLanesDepthUptoSaid : Prop := fnExactLanesDepthUptoRow.holds Try.pinned (OpenSpec.upto fnExactLanesDepthSpec)

/-- 'laws.FnExactLanesRun', WHERE WHAT IT READS IS OF BULK AT MOST 1048576: true; the input reads as it did. -/
def fnExactLanesRunUptoRow : OpenClaim := { program := "ytnjjbplocokdeab", sum := "6df14526fb69ffa5b946e60515c882f7ad71de1b077425807a463064e09115c9", func := "loop.example/dagconsensus/laws.FnExactLanesRun", spec := "fnExactLanesRun", inPlace := ["(*sync.WaitGroup).Add", "internal/race.ReleaseMerge", "internal/race.Disable", "internal/race.Enable", "internal/synctest.IsInBubble", "internal/synctest.Associate[sync.WaitGroup]", "sync.fatal", "sync/atomic.OrUint64", "sync/atomic.AddUint64", "internal/race.Read", "sync/atomic.LoadUint64", "sync/atomic.StoreUint64", "internal/synctest.Disassociate[sync.WaitGroup]", "sync.runtime_Semrelease", "(*sync.WaitGroup).Done", "(*sync.WaitGroup).Wait", "internal/race.Acquire", "internal/synctest.IsAssociated[sync.WaitGroup]", "sync/atomic.CompareAndSwapUint64", "internal/race.Write", "sync.runtime_SemacquireWaitGroup"], unfollowed := true, recurses := true, leaving := true, apart := false, narrowed := true }
def FnExactLanesRunUptoSaid : Prop := fnExactLanesRunUptoRow.holds Try.pinned (OpenSpec.upto fnExactLanesRunSpec)

end Rows
end Go.Proofs.Ytnjjbplocokdeab
