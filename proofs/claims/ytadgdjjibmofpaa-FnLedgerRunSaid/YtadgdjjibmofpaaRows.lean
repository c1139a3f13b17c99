/-
  No cell of these rows narrows 'for every input' (looked for: loops, veiled, ifaces, maps, wideKeys, modest, calm, conditions, laid).
  DERIVED. THE GIVEN ROWS OF THIS SEAT. 8 by the template 'for every input the law returns true; each argument reads behind the call as it read before'; 0 by the template 'total and deterministic' (their statements: YtadgdjjibmofpaaTotals.lean).
  GIVEN WITH THE SEED: the statements are not yours to turn. If you find one false, say at which input.
  Laid BY PROGRAM, IN A SANDBOX (cutbox-rows.mjs): the forced cells as the released guide's own fill.sh prints them over the translation 04c0522facfe7cf7… (all of the seat's roots in one cut). By AI agents, Wed Nov 11 2026. No macro, syntax, notation, axiom, sorry.
-/
import Derived.Test.YtadgdjjibmofpaaChecked
import GoSem.Claim
import GoSem.ClaimJoined
import GoSem.ClaimMapViews
import Derived.JoinedTies
import Derived.KernelRfl
namespace Go.Proofs.Ytadgdjjibmofpaa
/- THE CELL 'sum', in the pinned program and in every row, IS THE sha256 OF THE DUMP (.gsa) THAT YtadgdjjibmofpaaProg.lean LOADS. Nothing in Lean hashes anything: it is a label: what it is worth is what the hold of that sum in a sandbox is worth. -/
noncomputable def Try.pinned : Pinned := { name := "ytadgdjjibmofpaa", sum := "04c0522facfe7cf7dd74edef87c8915df7fae6b7bcfdc455cc4a95a3525b0696", checked := Try.checked }
namespace Rows
def none {H : Type} : Left H := { results := [], args := [] }

/-- 'laws.FnLedgerApply': WHATEVER THE INPUT: true; the input reads as it did. -/
def fnLedgerApplySpec : ChangeSpec := { name := "fnLedgerApply", fn := fun _ => fun
  | [d] => { results := [.lit (.bool true)], args := [d] }
  | _ => none }
def fnLedgerApplyRow : OpenClaim := { program := "ytadgdjjibmofpaa", sum := "04c0522facfe7cf7dd74edef87c8915df7fae6b7bcfdc455cc4a95a3525b0696", func := "loop.example/dagconsensus/laws.FnLedgerApply", spec := "fnLedgerApply", apart := false }
def FnLedgerApplySaid : Prop := fnLedgerApplyRow.holds Try.pinned (OpenSpec.ofChange fnLedgerApplySpec)

/-- ITS FALSE NEIGHBOUR: 'it returns false'. Refute it at one input. -/
def fnLedgerApplyWrong : ChangeSpec := { name := "fnLedgerApply", fn := fun _ => fun
  | [d] => { results := [.lit (.bool false)], args := [d] }
  | _ => none }
def FnLedgerApplyWrongFalsely : Prop := fnLedgerApplyRow.holds Try.pinned (OpenSpec.ofChange fnLedgerApplyWrong)

/-- 'laws.FnLedgerTotal': WHATEVER THE INPUT: true; the input reads as it did. -/
def fnLedgerTotalSpec : ChangeSpec := { name := "fnLedgerTotal", fn := fun _ => fun
  | [d] => { results := [.lit (.bool true)], args := [d] }
  | _ => none }
def fnLedgerTotalRow : OpenClaim := { program := "ytadgdjjibmofpaa", sum := "04c0522facfe7cf7dd74edef87c8915df7fae6b7bcfdc455cc4a95a3525b0696", func := "loop.example/dagconsensus/laws.FnLedgerTotal", spec := "fnLedgerTotal", apart := false }
def FnLedgerTotalSaid : Prop := fnLedgerTotalRow.holds Try.pinned (OpenSpec.ofChange fnLedgerTotalSpec)

/-- ITS FALSE NEIGHBOUR: 'it returns false'. Refute it at one input. -/
def fnLedgerTotalWrong : ChangeSpec := { name := "fnLedgerTotal", fn := fun _ => fun
  | [d] => { results := [.lit (.bool false)], args := [d] }
  | _ => none }
def FnLedgerTotalWrongFalsely : Prop := fnLedgerTotalRow.holds Try.pinned (OpenSpec.ofChange fnLedgerTotalWrong)

/-- 'laws.FnLedgerFail': WHATEVER THE INPUT: true; the input reads as it did. -/
def fnLedgerFailSpec : ChangeSpec := { name := "fnLedgerFail", fn := fun _ => fun
  | [d] => { results := [.lit (.bool true)], args := [d] }
  | _ => none }
def fnLedgerFailRow : OpenClaim := { program := "ytadgdjjibmofpaa", sum := "04c0522facfe7cf7dd74edef87c8915df7fae6b7bcfdc455cc4a95a3525b0696", func := "loop.example/dagconsensus/laws.FnLedgerFail", spec := "fnLedgerFail", apart := false }
def FnLedgerFailSaid : Prop := fnLedgerFailRow.holds Try.pinned (OpenSpec.ofChange fnLedgerFailSpec)

/-- ITS FALSE NEIGHBOUR: 'it returns false'. Refute it at one input. -/
def fnLedgerFailWrong : ChangeSpec := { name := "fnLedgerFail", fn := fun _ => fun
  | [d] => { results := [.lit (.bool false)], args := [d] }
  | _ => none }
def FnLedgerFailWrongFalsely : Prop := fnLedgerFailRow.holds Try.pinned (OpenSpec.ofChange fnLedgerFailWrong)

/-- 'laws.FnLedgerRun': WHATEVER THE INPUT: true; the input reads as it did. -/
def fnLedgerRunSpec : ChangeSpec := { name := "fnLedgerRun", fn := fun _ => fun
  | [d1, d2] => { results := [.lit (.bool true)], args := [d1, d2] }
  | _ => none }
def fnLedgerRunRow : OpenClaim := { program := "ytadgdjjibmofpaa", sum := "04c0522facfe7cf7dd74edef87c8915df7fae6b7bcfdc455cc4a95a3525b0696", func := "loop.example/dagconsensus/laws.FnLedgerRun", spec := "fnLedgerRun", apart := false }
def FnLedgerRunSaid : Prop := fnLedgerRunRow.holds Try.pinned (OpenSpec.ofChange fnLedgerRunSpec)

/-- ITS FALSE NEIGHBOUR: 'it returns false'. Refute it at one input. -/
def fnLedgerRunWrong : ChangeSpec := { name := "fnLedgerRun", fn := fun _ => fun
  | [d1, d2] => { results := [.lit (.bool false)], args := [d1, d2] }
  | _ => none }
def FnLedgerRunWrongFalsely : Prop := fnLedgerRunRow.holds Try.pinned (OpenSpec.ofChange fnLedgerRunWrong)

/-- 'laws.FnLedgerStep': WHATEVER THE INPUT: true; the input reads as it did. -/
def fnLedgerStepSpec : ChangeSpec := { name := "fnLedgerStep", fn := fun _ => fun
  | [d] => { results := [.lit (.bool true)], args := [d] }
  | _ => none }
def fnLedgerStepRow : OpenClaim := { program := "ytadgdjjibmofpaa", sum := "04c0522facfe7cf7dd74edef87c8915df7fae6b7bcfdc455cc4a95a3525b0696", func := "loop.example/dagconsensus/laws.FnLedgerStep", spec := "fnLedgerStep", apart := false }
def FnLedgerStepSaid : Prop := fnLedgerStepRow.holds Try.pinned (OpenSpec.ofChange fnLedgerStepSpec)

/-- ITS FALSE NEIGHBOUR: 'it returns false'. Refute it at one input. -/
def fnLedgerStepWrong : ChangeSpec := { name := "fnLedgerStep", fn := fun _ => fun
  | [d] => { results := [.lit (.bool false)], args := [d] }
  | _ => none }
def FnLedgerStepWrongFalsely : Prop := fnLedgerStepRow.holds Try.pinned (OpenSpec.ofChange fnLedgerStepWrong)

/-- 'laws.FnLedgerFailed': WHATEVER THE INPUT: true; the input reads as it did. -/
def fnLedgerFailedSpec : ChangeSpec := { name := "fnLedgerFailed", fn := fun _ => fun
  | [d] => { results := [.lit (.bool true)], args := [d] }
  | _ => none }
def fnLedgerFailedRow : OpenClaim := { program := "ytadgdjjibmofpaa", sum := "04c0522facfe7cf7dd74edef87c8915df7fae6b7bcfdc455cc4a95a3525b0696", func := "loop.example/dagconsensus/laws.FnLedgerFailed", spec := "fnLedgerFailed", apart := false }
def FnLedgerFailedSaid : Prop := fnLedgerFailedRow.holds Try.pinned (OpenSpec.ofChange fnLedgerFailedSpec)

/-- ITS FALSE NEIGHBOUR: 'it returns false'. Refute it at one input. -/
def fnLedgerFailedWrong : ChangeSpec := { name := "fnLedgerFailed", fn := fun _ => fun
  | [d] => { results := [.lit (.bool false)], args := [d] }
  | _ => none }
def FnLedgerFailedWrongFalsely : Prop := fnLedgerFailedRow.holds Try.pinned (OpenSpec.ofChange fnLedgerFailedWrong)

/-- 'laws.FnTxnValid': WHATEVER THE INPUT: true; the input reads as it did. -/
def fnTxnValidSpec : ChangeSpec := { name := "fnTxnValid", fn := fun _ => fun
  | [d] => { results := [.lit (.bool true)], args := [d] }
  | _ => none }
def fnTxnValidRow : OpenClaim := { program := "ytadgdjjibmofpaa", sum := "04c0522facfe7cf7dd74edef87c8915df7fae6b7bcfdc455cc4a95a3525b0696", func := "loop.example/dagconsensus/laws.FnTxnValid", spec := "fnTxnValid", apart := false }
def FnTxnValidSaid : Prop := fnTxnValidRow.holds Try.pinned (OpenSpec.ofChange fnTxnValidSpec)

/-- ITS FALSE NEIGHBOUR: 'it returns false'. Refute it at one input. -/
def fnTxnValidWrong : ChangeSpec := { name := "fnTxnValid", fn := fun _ => fun
  | [d] => { results := [.lit (.bool false)], args := [d] }
  | _ => none }
def FnTxnValidWrongFalsely : Prop := fnTxnValidRow.holds Try.pinned (OpenSpec.ofChange fnTxnValidWrong)

/-- 'laws.FnLedgerBack': WHATEVER THE INPUT: true; the input reads as it did. -/
def fnLedgerBackSpec : ChangeSpec := { name := "fnLedgerBack", fn := fun _ => fun
  | [d] => { results := [.lit (.bool true)], args := [d] }
  | _ => none }
def fnLedgerBackRow : OpenClaim := { program := "ytadgdjjibmofpaa", sum := "04c0522facfe7cf7dd74edef87c8915df7fae6b7bcfdc455cc4a95a3525b0696", func := "loop.example/dagconsensus/laws.FnLedgerBack", spec := "fnLedgerBack", apart := false }
def FnLedgerBackSaid : Prop := fnLedgerBackRow.holds Try.pinned (OpenSpec.ofChange fnLedgerBackSpec)

/-- ITS FALSE NEIGHBOUR: 'it returns false'. Refute it at one input. -/
def fnLedgerBackWrong : ChangeSpec := { name := "fnLedgerBack", fn := fun _ => fun
  | [d] => { results := [.lit (.bool false)], args := [d] }
  | _ => none }
def FnLedgerBackWrongFalsely : Prop := fnLedgerBackRow.holds Try.pinned (OpenSpec.ofChange fnLedgerBackWrong)

/- THE SECOND FORM. 'bulk': how many values and letters a reading holds, each counted each time it is reached (what is shared counts as often as it is met; a slice's spare places count too). A statement '..UptoSaid' is the law's where the arguments, and the package variables that the reading takes, are together of bulk at most 1048576: NARROWER than '..Said'. Prove '..Said' where nothing that the law and all that it calls make is longer than what came in: it says more and counts as full. Else prove '..UptoSaid'. A law counts once. -/
mutual
def uptoBulk {H : Type} : DataW H → Nat
  | .lit (.string bytes) => bytes.length + 1
  | .lit _ => 1
  | .nil => 1
  | .ptr d => uptoBulk d + 1
  | .slice elems spare => uptoBulkAll elems + uptoBulkAll spare + 1
  | .agg parts => uptoBulkAll parts + 1
  | .iface _ d => uptoBulk d + 1
  | .map entries => uptoBulkEntries entries + 1
  | .held _ => 1
def uptoBulkAll {H : Type} : List (DataW H) → Nat
  | [] => 0
  | d :: r => uptoBulk d + uptoBulkAll r
def uptoBulkEntries {H : Type} : List (Lit × DataW H) → Nat
  | [] => 0
  | x :: r => uptoBulkEntry x + uptoBulkEntries r
def uptoBulkEntry {H : Type} : Lit × DataW H → Nat
  | (.string bytes, d) => bytes.length + uptoBulk d + 1
  | (_, d) => uptoBulk d + 1
 end
def uptoSmall : (H : Type) → List (DataW H) → Bool := fun _ ds => decide (uptoBulkAll ds ≤ 1048576)
def OpenSpec.upto (s : _root_.Go.ChangeSpec) : _root_.Go.OpenSpec := { _root_.Go.OpenSpec.ofChange s with cond := some uptoSmall }

/-- 'laws.FnLedgerApply', WHERE WHAT IT READS IS OF BULK AT MOST 1048576: true; the input reads as it did. -/
def fnLedgerApplyUptoRow : OpenClaim := { program := "ytadgdjjibmofpaa", sum := "04c0522facfe7cf7dd74edef87c8915df7fae6b7bcfdc455cc4a95a3525b0696", func := "loop.example/dagconsensus/laws.FnLedgerApply", spec := "fnLedgerApply", apart := false, narrowed := true }
def FnLedgerApplyUptoSaid : Prop := fnLedgerApplyUptoRow.holds Try.pinned (OpenSpec.upto fnLedgerApplySpec)

/-- 'laws.FnLedgerTotal', WHERE WHAT IT READS IS OF BULK AT MOST 1048576: true; the input reads as it did. -/
def fnLedgerTotalUptoRow : OpenClaim := { program := "ytadgdjjibmofpaa", sum := "04c0522facfe7cf7dd74edef87c8915df7fae6b7bcfdc455cc4a95a3525b0696", func := "loop.example/dagconsensus/laws.FnLedgerTotal", spec := "fnLedgerTotal", apart := false, narrowed := true }
def FnLedgerTotalUptoSaid : Prop := fnLedgerTotalUptoRow.holds Try.pinned (OpenSpec.upto fnLedgerTotalSpec)

/-- 'laws.FnLedgerFail', WHERE WHAT IT READS IS OF BULK AT MOST 1048576: true; the input reads as it did. -/
def fnLedgerFailUptoRow : OpenClaim := { program := "ytadgdjjibmofpaa", sum := "04c0522facfe7cf7dd74edef87c8915df7fae6b7bcfdc455cc4a95a3525b0696", func := "loop.example/dagconsensus/laws.FnLedgerFail", spec := "fnLedgerFail", apart := false, narrowed := true }
def FnLedgerFailUptoSaid : Prop := fnLedgerFailUptoRow.holds Try.pinned (OpenSpec.upto fnLedgerFailSpec)

/-- 'laws.FnLedgerRun', WHERE WHAT IT READS IS OF BULK AT MOST 1048576: true; the input reads as it did. -/
def fnLedgerRunUptoRow : OpenClaim := { program := "ytadgdjjibmofpaa", sum := "04c0522facfe7cf7dd74edef87c8915df7fae6b7bcfdc455cc4a95a3525b0696", func := "loop.example/dagconsensus/laws.FnLedgerRun", spec := "fnLedgerRun", apart := false, narrowed := true }
def FnLedgerRunUptoSaid : Prop := fnLedgerRunUptoRow.holds Try.pinned (OpenSpec.upto fnLedgerRunSpec)

/-- 'laws.FnLedgerStep', WHERE WHAT IT READS IS OF BULK AT MOST 1048576: true; the input reads as it did. -/
def fnLedgerStepUptoRow : OpenClaim := { program := "ytadgdjjibmofpaa", sum := "04c0522facfe7cf7dd74edef87c8915df7fae6b7bcfdc455cc4a95a3525b0696", func := "loop.example/dagconsensus/laws.FnLedgerStep", spec := "fnLedgerStep", apart := false, narrowed := true }
def FnLedgerStepUptoSaid : Prop := fnLedgerStepUptoRow.holds Try.pinned (OpenSpec.upto fnLedgerStepSpec)

/-- 'laws.FnLedgerFailed', WHERE WHAT IT READS IS OF BULK AT MOST 1048576: true; the input reads as it did. -/
def fnLedgerFailedUptoRow : OpenClaim := { program := "ytadgdjjibmofpaa", sum := "04c0522facfe7cf7dd74edef87c8915df7fae6b7bcfdc455cc4a95a3525b0696", func := "loop.example/dagconsensus/laws.FnLedgerFailed", spec := "fnLedgerFailed", apart := false, narrowed := true }
def FnLedgerFailedUptoSaid : Prop := fnLedgerFailedUptoRow.holds Try.pinned (OpenSpec.upto fnLedgerFailedSpec)

/-- 'laws.FnTxnValid', WHERE WHAT IT READS IS OF BULK AT MOST 1048576: true; the input reads as it did. -/
def fnTxnValidUptoRow : OpenClaim := { program := "ytadgdjjibmofpaa", sum := "04c0522facfe7cf7dd74edef87c8915df7fae6b7bcfdc455cc4a95a3525b0696", func := "loop.example/dagconsensus/laws.FnTxnValid", spec := "fnTxnValid", apart := false, narrowed := true }
def FnTxnValidUptoSaid : Prop := fnTxnValidUptoRow.holds Try.pinned (OpenSpec.upto fnTxnValidSpec)

/-- 'laws.FnLedgerBack', WHERE WHAT IT READS IS OF BULK AT MOST 1048576: true; the input reads as it did. -/
def fnLedgerBackUptoRow : OpenClaim := { program := "ytadgdjjibmofpaa", sum := "04c0522facfe7cf7dd74edef87c8915df7fae6b7bcfdc455cc4a95a3525b0696", func := "loop.example/dagconsensus/laws.FnLedgerBack", spec := "fnLedgerBack", apart := false, narrowed := true }
def FnLedgerBackUptoSaid : Prop := fnLedgerBackUptoRow.holds Try.pinned (OpenSpec.upto fnLedgerBackSpec)

end Rows
end Go.Proofs.Ytadgdjjibmofpaa
