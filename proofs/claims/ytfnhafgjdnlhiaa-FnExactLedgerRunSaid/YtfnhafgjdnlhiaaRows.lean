/-
  No cell of these rows narrows 'for every input' (looked for: loops, veiled, ifaces, maps, wideKeys, modest, calm, conditions, laid).
  DERIVED. THE GIVEN ROWS OF THIS SEAT. 5 by the template 'for every input the law returns true; each argument reads behind the call as it read before'; 0 by the template 'total and deterministic' (their statements: YtfnhafgjdnlhiaaTotals.lean).
  GIVEN WITH THE SEED: the statements are not yours to turn. If you find one false, say at which input.
  Laid BY PROGRAM, IN A SANDBOX (cutbox-rows.mjs): the forced cells as the released guide's own fill.sh prints them over the translation 47d982c00f4ea4ac… (all of the seat's roots in one cut). By AI agents, Wed Nov 11 2026. No macro, syntax, notation, axiom, sorry.
-/
import Derived.Test.YtfnhafgjdnlhiaaChecked
import GoSem.Claim
import GoSem.ClaimJoined
import GoSem.ClaimMapViews
import Derived.JoinedTies
import Derived.KernelRfl
namespace Go.Proofs.Ytfnhafgjdnlhiaa
/- THE CELL 'sum', in the pinned program and in every row, IS THE sha256 OF THE DUMP (.gsa) THAT YtfnhafgjdnlhiaaProg.lean LOADS. Nothing in Lean hashes anything: it is a label: what it is worth is what the hold of that sum in a sandbox is worth. -/
noncomputable def Try.pinned : Pinned := { name := "ytfnhafgjdnlhiaa", sum := "47d982c00f4ea4aced36066a930e605209c5392bfc5e4567a84464b4526d319a", checked := Try.checked }
namespace Rows
def none {H : Type} : Left H := { results := [], args := [] }

/-- 'laws.FnLedgerTotal': WHATEVER THE INPUT: true; the input reads as it did. -/
def fnLedgerTotalSpec : ChangeSpec := { name := "fnLedgerTotal", fn := fun _ => fun
  | [d] => { results := [.lit (.bool true)], args := [d] }
  | _ => none }
def fnLedgerTotalRow : OpenClaim := { program := "ytfnhafgjdnlhiaa", sum := "47d982c00f4ea4aced36066a930e605209c5392bfc5e4567a84464b4526d319a", func := "loop.example/dagconsensus/laws.FnLedgerTotal", spec := "fnLedgerTotal", apart := false }
def FnLedgerTotalSaid : Prop := fnLedgerTotalRow.holds Try.pinned (OpenSpec.ofChange fnLedgerTotalSpec)

/-- ITS FALSE NEIGHBOUR: 'it returns false'. Refute it at one input. -/
def fnLedgerTotalWrong : ChangeSpec := { name := "fnLedgerTotal", fn := fun _ => fun
  | [d] => { results := [.lit (.bool false)], args := [d] }
  | _ => none }
def FnLedgerTotalWrongFalsely : Prop := fnLedgerTotalRow.holds Try.pinned (OpenSpec.ofChange fnLedgerTotalWrong)

/-- 'laws.FnLedgerRun': WHATEVER THE INPUT: true; the input reads as it did. -/
def fnLedgerRunSpec : ChangeSpec := { name := "fnLedgerRun", fn := fun _ => fun
  | [d1, d2] => { results := [.lit (.bool true)], args := [d1, d2] }
  | _ => none }
def fnLedgerRunRow : OpenClaim := { program := "ytfnhafgjdnlhiaa", sum := "47d982c00f4ea4aced36066a930e605209c5392bfc5e4567a84464b4526d319a", func := "loop.example/dagconsensus/laws.FnLedgerRun", spec := "fnLedgerRun", apart := false }
def FnLedgerRunSaid : Prop := fnLedgerRunRow.holds Try.pinned (OpenSpec.ofChange fnLedgerRunSpec)

/-- ITS FALSE NEIGHBOUR: 'it returns false'. Refute it at one input. -/
def fnLedgerRunWrong : ChangeSpec := { name := "fnLedgerRun", fn := fun _ => fun
  | [d1, d2] => { results := [.lit (.bool false)], args := [d1, d2] }
  | _ => none }
def FnLedgerRunWrongFalsely : Prop := fnLedgerRunRow.holds Try.pinned (OpenSpec.ofChange fnLedgerRunWrong)

/-- 'laws.FnLedgerStep': WHATEVER THE INPUT: true; the input reads as it did. -/
def fnLedgerStepSpec : ChangeSpec := { name := "fnLedgerStep", fn := fun _ => fun
  | [d] => { results := [.lit (.bool true)], args := [d] }
  | _ => none }
def fnLedgerStepRow : OpenClaim := { program := "ytfnhafgjdnlhiaa", sum := "47d982c00f4ea4aced36066a930e605209c5392bfc5e4567a84464b4526d319a", func := "loop.example/dagconsensus/laws.FnLedgerStep", spec := "fnLedgerStep", apart := false }
def FnLedgerStepSaid : Prop := fnLedgerStepRow.holds Try.pinned (OpenSpec.ofChange fnLedgerStepSpec)

/-- ITS FALSE NEIGHBOUR: 'it returns false'. Refute it at one input. -/
def fnLedgerStepWrong : ChangeSpec := { name := "fnLedgerStep", fn := fun _ => fun
  | [d] => { results := [.lit (.bool false)], args := [d] }
  | _ => none }
def FnLedgerStepWrongFalsely : Prop := fnLedgerStepRow.holds Try.pinned (OpenSpec.ofChange fnLedgerStepWrong)

/-- 'laws.FnLedgerFailed': WHATEVER THE INPUT: true; the input reads as it did. -/
def fnLedgerFailedSpec : ChangeSpec := { name := "fnLedgerFailed", fn := fun _ => fun
  | [d] => { results := [.lit (.bool true)], args := [d] }
  | _ => none }
def fnLedgerFailedRow : OpenClaim := { program := "ytfnhafgjdnlhiaa", sum := "47d982c00f4ea4aced36066a930e605209c5392bfc5e4567a84464b4526d319a", func := "loop.example/dagconsensus/laws.FnLedgerFailed", spec := "fnLedgerFailed", apart := false }
def FnLedgerFailedSaid : Prop := fnLedgerFailedRow.holds Try.pinned (OpenSpec.ofChange fnLedgerFailedSpec)

/-- ITS FALSE NEIGHBOUR: 'it returns false'. Refute it at one input. -/
def fnLedgerFailedWrong : ChangeSpec := { name := "fnLedgerFailed", fn := fun _ => fun
  | [d] => { results := [.lit (.bool false)], args := [d] }
  | _ => none }
def FnLedgerFailedWrongFalsely : Prop := fnLedgerFailedRow.holds Try.pinned (OpenSpec.ofChange fnLedgerFailedWrong)

/-- 'laws.FnExactLedgerRun': WHATEVER THE INPUT: true; the input reads as it did. -/
def fnExactLedgerRunSpec : ChangeSpec := { name := "fnExactLedgerRun", fn := fun _ => fun
  | [d1, d2] => { results := [.lit (.bool true)], args := [d1, d2] }
  | _ => none }
def fnExactLedgerRunRow : OpenClaim := { program := "ytfnhafgjdnlhiaa", sum := "47d982c00f4ea4aced36066a930e605209c5392bfc5e4567a84464b4526d319a", func := "loop.example/dagconsensus/laws.FnExactLedgerRun", spec := "fnExactLedgerRun", apart := false }
def FnExactLedgerRunSaid : Prop := fnExactLedgerRunRow.holds Try.pinned (OpenSpec.ofChange fnExactLedgerRunSpec)

/-- ITS FALSE NEIGHBOUR: 'it returns false'. Refute it at one input. -/
def fnExactLedgerRunWrong : ChangeSpec := { name := "fnExactLedgerRun", fn := fun _ => fun
  | [d1, d2] => { results := [.lit (.bool false)], args := [d1, d2] }
  | _ => none }
def FnExactLedgerRunWrongFalsely : Prop := fnExactLedgerRunRow.holds Try.pinned (OpenSpec.ofChange fnExactLedgerRunWrong)

/- THE SECOND FORM. 'bulk': how many values and letters a reading holds, each counted each time it is reached (what is shared counts as often as it is met; a slice's spare places count too). A statement '..UptoSaid' is the law's where the arguments, and the package variables that the reading takes, are together of bulk at most 1048576: NARROWER than '..Said'. Prove '..Said' where nothing that the law and all that it calls make is longer than what came in: it says more and counts as full. Else prove '..UptoSaid'. A law counts once. -/
mutual
def uptoBulk {H : Type} : DataW H → Nat
  | .lit (.string bytes) => bytes.length + 1
  | .lit _ => 1
  | .nil => 1
  | .ptr d => uptoBulk d + 1
  | .slice elems spare => uptoBulkAll elems + uptoBulkAll spare + 1
  | .agg parts => uptoBulkAll parts + 1
  | .iface _ d => uptoBulk d + 1
  | .map entries => uptoBulkEntries entries + 1
  | .held _ => 1
def uptoBulkAll {H : Type} : List (DataW H) → Nat
  | [] => 0
  | d :: r => uptoBulk d + uptoBulkAll r
def uptoBulkEntries {H : Type} : List (Lit × DataW H) → Nat
  | [] => 0
  | x :: r => uptoBulkEntry x + uptoBulkEntries r
def uptoBulkEntry {H : Type} : Lit × DataW H → Nat
  | (.string bytes, d) => bytes.length + uptoBulk d + 1
  | (_, d) => uptoBulk d + 1
 end
def uptoSmall : (H : Type) → List (DataW H) → Bool := fun _ ds => decide (uptoBulkAll ds ≤ 1048576)
def OpenSpec.upto (s : _root_.Go.ChangeSpec) : _root_.Go.OpenSpec := { _root_.Go.OpenSpec.ofChange s with cond := some uptoSmall }

/-- 'laws.FnLedgerTotal', WHERE WHAT IT READS IS OF BULK AT MOST 1048576: true; the input reads as it did. -/
def fnLedgerTotalUptoRow : OpenClaim := { program := "ytfnhafgjdnlhiaa", sum := "47d982c00f4ea4aced36066a930e605209c5392bfc5e4567a84464b4526d319a", func := "loop.example/dagconsensus/laws.FnLedgerTotal", spec := "fnLedgerTotal", apart := false, narrowed := true }
def FnLedgerTotalUptoSaid : Prop := fnLedgerTotalUptoRow.holds Try.pinned (OpenSpec.upto fnLedgerTotalSpec)

/-- 'laws.FnLedgerRun', WHERE WHAT IT READS IS OF BULK AT MOST 1048576: true; the input reads as it did. -/
def fnLedgerRunUptoRow : OpenClaim := { program := "ytfnhafgjdnlhiaa", sum := "47d982c00f4ea4aced36066a930e605209c5392bfc5e4567a84464b4526d319a", func := "loop.example/dagconsensus/laws.FnLedgerRun", spec := "fnLedgerRun", apart := false, narrowed := true }
def FnLedgerRunUptoSaid : Prop := fnLedgerRunUptoRow.holds Try.pinned (OpenSpec.upto fnLedgerRunSpec)

/-- 'laws.FnLedgerStep', WHERE WHAT IT READS IS OF BULK AT MOST 1048576: true; the input reads as it did. -/
def fnLedgerStepUptoRow : OpenClaim := { program := "ytfnhafgjdnlhiaa", sum := "47d982c00f4ea4aced36066a930e605209c5392bfc5e4567a84464b4526d319a", func := "loop.example/dagconsensus/laws.FnLedgerStep", spec := "fnLedgerStep", apart := false, narrowed := true }
def FnLedgerStepUptoSaid : Prop := fnLedgerStepUptoRow.holds Try.pinned (OpenSpec.upto fnLedgerStepSpec)

/-- 'laws.FnLedgerFailed', WHERE WHAT IT READS IS OF BULK AT MOST 1048576: true; the input reads as it did. -/
def fnLedgerFailedUptoRow : OpenClaim := { program := "ytfnhafgjdnlhiaa", sum := "47d982c00f4ea4aced36066a930e605209c5392bfc5e4567a84464b4526d319a", func := "loop.example/dagconsensus/laws.FnLedgerFailed", spec := "fnLedgerFailed", apart := false, narrowed := true }
def FnLedgerFailedUptoSaid : Prop := fnLedgerFailedUptoRow.holds Try.pinned (OpenSpec.upto fnLedgerFailedSpec)

/-- 'laws.FnExactLedgerRun', WHERE WHAT IT READS IS OF BULK AT MOST 1048576: true; the input reads as it did. -/
def fnExactLedgerRunUptoRow : OpenClaim := { program := "ytfnhafgjdnlhiaa", sum := "47d982c00f4ea4aced36066a930e605209c5392bfc5e4567a84464b4526d319a", func := "loop.example/dagconsensus/laws.FnExactLedgerRun", spec := "fnExactLedgerRun", apart := false, narrowed := true }
def FnExactLedgerRunUptoSaid : Prop := fnExactLedgerRunUptoRow.holds Try.pinned (OpenSpec.upto fnExactLedgerRunSpec)

end Rows
end Go.Proofs.Ytfnhafgjdnlhiaa
