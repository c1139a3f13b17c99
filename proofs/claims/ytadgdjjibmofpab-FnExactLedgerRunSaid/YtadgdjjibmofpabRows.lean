/-
  No cell of these rows narrows 'for every input' (looked for: loops, veiled, ifaces, maps, wideKeys, modest, calm, conditions, laid).
  DERIVED. THE GIVEN ROWS OF THIS SEAT. 5 by the template 'for every input the law returns true; each argument reads behind the call as it read before'; 0 by the template 'total and deterministic' (their statements: YtadgdjjibmofpabTotals.lean).
  GIVEN WITH THE SEED: the statements are not yours to turn. If you find one false, say at which input.
  Laid BY PROGRAM, IN A SANDBOX (cutbox-rows.mjs): the forced cells as the released guide's own fill.sh prints them over the translation 6a495cfd1ca738a3… (all of the seat's roots in one cut). By AI agents, Wed Nov 11 2026. No macro, syntax, notation, axiom, sorry.
-/
import Derived.Test.YtadgdjjibmofpabChecked
import GoSem.Claim
import GoSem.ClaimJoined
import GoSem.ClaimMapViews
import Derived.JoinedTies
import Derived.KernelRfl
namespace Go.Proofs.Ytadgdjjibmofpab
/- THE CELL 'sum', in the pinned program and in every row, IS THE sha256 OF THE DUMP (.gsa) THAT YtadgdjjibmofpabProg.lean LOADS. Nothing in Lean hashes anything: it is a label: what it is worth is what the hold of that sum in a sandbox is worth. -/
noncomputable def Try.pinned : Pinned := { name := "ytadgdjjibmofpab", sum := "6a495cfd1ca738a3df1ddeb4dc9da7fcaadb5a1ba4f9d14e4e66c708ffebd527", checked := Try.checked }
namespace Rows
def none {H : Type} : Left H := { results := [], args := [] }

/-- 'laws.FnExactTxnValid': WHATEVER THE INPUT: true; the input reads as it did. -/
def fnExactTxnValidSpec : ChangeSpec := { name := "fnExactTxnValid", fn := fun _ => fun
  | [d] => { results := [.lit (.bool true)], args := [d] }
  | _ => none }
def fnExactTxnValidRow : OpenClaim := { program := "ytadgdjjibmofpab", sum := "6a495cfd1ca738a3df1ddeb4dc9da7fcaadb5a1ba4f9d14e4e66c708ffebd527", func := "loop.example/dagconsensus/laws.FnExactTxnValid", spec := "fnExactTxnValid", apart := false }
def FnExactTxnValidSaid : Prop := fnExactTxnValidRow.holds Try.pinned (OpenSpec.ofChange fnExactTxnValidSpec)

/-- ITS FALSE NEIGHBOUR: 'it returns false'. Refute it at one input. -/
def fnExactTxnValidWrong : ChangeSpec := { name := "fnExactTxnValid", fn := fun _ => fun
  | [d] => { results := [.lit (.bool false)], args := [d] }
  | _ => none }
def FnExactTxnValidWrongFalsely : Prop := fnExactTxnValidRow.holds Try.pinned (OpenSpec.ofChange fnExactTxnValidWrong)

/-- 'laws.FnExactLedgerValid': WHATEVER THE INPUT: true; the input reads as it did. -/
def fnExactLedgerValidSpec : ChangeSpec := { name := "fnExactLedgerValid", fn := fun _ => fun
  | [d] => { results := [.lit (.bool true)], args := [d] }
  | _ => none }
def fnExactLedgerValidRow : OpenClaim := { program := "ytadgdjjibmofpab", sum := "6a495cfd1ca738a3df1ddeb4dc9da7fcaadb5a1ba4f9d14e4e66c708ffebd527", func := "loop.example/dagconsensus/laws.FnExactLedgerValid", spec := "fnExactLedgerValid", apart := false }
def FnExactLedgerValidSaid : Prop := fnExactLedgerValidRow.holds Try.pinned (OpenSpec.ofChange fnExactLedgerValidSpec)

/-- ITS FALSE NEIGHBOUR: 'it returns false'. Refute it at one input. -/
def fnExactLedgerValidWrong : ChangeSpec := { name := "fnExactLedgerValid", fn := fun _ => fun
  | [d] => { results := [.lit (.bool false)], args := [d] }
  | _ => none }
def FnExactLedgerValidWrongFalsely : Prop := fnExactLedgerValidRow.holds Try.pinned (OpenSpec.ofChange fnExactLedgerValidWrong)

/-- 'laws.FnExactLedgerTotal': WHATEVER THE INPUT: true; the input reads as it did. -/
def fnExactLedgerTotalSpec : ChangeSpec := { name := "fnExactLedgerTotal", fn := fun _ => fun
  | [d] => { results := [.lit (.bool true)], args := [d] }
  | _ => none }
def fnExactLedgerTotalRow : OpenClaim := { program := "ytadgdjjibmofpab", sum := "6a495cfd1ca738a3df1ddeb4dc9da7fcaadb5a1ba4f9d14e4e66c708ffebd527", func := "loop.example/dagconsensus/laws.FnExactLedgerTotal", spec := "fnExactLedgerTotal", apart := false }
def FnExactLedgerTotalSaid : Prop := fnExactLedgerTotalRow.holds Try.pinned (OpenSpec.ofChange fnExactLedgerTotalSpec)

/-- ITS FALSE NEIGHBOUR: 'it returns false'. Refute it at one input. -/
def fnExactLedgerTotalWrong : ChangeSpec := { name := "fnExactLedgerTotal", fn := fun _ => fun
  | [d] => { results := [.lit (.bool false)], args := [d] }
  | _ => none }
def FnExactLedgerTotalWrongFalsely : Prop := fnExactLedgerTotalRow.holds Try.pinned (OpenSpec.ofChange fnExactLedgerTotalWrong)

/-- 'laws.FnExactLedgerApply': WHATEVER THE INPUT: true; the input reads as it did. -/
def fnExactLedgerApplySpec : ChangeSpec := { name := "fnExactLedgerApply", fn := fun _ => fun
  | [d1, d2] => { results := [.lit (.bool true)], args := [d1, d2] }
  | _ => none }
def fnExactLedgerApplyRow : OpenClaim := { program := "ytadgdjjibmofpab", sum := "6a495cfd1ca738a3df1ddeb4dc9da7fcaadb5a1ba4f9d14e4e66c708ffebd527", func := "loop.example/dagconsensus/laws.FnExactLedgerApply", spec := "fnExactLedgerApply", apart := false }
def FnExactLedgerApplySaid : Prop := fnExactLedgerApplyRow.holds Try.pinned (OpenSpec.ofChange fnExactLedgerApplySpec)

/-- ITS FALSE NEIGHBOUR: 'it returns false'. Refute it at one input. -/
def fnExactLedgerApplyWrong : ChangeSpec := { name := "fnExactLedgerApply", fn := fun _ => fun
  | [d1, d2] => { results := [.lit (.bool false)], args := [d1, d2] }
  | _ => none }
def FnExactLedgerApplyWrongFalsely : Prop := fnExactLedgerApplyRow.holds Try.pinned (OpenSpec.ofChange fnExactLedgerApplyWrong)

/-- 'laws.FnExactLedgerRun': WHATEVER THE INPUT: true; the input reads as it did. -/
def fnExactLedgerRunSpec : ChangeSpec := { name := "fnExactLedgerRun", fn := fun _ => fun
  | [d1, d2] => { results := [.lit (.bool true)], args := [d1, d2] }
  | _ => none }
def fnExactLedgerRunRow : OpenClaim := { program := "ytadgdjjibmofpab", sum := "6a495cfd1ca738a3df1ddeb4dc9da7fcaadb5a1ba4f9d14e4e66c708ffebd527", func := "loop.example/dagconsensus/laws.FnExactLedgerRun", spec := "fnExactLedgerRun", apart := false }
def FnExactLedgerRunSaid : Prop := fnExactLedgerRunRow.holds Try.pinned (OpenSpec.ofChange fnExactLedgerRunSpec)

/-- ITS FALSE NEIGHBOUR: 'it returns false'. Refute it at one input. -/
def fnExactLedgerRunWrong : ChangeSpec := { name := "fnExactLedgerRun", fn := fun _ => fun
  | [d1, d2] => { results := [.lit (.bool false)], args := [d1, d2] }
  | _ => none }
def FnExactLedgerRunWrongFalsely : Prop := fnExactLedgerRunRow.holds Try.pinned (OpenSpec.ofChange fnExactLedgerRunWrong)

/- THE SECOND FORM. 'bulk': how many values and letters a reading holds, each counted each time it is reached (what is shared counts as often as it is met; a slice's spare places count too). A statement '..UptoSaid' is the law's where the arguments, and the package variables that the reading takes, are together of bulk at most 1048576: NARROWER than '..Said'. Prove '..Said' where nothing that the law and all that it calls make is longer than what came in: it says more and counts as full. Else prove '..UptoSaid'. A law counts once. -/
mutual
def uptoBulk {H : Type} : DataW H → Nat
  | .lit (.string bytes) => bytes.length + 1
  | .lit _ => 1
  | .nil => 1
  | .ptr d => uptoBulk d + 1
  | .slice elems spare => uptoBulkAll elems + uptoBulkAll spare + 1
  | .agg parts => uptoBulkAll parts + 1
  | .iface _ d => uptoBulk d + 1
  | .map entries => uptoBulkEntries entries + 1
  | .held _ => 1
def uptoBulkAll {H : Type} : List (DataW H) → Nat
  | [] => 0
  | d :: r => uptoBulk d + uptoBulkAll r
def uptoBulkEntries {H : Type} : List (Lit × DataW H) → Nat
  | [] => 0
  | x :: r => uptoBulkEntry x + uptoBulkEntries r
def uptoBulkEntry {H : Type} : Lit × DataW H → Nat
  | (.string bytes, d) => bytes.length + uptoBulk d + 1
  | (_, d) => uptoBulk d + 1
 end
def uptoSmall : (H : Type) → List (DataW H) → Bool := fun _ ds => decide (uptoBulkAll ds ≤ 1048576)
def OpenSpec.upto (s : _root_.Go.ChangeSpec) : _root_.Go.OpenSpec := { _root_.Go.OpenSpec.ofChange s with cond := some uptoSmall }

/-- 'laws.FnExactTxnValid', WHERE WHAT IT READS IS OF BULK AT MOST 1048576: true; the input reads as it did. -/
def fnExactTxnValidUptoRow : OpenClaim := { program := "ytadgdjjibmofpab", sum := "6a495cfd1ca738a3df1ddeb4dc9da7fcaadb5a1ba4f9d14e4e66c708ffebd527", func := "loop.example/dagconsensus/laws.FnExactTxnValid", spec := "fnExactTxnValid", apart := false, narrowed := true }
def FnExactTxnValidUptoSaid : Prop := fnExactTxnValidUptoRow.holds Try.pinned (OpenSpec.upto fnExactTxnValidSpec)

/-- 'laws.FnExactLedgerValid', WHERE WHAT IT READS IS OF BULK AT MOST 1048576: true; the input reads as it did. -/
def fnExactLedgerValidUptoRow : OpenClaim := { program := "ytadgdjjibmofpab", sum := "6a495cfd1ca738a3df1ddeb4dc9da7fcaadb5a1ba4f9d14e4e66c708ffebd527", func := "loop.example/dagconsensus/laws.FnExactLedgerValid", spec := "fnExactLedgerValid", apart := false, narrowed := true }
def FnExactLedgerValidUptoSaid : Prop := fnExactLedgerValidUptoRow.holds Try.pinned (OpenSpec.upto fnExactLedgerValidSpec)

/-- 'laws.FnExactLedgerTotal', WHERE WHAT IT READS IS OF BULK AT MOST 1048576: true; the input reads as it did. -/
def fnExactLedgerTotalUptoRow : OpenClaim := { program := "ytadgdjjibmofpab", sum := "6a495cfd1ca738a3df1ddeb4dc9da7fcaadb5a1ba4f9d14e4e66c708ffebd527", func := "loop.example/dagconsensus/laws.FnExactLedgerTotal", spec := "fnExactLedgerTotal", apart := false, narrowed := true }
def FnExactLedgerTotalUptoSaid : Prop := fnExactLedgerTotalUptoRow.holds Try.pinned (OpenSpec.upto fnExactLedgerTotalSpec)

/-- 'laws.FnExactLedgerApply', WHERE WHAT IT READS IS OF BULK AT MOST 1048576: true; the input reads as it did. -/
def fnExactLedgerApplyUptoRow : OpenClaim := { program := "ytadgdjjibmofpab", sum := "6a495cfd1ca738a3df1ddeb4dc9da7fcaadb5a1ba4f9d14e4e66c708ffebd527", func := "loop.example/dagconsensus/laws.FnExactLedgerApply", spec := "fnExactLedgerApply", apart := false, narrowed := true }
def FnExactLedgerApplyUptoSaid : Prop := fnExactLedgerApplyUptoRow.holds Try.pinned (OpenSpec.upto fnExactLedgerApplySpec)

/-- 'laws.FnExactLedgerRun', WHERE WHAT IT READS IS OF BULK AT MOST 1048576: true; the input reads as it did. -/
def fnExactLedgerRunUptoRow : OpenClaim := { program := "ytadgdjjibmofpab", sum := "6a495cfd1ca738a3df1ddeb4dc9da7fcaadb5a1ba4f9d14e4e66c708ffebd527", func := "loop.example/dagconsensus/laws.FnExactLedgerRun", spec := "fnExactLedgerRun", apart := false, narrowed := true }
def FnExactLedgerRunUptoSaid : Prop := fnExactLedgerRunUptoRow.holds Try.pinned (OpenSpec.upto fnExactLedgerRunSpec)

end Rows
end Go.Proofs.Ytadgdjjibmofpab
