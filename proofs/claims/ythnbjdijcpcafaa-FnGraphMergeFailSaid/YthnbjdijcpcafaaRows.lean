/-
  No cell of these rows narrows 'for every input' (looked for: loops, veiled, ifaces, maps, wideKeys, modest, calm, conditions, laid).
  DERIVED. THE GIVEN ROWS OF THIS SEAT. 4 by the template 'for every input the law returns true; each argument reads behind the call as it read before'; 0 by the template 'total and deterministic' (their statements: YthnbjdijcpcafaaTotals.lean).
  GIVEN WITH THE SEED: the statements are not yours to turn. If you find one false, say at which input.
  Laid BY PROGRAM, IN A SANDBOX (cutbox-rows.mjs): the forced cells as the released guide's own fill.sh prints them over the translation 01cc83e8ebf17f2c… (all of the seat's roots in one cut). By AI agents, Wed Nov 11 2026. No macro, syntax, notation, axiom, sorry.
-/
import Derived.Test.YthnbjdijcpcafaaChecked
import GoSem.Claim
import GoSem.ClaimJoined
import GoSem.ClaimMapViews
import Derived.JoinedTies
import Derived.KernelRfl
namespace Go.Proofs.Ythnbjdijcpcafaa
/- THE CELL 'sum', in the pinned program and in every row, IS THE sha256 OF THE DUMP (.gsa) THAT YthnbjdijcpcafaaProg.lean LOADS. Nothing in Lean hashes anything: it is a label: what it is worth is what the hold of that sum in a sandbox is worth. -/
noncomputable def Try.pinned : Pinned := { name := "ythnbjdijcpcafaa", sum := "01cc83e8ebf17f2c57490d5ea068621b13cf00924af541d0019f24cc8ccd2539", checked := Try.checked }
namespace Rows
def none {H : Type} : Left H := { results := [], args := [] }

/-- 'laws.FnVertexValid': WHATEVER THE INPUT: true; the input reads as it did. -/
def fnVertexValidSpec : ChangeSpec := { name := "fnVertexValid", fn := fun _ => fun
  | [d] => { results := [.lit (.bool true)], args := [d] }
  | _ => none }
def fnVertexValidRow : OpenClaim := { program := "ythnbjdijcpcafaa", sum := "01cc83e8ebf17f2c57490d5ea068621b13cf00924af541d0019f24cc8ccd2539", func := "loop.example/dagconsensus/laws.FnVertexValid", spec := "fnVertexValid", apart := false }
def FnVertexValidSaid : Prop := fnVertexValidRow.holds Try.pinned (OpenSpec.ofChange fnVertexValidSpec)

/-- ITS FALSE NEIGHBOUR: 'it returns false'. Refute it at one input. -/
def fnVertexValidWrong : ChangeSpec := { name := "fnVertexValid", fn := fun _ => fun
  | [d] => { results := [.lit (.bool false)], args := [d] }
  | _ => none }
def FnVertexValidWrongFalsely : Prop := fnVertexValidRow.holds Try.pinned (OpenSpec.ofChange fnVertexValidWrong)

/-- 'laws.FnGraphMerge': WHATEVER THE INPUT: true; the input reads as it did. -/
def fnGraphMergeSpec : ChangeSpec := { name := "fnGraphMerge", fn := fun _ => fun
  | [d] => { results := [.lit (.bool true)], args := [d] }
  | _ => none }
def fnGraphMergeRow : OpenClaim := { program := "ythnbjdijcpcafaa", sum := "01cc83e8ebf17f2c57490d5ea068621b13cf00924af541d0019f24cc8ccd2539", func := "loop.example/dagconsensus/laws.FnGraphMerge", spec := "fnGraphMerge", apart := false }
def FnGraphMergeSaid : Prop := fnGraphMergeRow.holds Try.pinned (OpenSpec.ofChange fnGraphMergeSpec)

/-- ITS FALSE NEIGHBOUR: 'it returns false'. Refute it at one input. -/
def fnGraphMergeWrong : ChangeSpec := { name := "fnGraphMerge", fn := fun _ => fun
  | [d] => { results := [.lit (.bool false)], args := [d] }
  | _ => none }
def FnGraphMergeWrongFalsely : Prop := fnGraphMergeRow.holds Try.pinned (OpenSpec.ofChange fnGraphMergeWrong)

/-- 'laws.FnGraphMergeOrder': WHATEVER THE INPUT: true; the input reads as it did. -/
def fnGraphMergeOrderSpec : ChangeSpec := { name := "fnGraphMergeOrder", fn := fun _ => fun
  | [d] => { results := [.lit (.bool true)], args := [d] }
  | _ => none }
def fnGraphMergeOrderRow : OpenClaim := { program := "ythnbjdijcpcafaa", sum := "01cc83e8ebf17f2c57490d5ea068621b13cf00924af541d0019f24cc8ccd2539", func := "loop.example/dagconsensus/laws.FnGraphMergeOrder", spec := "fnGraphMergeOrder", apart := false }
def FnGraphMergeOrderSaid : Prop := fnGraphMergeOrderRow.holds Try.pinned (OpenSpec.ofChange fnGraphMergeOrderSpec)

/-- ITS FALSE NEIGHBOUR: 'it returns false'. Refute it at one input. -/
def fnGraphMergeOrderWrong : ChangeSpec := { name := "fnGraphMergeOrder", fn := fun _ => fun
  | [d] => { results := [.lit (.bool false)], args := [d] }
  | _ => none }
def FnGraphMergeOrderWrongFalsely : Prop := fnGraphMergeOrderRow.holds Try.pinned (OpenSpec.ofChange fnGraphMergeOrderWrong)

/-- 'laws.FnGraphMergeFail': WHATEVER THE INPUT: true; the input reads as it did. -/
def fnGraphMergeFailSpec : ChangeSpec := { name := "fnGraphMergeFail", fn := fun _ => fun
  | [d] => { results := [.lit (.bool true)], args := [d] }
  | _ => none }
def fnGraphMergeFailRow : OpenClaim := { program := "ythnbjdijcpcafaa", sum := "01cc83e8ebf17f2c57490d5ea068621b13cf00924af541d0019f24cc8ccd2539", func := "loop.example/dagconsensus/laws.FnGraphMergeFail", spec := "fnGraphMergeFail", apart := false }
def FnGraphMergeFailSaid : Prop := fnGraphMergeFailRow.holds Try.pinned (OpenSpec.ofChange fnGraphMergeFailSpec)

/-- ITS FALSE NEIGHBOUR: 'it returns false'. Refute it at one input. -/
def fnGraphMergeFailWrong : ChangeSpec := { name := "fnGraphMergeFail", fn := fun _ => fun
  | [d] => { results := [.lit (.bool false)], args := [d] }
  | _ => none }
def FnGraphMergeFailWrongFalsely : Prop := fnGraphMergeFailRow.holds Try.pinned (OpenSpec.ofChange fnGraphMergeFailWrong)

/- THE SECOND FORM. 'bulk': how many values and letters a reading holds, each counted each time it is reached (what is shared counts as often as it is met; a slice's spare places count too). A statement '..UptoSaid' is the law's where the arguments, and the package variables that the reading takes, are together of bulk at most 1048576: NARROWER than '..Said'. Prove '..Said' where nothing that the law and all that it calls make is longer than what came in: it says more and counts as full. Else prove '..UptoSaid'. A law counts once. -/
mutual
def uptoBulk {H : Type} : DataW H → Nat
  | .lit (.string bytes) => bytes.length + 1
  | .lit _ => 1
  | .nil => 1
  | .ptr d => uptoBulk d + 1
  | .slice elems spare => uptoBulkAll elems + uptoBulkAll spare + 1
  | .agg parts => uptoBulkAll parts + 1
  | .iface _ d => uptoBulk d + 1
  | .map entries => uptoBulkEntries entries + 1
  | .held _ => 1
def uptoBulkAll {H : Type} : List (DataW H) → Nat
  | [] => 0
  | d :: r => uptoBulk d + uptoBulkAll r
def uptoBulkEntries {H : Type} : List (Lit × DataW H) → Nat
  | [] => 0
  | x :: r => uptoBulkEntry x + uptoBulkEntries r
def uptoBulkEntry {H : Type} : Lit × DataW H → Nat
  | (.string bytes, d) => bytes.length + uptoBulk d + 1
  | (_, d) => uptoBulk d + 1
 end
def uptoSmall : (H : Type) → List (DataW H) → Bool := fun _ ds => decide (uptoBulkAll ds ≤ 1048576)
def OpenSpec.upto (s : _root_.Go.ChangeSpec) : _root_.Go.OpenSpec := { _root_.Go.OpenSpec.ofChange s with cond := some uptoSmall }

/-- 'laws.FnVertexValid', WHERE WHAT IT READS IS OF BULK AT MOST 1048576: true; the input reads as it did. -/
def fnVertexValidUptoRow : OpenClaim := { program := "ythnbjdijcpcafaa", sum := "01cc83e8ebf17f2c57490d5ea068621b13cf00924af541d0019f24cc8ccd2539", func := "loop.example/dagconsensus/laws.FnVertexValid", spec := "fnVertexValid", apart := false, narrowed := true }
def FnVertexValidUptoSaid : Prop := fnVertexValidUptoRow.holds Try.pinned (OpenSpec.upto fnVertexValidSpec)

/-- 'laws.FnGraphMerge', WHERE WHAT IT READS IS OF BULK AT MOST 1048576: true; the input reads as it did. -/
def fnGraphMergeUptoRow : OpenClaim := { program := "ythnbjdijcpcafaa", sum := "01cc83e8ebf17f2c57490d5ea068621b13cf00924af541d0019f24cc8ccd2539", func := "loop.example/dagconsensus/laws.FnGraphMerge", spec := "fnGraphMerge", apart := false, narrowed := true }
def FnGraphMergeUptoSaid : Prop := fnGraphMergeUptoRow.holds Try.pinned (OpenSpec.upto fnGraphMergeSpec)

/-- 'laws.FnGraphMergeOrder', WHERE WHAT IT READS IS OF BULK AT MOST 1048576: true; the input reads as it did. -/
def fnGraphMergeOrderUptoRow : OpenClaim := { program := "ythnbjdijcpcafaa", sum := "01cc83e8ebf17f2c57490d5ea068621b13cf00924af541d0019f24cc8ccd2539", func := "loop.example/dagconsensus/laws.FnGraphMergeOrder", spec := "fnGraphMergeOrder", apart := false, narrowed := true }
def FnGraphMergeOrderUptoSaid : Prop := fnGraphMergeOrderUptoRow.holds Try.pinned (OpenSpec.upto fnGraphMergeOrderSpec)

/-- 'laws.FnGraphMergeFail', WHERE WHAT IT READS IS OF BULK AT MOST 1048576: true; the input reads as it did. -/
def fnGraphMergeFailUptoRow : OpenClaim := { program := "ythnbjdijcpcafaa", sum := "01cc83e8ebf17f2c57490d5ea068621b13cf00924af541d0019f24cc8ccd2539", func := "loop.example/dagconsensus/laws.FnGraphMergeFail", spec := "fnGraphMergeFail", apart := false, narrowed := true }
def FnGraphMergeFailUptoSaid : Prop := fnGraphMergeFailUptoRow.holds Try.pinned (OpenSpec.upto fnGraphMergeFailSpec)

end Rows
end Go.Proofs.Ythnbjdijcpcafaa
