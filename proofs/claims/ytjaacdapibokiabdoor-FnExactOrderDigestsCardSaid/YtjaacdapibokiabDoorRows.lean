/-
  NARROWER THAN 'FOR EVERY INPUT', by the rows' own cells (each row's printed sentence says how): FnExactOrderDigests: ifaces, laid · FnExactOrderWave: ifaces, laid.
  DERIVED. THE GIVEN ROWS OF THIS SEAT. 2 by the template 'for every input the law returns true; each argument reads behind the call as it read before'; 0 by the template 'total and deterministic' (their statements: YtjaacdapibokiabDoorTotals.lean).
  GIVEN WITH THE SEED: the statements are not yours to turn. If you find one false, say at which input.
  Laid BY PROGRAM, IN A SANDBOX (cutbox-rows.mjs): the forced cells as the released guide's own fill.sh prints them over the translation 7c2dc8dc280c9286… (all of the seat's roots in one cut). By AI agents, Wed Nov 11 2026. No macro, syntax, notation, axiom, sorry.
-/
import Derived.Test.YtjaacdapibokiabDoorChecked
import GoSem.Claim
import GoSem.ClaimJoined
import GoSem.ClaimMapViews
import Derived.JoinedTies
import Derived.KernelRfl
namespace Go.Proofs.YtjaacdapibokiabDoor
/- THE CELL 'sum', in the pinned program and in every row, IS THE sha256 OF THE DUMP (.gsa) THAT YtjaacdapibokiabDoorProg.lean LOADS. Nothing in Lean hashes anything: it is a label: what it is worth is what the hold of that sum in a sandbox is worth. -/
noncomputable def Tryd.pinned : Pinned := { name := "ytjaacdapibokiabdoor", sum := "7c2dc8dc280c928658beb10edf7a6c1f18eb703cdcb7191689f1d70814ad3800", checked := Tryd.checked }
namespace Rows
def none {H : Type} : Left H := { results := [], args := [] }

/- WHAT THE LISTED PACKAGE-LEVEL VARIABLES READ AS WHEN THE CALL BEGINS. Each datum BY PROGRAM (the guide's laid-datum.mjs) off the statement by which the dump's own 'gosem.cut.vars' lays the variable. In a bare row this is a premise. The card (YtjaacdapibokiabDoorCards.lean) ties it to the program's text. -/
def laid_loop_example_dagconsensus_impl_errInvalid {H : Type} : DataW H := .iface "*errors.errorString" (.ptr (.agg [.lit (.string [105, 110, 118, 97, 108, 105, 100, 32, 103, 114, 97, 112, 104, 44, 32, 108, 101, 97, 100, 101, 114, 115, 32, 111, 114, 32, 119, 97, 118, 101])]))
def laid_loop_example_dagconsensus_impl_errNoLeader {H : Type} : DataW H := .iface "*errors.errorString" (.ptr (.agg [.lit (.string [110, 111, 32, 108, 101, 97, 100, 101, 114, 32, 118, 101, 114, 116, 101, 120])]))

/-- 'laws.FnExactOrderDigests': WHATEVER THE INPUT: true; the input reads as it did. -/
def fnExactOrderDigestsSpec : ChangeSpec := { name := "fnExactOrderDigests", vars := ["loop.example/dagconsensus/impl.errInvalid", "loop.example/dagconsensus/impl.errNoLeader"], fn := fun _ => fun
  | [d1, d2, d3, g1, g2] => { results := [.lit (.bool true)], args := [d1, d2, d3], vars := [g1, g2] }
  | _ => none }
def fnExactOrderDigestsRow : OpenClaim := { program := "ytjaacdapibokiabdoor", sum := "7c2dc8dc280c928658beb10edf7a6c1f18eb703cdcb7191689f1d70814ad3800", func := "loop.example/dagconsensus/laws.FnExactOrderDigests", spec := "fnExactOrderDigests", inPlace := ["internal/reflectlite.TypeOf"], unfollowed := true, recurses := true, named := ["loop.example/dagconsensus/impl.errInvalid", "loop.example/dagconsensus/impl.errNoLeader"], ifaces := true, apart := false, laid := [("loop.example/dagconsensus/impl.errInvalid", laid_loop_example_dagconsensus_impl_errInvalid), ("loop.example/dagconsensus/impl.errNoLeader", laid_loop_example_dagconsensus_impl_errNoLeader)] }
def FnExactOrderDigestsSaid : Prop := fnExactOrderDigestsRow.holds Tryd.pinned (OpenSpec.ofChange fnExactOrderDigestsSpec)

/-- ITS FALSE NEIGHBOUR: 'it returns false'. Refute it at one input. -/
def fnExactOrderDigestsWrong : ChangeSpec := { name := "fnExactOrderDigests", vars := ["loop.example/dagconsensus/impl.errInvalid", "loop.example/dagconsensus/impl.errNoLeader"], fn := fun _ => fun
  | [d1, d2, d3, g1, g2] => { results := [.lit (.bool false)], args := [d1, d2, d3], vars := [g1, g2] }
  | _ => none }
def FnExactOrderDigestsWrongFalsely : Prop := fnExactOrderDigestsRow.holds Tryd.pinned (OpenSpec.ofChange fnExactOrderDigestsWrong)

/-- 'laws.FnExactOrderWave': WHATEVER THE INPUT: true; the input reads as it did. -/
def fnExactOrderWaveSpec : ChangeSpec := { name := "fnExactOrderWave", vars := ["loop.example/dagconsensus/impl.errInvalid", "loop.example/dagconsensus/impl.errNoLeader"], fn := fun _ => fun
  | [d1, d2, d3, d4, g1, g2] => { results := [.lit (.bool true)], args := [d1, d2, d3, d4], vars := [g1, g2] }
  | _ => none }
def fnExactOrderWaveRow : OpenClaim := { program := "ytjaacdapibokiabdoor", sum := "7c2dc8dc280c928658beb10edf7a6c1f18eb703cdcb7191689f1d70814ad3800", func := "loop.example/dagconsensus/laws.FnExactOrderWave", spec := "fnExactOrderWave", inPlace := ["internal/reflectlite.TypeOf"], unfollowed := true, recurses := true, named := ["loop.example/dagconsensus/impl.errInvalid", "loop.example/dagconsensus/impl.errNoLeader"], ifaces := true, apart := false, laid := [("loop.example/dagconsensus/impl.errInvalid", laid_loop_example_dagconsensus_impl_errInvalid), ("loop.example/dagconsensus/impl.errNoLeader", laid_loop_example_dagconsensus_impl_errNoLeader)] }
def FnExactOrderWaveSaid : Prop := fnExactOrderWaveRow.holds Tryd.pinned (OpenSpec.ofChange fnExactOrderWaveSpec)

/-- ITS FALSE NEIGHBOUR: 'it returns false'. Refute it at one input. -/
def fnExactOrderWaveWrong : ChangeSpec := { name := "fnExactOrderWave", vars := ["loop.example/dagconsensus/impl.errInvalid", "loop.example/dagconsensus/impl.errNoLeader"], fn := fun _ => fun
  | [d1, d2, d3, d4, g1, g2] => { results := [.lit (.bool false)], args := [d1, d2, d3, d4], vars := [g1, g2] }
  | _ => none }
def FnExactOrderWaveWrongFalsely : Prop := fnExactOrderWaveRow.holds Tryd.pinned (OpenSpec.ofChange fnExactOrderWaveWrong)

/- THE SECOND FORM. 'bulk': how many values and letters a reading holds, each counted each time it is reached (what is shared counts as often as it is met; a slice's spare places count too). A statement '..UptoSaid' is the law's where the arguments, and the package variables that the reading takes, are together of bulk at most 1048576: NARROWER than '..Said'. Prove '..Said' where nothing that the law and all that it calls make is longer than what came in: it says more and counts as full. Else prove '..UptoSaid'. A law counts once. -/
mutual
def uptoBulk {H : Type} : DataW H → Nat
  | .lit (.string bytes) => bytes.length + 1
  | .lit _ => 1
  | .nil => 1
  | .ptr d => uptoBulk d + 1
  | .slice elems spare => uptoBulkAll elems + uptoBulkAll spare + 1
  | .agg parts => uptoBulkAll parts + 1
  | .iface _ d => uptoBulk d + 1
  | .map entries => uptoBulkEntries entries + 1
  | .held _ => 1
def uptoBulkAll {H : Type} : List (DataW H) → Nat
  | [] => 0
  | d :: r => uptoBulk d + uptoBulkAll r
def uptoBulkEntries {H : Type} : List (Lit × DataW H) → Nat
  | [] => 0
  | x :: r => uptoBulkEntry x + uptoBulkEntries r
def uptoBulkEntry {H : Type} : Lit × DataW H → Nat
  | (.string bytes, d) => bytes.length + uptoBulk d + 1
  | (_, d) => uptoBulk d + 1
 end
def uptoSmall : (H : Type) → List (DataW H) → Bool := fun _ ds => decide (uptoBulkAll ds ≤ 1048576)
def OpenSpec.upto (s : _root_.Go.ChangeSpec) : _root_.Go.OpenSpec := { _root_.Go.OpenSpec.ofChange s with cond := some uptoSmall }

/-- 'laws.FnExactOrderDigests', WHERE WHAT IT READS IS OF BULK AT MOST 1048576: true; the input reads as it did. -/
def fnExactOrderDigestsUptoRow : OpenClaim := { program := "ytjaacdapibokiabdoor", sum := "7c2dc8dc280c928658beb10edf7a6c1f18eb703cdcb7191689f1d70814ad3800", func := "loop.example/dagconsensus/laws.FnExactOrderDigests", spec := "fnExactOrderDigests", inPlace := ["internal/reflectlite.TypeOf"], unfollowed := true, recurses := true, named := ["loop.example/dagconsensus/impl.errInvalid", "loop.example/dagconsensus/impl.errNoLeader"], ifaces := true, apart := false, laid := [("loop.example/dagconsensus/impl.errInvalid", laid_loop_example_dagconsensus_impl_errInvalid), ("loop.example/dagconsensus/impl.errNoLeader", laid_loop_example_dagconsensus_impl_errNoLeader)], narrowed := true }
def FnExactOrderDigestsUptoSaid : Prop := fnExactOrderDigestsUptoRow.holds Tryd.pinned (OpenSpec.upto fnExactOrderDigestsSpec)

/-- 'laws.FnExactOrderWave', WHERE WHAT IT READS IS OF BULK AT MOST 1048576: true; the input reads as it did. -/
def fnExactOrderWaveUptoRow : OpenClaim := { program := "ytjaacdapibokiabdoor", sum := "7c2dc8dc280c928658beb10edf7a6c1f18eb703cdcb7191689f1d70814ad3800", func := "loop.example/dagconsensus/laws.FnExactOrderWave", spec := "fnExactOrderWave", inPlace := ["internal/reflectlite.TypeOf"], unfollowed := true, recurses := true, named := ["loop.example/dagconsensus/impl.errInvalid", "loop.example/dagconsensus/impl.errNoLeader"], ifaces := true, apart := false, laid := [("loop.example/dagconsensus/impl.errInvalid", laid_loop_example_dagconsensus_impl_errInvalid), ("loop.example/dagconsensus/impl.errNoLeader", laid_loop_example_dagconsensus_impl_errNoLeader)], narrowed := true }
def FnExactOrderWaveUptoSaid : Prop := fnExactOrderWaveUptoRow.holds Tryd.pinned (OpenSpec.upto fnExactOrderWaveSpec)

end Rows
end Go.Proofs.YtjaacdapibokiabDoor
