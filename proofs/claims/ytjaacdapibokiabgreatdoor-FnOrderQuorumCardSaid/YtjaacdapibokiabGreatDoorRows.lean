/-
  NARROWER THAN 'FOR EVERY INPUT', by the rows' own cells (each row's printed sentence says how): FnOrderWaves: ifaces, laid · FnOrderQuorum: ifaces, laid · FnExactOrderSlots: ifaces, laid.
  DERIVED. THE GIVEN ROWS OF THIS SEAT. 3 by the template 'for every input the law returns true; each argument reads behind the call as it read before'; 0 by the template 'total and deterministic' (their statements: YtjaacdapibokiabGreatDoorTotals.lean).
  GIVEN WITH THE SEED: the statements are not yours to turn. If you find one false, say at which input.
  Laid BY PROGRAM, IN A SANDBOX (cutbox-rows.mjs): the forced cells as the released guide's own fill.sh prints them over the translation 4eef01877bca49e3… (all of the seat's roots in one cut). By AI agents, Wed Nov 11 2026. No macro, syntax, notation, axiom, sorry.
-/
import Derived.Test.YtjaacdapibokiabGreatDoorChecked
import GoSem.Claim
import GoSem.ClaimJoined
import GoSem.ClaimMapViews
import Derived.JoinedTies
import Derived.KernelRfl
namespace Go.Proofs.YtjaacdapibokiabGreatDoor
/- THE CELL 'sum', in the pinned program and in every row, IS THE sha256 OF THE DUMP (.gsa) THAT YtjaacdapibokiabGreatDoorProg.lean LOADS. Nothing in Lean hashes anything: it is a label: what it is worth is what the hold of that sum in a sandbox is worth. -/
noncomputable def Tryz.pinned : Pinned := { name := "ytjaacdapibokiabgreatdoor", sum := "4eef01877bca49e34bb961070c0c18bd9f44b220ee8bb26966788ee64f82e4d9", checked := Tryz.checked }
namespace Rows
def none {H : Type} : Left H := { results := [], args := [] }

/- WHAT THE LISTED PACKAGE-LEVEL VARIABLES READ AS WHEN THE CALL BEGINS. Each datum BY PROGRAM (the guide's laid-datum.mjs) off the statement by which the dump's own 'gosem.cut.vars' lays the variable. In a bare row this is a premise. The card (YtjaacdapibokiabGreatDoorCards.lean) ties it to the program's text. -/
def laid_loop_example_dagconsensus_impl_errInvalid {H : Type} : DataW H := .iface "*errors.errorString" (.ptr (.agg [.lit (.string [105, 110, 118, 97, 108, 105, 100, 32, 103, 114, 97, 112, 104, 44, 32, 108, 101, 97, 100, 101, 114, 115, 32, 111, 114, 32, 119, 97, 118, 101])]))
def laid_loop_example_dagconsensus_impl_errNoLeader {H : Type} : DataW H := .iface "*errors.errorString" (.ptr (.agg [.lit (.string [110, 111, 32, 108, 101, 97, 100, 101, 114, 32, 118, 101, 114, 116, 101, 120])]))

/-- 'laws.FnOrderWaves': WHATEVER THE INPUT: true; the input reads as it did. -/
def fnOrderWavesSpec : ChangeSpec := { name := "fnOrderWaves", vars := ["loop.example/dagconsensus/impl.errInvalid", "loop.example/dagconsensus/impl.errNoLeader"], fn := fun _ => fun
  | [d, g1, g2] => { results := [.lit (.bool true)], args := [d], vars := [g1, g2] }
  | _ => none }
def fnOrderWavesRow : OpenClaim := { program := "ytjaacdapibokiabgreatdoor", sum := "4eef01877bca49e34bb961070c0c18bd9f44b220ee8bb26966788ee64f82e4d9", func := "loop.example/dagconsensus/laws.FnOrderWaves", spec := "fnOrderWaves", inPlace := ["internal/reflectlite.TypeOf"], unfollowed := true, recurses := true, named := ["loop.example/dagconsensus/impl.errInvalid", "loop.example/dagconsensus/impl.errNoLeader"], ifaces := true, apart := false, laid := [("loop.example/dagconsensus/impl.errInvalid", laid_loop_example_dagconsensus_impl_errInvalid), ("loop.example/dagconsensus/impl.errNoLeader", laid_loop_example_dagconsensus_impl_errNoLeader)] }
def FnOrderWavesSaid : Prop := fnOrderWavesRow.holds Tryz.pinned (OpenSpec.ofChange fnOrderWavesSpec)

/-- ITS FALSE NEIGHBOUR: 'it returns false'. Refute it at one input. -/
def fnOrderWavesWrong : ChangeSpec := { name := "fnOrderWaves", vars := ["loop.example/dagconsensus/impl.errInvalid", "loop.example/dagconsensus/impl.errNoLeader"], fn := fun _ => fun
  | [d, g1, g2] => { results := [.lit (.bool false)], args := [d], vars := [g1, g2] }
  | _ => none }
def FnOrderWavesWrongFalsely : Prop := fnOrderWavesRow.holds Tryz.pinned (OpenSpec.ofChange fnOrderWavesWrong)

/-- 'laws.FnOrderQuorum': WHATEVER THE INPUT: true; the input reads as it did. -/
def fnOrderQuorumSpec : ChangeSpec := { name := "fnOrderQuorum", vars := ["loop.example/dagconsensus/impl.errInvalid", "loop.example/dagconsensus/impl.errNoLeader"], fn := fun _ => fun
  | [d, g1, g2] => { results := [.lit (.bool true)], args := [d], vars := [g1, g2] }
  | _ => none }
def fnOrderQuorumRow : OpenClaim := { program := "ytjaacdapibokiabgreatdoor", sum := "4eef01877bca49e34bb961070c0c18bd9f44b220ee8bb26966788ee64f82e4d9", func := "loop.example/dagconsensus/laws.FnOrderQuorum", spec := "fnOrderQuorum", inPlace := ["internal/reflectlite.TypeOf"], unfollowed := true, recurses := true, named := ["loop.example/dagconsensus/impl.errInvalid", "loop.example/dagconsensus/impl.errNoLeader"], ifaces := true, apart := false, laid := [("loop.example/dagconsensus/impl.errInvalid", laid_loop_example_dagconsensus_impl_errInvalid), ("loop.example/dagconsensus/impl.errNoLeader", laid_loop_example_dagconsensus_impl_errNoLeader)] }
def FnOrderQuorumSaid : Prop := fnOrderQuorumRow.holds Tryz.pinned (OpenSpec.ofChange fnOrderQuorumSpec)

/-- ITS FALSE NEIGHBOUR: 'it returns false'. Refute it at one input. -/
def fnOrderQuorumWrong : ChangeSpec := { name := "fnOrderQuorum", vars := ["loop.example/dagconsensus/impl.errInvalid", "loop.example/dagconsensus/impl.errNoLeader"], fn := fun _ => fun
  | [d, g1, g2] => { results := [.lit (.bool false)], args := [d], vars := [g1, g2] }
  | _ => none }
def FnOrderQuorumWrongFalsely : Prop := fnOrderQuorumRow.holds Tryz.pinned (OpenSpec.ofChange fnOrderQuorumWrong)

/-- 'laws.FnExactOrderSlots': WHATEVER THE INPUT: true; the input reads as it did. -/
def fnExactOrderSlotsSpec : ChangeSpec := { name := "fnExactOrderSlots", vars := ["loop.example/dagconsensus/impl.errInvalid", "loop.example/dagconsensus/impl.errNoLeader"], fn := fun _ => fun
  | [d1, d2, d3, g1, g2] => { results := [.lit (.bool true)], args := [d1, d2, d3], vars := [g1, g2] }
  | _ => none }
def fnExactOrderSlotsRow : OpenClaim := { program := "ytjaacdapibokiabgreatdoor", sum := "4eef01877bca49e34bb961070c0c18bd9f44b220ee8bb26966788ee64f82e4d9", func := "loop.example/dagconsensus/laws.FnExactOrderSlots", spec := "fnExactOrderSlots", inPlace := ["internal/reflectlite.TypeOf"], unfollowed := true, recurses := true, named := ["loop.example/dagconsensus/impl.errInvalid", "loop.example/dagconsensus/impl.errNoLeader"], ifaces := true, apart := false, laid := [("loop.example/dagconsensus/impl.errInvalid", laid_loop_example_dagconsensus_impl_errInvalid), ("loop.example/dagconsensus/impl.errNoLeader", laid_loop_example_dagconsensus_impl_errNoLeader)] }
def FnExactOrderSlotsSaid : Prop := fnExactOrderSlotsRow.holds Tryz.pinned (OpenSpec.ofChange fnExactOrderSlotsSpec)

/-- ITS FALSE NEIGHBOUR: 'it returns false'. Refute it at one input. -/
def fnExactOrderSlotsWrong : ChangeSpec := { name := "fnExactOrderSlots", vars := ["loop.example/dagconsensus/impl.errInvalid", "loop.example/dagconsensus/impl.errNoLeader"], fn := fun _ => fun
  | [d1, d2, d3, g1, g2] => { results := [.lit (.bool false)], args := [d1, d2, d3], vars := [g1, g2] }
  | _ => none }
def FnExactOrderSlotsWrongFalsely : Prop := fnExactOrderSlotsRow.holds Tryz.pinned (OpenSpec.ofChange fnExactOrderSlotsWrong)

/- THE SECOND FORM. 'bulk': how many values and letters a reading holds, each counted each time it is reached (what is shared counts as often as it is met; a slice's spare places count too). A statement '..UptoSaid' is the law's where the arguments, and the package variables that the reading takes, are together of bulk at most 1048576: NARROWER than '..Said'. Prove '..Said' where nothing that the law and all that it calls make is longer than what came in: it says more and counts as full. Else prove '..UptoSaid'. A law counts once. -/
mutual
def uptoBulk {H : Type} : DataW H → Nat
  | .lit (.string bytes) => bytes.length + 1
  | .lit _ => 1
  | .nil => 1
  | .ptr d => uptoBulk d + 1
  | .slice elems spare => uptoBulkAll elems + uptoBulkAll spare + 1
  | .agg parts => uptoBulkAll parts + 1
  | .iface _ d => uptoBulk d + 1
  | .map entries => uptoBulkEntries entries + 1
  | .held _ => 1
def uptoBulkAll {H : Type} : List (DataW H) → Nat
  | [] => 0
  | d :: r => uptoBulk d + uptoBulkAll r
def uptoBulkEntries {H : Type} : List (Lit × DataW H) → Nat
  | [] => 0
  | x :: r => uptoBulkEntry x + uptoBulkEntries r
def uptoBulkEntry {H : Type} : Lit × DataW H → Nat
  | (.string bytes, d) => bytes.length + uptoBulk d + 1
  | (_, d) => uptoBulk d + 1
 end
def uptoSmall : (H : Type) → List (DataW H) → Bool := fun _ ds => decide (uptoBulkAll ds ≤ 1048576)
def OpenSpec.upto (s : _root_.Go.ChangeSpec) : _root_.Go.OpenSpec := { _root_.Go.OpenSpec.ofChange s with cond := some uptoSmall }

/-- 'laws.FnOrderWaves', WHERE WHAT IT READS IS OF BULK AT MOST 1048576: true; the input reads as it did. -/
def fnOrderWavesUptoRow : OpenClaim := { program := "ytjaacdapibokiabgreatdoor", sum := "4eef01877bca49e34bb961070c0c18bd9f44b220ee8bb26966788ee64f82e4d9", func := "loop.example/dagconsensus/laws.FnOrderWaves", spec := "fnOrderWaves", inPlace := ["internal/reflectlite.TypeOf"], unfollowed := true, recurses := true, named := ["loop.example/dagconsensus/impl.errInvalid", "loop.example/dagconsensus/impl.errNoLeader"], ifaces := true, apart := false, laid := [("loop.example/dagconsensus/impl.errInvalid", laid_loop_example_dagconsensus_impl_errInvalid), ("loop.example/dagconsensus/impl.errNoLeader", laid_loop_example_dagconsensus_impl_errNoLeader)], narrowed := true }
def FnOrderWavesUptoSaid : Prop := fnOrderWavesUptoRow.holds Tryz.pinned (OpenSpec.upto fnOrderWavesSpec)

/-- 'laws.FnOrderQuorum', WHERE WHAT IT READS IS OF BULK AT MOST 1048576: true; the input reads as it did. -/
def fnOrderQuorumUptoRow : OpenClaim := { program := "ytjaacdapibokiabgreatdoor", sum := "4eef01877bca49e34bb961070c0c18bd9f44b220ee8bb26966788ee64f82e4d9", func := "loop.example/dagconsensus/laws.FnOrderQuorum", spec := "fnOrderQuorum", inPlace := ["internal/reflectlite.TypeOf"], unfollowed := true, recurses := true, named := ["loop.example/dagconsensus/impl.errInvalid", "loop.example/dagconsensus/impl.errNoLeader"], ifaces := true, apart := false, laid := [("loop.example/dagconsensus/impl.errInvalid", laid_loop_example_dagconsensus_impl_errInvalid), ("loop.example/dagconsensus/impl.errNoLeader", laid_loop_example_dagconsensus_impl_errNoLeader)], narrowed := true }
def FnOrderQuorumUptoSaid : Prop := fnOrderQuorumUptoRow.holds Tryz.pinned (OpenSpec.upto fnOrderQuorumSpec)

/-- 'laws.FnExactOrderSlots', WHERE WHAT IT READS IS OF BULK AT MOST 1048576: true; the input reads as it did. -/
def fnExactOrderSlotsUptoRow : OpenClaim := { program := "ytjaacdapibokiabgreatdoor", sum := "4eef01877bca49e34bb961070c0c18bd9f44b220ee8bb26966788ee64f82e4d9", func := "loop.example/dagconsensus/laws.FnExactOrderSlots", spec := "fnExactOrderSlots", inPlace := ["internal/reflectlite.TypeOf"], unfollowed := true, recurses := true, named := ["loop.example/dagconsensus/impl.errInvalid", "loop.example/dagconsensus/impl.errNoLeader"], ifaces := true, apart := false, laid := [("loop.example/dagconsensus/impl.errInvalid", laid_loop_example_dagconsensus_impl_errInvalid), ("loop.example/dagconsensus/impl.errNoLeader", laid_loop_example_dagconsensus_impl_errNoLeader)], narrowed := true }
def FnExactOrderSlotsUptoSaid : Prop := fnExactOrderSlotsUptoRow.holds Tryz.pinned (OpenSpec.upto fnExactOrderSlotsSpec)

end Rows
end Go.Proofs.YtjaacdapibokiabGreatDoor
