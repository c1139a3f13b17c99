/-
  NARROWER THAN 'FOR EVERY INPUT', by the rows' own cells (each row's printed sentence says how): FnWavesAgree: ifaces, laid · FnWavesGrow: ifaces, laid · FnWavesLeaders: ifaces, laid · FnExactWaveLeader: ifaces, laid · FnExactWaveVotes: ifaces, laid · FnExactWaveDirect: ifaces, laid · FnExactCommitWaves: ifaces, laid.
  DERIVED. THE GIVEN ROWS OF THIS SEAT. 7 by the template 'for every input the law returns true; each argument reads behind the call as it read before'; 0 by the template 'total and deterministic' (their statements: YtjekgjlnaochiabDoorTotals.lean).
  GIVEN WITH THE SEED: the statements are not yours to turn. If you find one false, say at which input.
  Laid BY PROGRAM, IN A SANDBOX (cutbox-rows.mjs): the forced cells as the released guide's own fill.sh prints them over the translation 95eb975cbd4a99a5… (all of the seat's roots in one cut). By AI agents, Wed Nov 11 2026. No macro, syntax, notation, axiom, sorry.
-/
import Derived.Test.YtjekgjlnaochiabDoorChecked
import GoSem.Claim
import GoSem.ClaimJoined
import GoSem.ClaimMapViews
import Derived.JoinedTies
import Derived.KernelRfl
namespace Go.Proofs.YtjekgjlnaochiabDoor
/- THE CELL 'sum', in the pinned program and in every row, IS THE sha256 OF THE DUMP (.gsa) THAT YtjekgjlnaochiabDoorProg.lean LOADS. Nothing in Lean hashes anything: it is a label: what it is worth is what the hold of that sum in a sandbox is worth. -/
noncomputable def Tryd.pinned : Pinned := { name := "ytjekgjlnaochiabdoor", sum := "95eb975cbd4a99a51fd408e29ef8da3ad4f1f6f2308616db77b50b987008a0b7", checked := Tryd.checked }
namespace Rows
def none {H : Type} : Left H := { results := [], args := [] }

/- WHAT THE LISTED PACKAGE-LEVEL VARIABLES READ AS WHEN THE CALL BEGINS. Each datum BY PROGRAM (the guide's laid-datum.mjs) off the statement by which the dump's own 'gosem.cut.vars' lays the variable. In a bare row this is a premise. The card (YtjekgjlnaochiabDoorCards.lean) ties it to the program's text. -/
def laid_loop_example_dagconsensus_impl_errInvalid {H : Type} : DataW H := .iface "*errors.errorString" (.ptr (.agg [.lit (.string [105, 110, 118, 97, 108, 105, 100, 32, 103, 114, 97, 112, 104, 44, 32, 108, 101, 97, 100, 101, 114, 115, 32, 111, 114, 32, 119, 97, 118, 101])]))
def laid_loop_example_dagconsensus_impl_errNoLeader {H : Type} : DataW H := .iface "*errors.errorString" (.ptr (.agg [.lit (.string [110, 111, 32, 108, 101, 97, 100, 101, 114, 32, 118, 101, 114, 116, 101, 120])]))

/-- 'laws.FnWavesAgree': WHATEVER THE INPUT: true; the input reads as it did. -/
def fnWavesAgreeSpec : ChangeSpec := { name := "fnWavesAgree", vars := ["loop.example/dagconsensus/impl.errInvalid", "loop.example/dagconsensus/impl.errNoLeader"], fn := fun _ => fun
  | [d1, d2, g1, g2] => { results := [.lit (.bool true)], args := [d1, d2], vars := [g1, g2] }
  | _ => none }
def fnWavesAgreeRow : OpenClaim := { program := "ytjekgjlnaochiabdoor", sum := "95eb975cbd4a99a51fd408e29ef8da3ad4f1f6f2308616db77b50b987008a0b7", func := "loop.example/dagconsensus/laws.FnWavesAgree", spec := "fnWavesAgree", inPlace := ["internal/reflectlite.TypeOf"], unfollowed := true, recurses := true, named := ["loop.example/dagconsensus/impl.errInvalid", "loop.example/dagconsensus/impl.errNoLeader"], ifaces := true, apart := false, laid := [("loop.example/dagconsensus/impl.errInvalid", laid_loop_example_dagconsensus_impl_errInvalid), ("loop.example/dagconsensus/impl.errNoLeader", laid_loop_example_dagconsensus_impl_errNoLeader)] }
def FnWavesAgreeSaid : Prop := fnWavesAgreeRow.holds Tryd.pinned (OpenSpec.ofChange fnWavesAgreeSpec)

/-- ITS FALSE NEIGHBOUR: 'it returns false'. Refute it at one input. -/
def fnWavesAgreeWrong : ChangeSpec := { name := "fnWavesAgree", vars := ["loop.example/dagconsensus/impl.errInvalid", "loop.example/dagconsensus/impl.errNoLeader"], fn := fun _ => fun
  | [d1, d2, g1, g2] => { results := [.lit (.bool false)], args := [d1, d2], vars := [g1, g2] }
  | _ => none }
def FnWavesAgreeWrongFalsely : Prop := fnWavesAgreeRow.holds Tryd.pinned (OpenSpec.ofChange fnWavesAgreeWrong)

/-- 'laws.FnWavesGrow': WHATEVER THE INPUT: true; the input reads as it did. -/
def fnWavesGrowSpec : ChangeSpec := { name := "fnWavesGrow", vars := ["loop.example/dagconsensus/impl.errInvalid", "loop.example/dagconsensus/impl.errNoLeader"], fn := fun _ => fun
  | [d1, d2, g1, g2] => { results := [.lit (.bool true)], args := [d1, d2], vars := [g1, g2] }
  | _ => none }
def fnWavesGrowRow : OpenClaim := { program := "ytjekgjlnaochiabdoor", sum := "95eb975cbd4a99a51fd408e29ef8da3ad4f1f6f2308616db77b50b987008a0b7", func := "loop.example/dagconsensus/laws.FnWavesGrow", spec := "fnWavesGrow", inPlace := ["internal/reflectlite.TypeOf"], unfollowed := true, recurses := true, named := ["loop.example/dagconsensus/impl.errInvalid", "loop.example/dagconsensus/impl.errNoLeader"], ifaces := true, apart := false, laid := [("loop.example/dagconsensus/impl.errInvalid", laid_loop_example_dagconsensus_impl_errInvalid), ("loop.example/dagconsensus/impl.errNoLeader", laid_loop_example_dagconsensus_impl_errNoLeader)] }
def FnWavesGrowSaid : Prop := fnWavesGrowRow.holds Tryd.pinned (OpenSpec.ofChange fnWavesGrowSpec)

/-- ITS FALSE NEIGHBOUR: 'it returns false'. Refute it at one input. -/
def fnWavesGrowWrong : ChangeSpec := { name := "fnWavesGrow", vars := ["loop.example/dagconsensus/impl.errInvalid", "loop.example/dagconsensus/impl.errNoLeader"], fn := fun _ => fun
  | [d1, d2, g1, g2] => { results := [.lit (.bool false)], args := [d1, d2], vars := [g1, g2] }
  | _ => none }
def FnWavesGrowWrongFalsely : Prop := fnWavesGrowRow.holds Tryd.pinned (OpenSpec.ofChange fnWavesGrowWrong)

/-- 'laws.FnWavesLeaders': WHATEVER THE INPUT: true; the input reads as it did. -/
def fnWavesLeadersSpec : ChangeSpec := { name := "fnWavesLeaders", vars := ["loop.example/dagconsensus/impl.errInvalid", "loop.example/dagconsensus/impl.errNoLeader"], fn := fun _ => fun
  | [d1, d2, g1, g2] => { results := [.lit (.bool true)], args := [d1, d2], vars := [g1, g2] }
  | _ => none }
def fnWavesLeadersRow : OpenClaim := { program := "ytjekgjlnaochiabdoor", sum := "95eb975cbd4a99a51fd408e29ef8da3ad4f1f6f2308616db77b50b987008a0b7", func := "loop.example/dagconsensus/laws.FnWavesLeaders", spec := "fnWavesLeaders", inPlace := ["internal/reflectlite.TypeOf"], unfollowed := true, recurses := true, named := ["loop.example/dagconsensus/impl.errInvalid", "loop.example/dagconsensus/impl.errNoLeader"], ifaces := true, apart := false, laid := [("loop.example/dagconsensus/impl.errInvalid", laid_loop_example_dagconsensus_impl_errInvalid), ("loop.example/dagconsensus/impl.errNoLeader", laid_loop_example_dagconsensus_impl_errNoLeader)] }
def FnWavesLeadersSaid : Prop := fnWavesLeadersRow.holds Tryd.pinned (OpenSpec.ofChange fnWavesLeadersSpec)

/-- ITS FALSE NEIGHBOUR: 'it returns false'. Refute it at one input. -/
def fnWavesLeadersWrong : ChangeSpec := { name := "fnWavesLeaders", vars := ["loop.example/dagconsensus/impl.errInvalid", "loop.example/dagconsensus/impl.errNoLeader"], fn := fun _ => fun
  | [d1, d2, g1, g2] => { results := [.lit (.bool false)], args := [d1, d2], vars := [g1, g2] }
  | _ => none }
def FnWavesLeadersWrongFalsely : Prop := fnWavesLeadersRow.holds Tryd.pinned (OpenSpec.ofChange fnWavesLeadersWrong)

/-- 'laws.FnExactWaveLeader': WHATEVER THE INPUT: true; the input reads as it did. -/
def fnExactWaveLeaderSpec : ChangeSpec := { name := "fnExactWaveLeader", vars := ["loop.example/dagconsensus/impl.errInvalid", "loop.example/dagconsensus/impl.errNoLeader"], fn := fun _ => fun
  | [d1, d2, d3, d4, g1, g2] => { results := [.lit (.bool true)], args := [d1, d2, d3, d4], vars := [g1, g2] }
  | _ => none }
def fnExactWaveLeaderRow : OpenClaim := { program := "ytjekgjlnaochiabdoor", sum := "95eb975cbd4a99a51fd408e29ef8da3ad4f1f6f2308616db77b50b987008a0b7", func := "loop.example/dagconsensus/laws.FnExactWaveLeader", spec := "fnExactWaveLeader", unfollowed := true, recurses := true, named := ["loop.example/dagconsensus/impl.errInvalid", "loop.example/dagconsensus/impl.errNoLeader"], ifaces := true, apart := false, laid := [("loop.example/dagconsensus/impl.errInvalid", laid_loop_example_dagconsensus_impl_errInvalid), ("loop.example/dagconsensus/impl.errNoLeader", laid_loop_example_dagconsensus_impl_errNoLeader)] }
def FnExactWaveLeaderSaid : Prop := fnExactWaveLeaderRow.holds Tryd.pinned (OpenSpec.ofChange fnExactWaveLeaderSpec)

/-- ITS FALSE NEIGHBOUR: 'it returns false'. Refute it at one input. -/
def fnExactWaveLeaderWrong : ChangeSpec := { name := "fnExactWaveLeader", vars := ["loop.example/dagconsensus/impl.errInvalid", "loop.example/dagconsensus/impl.errNoLeader"], fn := fun _ => fun
  | [d1, d2, d3, d4, g1, g2] => { results := [.lit (.bool false)], args := [d1, d2, d3, d4], vars := [g1, g2] }
  | _ => none }
def FnExactWaveLeaderWrongFalsely : Prop := fnExactWaveLeaderRow.holds Tryd.pinned (OpenSpec.ofChange fnExactWaveLeaderWrong)

/-- 'laws.FnExactWaveVotes': WHATEVER THE INPUT: true; the input reads as it did. -/
def fnExactWaveVotesSpec : ChangeSpec := { name := "fnExactWaveVotes", vars := ["loop.example/dagconsensus/impl.errNoLeader", "loop.example/dagconsensus/impl.errInvalid"], fn := fun _ => fun
  | [d1, d2, d3, d4, g1, g2] => { results := [.lit (.bool true)], args := [d1, d2, d3, d4], vars := [g1, g2] }
  | _ => none }
def fnExactWaveVotesRow : OpenClaim := { program := "ytjekgjlnaochiabdoor", sum := "95eb975cbd4a99a51fd408e29ef8da3ad4f1f6f2308616db77b50b987008a0b7", func := "loop.example/dagconsensus/laws.FnExactWaveVotes", spec := "fnExactWaveVotes", inPlace := ["internal/reflectlite.TypeOf"], unfollowed := true, recurses := true, named := ["loop.example/dagconsensus/impl.errNoLeader", "loop.example/dagconsensus/impl.errInvalid"], ifaces := true, apart := false, laid := [("loop.example/dagconsensus/impl.errInvalid", laid_loop_example_dagconsensus_impl_errInvalid), ("loop.example/dagconsensus/impl.errNoLeader", laid_loop_example_dagconsensus_impl_errNoLeader)] }
def FnExactWaveVotesSaid : Prop := fnExactWaveVotesRow.holds Tryd.pinned (OpenSpec.ofChange fnExactWaveVotesSpec)

/-- ITS FALSE NEIGHBOUR: 'it returns false'. Refute it at one input. -/
def fnExactWaveVotesWrong : ChangeSpec := { name := "fnExactWaveVotes", vars := ["loop.example/dagconsensus/impl.errNoLeader", "loop.example/dagconsensus/impl.errInvalid"], fn := fun _ => fun
  | [d1, d2, d3, d4, g1, g2] => { results := [.lit (.bool false)], args := [d1, d2, d3, d4], vars := [g1, g2] }
  | _ => none }
def FnExactWaveVotesWrongFalsely : Prop := fnExactWaveVotesRow.holds Tryd.pinned (OpenSpec.ofChange fnExactWaveVotesWrong)

/-- 'laws.FnExactWaveDirect': WHATEVER THE INPUT: true; the input reads as it did. -/
def fnExactWaveDirectSpec : ChangeSpec := { name := "fnExactWaveDirect", vars := ["loop.example/dagconsensus/impl.errInvalid", "loop.example/dagconsensus/impl.errNoLeader"], fn := fun _ => fun
  | [d1, d2, d3, d4, g1, g2] => { results := [.lit (.bool true)], args := [d1, d2, d3, d4], vars := [g1, g2] }
  | _ => none }
def fnExactWaveDirectRow : OpenClaim := { program := "ytjekgjlnaochiabdoor", sum := "95eb975cbd4a99a51fd408e29ef8da3ad4f1f6f2308616db77b50b987008a0b7", func := "loop.example/dagconsensus/laws.FnExactWaveDirect", spec := "fnExactWaveDirect", named := ["loop.example/dagconsensus/impl.errInvalid", "loop.example/dagconsensus/impl.errNoLeader"], ifaces := true, apart := false, laid := [("loop.example/dagconsensus/impl.errInvalid", laid_loop_example_dagconsensus_impl_errInvalid), ("loop.example/dagconsensus/impl.errNoLeader", laid_loop_example_dagconsensus_impl_errNoLeader)] }
def FnExactWaveDirectSaid : Prop := fnExactWaveDirectRow.holds Tryd.pinned (OpenSpec.ofChange fnExactWaveDirectSpec)

/-- ITS FALSE NEIGHBOUR: 'it returns false'. Refute it at one input. -/
def fnExactWaveDirectWrong : ChangeSpec := { name := "fnExactWaveDirect", vars := ["loop.example/dagconsensus/impl.errInvalid", "loop.example/dagconsensus/impl.errNoLeader"], fn := fun _ => fun
  | [d1, d2, d3, d4, g1, g2] => { results := [.lit (.bool false)], args := [d1, d2, d3, d4], vars := [g1, g2] }
  | _ => none }
def FnExactWaveDirectWrongFalsely : Prop := fnExactWaveDirectRow.holds Tryd.pinned (OpenSpec.ofChange fnExactWaveDirectWrong)

/-- 'laws.FnExactCommitWaves': WHATEVER THE INPUT: true; the input reads as it did. -/
def fnExactCommitWavesSpec : ChangeSpec := { name := "fnExactCommitWaves", vars := ["loop.example/dagconsensus/impl.errInvalid", "loop.example/dagconsensus/impl.errNoLeader"], fn := fun _ => fun
  | [d1, d2, d3, g1, g2] => { results := [.lit (.bool true)], args := [d1, d2, d3], vars := [g1, g2] }
  | _ => none }
def fnExactCommitWavesRow : OpenClaim := { program := "ytjekgjlnaochiabdoor", sum := "95eb975cbd4a99a51fd408e29ef8da3ad4f1f6f2308616db77b50b987008a0b7", func := "loop.example/dagconsensus/laws.FnExactCommitWaves", spec := "fnExactCommitWaves", inPlace := ["internal/reflectlite.TypeOf"], unfollowed := true, recurses := true, named := ["loop.example/dagconsensus/impl.errInvalid", "loop.example/dagconsensus/impl.errNoLeader"], ifaces := true, apart := false, laid := [("loop.example/dagconsensus/impl.errInvalid", laid_loop_example_dagconsensus_impl_errInvalid), ("loop.example/dagconsensus/impl.errNoLeader", laid_loop_example_dagconsensus_impl_errNoLeader)] }
def FnExactCommitWavesSaid : Prop := fnExactCommitWavesRow.holds Tryd.pinned (OpenSpec.ofChange fnExactCommitWavesSpec)

/-- ITS FALSE NEIGHBOUR: 'it returns false'. Refute it at one input. -/
def fnExactCommitWavesWrong : ChangeSpec := { name := "fnExactCommitWaves", vars := ["loop.example/dagconsensus/impl.errInvalid", "loop.example/dagconsensus/impl.errNoLeader"], fn := fun _ => fun
  | [d1, d2, d3, g1, g2] => { results := [.lit (.bool false)], args := [d1, d2, d3], vars := [g1, g2] }
  | _ => none }
def FnExactCommitWavesWrongFalsely : Prop := fnExactCommitWavesRow.holds Tryd.pinned (OpenSpec.ofChange fnExactCommitWavesWrong)

/- THE SECOND FORM. 'bulk': how many values and letters a reading holds, each counted each time it is reached (what is shared counts as often as it is met; a slice's spare places count too). A statement '..UptoSaid' is the law's where the arguments, and the package variables that the reading takes, are together of bulk at most 1048576: NARROWER than '..Said'. Prove '..Said' where nothing that the law and all that it calls make is longer than what came in: it says more and counts as full. Else prove '..UptoSaid'. A law counts once. -/
mutual
def uptoBulk {H : Type} : DataW H → Nat
  | .lit (.string bytes) => bytes.length + 1
  | .lit _ => 1
  | .nil => 1
  | .ptr d => uptoBulk d + 1
  | .slice elems spare => uptoBulkAll elems + uptoBulkAll spare + 1
  | .agg parts => uptoBulkAll parts + 1
  | .iface _ d => uptoBulk d + 1
  | .map entries => uptoBulkEntries entries + 1
  | .held _ => 1
def uptoBulkAll {H : Type} : List (DataW H) → Nat
  | [] => 0
  | d :: r => uptoBulk d + uptoBulkAll r
def uptoBulkEntries {H : Type} : List (Lit × DataW H) → Nat
  | [] => 0
  | x :: r => uptoBulkEntry x + uptoBulkEntries r
def uptoBulkEntry {H : Type} : Lit × DataW H → Nat
  | (.string bytes, d) => bytes.length + uptoBulk d + 1
  | (_, d) => uptoBulk d + 1
 end
def uptoSmall : (H : Type) → List (DataW H) → Bool := fun _ ds => decide (uptoBulkAll ds ≤ 1048576)
def OpenSpec.upto (s : _root_.Go.ChangeSpec) : _root_.Go.OpenSpec := { _root_.Go.OpenSpec.ofChange s with cond := some uptoSmall }

/-- 'laws.FnWavesAgree', WHERE WHAT IT READS IS OF BULK AT MOST 1048576: true; the input reads as it did. -/
def fnWavesAgreeUptoRow : OpenClaim := { program := "ytjekgjlnaochiabdoor", sum := "95eb975cbd4a99a51fd408e29ef8da3ad4f1f6f2308616db77b50b987008a0b7", func := "loop.example/dagconsensus/laws.FnWavesAgree", spec := "fnWavesAgree", inPlace := ["internal/reflectlite.TypeOf"], unfollowed := true, recurses := true, named := ["loop.example/dagconsensus/impl.errInvalid", "loop.example/dagconsensus/impl.errNoLeader"], ifaces := true, apart := false, laid := [("loop.example/dagconsensus/impl.errInvalid", laid_loop_example_dagconsensus_impl_errInvalid), ("loop.example/dagconsensus/impl.errNoLeader", laid_loop_example_dagconsensus_impl_errNoLeader)], narrowed := true }
def FnWavesAgreeUptoSaid : Prop := fnWavesAgreeUptoRow.holds Tryd.pinned (OpenSpec.upto fnWavesAgreeSpec)

/-- 'laws.FnWavesGrow', WHERE WHAT IT READS IS OF BULK AT MOST 1048576: true; the input reads as it did. -/
def fnWavesGrowUptoRow : OpenClaim := { program := "ytjekgjlnaochiabdoor", sum := "95eb975cbd4a99a51fd408e29ef8da3ad4f1f6f2308616db77b50b987008a0b7", func := "loop.example/dagconsensus/laws.FnWavesGrow", spec := "fnWavesGrow", inPlace := ["internal/reflectlite.TypeOf"], unfollowed := true, recurses := true, named := ["loop.example/dagconsensus/impl.errInvalid", "loop.example/dagconsensus/impl.errNoLeader"], ifaces := true, apart := false, laid := [("loop.example/dagconsensus/impl.errInvalid", laid_loop_example_dagconsensus_impl_errInvalid), ("loop.example/dagconsensus/impl.errNoLeader", laid_loop_example_dagconsensus_impl_errNoLeader)], narrowed := true }
def FnWavesGrowUptoSaid : Prop := fnWavesGrowUptoRow.holds Tryd.pinned (OpenSpec.upto fnWavesGrowSpec)

/-- 'laws.FnWavesLeaders', WHERE WHAT IT READS IS OF BULK AT MOST 1048576: true; the input reads as it did. -/
def fnWavesLeadersUptoRow : OpenClaim := { program := "ytjekgjlnaochiabdoor", sum := "95eb975cbd4a99a51fd408e29ef8da3ad4f1f6f2308616db77b50b987008a0b7", func := "loop.example/dagconsensus/laws.FnWavesLeaders", spec := "fnWavesLeaders", inPlace := ["internal/reflectlite.TypeOf"], unfollowed := true, recurses := true, named := ["loop.example/dagconsensus/impl.errInvalid", "loop.example/dagconsensus/impl.errNoLeader"], ifaces := true, apart := false, laid := [("loop.example/dagconsensus/impl.errInvalid", laid_loop_example_dagconsensus_impl_errInvalid), ("loop.example/dagconsensus/impl.errNoLeader", laid_loop_example_dagconsensus_impl_errNoLeader)], narrowed := true }
def FnWavesLeadersUptoSaid : Prop := fnWavesLeadersUptoRow.holds Tryd.pinned (OpenSpec.upto fnWavesLeadersSpec)

/-- 'laws.FnExactWaveLeader', WHERE WHAT IT READS IS OF BULK AT MOST 1048576: true; the input reads as it did. -/
def fnExactWaveLeaderUptoRow : OpenClaim := { program := "ytjekgjlnaochiabdoor", sum := "95eb975cbd4a99a51fd408e29ef8da3ad4f1f6f2308616db77b50b987008a0b7", func := "loop.example/dagconsensus/laws.FnExactWaveLeader", spec := "fnExactWaveLeader", unfollowed := true, recurses := true, named := ["loop.example/dagconsensus/impl.errInvalid", "loop.example/dagconsensus/impl.errNoLeader"], ifaces := true, apart := false, laid := [("loop.example/dagconsensus/impl.errInvalid", laid_loop_example_dagconsensus_impl_errInvalid), ("loop.example/dagconsensus/impl.errNoLeader", laid_loop_example_dagconsensus_impl_errNoLeader)], narrowed := true }
def FnExactWaveLeaderUptoSaid : Prop := fnExactWaveLeaderUptoRow.holds Tryd.pinned (OpenSpec.upto fnExactWaveLeaderSpec)

/-- 'laws.FnExactWaveVotes', WHERE WHAT IT READS IS OF BULK AT MOST 1048576: true; the input reads as it did. -/
def fnExactWaveVotesUptoRow : OpenClaim := { program := "ytjekgjlnaochiabdoor", sum := "95eb975cbd4a99a51fd408e29ef8da3ad4f1f6f2308616db77b50b987008a0b7", func := "loop.example/dagconsensus/laws.FnExactWaveVotes", spec := "fnExactWaveVotes", inPlace := ["internal/reflectlite.TypeOf"], unfollowed := true, recurses := true, named := ["loop.example/dagconsensus/impl.errNoLeader", "loop.example/dagconsensus/impl.errInvalid"], ifaces := true, apart := false, laid := [("loop.example/dagconsensus/impl.errInvalid", laid_loop_example_dagconsensus_impl_errInvalid), ("loop.example/dagconsensus/impl.errNoLeader", laid_loop_example_dagconsensus_impl_errNoLeader)], narrowed := true }
def FnExactWaveVotesUptoSaid : Prop := fnExactWaveVotesUptoRow.holds Tryd.pinned (OpenSpec.upto fnExactWaveVotesSpec)

/-- 'laws.FnExactWaveDirect', WHERE WHAT IT READS IS OF BULK AT MOST 1048576: true; the input reads as it did. -/
def fnExactWaveDirectUptoRow : OpenClaim := { program := "ytjekgjlnaochiabdoor", sum := "95eb975cbd4a99a51fd408e29ef8da3ad4f1f6f2308616db77b50b987008a0b7", func := "loop.example/dagconsensus/laws.FnExactWaveDirect", spec := "fnExactWaveDirect", named := ["loop.example/dagconsensus/impl.errInvalid", "loop.example/dagconsensus/impl.errNoLeader"], ifaces := true, apart := false, laid := [("loop.example/dagconsensus/impl.errInvalid", laid_loop_example_dagconsensus_impl_errInvalid), ("loop.example/dagconsensus/impl.errNoLeader", laid_loop_example_dagconsensus_impl_errNoLeader)], narrowed := true }
def FnExactWaveDirectUptoSaid : Prop := fnExactWaveDirectUptoRow.holds Tryd.pinned (OpenSpec.upto fnExactWaveDirectSpec)

/-- 'laws.FnExactCommitWaves', WHERE WHAT IT READS IS OF BULK AT MOST 1048576: true; the input reads as it did. -/
def fnExactCommitWavesUptoRow : OpenClaim := { program := "ytjekgjlnaochiabdoor", sum := "95eb975cbd4a99a51fd408e29ef8da3ad4f1f6f2308616db77b50b987008a0b7", func := "loop.example/dagconsensus/laws.FnExactCommitWaves", spec := "fnExactCommitWaves", inPlace := ["internal/reflectlite.TypeOf"], unfollowed := true, recurses := true, named := ["loop.example/dagconsensus/impl.errInvalid", "loop.example/dagconsensus/impl.errNoLeader"], ifaces := true, apart := false, laid := [("loop.example/dagconsensus/impl.errInvalid", laid_loop_example_dagconsensus_impl_errInvalid), ("loop.example/dagconsensus/impl.errNoLeader", laid_loop_example_dagconsensus_impl_errNoLeader)], narrowed := true }
def FnExactCommitWavesUptoSaid : Prop := fnExactCommitWavesUptoRow.holds Tryd.pinned (OpenSpec.upto fnExactCommitWavesSpec)

end Rows
end Go.Proofs.YtjekgjlnaochiabDoor
