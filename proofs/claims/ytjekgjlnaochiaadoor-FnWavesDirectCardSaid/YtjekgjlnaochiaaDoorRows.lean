/-
  NARROWER THAN 'FOR EVERY INPUT', by the rows' own cells (each row's printed sentence says how): FnWaveLeader: ifaces, laid · FnWaveVotes: ifaces, laid · FnWaveDirect: ifaces, laid · FnWavesAscending: ifaces, laid · FnWavesDirect: ifaces, laid · FnWavesLinked: ifaces, laid · FnWavesReach: ifaces, laid.
  DERIVED. THE GIVEN ROWS OF THIS SEAT. 7 by the template 'for every input the law returns true; each argument reads behind the call as it read before'; 0 by the template 'total and deterministic' (their statements: YtjekgjlnaochiaaDoorTotals.lean).
  GIVEN WITH THE SEED: the statements are not yours to turn. If you find one false, say at which input.
  Laid BY PROGRAM, IN A SANDBOX (cutbox-rows.mjs): the forced cells as the released guide's own fill.sh prints them over the translation 107e682513463839… (all of the seat's roots in one cut). By AI agents, Wed Nov 11 2026. No macro, syntax, notation, axiom, sorry.
-/
import Derived.Test.YtjekgjlnaochiaaDoorChecked
import GoSem.Claim
import GoSem.ClaimJoined
import GoSem.ClaimMapViews
import Derived.JoinedTies
import Derived.KernelRfl
namespace Go.Proofs.YtjekgjlnaochiaaDoor
/- THE CELL 'sum', in the pinned program and in every row, IS THE sha256 OF THE DUMP (.gsa) THAT YtjekgjlnaochiaaDoorProg.lean LOADS. Nothing in Lean hashes anything: it is a label: what it is worth is what the hold of that sum in a sandbox is worth. -/
noncomputable def Tryd.pinned : Pinned := { name := "ytjekgjlnaochiaadoor", sum := "107e682513463839251bb0f68659d9118a75383b5c6a14aeb3bbb0e31d3b3c28", checked := Tryd.checked }
namespace Rows
def none {H : Type} : Left H := { results := [], args := [] }

/- WHAT THE LISTED PACKAGE-LEVEL VARIABLES READ AS WHEN THE CALL BEGINS. Each datum BY PROGRAM (the guide's laid-datum.mjs) off the statement by which the dump's own 'gosem.cut.vars' lays the variable. In a bare row this is a premise. The card (YtjekgjlnaochiaaDoorCards.lean) ties it to the program's text. -/
def laid_loop_example_dagconsensus_impl_errInvalid {H : Type} : DataW H := .iface "*errors.errorString" (.ptr (.agg [.lit (.string [105, 110, 118, 97, 108, 105, 100, 32, 103, 114, 97, 112, 104, 44, 32, 108, 101, 97, 100, 101, 114, 115, 32, 111, 114, 32, 119, 97, 118, 101])]))
def laid_loop_example_dagconsensus_impl_errNoLeader {H : Type} : DataW H := .iface "*errors.errorString" (.ptr (.agg [.lit (.string [110, 111, 32, 108, 101, 97, 100, 101, 114, 32, 118, 101, 114, 116, 101, 120])]))

/-- 'laws.FnWaveLeader': WHATEVER THE INPUT: true; the input reads as it did. -/
def fnWaveLeaderSpec : ChangeSpec := { name := "fnWaveLeader", vars := ["loop.example/dagconsensus/impl.errInvalid", "loop.example/dagconsensus/impl.errNoLeader"], fn := fun _ => fun
  | [d, g1, g2] => { results := [.lit (.bool true)], args := [d], vars := [g1, g2] }
  | _ => none }
def fnWaveLeaderRow : OpenClaim := { program := "ytjekgjlnaochiaadoor", sum := "107e682513463839251bb0f68659d9118a75383b5c6a14aeb3bbb0e31d3b3c28", func := "loop.example/dagconsensus/laws.FnWaveLeader", spec := "fnWaveLeader", unfollowed := true, recurses := true, named := ["loop.example/dagconsensus/impl.errInvalid", "loop.example/dagconsensus/impl.errNoLeader"], ifaces := true, apart := false, laid := [("loop.example/dagconsensus/impl.errInvalid", laid_loop_example_dagconsensus_impl_errInvalid), ("loop.example/dagconsensus/impl.errNoLeader", laid_loop_example_dagconsensus_impl_errNoLeader)] }
def FnWaveLeaderSaid : Prop := fnWaveLeaderRow.holds Tryd.pinned (OpenSpec.ofChange fnWaveLeaderSpec)

/-- ITS FALSE NEIGHBOUR: 'it returns false'. Refute it at one input. -/
def fnWaveLeaderWrong : ChangeSpec := { name := "fnWaveLeader", vars := ["loop.example/dagconsensus/impl.errInvalid", "loop.example/dagconsensus/impl.errNoLeader"], fn := fun _ => fun
  | [d, g1, g2] => { results := [.lit (.bool false)], args := [d], vars := [g1, g2] }
  | _ => none }
def FnWaveLeaderWrongFalsely : Prop := fnWaveLeaderRow.holds Tryd.pinned (OpenSpec.ofChange fnWaveLeaderWrong)

/-- 'laws.FnWaveVotes': WHATEVER THE INPUT: true; the input reads as it did. -/
def fnWaveVotesSpec : ChangeSpec := { name := "fnWaveVotes", vars := ["loop.example/dagconsensus/impl.errNoLeader", "loop.example/dagconsensus/impl.errInvalid"], fn := fun _ => fun
  | [d, g1, g2] => { results := [.lit (.bool true)], args := [d], vars := [g1, g2] }
  | _ => none }
def fnWaveVotesRow : OpenClaim := { program := "ytjekgjlnaochiaadoor", sum := "107e682513463839251bb0f68659d9118a75383b5c6a14aeb3bbb0e31d3b3c28", func := "loop.example/dagconsensus/laws.FnWaveVotes", spec := "fnWaveVotes", inPlace := ["internal/reflectlite.TypeOf"], unfollowed := true, recurses := true, named := ["loop.example/dagconsensus/impl.errNoLeader", "loop.example/dagconsensus/impl.errInvalid"], ifaces := true, apart := false, laid := [("loop.example/dagconsensus/impl.errInvalid", laid_loop_example_dagconsensus_impl_errInvalid), ("loop.example/dagconsensus/impl.errNoLeader", laid_loop_example_dagconsensus_impl_errNoLeader)] }
def FnWaveVotesSaid : Prop := fnWaveVotesRow.holds Tryd.pinned (OpenSpec.ofChange fnWaveVotesSpec)

/-- ITS FALSE NEIGHBOUR: 'it returns false'. Refute it at one input. -/
def fnWaveVotesWrong : ChangeSpec := { name := "fnWaveVotes", vars := ["loop.example/dagconsensus/impl.errNoLeader", "loop.example/dagconsensus/impl.errInvalid"], fn := fun _ => fun
  | [d, g1, g2] => { results := [.lit (.bool false)], args := [d], vars := [g1, g2] }
  | _ => none }
def FnWaveVotesWrongFalsely : Prop := fnWaveVotesRow.holds Tryd.pinned (OpenSpec.ofChange fnWaveVotesWrong)

/-- 'laws.FnWaveDirect': WHATEVER THE INPUT: true; the input reads as it did. -/
def fnWaveDirectSpec : ChangeSpec := { name := "fnWaveDirect", vars := ["loop.example/dagconsensus/impl.errInvalid", "loop.example/dagconsensus/impl.errNoLeader"], fn := fun _ => fun
  | [d, g1, g2] => { results := [.lit (.bool true)], args := [d], vars := [g1, g2] }
  | _ => none }
def fnWaveDirectRow : OpenClaim := { program := "ytjekgjlnaochiaadoor", sum := "107e682513463839251bb0f68659d9118a75383b5c6a14aeb3bbb0e31d3b3c28", func := "loop.example/dagconsensus/laws.FnWaveDirect", spec := "fnWaveDirect", inPlace := ["internal/reflectlite.TypeOf"], unfollowed := true, recurses := true, named := ["loop.example/dagconsensus/impl.errInvalid", "loop.example/dagconsensus/impl.errNoLeader"], ifaces := true, apart := false, laid := [("loop.example/dagconsensus/impl.errInvalid", laid_loop_example_dagconsensus_impl_errInvalid), ("loop.example/dagconsensus/impl.errNoLeader", laid_loop_example_dagconsensus_impl_errNoLeader)] }
def FnWaveDirectSaid : Prop := fnWaveDirectRow.holds Tryd.pinned (OpenSpec.ofChange fnWaveDirectSpec)

/-- ITS FALSE NEIGHBOUR: 'it returns false'. Refute it at one input. -/
def fnWaveDirectWrong : ChangeSpec := { name := "fnWaveDirect", vars := ["loop.example/dagconsensus/impl.errInvalid", "loop.example/dagconsensus/impl.errNoLeader"], fn := fun _ => fun
  | [d, g1, g2] => { results := [.lit (.bool false)], args := [d], vars := [g1, g2] }
  | _ => none }
def FnWaveDirectWrongFalsely : Prop := fnWaveDirectRow.holds Tryd.pinned (OpenSpec.ofChange fnWaveDirectWrong)

/-- 'laws.FnWavesAscending': WHATEVER THE INPUT: true; the input reads as it did. -/
def fnWavesAscendingSpec : ChangeSpec := { name := "fnWavesAscending", vars := ["loop.example/dagconsensus/impl.errInvalid", "loop.example/dagconsensus/impl.errNoLeader"], fn := fun _ => fun
  | [d, g1, g2] => { results := [.lit (.bool true)], args := [d], vars := [g1, g2] }
  | _ => none }
def fnWavesAscendingRow : OpenClaim := { program := "ytjekgjlnaochiaadoor", sum := "107e682513463839251bb0f68659d9118a75383b5c6a14aeb3bbb0e31d3b3c28", func := "loop.example/dagconsensus/laws.FnWavesAscending", spec := "fnWavesAscending", inPlace := ["internal/reflectlite.TypeOf"], unfollowed := true, recurses := true, named := ["loop.example/dagconsensus/impl.errInvalid", "loop.example/dagconsensus/impl.errNoLeader"], ifaces := true, apart := false, laid := [("loop.example/dagconsensus/impl.errInvalid", laid_loop_example_dagconsensus_impl_errInvalid), ("loop.example/dagconsensus/impl.errNoLeader", laid_loop_example_dagconsensus_impl_errNoLeader)] }
def FnWavesAscendingSaid : Prop := fnWavesAscendingRow.holds Tryd.pinned (OpenSpec.ofChange fnWavesAscendingSpec)

/-- ITS FALSE NEIGHBOUR: 'it returns false'. Refute it at one input. -/
def fnWavesAscendingWrong : ChangeSpec := { name := "fnWavesAscending", vars := ["loop.example/dagconsensus/impl.errInvalid", "loop.example/dagconsensus/impl.errNoLeader"], fn := fun _ => fun
  | [d, g1, g2] => { results := [.lit (.bool false)], args := [d], vars := [g1, g2] }
  | _ => none }
def FnWavesAscendingWrongFalsely : Prop := fnWavesAscendingRow.holds Tryd.pinned (OpenSpec.ofChange fnWavesAscendingWrong)

/-- 'laws.FnWavesDirect': WHATEVER THE INPUT: true; the input reads as it did. -/
def fnWavesDirectSpec : ChangeSpec := { name := "fnWavesDirect", vars := ["loop.example/dagconsensus/impl.errInvalid", "loop.example/dagconsensus/impl.errNoLeader"], fn := fun _ => fun
  | [d, g1, g2] => { results := [.lit (.bool true)], args := [d], vars := [g1, g2] }
  | _ => none }
def fnWavesDirectRow : OpenClaim := { program := "ytjekgjlnaochiaadoor", sum := "107e682513463839251bb0f68659d9118a75383b5c6a14aeb3bbb0e31d3b3c28", func := "loop.example/dagconsensus/laws.FnWavesDirect", spec := "fnWavesDirect", inPlace := ["internal/reflectlite.TypeOf"], unfollowed := true, recurses := true, named := ["loop.example/dagconsensus/impl.errInvalid", "loop.example/dagconsensus/impl.errNoLeader"], ifaces := true, apart := false, laid := [("loop.example/dagconsensus/impl.errInvalid", laid_loop_example_dagconsensus_impl_errInvalid), ("loop.example/dagconsensus/impl.errNoLeader", laid_loop_example_dagconsensus_impl_errNoLeader)] }
def FnWavesDirectSaid : Prop := fnWavesDirectRow.holds Tryd.pinned (OpenSpec.ofChange fnWavesDirectSpec)

/-- ITS FALSE NEIGHBOUR: 'it returns false'. Refute it at one input. -/
def fnWavesDirectWrong : ChangeSpec := { name := "fnWavesDirect", vars := ["loop.example/dagconsensus/impl.errInvalid", "loop.example/dagconsensus/impl.errNoLeader"], fn := fun _ => fun
  | [d, g1, g2] => { results := [.lit (.bool false)], args := [d], vars := [g1, g2] }
  | _ => none }
def FnWavesDirectWrongFalsely : Prop := fnWavesDirectRow.holds Tryd.pinned (OpenSpec.ofChange fnWavesDirectWrong)

/-- 'laws.FnWavesLinked': WHATEVER THE INPUT: true; the input reads as it did. -/
def fnWavesLinkedSpec : ChangeSpec := { name := "fnWavesLinked", vars := ["loop.example/dagconsensus/impl.errInvalid", "loop.example/dagconsensus/impl.errNoLeader"], fn := fun _ => fun
  | [d, g1, g2] => { results := [.lit (.bool true)], args := [d], vars := [g1, g2] }
  | _ => none }
def fnWavesLinkedRow : OpenClaim := { program := "ytjekgjlnaochiaadoor", sum := "107e682513463839251bb0f68659d9118a75383b5c6a14aeb3bbb0e31d3b3c28", func := "loop.example/dagconsensus/laws.FnWavesLinked", spec := "fnWavesLinked", inPlace := ["internal/reflectlite.TypeOf"], unfollowed := true, recurses := true, named := ["loop.example/dagconsensus/impl.errInvalid", "loop.example/dagconsensus/impl.errNoLeader"], ifaces := true, apart := false, laid := [("loop.example/dagconsensus/impl.errInvalid", laid_loop_example_dagconsensus_impl_errInvalid), ("loop.example/dagconsensus/impl.errNoLeader", laid_loop_example_dagconsensus_impl_errNoLeader)] }
def FnWavesLinkedSaid : Prop := fnWavesLinkedRow.holds Tryd.pinned (OpenSpec.ofChange fnWavesLinkedSpec)

/-- ITS FALSE NEIGHBOUR: 'it returns false'. Refute it at one input. -/
def fnWavesLinkedWrong : ChangeSpec := { name := "fnWavesLinked", vars := ["loop.example/dagconsensus/impl.errInvalid", "loop.example/dagconsensus/impl.errNoLeader"], fn := fun _ => fun
  | [d, g1, g2] => { results := [.lit (.bool false)], args := [d], vars := [g1, g2] }
  | _ => none }
def FnWavesLinkedWrongFalsely : Prop := fnWavesLinkedRow.holds Tryd.pinned (OpenSpec.ofChange fnWavesLinkedWrong)

/-- 'laws.FnWavesReach': WHATEVER THE INPUT: true; the input reads as it did. -/
def fnWavesReachSpec : ChangeSpec := { name := "fnWavesReach", vars := ["loop.example/dagconsensus/impl.errInvalid", "loop.example/dagconsensus/impl.errNoLeader"], fn := fun _ => fun
  | [d1, d2, g1, g2] => { results := [.lit (.bool true)], args := [d1, d2], vars := [g1, g2] }
  | _ => none }
def fnWavesReachRow : OpenClaim := { program := "ytjekgjlnaochiaadoor", sum := "107e682513463839251bb0f68659d9118a75383b5c6a14aeb3bbb0e31d3b3c28", func := "loop.example/dagconsensus/laws.FnWavesReach", spec := "fnWavesReach", inPlace := ["internal/reflectlite.TypeOf"], unfollowed := true, recurses := true, named := ["loop.example/dagconsensus/impl.errInvalid", "loop.example/dagconsensus/impl.errNoLeader"], ifaces := true, apart := false, laid := [("loop.example/dagconsensus/impl.errInvalid", laid_loop_example_dagconsensus_impl_errInvalid), ("loop.example/dagconsensus/impl.errNoLeader", laid_loop_example_dagconsensus_impl_errNoLeader)] }
def FnWavesReachSaid : Prop := fnWavesReachRow.holds Tryd.pinned (OpenSpec.ofChange fnWavesReachSpec)

/-- ITS FALSE NEIGHBOUR: 'it returns false'. Refute it at one input. -/
def fnWavesReachWrong : ChangeSpec := { name := "fnWavesReach", vars := ["loop.example/dagconsensus/impl.errInvalid", "loop.example/dagconsensus/impl.errNoLeader"], fn := fun _ => fun
  | [d1, d2, g1, g2] => { results := [.lit (.bool false)], args := [d1, d2], vars := [g1, g2] }
  | _ => none }
def FnWavesReachWrongFalsely : Prop := fnWavesReachRow.holds Tryd.pinned (OpenSpec.ofChange fnWavesReachWrong)

/- THE SECOND FORM. 'bulk': how many values and letters a reading holds, each counted each time it is reached (what is shared counts as often as it is met; a slice's spare places count too). A statement '..UptoSaid' is the law's where the arguments, and the package variables that the reading takes, are together of bulk at most 1048576: NARROWER than '..Said'. Prove '..Said' where nothing that the law and all that it calls make is longer than what came in: it says more and counts as full. Else prove '..UptoSaid'. A law counts once. -/
mutual
def uptoBulk {H : Type} : DataW H → Nat
  | .lit (.string bytes) => bytes.length + 1
  | .lit _ => 1
  | .nil => 1
  | .ptr d => uptoBulk d + 1
  | .slice elems spare => uptoBulkAll elems + uptoBulkAll spare + 1
  | .agg parts => uptoBulkAll parts + 1
  | .iface _ d => uptoBulk d + 1
  | .map entries => uptoBulkEntries entries + 1
  | .held _ => 1
def uptoBulkAll {H : Type} : List (DataW H) → Nat
  | [] => 0
  | d :: r => uptoBulk d + uptoBulkAll r
def uptoBulkEntries {H : Type} : List (Lit × DataW H) → Nat
  | [] => 0
  | x :: r => uptoBulkEntry x + uptoBulkEntries r
def uptoBulkEntry {H : Type} : Lit × DataW H → Nat
  | (.string bytes, d) => bytes.length + uptoBulk d + 1
  | (_, d) => uptoBulk d + 1
 end
def uptoSmall : (H : Type) → List (DataW H) → Bool := fun _ ds => decide (uptoBulkAll ds ≤ 1048576)
def OpenSpec.upto (s : _root_.Go.ChangeSpec) : _root_.Go.OpenSpec := { _root_.Go.OpenSpec.ofChange s with cond := some uptoSmall }

/-- 'laws.FnWaveLeader', WHERE WHAT IT READS IS OF BULK AT MOST 1048576: true; the input reads as it did. -/
def fnWaveLeaderUptoRow : OpenClaim := { program := "ytjekgjlnaochiaadoor", sum := "107e682513463839251bb0f68659d9118a75383b5c6a14aeb3bbb0e31d3b3c28", func := "loop.example/dagconsensus/laws.FnWaveLeader", spec := "fnWaveLeader", unfollowed := true, recurses := true, named := ["loop.example/dagconsensus/impl.errInvalid", "loop.example/dagconsensus/impl.errNoLeader"], ifaces := true, apart := false, laid := [("loop.example/dagconsensus/impl.errInvalid", laid_loop_example_dagconsensus_impl_errInvalid), ("loop.example/dagconsensus/impl.errNoLeader", laid_loop_example_dagconsensus_impl_errNoLeader)], narrowed := true }
def FnWaveLeaderUptoSaid : Prop := fnWaveLeaderUptoRow.holds Tryd.pinned (OpenSpec.upto fnWaveLeaderSpec)

/-- 'laws.FnWaveVotes', WHERE WHAT IT READS IS OF BULK AT MOST 1048576: true; the input reads as it did. -/
def fnWaveVotesUptoRow : OpenClaim := { program := "ytjekgjlnaochiaadoor", sum := "107e682513463839251bb0f68659d9118a75383b5c6a14aeb3bbb0e31d3b3c28", func := "loop.example/dagconsensus/laws.FnWaveVotes", spec := "fnWaveVotes", inPlace := ["internal/reflectlite.TypeOf"], unfollowed := true, recurses := true, named := ["loop.example/dagconsensus/impl.errNoLeader", "loop.example/dagconsensus/impl.errInvalid"], ifaces := true, apart := false, laid := [("loop.example/dagconsensus/impl.errInvalid", laid_loop_example_dagconsensus_impl_errInvalid), ("loop.example/dagconsensus/impl.errNoLeader", laid_loop_example_dagconsensus_impl_errNoLeader)], narrowed := true }
def FnWaveVotesUptoSaid : Prop := fnWaveVotesUptoRow.holds Tryd.pinned (OpenSpec.upto fnWaveVotesSpec)

/-- 'laws.FnWaveDirect', WHERE WHAT IT READS IS OF BULK AT MOST 1048576: true; the input reads as it did. -/
def fnWaveDirectUptoRow : OpenClaim := { program := "ytjekgjlnaochiaadoor", sum := "107e682513463839251bb0f68659d9118a75383b5c6a14aeb3bbb0e31d3b3c28", func := "loop.example/dagconsensus/laws.FnWaveDirect", spec := "fnWaveDirect", inPlace := ["internal/reflectlite.TypeOf"], unfollowed := true, recurses := true, named := ["loop.example/dagconsensus/impl.errInvalid", "loop.example/dagconsensus/impl.errNoLeader"], ifaces := true, apart := false, laid := [("loop.example/dagconsensus/impl.errInvalid", laid_loop_example_dagconsensus_impl_errInvalid), ("loop.example/dagconsensus/impl.errNoLeader", laid_loop_example_dagconsensus_impl_errNoLeader)], narrowed := true }
def FnWaveDirectUptoSaid : Prop := fnWaveDirectUptoRow.holds Tryd.pinned (OpenSpec.upto fnWaveDirectSpec)

/-- 'laws.FnWavesAscending', WHERE WHAT IT READS IS OF BULK AT MOST 1048576: true; the input reads as it did. -/
def fnWavesAscendingUptoRow : OpenClaim := { program := "ytjekgjlnaochiaadoor", sum := "107e682513463839251bb0f68659d9118a75383b5c6a14aeb3bbb0e31d3b3c28", func := "loop.example/dagconsensus/laws.FnWavesAscending", spec := "fnWavesAscending", inPlace := ["internal/reflectlite.TypeOf"], unfollowed := true, recurses := true, named := ["loop.example/dagconsensus/impl.errInvalid", "loop.example/dagconsensus/impl.errNoLeader"], ifaces := true, apart := false, laid := [("loop.example/dagconsensus/impl.errInvalid", laid_loop_example_dagconsensus_impl_errInvalid), ("loop.example/dagconsensus/impl.errNoLeader", laid_loop_example_dagconsensus_impl_errNoLeader)], narrowed := true }
def FnWavesAscendingUptoSaid : Prop := fnWavesAscendingUptoRow.holds Tryd.pinned (OpenSpec.upto fnWavesAscendingSpec)

/-- 'laws.FnWavesDirect', WHERE WHAT IT READS IS OF BULK AT MOST 1048576: true; the input reads as it did. -/
def fnWavesDirectUptoRow : OpenClaim := { program := "ytjekgjlnaochiaadoor", sum := "107e682513463839251bb0f68659d9118a75383b5c6a14aeb3bbb0e31d3b3c28", func := "loop.example/dagconsensus/laws.FnWavesDirect", spec := "fnWavesDirect", inPlace := ["internal/reflectlite.TypeOf"], unfollowed := true, recurses := true, named := ["loop.example/dagconsensus/impl.errInvalid", "loop.example/dagconsensus/impl.errNoLeader"], ifaces := true, apart := false, laid := [("loop.example/dagconsensus/impl.errInvalid", laid_loop_example_dagconsensus_impl_errInvalid), ("loop.example/dagconsensus/impl.errNoLeader", laid_loop_example_dagconsensus_impl_errNoLeader)], narrowed := true }
def FnWavesDirectUptoSaid : Prop := fnWavesDirectUptoRow.holds Tryd.pinned (OpenSpec.upto fnWavesDirectSpec)

/-- 'laws.FnWavesLinked', WHERE WHAT IT READS IS OF BULK AT MOST 1048576: true; the input reads as it did. -/
def fnWavesLinkedUptoRow : OpenClaim := { program := "ytjekgjlnaochiaadoor", sum := "107e682513463839251bb0f68659d9118a75383b5c6a14aeb3bbb0e31d3b3c28", func := "loop.example/dagconsensus/laws.FnWavesLinked", spec := "fnWavesLinked", inPlace := ["internal/reflectlite.TypeOf"], unfollowed := true, recurses := true, named := ["loop.example/dagconsensus/impl.errInvalid", "loop.example/dagconsensus/impl.errNoLeader"], ifaces := true, apart := false, laid := [("loop.example/dagconsensus/impl.errInvalid", laid_loop_example_dagconsensus_impl_errInvalid), ("loop.example/dagconsensus/impl.errNoLeader", laid_loop_example_dagconsensus_impl_errNoLeader)], narrowed := true }
def FnWavesLinkedUptoSaid : Prop := fnWavesLinkedUptoRow.holds Tryd.pinned (OpenSpec.upto fnWavesLinkedSpec)

/-- 'laws.FnWavesReach', WHERE WHAT IT READS IS OF BULK AT MOST 1048576: true; the input reads as it did. -/
def fnWavesReachUptoRow : OpenClaim := { program := "ytjekgjlnaochiaadoor", sum := "107e682513463839251bb0f68659d9118a75383b5c6a14aeb3bbb0e31d3b3c28", func := "loop.example/dagconsensus/laws.FnWavesReach", spec := "fnWavesReach", inPlace := ["internal/reflectlite.TypeOf"], unfollowed := true, recurses := true, named := ["loop.example/dagconsensus/impl.errInvalid", "loop.example/dagconsensus/impl.errNoLeader"], ifaces := true, apart := false, laid := [("loop.example/dagconsensus/impl.errInvalid", laid_loop_example_dagconsensus_impl_errInvalid), ("loop.example/dagconsensus/impl.errNoLeader", laid_loop_example_dagconsensus_impl_errNoLeader)], narrowed := true }
def FnWavesReachUptoSaid : Prop := fnWavesReachUptoRow.holds Tryd.pinned (OpenSpec.upto fnWavesReachSpec)

end Rows
end Go.Proofs.YtjekgjlnaochiaaDoor
