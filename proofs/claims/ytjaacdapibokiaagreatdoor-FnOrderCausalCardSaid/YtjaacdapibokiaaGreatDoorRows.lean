/-
  NARROWER THAN 'FOR EVERY INPUT', by the rows' own cells (each row's printed sentence says how): FnOrderOnce: ifaces, laid · FnOrderAgree: ifaces, laid · FnOrderGrow: ifaces, laid · FnOrderCausal: ifaces, laid · FnOrderPast: ifaces, laid · FnOrderDigests: ifaces, laid · FnOrderWave: ifaces, laid.
  DERIVED. THE GIVEN ROWS OF THIS SEAT. 7 by the template 'for every input the law returns true; each argument reads behind the call as it read before'; 0 by the template 'total and deterministic' (their statements: YtjaacdapibokiaaGreatDoorTotals.lean).
  GIVEN WITH THE SEED: the statements are not yours to turn. If you find one false, say at which input.
  Laid BY PROGRAM, IN A SANDBOX (cutbox-rows.mjs): the forced cells as the released guide's own fill.sh prints them over the translation 5cbe487feca679f8… (all of the seat's roots in one cut). By AI agents, Wed Nov 11 2026. No macro, syntax, notation, axiom, sorry.
-/
import Derived.Test.YtjaacdapibokiaaGreatDoorChecked
import GoSem.Claim
import GoSem.ClaimJoined
import GoSem.ClaimMapViews
import Derived.JoinedTies
import Derived.KernelRfl
namespace Go.Proofs.YtjaacdapibokiaaGreatDoor
/- THE CELL 'sum', in the pinned program and in every row, IS THE sha256 OF THE DUMP (.gsa) THAT YtjaacdapibokiaaGreatDoorProg.lean LOADS. Nothing in Lean hashes anything: it is a label: what it is worth is what the hold of that sum in a sandbox is worth. -/
noncomputable def Tryz.pinned : Pinned := { name := "ytjaacdapibokiaagreatdoor", sum := "5cbe487feca679f881ff3de844e44eff3389c6c39c5b6eb6f309579a5866ae77", checked := Tryz.checked }
namespace Rows
def none {H : Type} : Left H := { results := [], args := [] }

/- WHAT THE LISTED PACKAGE-LEVEL VARIABLES READ AS WHEN THE CALL BEGINS. Each datum BY PROGRAM (the guide's laid-datum.mjs) off the statement by which the dump's own 'gosem.cut.vars' lays the variable. In a bare row this is a premise. The card (YtjaacdapibokiaaGreatDoorCards.lean) ties it to the program's text. -/
def laid_loop_example_dagconsensus_impl_errInvalid {H : Type} : DataW H := .iface "*errors.errorString" (.ptr (.agg [.lit (.string [105, 110, 118, 97, 108, 105, 100, 32, 103, 114, 97, 112, 104, 44, 32, 108, 101, 97, 100, 101, 114, 115, 32, 111, 114, 32, 119, 97, 118, 101])]))
def laid_loop_example_dagconsensus_impl_errNoLeader {H : Type} : DataW H := .iface "*errors.errorString" (.ptr (.agg [.lit (.string [110, 111, 32, 108, 101, 97, 100, 101, 114, 32, 118, 101, 114, 116, 101, 120])]))

/-- 'laws.FnOrderOnce': WHATEVER THE INPUT: true; the input reads as it did. -/
def fnOrderOnceSpec : ChangeSpec := { name := "fnOrderOnce", vars := ["loop.example/dagconsensus/impl.errInvalid", "loop.example/dagconsensus/impl.errNoLeader"], fn := fun _ => fun
  | [d, g1, g2] => { results := [.lit (.bool true)], args := [d], vars := [g1, g2] }
  | _ => none }
def fnOrderOnceRow : OpenClaim := { program := "ytjaacdapibokiaagreatdoor", sum := "5cbe487feca679f881ff3de844e44eff3389c6c39c5b6eb6f309579a5866ae77", func := "loop.example/dagconsensus/laws.FnOrderOnce", spec := "fnOrderOnce", inPlace := ["internal/reflectlite.TypeOf"], unfollowed := true, recurses := true, named := ["loop.example/dagconsensus/impl.errInvalid", "loop.example/dagconsensus/impl.errNoLeader"], ifaces := true, apart := false, laid := [("loop.example/dagconsensus/impl.errInvalid", laid_loop_example_dagconsensus_impl_errInvalid), ("loop.example/dagconsensus/impl.errNoLeader", laid_loop_example_dagconsensus_impl_errNoLeader)] }
def FnOrderOnceSaid : Prop := fnOrderOnceRow.holds Tryz.pinned (OpenSpec.ofChange fnOrderOnceSpec)

/-- ITS FALSE NEIGHBOUR: 'it returns false'. Refute it at one input. -/
def fnOrderOnceWrong : ChangeSpec := { name := "fnOrderOnce", vars := ["loop.example/dagconsensus/impl.errInvalid", "loop.example/dagconsensus/impl.errNoLeader"], fn := fun _ => fun
  | [d, g1, g2] => { results := [.lit (.bool false)], args := [d], vars := [g1, g2] }
  | _ => none }
def FnOrderOnceWrongFalsely : Prop := fnOrderOnceRow.holds Tryz.pinned (OpenSpec.ofChange fnOrderOnceWrong)

/-- 'laws.FnOrderAgree': WHATEVER THE INPUT: true; the input reads as it did. -/
def fnOrderAgreeSpec : ChangeSpec := { name := "fnOrderAgree", vars := ["loop.example/dagconsensus/impl.errInvalid", "loop.example/dagconsensus/impl.errNoLeader"], fn := fun _ => fun
  | [d1, d2, g1, g2] => { results := [.lit (.bool true)], args := [d1, d2], vars := [g1, g2] }
  | _ => none }
def fnOrderAgreeRow : OpenClaim := { program := "ytjaacdapibokiaagreatdoor", sum := "5cbe487feca679f881ff3de844e44eff3389c6c39c5b6eb6f309579a5866ae77", func := "loop.example/dagconsensus/laws.FnOrderAgree", spec := "fnOrderAgree", inPlace := ["internal/reflectlite.TypeOf"], unfollowed := true, recurses := true, named := ["loop.example/dagconsensus/impl.errInvalid", "loop.example/dagconsensus/impl.errNoLeader"], ifaces := true, apart := false, laid := [("loop.example/dagconsensus/impl.errInvalid", laid_loop_example_dagconsensus_impl_errInvalid), ("loop.example/dagconsensus/impl.errNoLeader", laid_loop_example_dagconsensus_impl_errNoLeader)] }
def FnOrderAgreeSaid : Prop := fnOrderAgreeRow.holds Tryz.pinned (OpenSpec.ofChange fnOrderAgreeSpec)

/-- ITS FALSE NEIGHBOUR: 'it returns false'. Refute it at one input. -/
def fnOrderAgreeWrong : ChangeSpec := { name := "fnOrderAgree", vars := ["loop.example/dagconsensus/impl.errInvalid", "loop.example/dagconsensus/impl.errNoLeader"], fn := fun _ => fun
  | [d1, d2, g1, g2] => { results := [.lit (.bool false)], args := [d1, d2], vars := [g1, g2] }
  | _ => none }
def FnOrderAgreeWrongFalsely : Prop := fnOrderAgreeRow.holds Tryz.pinned (OpenSpec.ofChange fnOrderAgreeWrong)

/-- 'laws.FnOrderGrow': WHATEVER THE INPUT: true; the input reads as it did. -/
def fnOrderGrowSpec : ChangeSpec := { name := "fnOrderGrow", vars := ["loop.example/dagconsensus/impl.errInvalid", "loop.example/dagconsensus/impl.errNoLeader"], fn := fun _ => fun
  | [d1, d2, g1, g2] => { results := [.lit (.bool true)], args := [d1, d2], vars := [g1, g2] }
  | _ => none }
def fnOrderGrowRow : OpenClaim := { program := "ytjaacdapibokiaagreatdoor", sum := "5cbe487feca679f881ff3de844e44eff3389c6c39c5b6eb6f309579a5866ae77", func := "loop.example/dagconsensus/laws.FnOrderGrow", spec := "fnOrderGrow", inPlace := ["internal/reflectlite.TypeOf"], unfollowed := true, recurses := true, named := ["loop.example/dagconsensus/impl.errInvalid", "loop.example/dagconsensus/impl.errNoLeader"], ifaces := true, apart := false, laid := [("loop.example/dagconsensus/impl.errInvalid", laid_loop_example_dagconsensus_impl_errInvalid), ("loop.example/dagconsensus/impl.errNoLeader", laid_loop_example_dagconsensus_impl_errNoLeader)] }
def FnOrderGrowSaid : Prop := fnOrderGrowRow.holds Tryz.pinned (OpenSpec.ofChange fnOrderGrowSpec)

/-- ITS FALSE NEIGHBOUR: 'it returns false'. Refute it at one input. -/
def fnOrderGrowWrong : ChangeSpec := { name := "fnOrderGrow", vars := ["loop.example/dagconsensus/impl.errInvalid", "loop.example/dagconsensus/impl.errNoLeader"], fn := fun _ => fun
  | [d1, d2, g1, g2] => { results := [.lit (.bool false)], args := [d1, d2], vars := [g1, g2] }
  | _ => none }
def FnOrderGrowWrongFalsely : Prop := fnOrderGrowRow.holds Tryz.pinned (OpenSpec.ofChange fnOrderGrowWrong)

/-- 'laws.FnOrderCausal': WHATEVER THE INPUT: true; the input reads as it did. -/
def fnOrderCausalSpec : ChangeSpec := { name := "fnOrderCausal", vars := ["loop.example/dagconsensus/impl.errInvalid", "loop.example/dagconsensus/impl.errNoLeader"], fn := fun _ => fun
  | [d, g1, g2] => { results := [.lit (.bool true)], args := [d], vars := [g1, g2] }
  | _ => none }
def fnOrderCausalRow : OpenClaim := { program := "ytjaacdapibokiaagreatdoor", sum := "5cbe487feca679f881ff3de844e44eff3389c6c39c5b6eb6f309579a5866ae77", func := "loop.example/dagconsensus/laws.FnOrderCausal", spec := "fnOrderCausal", inPlace := ["internal/reflectlite.TypeOf"], unfollowed := true, recurses := true, named := ["loop.example/dagconsensus/impl.errInvalid", "loop.example/dagconsensus/impl.errNoLeader"], ifaces := true, apart := false, laid := [("loop.example/dagconsensus/impl.errInvalid", laid_loop_example_dagconsensus_impl_errInvalid), ("loop.example/dagconsensus/impl.errNoLeader", laid_loop_example_dagconsensus_impl_errNoLeader)] }
def FnOrderCausalSaid : Prop := fnOrderCausalRow.holds Tryz.pinned (OpenSpec.ofChange fnOrderCausalSpec)

/-- ITS FALSE NEIGHBOUR: 'it returns false'. Refute it at one input. -/
def fnOrderCausalWrong : ChangeSpec := { name := "fnOrderCausal", vars := ["loop.example/dagconsensus/impl.errInvalid", "loop.example/dagconsensus/impl.errNoLeader"], fn := fun _ => fun
  | [d, g1, g2] => { results := [.lit (.bool false)], args := [d], vars := [g1, g2] }
  | _ => none }
def FnOrderCausalWrongFalsely : Prop := fnOrderCausalRow.holds Tryz.pinned (OpenSpec.ofChange fnOrderCausalWrong)

/-- 'laws.FnOrderPast': WHATEVER THE INPUT: true; the input reads as it did. -/
def fnOrderPastSpec : ChangeSpec := { name := "fnOrderPast", vars := ["loop.example/dagconsensus/impl.errInvalid", "loop.example/dagconsensus/impl.errNoLeader"], fn := fun _ => fun
  | [d, g1, g2] => { results := [.lit (.bool true)], args := [d], vars := [g1, g2] }
  | _ => none }
def fnOrderPastRow : OpenClaim := { program := "ytjaacdapibokiaagreatdoor", sum := "5cbe487feca679f881ff3de844e44eff3389c6c39c5b6eb6f309579a5866ae77", func := "loop.example/dagconsensus/laws.FnOrderPast", spec := "fnOrderPast", inPlace := ["internal/reflectlite.TypeOf"], unfollowed := true, recurses := true, named := ["loop.example/dagconsensus/impl.errInvalid", "loop.example/dagconsensus/impl.errNoLeader"], ifaces := true, apart := false, laid := [("loop.example/dagconsensus/impl.errInvalid", laid_loop_example_dagconsensus_impl_errInvalid), ("loop.example/dagconsensus/impl.errNoLeader", laid_loop_example_dagconsensus_impl_errNoLeader)] }
def FnOrderPastSaid : Prop := fnOrderPastRow.holds Tryz.pinned (OpenSpec.ofChange fnOrderPastSpec)

/-- ITS FALSE NEIGHBOUR: 'it returns false'. Refute it at one input. -/
def fnOrderPastWrong : ChangeSpec := { name := "fnOrderPast", vars := ["loop.example/dagconsensus/impl.errInvalid", "loop.example/dagconsensus/impl.errNoLeader"], fn := fun _ => fun
  | [d, g1, g2] => { results := [.lit (.bool false)], args := [d], vars := [g1, g2] }
  | _ => none }
def FnOrderPastWrongFalsely : Prop := fnOrderPastRow.holds Tryz.pinned (OpenSpec.ofChange fnOrderPastWrong)

/-- 'laws.FnOrderDigests': WHATEVER THE INPUT: true; the input reads as it did. -/
def fnOrderDigestsSpec : ChangeSpec := { name := "fnOrderDigests", vars := ["loop.example/dagconsensus/impl.errInvalid", "loop.example/dagconsensus/impl.errNoLeader"], fn := fun _ => fun
  | [d, g1, g2] => { results := [.lit (.bool true)], args := [d], vars := [g1, g2] }
  | _ => none }
def fnOrderDigestsRow : OpenClaim := { program := "ytjaacdapibokiaagreatdoor", sum := "5cbe487feca679f881ff3de844e44eff3389c6c39c5b6eb6f309579a5866ae77", func := "loop.example/dagconsensus/laws.FnOrderDigests", spec := "fnOrderDigests", inPlace := ["internal/reflectlite.TypeOf"], unfollowed := true, recurses := true, named := ["loop.example/dagconsensus/impl.errInvalid", "loop.example/dagconsensus/impl.errNoLeader"], ifaces := true, apart := false, laid := [("loop.example/dagconsensus/impl.errInvalid", laid_loop_example_dagconsensus_impl_errInvalid), ("loop.example/dagconsensus/impl.errNoLeader", laid_loop_example_dagconsensus_impl_errNoLeader)] }
def FnOrderDigestsSaid : Prop := fnOrderDigestsRow.holds Tryz.pinned (OpenSpec.ofChange fnOrderDigestsSpec)

/-- ITS FALSE NEIGHBOUR: 'it returns false'. Refute it at one input. -/
def fnOrderDigestsWrong : ChangeSpec := { name := "fnOrderDigests", vars := ["loop.example/dagconsensus/impl.errInvalid", "loop.example/dagconsensus/impl.errNoLeader"], fn := fun _ => fun
  | [d, g1, g2] => { results := [.lit (.bool false)], args := [d], vars := [g1, g2] }
  | _ => none }
def FnOrderDigestsWrongFalsely : Prop := fnOrderDigestsRow.holds Tryz.pinned (OpenSpec.ofChange fnOrderDigestsWrong)

/-- 'laws.FnOrderWave': WHATEVER THE INPUT: true; the input reads as it did. -/
def fnOrderWaveSpec : ChangeSpec := { name := "fnOrderWave", vars := ["loop.example/dagconsensus/impl.errInvalid", "loop.example/dagconsensus/impl.errNoLeader"], fn := fun _ => fun
  | [d, g1, g2] => { results := [.lit (.bool true)], args := [d], vars := [g1, g2] }
  | _ => none }
def fnOrderWaveRow : OpenClaim := { program := "ytjaacdapibokiaagreatdoor", sum := "5cbe487feca679f881ff3de844e44eff3389c6c39c5b6eb6f309579a5866ae77", func := "loop.example/dagconsensus/laws.FnOrderWave", spec := "fnOrderWave", inPlace := ["internal/reflectlite.TypeOf"], unfollowed := true, recurses := true, named := ["loop.example/dagconsensus/impl.errInvalid", "loop.example/dagconsensus/impl.errNoLeader"], ifaces := true, apart := false, laid := [("loop.example/dagconsensus/impl.errInvalid", laid_loop_example_dagconsensus_impl_errInvalid), ("loop.example/dagconsensus/impl.errNoLeader", laid_loop_example_dagconsensus_impl_errNoLeader)] }
def FnOrderWaveSaid : Prop := fnOrderWaveRow.holds Tryz.pinned (OpenSpec.ofChange fnOrderWaveSpec)

/-- ITS FALSE NEIGHBOUR: 'it returns false'. Refute it at one input. -/
def fnOrderWaveWrong : ChangeSpec := { name := "fnOrderWave", vars := ["loop.example/dagconsensus/impl.errInvalid", "loop.example/dagconsensus/impl.errNoLeader"], fn := fun _ => fun
  | [d, g1, g2] => { results := [.lit (.bool false)], args := [d], vars := [g1, g2] }
  | _ => none }
def FnOrderWaveWrongFalsely : Prop := fnOrderWaveRow.holds Tryz.pinned (OpenSpec.ofChange fnOrderWaveWrong)

/- THE SECOND FORM. 'bulk': how many values and letters a reading holds, each counted each time it is reached (what is shared counts as often as it is met; a slice's spare places count too). A statement '..UptoSaid' is the law's where the arguments, and the package variables that the reading takes, are together of bulk at most 1048576: NARROWER than '..Said'. Prove '..Said' where nothing that the law and all that it calls make is longer than what came in: it says more and counts as full. Else prove '..UptoSaid'. A law counts once. -/
mutual
def uptoBulk {H : Type} : DataW H → Nat
  | .lit (.string bytes) => bytes.length + 1
  | .lit _ => 1
  | .nil => 1
  | .ptr d => uptoBulk d + 1
  | .slice elems spare => uptoBulkAll elems + uptoBulkAll spare + 1
  | .agg parts => uptoBulkAll parts + 1
  | .iface _ d => uptoBulk d + 1
  | .map entries => uptoBulkEntries entries + 1
  | .held _ => 1
def uptoBulkAll {H : Type} : List (DataW H) → Nat
  | [] => 0
  | d :: r => uptoBulk d + uptoBulkAll r
def uptoBulkEntries {H : Type} : List (Lit × DataW H) → Nat
  | [] => 0
  | x :: r => uptoBulkEntry x + uptoBulkEntries r
def uptoBulkEntry {H : Type} : Lit × DataW H → Nat
  | (.string bytes, d) => bytes.length + uptoBulk d + 1
  | (_, d) => uptoBulk d + 1
 end
def uptoSmall : (H : Type) → List (DataW H) → Bool := fun _ ds => decide (uptoBulkAll ds ≤ 1048576)
def OpenSpec.upto (s : _root_.Go.ChangeSpec) : _root_.Go.OpenSpec := { _root_.Go.OpenSpec.ofChange s with cond := some uptoSmall }

/-- 'laws.FnOrderOnce', WHERE WHAT IT READS IS OF BULK AT MOST 1048576: true; the input reads as it did. -/
def fnOrderOnceUptoRow : OpenClaim := { program := "ytjaacdapibokiaagreatdoor", sum := "5cbe487feca679f881ff3de844e44eff3389c6c39c5b6eb6f309579a5866ae77", func := "loop.example/dagconsensus/laws.FnOrderOnce", spec := "fnOrderOnce", inPlace := ["internal/reflectlite.TypeOf"], unfollowed := true, recurses := true, named := ["loop.example/dagconsensus/impl.errInvalid", "loop.example/dagconsensus/impl.errNoLeader"], ifaces := true, apart := false, laid := [("loop.example/dagconsensus/impl.errInvalid", laid_loop_example_dagconsensus_impl_errInvalid), ("loop.example/dagconsensus/impl.errNoLeader", laid_loop_example_dagconsensus_impl_errNoLeader)], narrowed := true }
def FnOrderOnceUptoSaid : Prop := fnOrderOnceUptoRow.holds Tryz.pinned (OpenSpec.upto fnOrderOnceSpec)

/-- 'laws.FnOrderAgree', WHERE WHAT IT READS IS OF BULK AT MOST 1048576: true; the input reads as it did. -/
def fnOrderAgreeUptoRow : OpenClaim := { program := "ytjaacdapibokiaagreatdoor", sum := "5cbe487feca679f881ff3de844e44eff3389c6c39c5b6eb6f309579a5866ae77", func := "loop.example/dagconsensus/laws.FnOrderAgree", spec := "fnOrderAgree", inPlace := ["internal/reflectlite.TypeOf"], unfollowed := true, recurses := true, named := ["loop.example/dagconsensus/impl.errInvalid", "loop.example/dagconsensus/impl.errNoLeader"], ifaces := true, apart := false, laid := [("loop.example/dagconsensus/impl.errInvalid", laid_loop_example_dagconsensus_impl_errInvalid), ("loop.example/dagconsensus/impl.errNoLeader", laid_loop_example_dagconsensus_impl_errNoLeader)], narrowed := true }
def FnOrderAgreeUptoSaid : Prop := fnOrderAgreeUptoRow.holds Tryz.pinned (OpenSpec.upto fnOrderAgreeSpec)

/-- 'laws.FnOrderGrow', WHERE WHAT IT READS IS OF BULK AT MOST 1048576: true; the input reads as it did. -/
def fnOrderGrowUptoRow : OpenClaim := { program := "ytjaacdapibokiaagreatdoor", sum := "5cbe487feca679f881ff3de844e44eff3389c6c39c5b6eb6f309579a5866ae77", func := "loop.example/dagconsensus/laws.FnOrderGrow", spec := "fnOrderGrow", inPlace := ["internal/reflectlite.TypeOf"], unfollowed := true, recurses := true, named := ["loop.example/dagconsensus/impl.errInvalid", "loop.example/dagconsensus/impl.errNoLeader"], ifaces := true, apart := false, laid := [("loop.example/dagconsensus/impl.errInvalid", laid_loop_example_dagconsensus_impl_errInvalid), ("loop.example/dagconsensus/impl.errNoLeader", laid_loop_example_dagconsensus_impl_errNoLeader)], narrowed := true }
def FnOrderGrowUptoSaid : Prop := fnOrderGrowUptoRow.holds Tryz.pinned (OpenSpec.upto fnOrderGrowSpec)

/-- 'laws.FnOrderCausal', WHERE WHAT IT READS IS OF BULK AT MOST 1048576: true; the input reads as it did. -/
def fnOrderCausalUptoRow : OpenClaim := { program := "ytjaacdapibokiaagreatdoor", sum := "5cbe487feca679f881ff3de844e44eff3389c6c39c5b6eb6f309579a5866ae77", func := "loop.example/dagconsensus/laws.FnOrderCausal", spec := "fnOrderCausal", inPlace := ["internal/reflectlite.TypeOf"], unfollowed := true, recurses := true, named := ["loop.example/dagconsensus/impl.errInvalid", "loop.example/dagconsensus/impl.errNoLeader"], ifaces := true, apart := false, laid := [("loop.example/dagconsensus/impl.errInvalid", laid_loop_example_dagconsensus_impl_errInvalid), ("loop.example/dagconsensus/impl.errNoLeader", laid_loop_example_dagconsensus_impl_errNoLeader)], narrowed := true }
def FnOrderCausalUptoSaid : Prop := fnOrderCausalUptoRow.holds Tryz.pinned (OpenSpec.upto fnOrderCausalSpec)

/-- 'laws.FnOrderPast', WHERE WHAT IT READS IS OF BULK AT MOST 1048576: true; the input reads as it did. -/
def fnOrderPastUptoRow : OpenClaim := { program := "ytjaacdapibokiaagreatdoor", sum := "5cbe487feca679f881ff3de844e44eff3389c6c39c5b6eb6f309579a5866ae77", func := "loop.example/dagconsensus/laws.FnOrderPast", spec := "fnOrderPast", inPlace := ["internal/reflectlite.TypeOf"], unfollowed := true, recurses := true, named := ["loop.example/dagconsensus/impl.errInvalid", "loop.example/dagconsensus/impl.errNoLeader"], ifaces := true, apart := false, laid := [("loop.example/dagconsensus/impl.errInvalid", laid_loop_example_dagconsensus_impl_errInvalid), ("loop.example/dagconsensus/impl.errNoLeader", laid_loop_example_dagconsensus_impl_errNoLeader)], narrowed := true }
def FnOrderPastUptoSaid : Prop := fnOrderPastUptoRow.holds Tryz.pinned (OpenSpec.upto fnOrderPastSpec)

/-- 'laws.FnOrderDigests', WHERE WHAT IT READS IS OF BULK AT MOST 1048576: true; the input reads as it did. -/
def fnOrderDigestsUptoRow : OpenClaim := { program := "ytjaacdapibokiaagreatdoor", sum := "5cbe487feca679f881ff3de844e44eff3389c6c39c5b6eb6f309579a5866ae77", func := "loop.example/dagconsensus/laws.FnOrderDigests", spec := "fnOrderDigests", inPlace := ["internal/reflectlite.TypeOf"], unfollowed := true, recurses := true, named := ["loop.example/dagconsensus/impl.errInvalid", "loop.example/dagconsensus/impl.errNoLeader"], ifaces := true, apart := false, laid := [("loop.example/dagconsensus/impl.errInvalid", laid_loop_example_dagconsensus_impl_errInvalid), ("loop.example/dagconsensus/impl.errNoLeader", laid_loop_example_dagconsensus_impl_errNoLeader)], narrowed := true }
def FnOrderDigestsUptoSaid : Prop := fnOrderDigestsUptoRow.holds Tryz.pinned (OpenSpec.upto fnOrderDigestsSpec)

/-- 'laws.FnOrderWave', WHERE WHAT IT READS IS OF BULK AT MOST 1048576: true; the input reads as it did. -/
def fnOrderWaveUptoRow : OpenClaim := { program := "ytjaacdapibokiaagreatdoor", sum := "5cbe487feca679f881ff3de844e44eff3389c6c39c5b6eb6f309579a5866ae77", func := "loop.example/dagconsensus/laws.FnOrderWave", spec := "fnOrderWave", inPlace := ["internal/reflectlite.TypeOf"], unfollowed := true, recurses := true, named := ["loop.example/dagconsensus/impl.errInvalid", "loop.example/dagconsensus/impl.errNoLeader"], ifaces := true, apart := false, laid := [("loop.example/dagconsensus/impl.errInvalid", laid_loop_example_dagconsensus_impl_errInvalid), ("loop.example/dagconsensus/impl.errNoLeader", laid_loop_example_dagconsensus_impl_errNoLeader)], narrowed := true }
def FnOrderWaveUptoSaid : Prop := fnOrderWaveUptoRow.holds Tryz.pinned (OpenSpec.upto fnOrderWaveSpec)

end Rows
end Go.Proofs.YtjaacdapibokiaaGreatDoor
