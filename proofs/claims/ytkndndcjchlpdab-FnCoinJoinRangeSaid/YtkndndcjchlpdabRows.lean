/-
  No cell of these rows narrows 'for every input' (looked for: loops, veiled, ifaces, maps, wideKeys, modest, calm, conditions, laid).
  DERIVED. THE GIVEN ROWS OF THIS SEAT. 7 by the template 'for every input the law returns true; each argument reads behind the call as it read before'; 0 by the template 'total and deterministic' (their statements: YtkndndcjchlpdabTotals.lean).
  GIVEN WITH THE SEED: the statements are not yours to turn. If you find one false, say at which input.
  Laid BY PROGRAM, IN A SANDBOX (cutbox-rows.mjs): the forced cells as the released guide's own fill.sh prints them over the translation 9d722bae397e45cd… (all of the seat's roots in one cut). By AI agents, Wed Nov 11 2026. No macro, syntax, notation, axiom, sorry.
-/
import Derived.Test.YtkndndcjchlpdabChecked
import GoSem.Claim
import GoSem.ClaimJoined
import GoSem.ClaimMapViews
import Derived.JoinedTies
import Derived.KernelRfl
namespace Go.Proofs.Ytkndndcjchlpdab
/- THE CELL 'sum', in the pinned program and in every row, IS THE sha256 OF THE DUMP (.gsa) THAT YtkndndcjchlpdabProg.lean LOADS. Nothing in Lean hashes anything: it is a label: what it is worth is what the hold of that sum in a sandbox is worth. -/
noncomputable def Try.pinned : Pinned := { name := "ytkndndcjchlpdab", sum := "9d722bae397e45cd030af3f01dc2c23855b5e818c13005216f065e9ebf363cbf", checked := Try.checked }
namespace Rows
def none {H : Type} : Left H := { results := [], args := [] }

/-- 'laws.FnCoinJoinRange': WHATEVER THE INPUT: true; the input reads as it did. -/
def fnCoinJoinRangeSpec : ChangeSpec := { name := "fnCoinJoinRange", fn := fun _ => fun
  | [d1, d2] => { results := [.lit (.bool true)], args := [d1, d2] }
  | _ => none }
def fnCoinJoinRangeRow : OpenClaim := { program := "ytkndndcjchlpdab", sum := "9d722bae397e45cd030af3f01dc2c23855b5e818c13005216f065e9ebf363cbf", func := "loop.example/dagconsensus/laws.FnCoinJoinRange", spec := "fnCoinJoinRange", unfollowed := true, recurses := true, apart := false }
def FnCoinJoinRangeSaid : Prop := fnCoinJoinRangeRow.holds Try.pinned (OpenSpec.ofChange fnCoinJoinRangeSpec)

/-- ITS FALSE NEIGHBOUR: 'it returns false'. Refute it at one input. -/
def fnCoinJoinRangeWrong : ChangeSpec := { name := "fnCoinJoinRange", fn := fun _ => fun
  | [d1, d2] => { results := [.lit (.bool false)], args := [d1, d2] }
  | _ => none }
def FnCoinJoinRangeWrongFalsely : Prop := fnCoinJoinRangeRow.holds Try.pinned (OpenSpec.ofChange fnCoinJoinRangeWrong)

/-- 'laws.FnCoinLeader': WHATEVER THE INPUT: true; the input reads as it did. -/
def fnCoinLeaderSpec : ChangeSpec := { name := "fnCoinLeader", fn := fun _ => fun
  | [d] => { results := [.lit (.bool true)], args := [d] }
  | _ => none }
def fnCoinLeaderRow : OpenClaim := { program := "ytkndndcjchlpdab", sum := "9d722bae397e45cd030af3f01dc2c23855b5e818c13005216f065e9ebf363cbf", func := "loop.example/dagconsensus/laws.FnCoinLeader", spec := "fnCoinLeader", apart := false }
def FnCoinLeaderSaid : Prop := fnCoinLeaderRow.holds Try.pinned (OpenSpec.ofChange fnCoinLeaderSpec)

/-- ITS FALSE NEIGHBOUR: 'it returns false'. Refute it at one input. -/
def fnCoinLeaderWrong : ChangeSpec := { name := "fnCoinLeader", fn := fun _ => fun
  | [d] => { results := [.lit (.bool false)], args := [d] }
  | _ => none }
def FnCoinLeaderWrongFalsely : Prop := fnCoinLeaderRow.holds Try.pinned (OpenSpec.ofChange fnCoinLeaderWrong)

/-- 'laws.FnExactCoinDeal': WHATEVER THE INPUT: true; the input reads as it did. -/
def fnExactCoinDealSpec : ChangeSpec := { name := "fnExactCoinDeal", fn := fun _ => fun
  | [d1, d2] => { results := [.lit (.bool true)], args := [d1, d2] }
  | _ => none }
def fnExactCoinDealRow : OpenClaim := { program := "ytkndndcjchlpdab", sum := "9d722bae397e45cd030af3f01dc2c23855b5e818c13005216f065e9ebf363cbf", func := "loop.example/dagconsensus/laws.FnExactCoinDeal", spec := "fnExactCoinDeal", unfollowed := true, recurses := true, apart := false }
def FnExactCoinDealSaid : Prop := fnExactCoinDealRow.holds Try.pinned (OpenSpec.ofChange fnExactCoinDealSpec)

/-- ITS FALSE NEIGHBOUR: 'it returns false'. Refute it at one input. -/
def fnExactCoinDealWrong : ChangeSpec := { name := "fnExactCoinDeal", fn := fun _ => fun
  | [d1, d2] => { results := [.lit (.bool false)], args := [d1, d2] }
  | _ => none }
def FnExactCoinDealWrongFalsely : Prop := fnExactCoinDealRow.holds Try.pinned (OpenSpec.ofChange fnExactCoinDealWrong)

/-- 'laws.FnExactCoinMake': WHATEVER THE INPUT: true; the input reads as it did. -/
def fnExactCoinMakeSpec : ChangeSpec := { name := "fnExactCoinMake", fn := fun _ => fun
  | [d1, d2] => { results := [.lit (.bool true)], args := [d1, d2] }
  | _ => none }
def fnExactCoinMakeRow : OpenClaim := { program := "ytkndndcjchlpdab", sum := "9d722bae397e45cd030af3f01dc2c23855b5e818c13005216f065e9ebf363cbf", func := "loop.example/dagconsensus/laws.FnExactCoinMake", spec := "fnExactCoinMake", apart := false }
def FnExactCoinMakeSaid : Prop := fnExactCoinMakeRow.holds Try.pinned (OpenSpec.ofChange fnExactCoinMakeSpec)

/-- ITS FALSE NEIGHBOUR: 'it returns false'. Refute it at one input. -/
def fnExactCoinMakeWrong : ChangeSpec := { name := "fnExactCoinMake", fn := fun _ => fun
  | [d1, d2] => { results := [.lit (.bool false)], args := [d1, d2] }
  | _ => none }
def FnExactCoinMakeWrongFalsely : Prop := fnExactCoinMakeRow.holds Try.pinned (OpenSpec.ofChange fnExactCoinMakeWrong)

/-- 'laws.FnExactCoinJoin': WHATEVER THE INPUT: true; the input reads as it did. -/
def fnExactCoinJoinSpec : ChangeSpec := { name := "fnExactCoinJoin", fn := fun _ => fun
  | [d1, d2] => { results := [.lit (.bool true)], args := [d1, d2] }
  | _ => none }
def fnExactCoinJoinRow : OpenClaim := { program := "ytkndndcjchlpdab", sum := "9d722bae397e45cd030af3f01dc2c23855b5e818c13005216f065e9ebf363cbf", func := "loop.example/dagconsensus/laws.FnExactCoinJoin", spec := "fnExactCoinJoin", unfollowed := true, recurses := true, apart := false }
def FnExactCoinJoinSaid : Prop := fnExactCoinJoinRow.holds Try.pinned (OpenSpec.ofChange fnExactCoinJoinSpec)

/-- ITS FALSE NEIGHBOUR: 'it returns false'. Refute it at one input. -/
def fnExactCoinJoinWrong : ChangeSpec := { name := "fnExactCoinJoin", fn := fun _ => fun
  | [d1, d2] => { results := [.lit (.bool false)], args := [d1, d2] }
  | _ => none }
def FnExactCoinJoinWrongFalsely : Prop := fnExactCoinJoinRow.holds Try.pinned (OpenSpec.ofChange fnExactCoinJoinWrong)

/-- 'laws.FnExactCoinValue': WHATEVER THE INPUT: true; the input reads as it did. -/
def fnExactCoinValueSpec : ChangeSpec := { name := "fnExactCoinValue", fn := fun _ => fun
  | [d1, d2] => { results := [.lit (.bool true)], args := [d1, d2] }
  | _ => none }
def fnExactCoinValueRow : OpenClaim := { program := "ytkndndcjchlpdab", sum := "9d722bae397e45cd030af3f01dc2c23855b5e818c13005216f065e9ebf363cbf", func := "loop.example/dagconsensus/laws.FnExactCoinValue", spec := "fnExactCoinValue", apart := false }
def FnExactCoinValueSaid : Prop := fnExactCoinValueRow.holds Try.pinned (OpenSpec.ofChange fnExactCoinValueSpec)

/-- ITS FALSE NEIGHBOUR: 'it returns false'. Refute it at one input. -/
def fnExactCoinValueWrong : ChangeSpec := { name := "fnExactCoinValue", fn := fun _ => fun
  | [d1, d2] => { results := [.lit (.bool false)], args := [d1, d2] }
  | _ => none }
def FnExactCoinValueWrongFalsely : Prop := fnExactCoinValueRow.holds Try.pinned (OpenSpec.ofChange fnExactCoinValueWrong)

/-- 'laws.FnExactCoinLeader': WHATEVER THE INPUT: true; the input reads as it did. -/
def fnExactCoinLeaderSpec : ChangeSpec := { name := "fnExactCoinLeader", fn := fun _ => fun
  | [d1, d2] => { results := [.lit (.bool true)], args := [d1, d2] }
  | _ => none }
def fnExactCoinLeaderRow : OpenClaim := { program := "ytkndndcjchlpdab", sum := "9d722bae397e45cd030af3f01dc2c23855b5e818c13005216f065e9ebf363cbf", func := "loop.example/dagconsensus/laws.FnExactCoinLeader", spec := "fnExactCoinLeader", apart := false }
def FnExactCoinLeaderSaid : Prop := fnExactCoinLeaderRow.holds Try.pinned (OpenSpec.ofChange fnExactCoinLeaderSpec)

/-- ITS FALSE NEIGHBOUR: 'it returns false'. Refute it at one input. -/
def fnExactCoinLeaderWrong : ChangeSpec := { name := "fnExactCoinLeader", fn := fun _ => fun
  | [d1, d2] => { results := [.lit (.bool false)], args := [d1, d2] }
  | _ => none }
def FnExactCoinLeaderWrongFalsely : Prop := fnExactCoinLeaderRow.holds Try.pinned (OpenSpec.ofChange fnExactCoinLeaderWrong)

/- THE SECOND FORM. 'bulk': how many values and letters a reading holds, each counted each time it is reached (what is shared counts as often as it is met; a slice's spare places count too). A statement '..UptoSaid' is the law's where the arguments, and the package variables that the reading takes, are together of bulk at most 1048576: NARROWER than '..Said'. Prove '..Said' where nothing that the law and all that it calls make is longer than what came in: it says more and counts as full. Else prove '..UptoSaid'. A law counts once. -/
mutual
def uptoBulk {H : Type} : DataW H → Nat
  | .lit (.string bytes) => bytes.length + 1
  | .lit _ => 1
  | .nil => 1
  | .ptr d => uptoBulk d + 1
  | .slice elems spare => uptoBulkAll elems + uptoBulkAll spare + 1
  | .agg parts => uptoBulkAll parts + 1
  | .iface _ d => uptoBulk d + 1
  | .map entries => uptoBulkEntries entries + 1
  | .held _ => 1
def uptoBulkAll {H : Type} : List (DataW H) → Nat
  | [] => 0
  | d :: r => uptoBulk d + uptoBulkAll r
def uptoBulkEntries {H : Type} : List (Lit × DataW H) → Nat
  | [] => 0
  | x :: r => uptoBulkEntry x + uptoBulkEntries r
def uptoBulkEntry {H : Type} : Lit × DataW H → Nat
  | (.string bytes, d) => bytes.length + uptoBulk d + 1
  | (_, d) => uptoBulk d + 1
 end
def uptoSmall : (H : Type) → List (DataW H) → Bool := fun _ ds => decide (uptoBulkAll ds ≤ 1048576)
def OpenSpec.upto (s : _root_.Go.ChangeSpec) : _root_.Go.OpenSpec := { _root_.Go.OpenSpec.ofChange s with cond := some uptoSmall }

/-- 'laws.FnCoinJoinRange', WHERE WHAT IT READS IS OF BULK AT MOST 1048576: true; the input reads as it did. -/
def fnCoinJoinRangeUptoRow : OpenClaim := { program := "ytkndndcjchlpdab", sum := "9d722bae397e45cd030af3f01dc2c23855b5e818c13005216f065e9ebf363cbf", func := "loop.example/dagconsensus/laws.FnCoinJoinRange", spec := "fnCoinJoinRange", unfollowed := true, recurses := true, apart := false, narrowed := true }
def FnCoinJoinRangeUptoSaid : Prop := fnCoinJoinRangeUptoRow.holds Try.pinned (OpenSpec.upto fnCoinJoinRangeSpec)

/-- 'laws.FnCoinLeader', WHERE WHAT IT READS IS OF BULK AT MOST 1048576: true; the input reads as it did. -/
def fnCoinLeaderUptoRow : OpenClaim := { program := "ytkndndcjchlpdab", sum := "9d722bae397e45cd030af3f01dc2c23855b5e818c13005216f065e9ebf363cbf", func := "loop.example/dagconsensus/laws.FnCoinLeader", spec := "fnCoinLeader", apart := false, narrowed := true }
def FnCoinLeaderUptoSaid : Prop := fnCoinLeaderUptoRow.holds Try.pinned (OpenSpec.upto fnCoinLeaderSpec)

/-- 'laws.FnExactCoinDeal', WHERE WHAT IT READS IS OF BULK AT MOST 1048576: true; the input reads as it did. -/
def fnExactCoinDealUptoRow : OpenClaim := { program := "ytkndndcjchlpdab", sum := "9d722bae397e45cd030af3f01dc2c23855b5e818c13005216f065e9ebf363cbf", func := "loop.example/dagconsensus/laws.FnExactCoinDeal", spec := "fnExactCoinDeal", unfollowed := true, recurses := true, apart := false, narrowed := true }
def FnExactCoinDealUptoSaid : Prop := fnExactCoinDealUptoRow.holds Try.pinned (OpenSpec.upto fnExactCoinDealSpec)

/-- 'laws.FnExactCoinMake', WHERE WHAT IT READS IS OF BULK AT MOST 1048576: true; the input reads as it did. -/
def fnExactCoinMakeUptoRow : OpenClaim := { program := "ytkndndcjchlpdab", sum := "9d722bae397e45cd030af3f01dc2c23855b5e818c13005216f065e9ebf363cbf", func := "loop.example/dagconsensus/laws.FnExactCoinMake", spec := "fnExactCoinMake", apart := false, narrowed := true }
def FnExactCoinMakeUptoSaid : Prop := fnExactCoinMakeUptoRow.holds Try.pinned (OpenSpec.upto fnExactCoinMakeSpec)

/-- 'laws.FnExactCoinJoin', WHERE WHAT IT READS IS OF BULK AT MOST 1048576: true; the input reads as it did. -/
def fnExactCoinJoinUptoRow : OpenClaim := { program := "ytkndndcjchlpdab", sum := "9d722bae397e45cd030af3f01dc2c23855b5e818c13005216f065e9ebf363cbf", func := "loop.example/dagconsensus/laws.FnExactCoinJoin", spec := "fnExactCoinJoin", unfollowed := true, recurses := true, apart := false, narrowed := true }
def FnExactCoinJoinUptoSaid : Prop := fnExactCoinJoinUptoRow.holds Try.pinned (OpenSpec.upto fnExactCoinJoinSpec)

/-- 'laws.FnExactCoinValue', WHERE WHAT IT READS IS OF BULK AT MOST 1048576: true; the input reads as it did. -/
def fnExactCoinValueUptoRow : OpenClaim := { program := "ytkndndcjchlpdab", sum := "9d722bae397e45cd030af3f01dc2c23855b5e818c13005216f065e9ebf363cbf", func := "loop.example/dagconsensus/laws.FnExactCoinValue", spec := "fnExactCoinValue", apart := false, narrowed := true }
def FnExactCoinValueUptoSaid : Prop := fnExactCoinValueUptoRow.holds Try.pinned (OpenSpec.upto fnExactCoinValueSpec)

/-- 'laws.FnExactCoinLeader', WHERE WHAT IT READS IS OF BULK AT MOST 1048576: true; the input reads as it did. -/
def fnExactCoinLeaderUptoRow : OpenClaim := { program := "ytkndndcjchlpdab", sum := "9d722bae397e45cd030af3f01dc2c23855b5e818c13005216f065e9ebf363cbf", func := "loop.example/dagconsensus/laws.FnExactCoinLeader", spec := "fnExactCoinLeader", apart := false, narrowed := true }
def FnExactCoinLeaderUptoSaid : Prop := fnExactCoinLeaderUptoRow.holds Try.pinned (OpenSpec.upto fnExactCoinLeaderSpec)

end Rows
end Go.Proofs.Ytkndndcjchlpdab
