/-
  No cell of these rows narrows 'for every input' (looked for: loops, veiled, ifaces, maps, wideKeys, modest, calm, conditions, laid).
  DERIVED. THE GIVEN ROWS OF THIS SEAT. 9 by the template 'for every input the law returns true; each argument reads behind the call as it read before'; 0 by the template 'total and deterministic' (their statements: YteglefchkecfjaaTotals.lean).
  GIVEN WITH THE SEED: the statements are not yours to turn. If you find one false, say at which input.
  Laid BY PROGRAM, IN A SANDBOX (cutbox-rows.mjs): the forced cells as the released guide's own fill.sh prints them over the translation 244d49893fc3dca5… (all of the seat's roots in one cut). By AI agents, Wed Nov 11 2026. No macro, syntax, notation, axiom, sorry.
-/
import Derived.Test.YteglefchkecfjaaChecked
import GoSem.Claim
import GoSem.ClaimJoined
import GoSem.ClaimMapViews
import Derived.JoinedTies
import Derived.KernelRfl
namespace Go.Proofs.Yteglefchkecfjaa
/- THE CELL 'sum', in the pinned program and in every row, IS THE sha256 OF THE DUMP (.gsa) THAT YteglefchkecfjaaProg.lean LOADS. Nothing in Lean hashes anything: it is a label: what it is worth is what the hold of that sum in a sandbox is worth. -/
noncomputable def Try.pinned : Pinned := { name := "yteglefchkecfjaa", sum := "244d49893fc3dca5cbf5015bdb1a6631b914d761dfad27b38d2b8eaf93e4bb78", checked := Try.checked }
namespace Rows
def none {H : Type} : Left H := { results := [], args := [] }

/-- 'laws.FnShardJoinMatches': WHATEVER THE INPUT: true; the input reads as it did. -/
def fnShardJoinMatchesSpec : ChangeSpec := { name := "fnShardJoinMatches", fn := fun _ => fun
  | [d] => { results := [.lit (.bool true)], args := [d] }
  | _ => none }
def fnShardJoinMatchesRow : OpenClaim := { program := "yteglefchkecfjaa", sum := "244d49893fc3dca5cbf5015bdb1a6631b914d761dfad27b38d2b8eaf93e4bb78", func := "loop.example/dagconsensus/laws.FnShardJoinMatches", spec := "fnShardJoinMatches", unfollowed := true, recurses := true, apart := false }
def FnShardJoinMatchesSaid : Prop := fnShardJoinMatchesRow.holds Try.pinned (OpenSpec.ofChange fnShardJoinMatchesSpec)

/-- ITS FALSE NEIGHBOUR: 'it returns false'. Refute it at one input. -/
def fnShardJoinMatchesWrong : ChangeSpec := { name := "fnShardJoinMatches", fn := fun _ => fun
  | [d] => { results := [.lit (.bool false)], args := [d] }
  | _ => none }
def FnShardJoinMatchesWrongFalsely : Prop := fnShardJoinMatchesRow.holds Try.pinned (OpenSpec.ofChange fnShardJoinMatchesWrong)

/-- 'laws.FnCertRoundTrip': WHATEVER THE INPUT: true; the input reads as it did. -/
def fnCertRoundTripSpec : ChangeSpec := { name := "fnCertRoundTrip", fn := fun _ => fun
  | [d] => { results := [.lit (.bool true)], args := [d] }
  | _ => none }
def fnCertRoundTripRow : OpenClaim := { program := "yteglefchkecfjaa", sum := "244d49893fc3dca5cbf5015bdb1a6631b914d761dfad27b38d2b8eaf93e4bb78", func := "loop.example/dagconsensus/laws.FnCertRoundTrip", spec := "fnCertRoundTrip", unfollowed := true, recurses := true, apart := false }
def FnCertRoundTripSaid : Prop := fnCertRoundTripRow.holds Try.pinned (OpenSpec.ofChange fnCertRoundTripSpec)

/-- ITS FALSE NEIGHBOUR: 'it returns false'. Refute it at one input. -/
def fnCertRoundTripWrong : ChangeSpec := { name := "fnCertRoundTrip", fn := fun _ => fun
  | [d] => { results := [.lit (.bool false)], args := [d] }
  | _ => none }
def FnCertRoundTripWrongFalsely : Prop := fnCertRoundTripRow.holds Try.pinned (OpenSpec.ofChange fnCertRoundTripWrong)

/-- 'laws.FnCertSigners': WHATEVER THE INPUT: true; the input reads as it did. -/
def fnCertSignersSpec : ChangeSpec := { name := "fnCertSigners", fn := fun _ => fun
  | [d] => { results := [.lit (.bool true)], args := [d] }
  | _ => none }
def fnCertSignersRow : OpenClaim := { program := "yteglefchkecfjaa", sum := "244d49893fc3dca5cbf5015bdb1a6631b914d761dfad27b38d2b8eaf93e4bb78", func := "loop.example/dagconsensus/laws.FnCertSigners", spec := "fnCertSigners", unfollowed := true, recurses := true, apart := false }
def FnCertSignersSaid : Prop := fnCertSignersRow.holds Try.pinned (OpenSpec.ofChange fnCertSignersSpec)

/-- ITS FALSE NEIGHBOUR: 'it returns false'. Refute it at one input. -/
def fnCertSignersWrong : ChangeSpec := { name := "fnCertSigners", fn := fun _ => fun
  | [d] => { results := [.lit (.bool false)], args := [d] }
  | _ => none }
def FnCertSignersWrongFalsely : Prop := fnCertSignersRow.holds Try.pinned (OpenSpec.ofChange fnCertSignersWrong)

/-- 'laws.FnCertDigest': WHATEVER THE INPUT: true; the input reads as it did. -/
def fnCertDigestSpec : ChangeSpec := { name := "fnCertDigest", fn := fun _ => fun
  | [d1, d2] => { results := [.lit (.bool true)], args := [d1, d2] }
  | _ => none }
def fnCertDigestRow : OpenClaim := { program := "yteglefchkecfjaa", sum := "244d49893fc3dca5cbf5015bdb1a6631b914d761dfad27b38d2b8eaf93e4bb78", func := "loop.example/dagconsensus/laws.FnCertDigest", spec := "fnCertDigest", unfollowed := true, recurses := true, apart := false }
def FnCertDigestSaid : Prop := fnCertDigestRow.holds Try.pinned (OpenSpec.ofChange fnCertDigestSpec)

/-- ITS FALSE NEIGHBOUR: 'it returns false'. Refute it at one input. -/
def fnCertDigestWrong : ChangeSpec := { name := "fnCertDigest", fn := fun _ => fun
  | [d1, d2] => { results := [.lit (.bool false)], args := [d1, d2] }
  | _ => none }
def FnCertDigestWrongFalsely : Prop := fnCertDigestRow.holds Try.pinned (OpenSpec.ofChange fnCertDigestWrong)

/-- 'laws.FnCertWrong': WHATEVER THE INPUT: true; the input reads as it did. -/
def fnCertWrongSpec : ChangeSpec := { name := "fnCertWrong", fn := fun _ => fun
  | [d1, d2] => { results := [.lit (.bool true)], args := [d1, d2] }
  | _ => none }
def fnCertWrongRow : OpenClaim := { program := "yteglefchkecfjaa", sum := "244d49893fc3dca5cbf5015bdb1a6631b914d761dfad27b38d2b8eaf93e4bb78", func := "loop.example/dagconsensus/laws.FnCertWrong", spec := "fnCertWrong", unfollowed := true, recurses := true, apart := false }
def FnCertWrongSaid : Prop := fnCertWrongRow.holds Try.pinned (OpenSpec.ofChange fnCertWrongSpec)

/-- ITS FALSE NEIGHBOUR: 'it returns false'. Refute it at one input. -/
def fnCertWrongWrong : ChangeSpec := { name := "fnCertWrong", fn := fun _ => fun
  | [d1, d2] => { results := [.lit (.bool false)], args := [d1, d2] }
  | _ => none }
def FnCertWrongWrongFalsely : Prop := fnCertWrongRow.holds Try.pinned (OpenSpec.ofChange fnCertWrongWrong)

/-- 'laws.FnCertQuorum': WHATEVER THE INPUT: true; the input reads as it did. -/
def fnCertQuorumSpec : ChangeSpec := { name := "fnCertQuorum", fn := fun _ => fun
  | [d1, d2] => { results := [.lit (.bool true)], args := [d1, d2] }
  | _ => none }
def fnCertQuorumRow : OpenClaim := { program := "yteglefchkecfjaa", sum := "244d49893fc3dca5cbf5015bdb1a6631b914d761dfad27b38d2b8eaf93e4bb78", func := "loop.example/dagconsensus/laws.FnCertQuorum", spec := "fnCertQuorum", unfollowed := true, recurses := true, apart := false }
def FnCertQuorumSaid : Prop := fnCertQuorumRow.holds Try.pinned (OpenSpec.ofChange fnCertQuorumSpec)

/-- ITS FALSE NEIGHBOUR: 'it returns false'. Refute it at one input. -/
def fnCertQuorumWrong : ChangeSpec := { name := "fnCertQuorum", fn := fun _ => fun
  | [d1, d2] => { results := [.lit (.bool false)], args := [d1, d2] }
  | _ => none }
def FnCertQuorumWrongFalsely : Prop := fnCertQuorumRow.holds Try.pinned (OpenSpec.ofChange fnCertQuorumWrong)

/-- 'laws.FnExactCertMake': WHATEVER THE INPUT: true; the input reads as it did. -/
def fnExactCertMakeSpec : ChangeSpec := { name := "fnExactCertMake", fn := fun _ => fun
  | [d1, d2, d3, d4] => { results := [.lit (.bool true)], args := [d1, d2, d3, d4] }
  | _ => none }
def fnExactCertMakeRow : OpenClaim := { program := "yteglefchkecfjaa", sum := "244d49893fc3dca5cbf5015bdb1a6631b914d761dfad27b38d2b8eaf93e4bb78", func := "loop.example/dagconsensus/laws.FnExactCertMake", spec := "fnExactCertMake", unfollowed := true, recurses := true, apart := false }
def FnExactCertMakeSaid : Prop := fnExactCertMakeRow.holds Try.pinned (OpenSpec.ofChange fnExactCertMakeSpec)

/-- ITS FALSE NEIGHBOUR: 'it returns false'. Refute it at one input. -/
def fnExactCertMakeWrong : ChangeSpec := { name := "fnExactCertMake", fn := fun _ => fun
  | [d1, d2, d3, d4] => { results := [.lit (.bool false)], args := [d1, d2, d3, d4] }
  | _ => none }
def FnExactCertMakeWrongFalsely : Prop := fnExactCertMakeRow.holds Try.pinned (OpenSpec.ofChange fnExactCertMakeWrong)

/-- 'laws.FnExactCertCheck': WHATEVER THE INPUT: true; the input reads as it did. -/
def fnExactCertCheckSpec : ChangeSpec := { name := "fnExactCertCheck", fn := fun _ => fun
  | [d1, d2, d3] => { results := [.lit (.bool true)], args := [d1, d2, d3] }
  | _ => none }
def fnExactCertCheckRow : OpenClaim := { program := "yteglefchkecfjaa", sum := "244d49893fc3dca5cbf5015bdb1a6631b914d761dfad27b38d2b8eaf93e4bb78", func := "loop.example/dagconsensus/laws.FnExactCertCheck", spec := "fnExactCertCheck", unfollowed := true, recurses := true, apart := false }
def FnExactCertCheckSaid : Prop := fnExactCertCheckRow.holds Try.pinned (OpenSpec.ofChange fnExactCertCheckSpec)

/-- ITS FALSE NEIGHBOUR: 'it returns false'. Refute it at one input. -/
def fnExactCertCheckWrong : ChangeSpec := { name := "fnExactCertCheck", fn := fun _ => fun
  | [d1, d2, d3] => { results := [.lit (.bool false)], args := [d1, d2, d3] }
  | _ => none }
def FnExactCertCheckWrongFalsely : Prop := fnExactCertCheckRow.holds Try.pinned (OpenSpec.ofChange fnExactCertCheckWrong)

/-- 'laws.FnGraphClosed': WHATEVER THE INPUT: true; the input reads as it did. -/
def fnGraphClosedSpec : ChangeSpec := { name := "fnGraphClosed", fn := fun _ => fun
  | [d] => { results := [.lit (.bool true)], args := [d] }
  | _ => none }
def fnGraphClosedRow : OpenClaim := { program := "yteglefchkecfjaa", sum := "244d49893fc3dca5cbf5015bdb1a6631b914d761dfad27b38d2b8eaf93e4bb78", func := "loop.example/dagconsensus/laws.FnGraphClosed", spec := "fnGraphClosed", unfollowed := true, recurses := true, apart := false }
def FnGraphClosedSaid : Prop := fnGraphClosedRow.holds Try.pinned (OpenSpec.ofChange fnGraphClosedSpec)

/-- ITS FALSE NEIGHBOUR: 'it returns false'. Refute it at one input. -/
def fnGraphClosedWrong : ChangeSpec := { name := "fnGraphClosed", fn := fun _ => fun
  | [d] => { results := [.lit (.bool false)], args := [d] }
  | _ => none }
def FnGraphClosedWrongFalsely : Prop := fnGraphClosedRow.holds Try.pinned (OpenSpec.ofChange fnGraphClosedWrong)

/- THE SECOND FORM. 'bulk': how many values and letters a reading holds, each counted each time it is reached (what is shared counts as often as it is met; a slice's spare places count too). A statement '..UptoSaid' is the law's where the arguments, and the package variables that the reading takes, are together of bulk at most 1048576: NARROWER than '..Said'. Prove '..Said' where nothing that the law and all that it calls make is longer than what came in: it says more and counts as full. Else prove '..UptoSaid'. A law counts once. -/
mutual
def uptoBulk {H : Type} : DataW H → Nat
  | .lit (.string bytes) => bytes.length + 1
  | .lit _ => 1
  | .nil => 1
  | .ptr d => uptoBulk d + 1
  | .slice elems spare => uptoBulkAll elems + uptoBulkAll spare + 1
  | .agg parts => uptoBulkAll parts + 1
  | .iface _ d => uptoBulk d + 1
  | .map entries => uptoBulkEntries entries + 1
  | .held _ => 1
def uptoBulkAll {H : Type} : List (DataW H) → Nat
  | [] => 0
  | d :: r => uptoBulk d + uptoBulkAll r
def uptoBulkEntries {H : Type} : List (Lit × DataW H) → Nat
  | [] => 0
  | x :: r => uptoBulkEntry x + uptoBulkEntries r
def uptoBulkEntry {H : Type} : Lit × DataW H → Nat
  | (.string bytes, d) => bytes.length + uptoBulk d + 1
  | (_, d) => uptoBulk d + 1
 end
def uptoSmall : (H : Type) → List (DataW H) → Bool := fun _ ds => decide (uptoBulkAll ds ≤ 1048576)
def OpenSpec.upto (s : _root_.Go.ChangeSpec) : _root_.Go.OpenSpec := { _root_.Go.OpenSpec.ofChange s with cond := some uptoSmall }

/-- 'laws.FnShardJoinMatches', WHERE WHAT IT READS IS OF BULK AT MOST 1048576: true; the input reads as it did. -/
def fnShardJoinMatchesUptoRow : OpenClaim := { program := "yteglefchkecfjaa", sum := "244d49893fc3dca5cbf5015bdb1a6631b914d761dfad27b38d2b8eaf93e4bb78", func := "loop.example/dagconsensus/laws.FnShardJoinMatches", spec := "fnShardJoinMatches", unfollowed := true, recurses := true, apart := false, narrowed := true }
def FnShardJoinMatchesUptoSaid : Prop := fnShardJoinMatchesUptoRow.holds Try.pinned (OpenSpec.upto fnShardJoinMatchesSpec)

/-- 'laws.FnCertRoundTrip', WHERE WHAT IT READS IS OF BULK AT MOST 1048576: true; the input reads as it did. -/
def fnCertRoundTripUptoRow : OpenClaim := { program := "yteglefchkecfjaa", sum := "244d49893fc3dca5cbf5015bdb1a6631b914d761dfad27b38d2b8eaf93e4bb78", func := "loop.example/dagconsensus/laws.FnCertRoundTrip", spec := "fnCertRoundTrip", unfollowed := true, recurses := true, apart := false, narrowed := true }
def FnCertRoundTripUptoSaid : Prop := fnCertRoundTripUptoRow.holds Try.pinned (OpenSpec.upto fnCertRoundTripSpec)

/-- 'laws.FnCertSigners', WHERE WHAT IT READS IS OF BULK AT MOST 1048576: true; the input reads as it did. -/
def fnCertSignersUptoRow : OpenClaim := { program := "yteglefchkecfjaa", sum := "244d49893fc3dca5cbf5015bdb1a6631b914d761dfad27b38d2b8eaf93e4bb78", func := "loop.example/dagconsensus/laws.FnCertSigners", spec := "fnCertSigners", unfollowed := true, recurses := true, apart := false, narrowed := true }
def FnCertSignersUptoSaid : Prop := fnCertSignersUptoRow.holds Try.pinned (OpenSpec.upto fnCertSignersSpec)

/-- 'laws.FnCertDigest', WHERE WHAT IT READS IS OF BULK AT MOST 1048576: true; the input reads as it did. -/
def fnCertDigestUptoRow : OpenClaim := { program := "yteglefchkecfjaa", sum := "244d49893fc3dca5cbf5015bdb1a6631b914d761dfad27b38d2b8eaf93e4bb78", func := "loop.example/dagconsensus/laws.FnCertDigest", spec := "fnCertDigest", unfollowed := true, recurses := true, apart := false, narrowed := true }
def FnCertDigestUptoSaid : Prop := fnCertDigestUptoRow.holds Try.pinned (OpenSpec.upto fnCertDigestSpec)

/-- 'laws.FnCertWrong', WHERE WHAT IT READS IS OF BULK AT MOST 1048576: true; the input reads as it did. -/
def fnCertWrongUptoRow : OpenClaim := { program := "yteglefchkecfjaa", sum := "244d49893fc3dca5cbf5015bdb1a6631b914d761dfad27b38d2b8eaf93e4bb78", func := "loop.example/dagconsensus/laws.FnCertWrong", spec := "fnCertWrong", unfollowed := true, recurses := true, apart := false, narrowed := true }
def FnCertWrongUptoSaid : Prop := fnCertWrongUptoRow.holds Try.pinned (OpenSpec.upto fnCertWrongSpec)

/-- 'laws.FnCertQuorum', WHERE WHAT IT READS IS OF BULK AT MOST 1048576: true; the input reads as it did. -/
def fnCertQuorumUptoRow : OpenClaim := { program := "yteglefchkecfjaa", sum := "244d49893fc3dca5cbf5015bdb1a6631b914d761dfad27b38d2b8eaf93e4bb78", func := "loop.example/dagconsensus/laws.FnCertQuorum", spec := "fnCertQuorum", unfollowed := true, recurses := true, apart := false, narrowed := true }
def FnCertQuorumUptoSaid : Prop := fnCertQuorumUptoRow.holds Try.pinned (OpenSpec.upto fnCertQuorumSpec)

/-- 'laws.FnExactCertMake', WHERE WHAT IT READS IS OF BULK AT MOST 1048576: true; the input reads as it did. -/
def fnExactCertMakeUptoRow : OpenClaim := { program := "yteglefchkecfjaa", sum := "244d49893fc3dca5cbf5015bdb1a6631b914d761dfad27b38d2b8eaf93e4bb78", func := "loop.example/dagconsensus/laws.FnExactCertMake", spec := "fnExactCertMake", unfollowed := true, recurses := true, apart := false, narrowed := true }
def FnExactCertMakeUptoSaid : Prop := fnExactCertMakeUptoRow.holds Try.pinned (OpenSpec.upto fnExactCertMakeSpec)

/-- 'laws.FnExactCertCheck', WHERE WHAT IT READS IS OF BULK AT MOST 1048576: true; the input reads as it did. -/
def fnExactCertCheckUptoRow : OpenClaim := { program := "yteglefchkecfjaa", sum := "244d49893fc3dca5cbf5015bdb1a6631b914d761dfad27b38d2b8eaf93e4bb78", func := "loop.example/dagconsensus/laws.FnExactCertCheck", spec := "fnExactCertCheck", unfollowed := true, recurses := true, apart := false, narrowed := true }
def FnExactCertCheckUptoSaid : Prop := fnExactCertCheckUptoRow.holds Try.pinned (OpenSpec.upto fnExactCertCheckSpec)

/-- 'laws.FnGraphClosed', WHERE WHAT IT READS IS OF BULK AT MOST 1048576: true; the input reads as it did. -/
def fnGraphClosedUptoRow : OpenClaim := { program := "yteglefchkecfjaa", sum := "244d49893fc3dca5cbf5015bdb1a6631b914d761dfad27b38d2b8eaf93e4bb78", func := "loop.example/dagconsensus/laws.FnGraphClosed", spec := "fnGraphClosed", unfollowed := true, recurses := true, apart := false, narrowed := true }
def FnGraphClosedUptoSaid : Prop := fnGraphClosedUptoRow.holds Try.pinned (OpenSpec.upto fnGraphClosedSpec)

end Rows
end Go.Proofs.Yteglefchkecfjaa
