/-
  No cell of these rows narrows 'for every input' (looked for: loops, veiled, ifaces, maps, wideKeys, modest, calm, conditions, laid).
  DERIVED. THE GIVEN ROWS OF THIS SEAT. 4 by the template 'for every input the law returns true; each argument reads behind the call as it read before'; 0 by the template 'total and deterministic' (their statements: YtogklmkepdljpabTotals.lean).
  GIVEN WITH THE SEED: the statements are not yours to turn. If you find one false, say at which input.
  Laid BY PROGRAM, IN A SANDBOX (cutbox-rows.mjs): the forced cells as the released guide's own fill.sh prints them over the translation fa5fb337529d0119… (all of the seat's roots in one cut). By AI agents, Wed Nov 11 2026. No macro, syntax, notation, axiom, sorry.
-/
import Derived.Test.YtogklmkepdljpabChecked
import GoSem.Claim
import GoSem.ClaimJoined
import GoSem.ClaimMapViews
import Derived.JoinedTies
import Derived.KernelRfl
namespace Go.Proofs.Ytogklmkepdljpab
/- THE CELL 'sum', in the pinned program and in every row, IS THE sha256 OF THE DUMP (.gsa) THAT YtogklmkepdljpabProg.lean LOADS. Nothing in Lean hashes anything: it is a label: what it is worth is what the hold of that sum in a sandbox is worth. -/
noncomputable def Try.pinned : Pinned := { name := "ytogklmkepdljpab", sum := "fa5fb337529d0119d13862738c5d96ba97a76afe534a9baf504e2d9e3e51c5da", checked := Try.checked }
namespace Rows
def none {H : Type} : Left H := { results := [], args := [] }

/-- 'laws.FnExactCommitteeQuorum': WHATEVER THE INPUT: true; the input reads as it did. -/
def fnExactCommitteeQuorumSpec : ChangeSpec := { name := "fnExactCommitteeQuorum", fn := fun _ => fun
  | [d] => { results := [.lit (.bool true)], args := [d] }
  | _ => none }
def fnExactCommitteeQuorumRow : OpenClaim := { program := "ytogklmkepdljpab", sum := "fa5fb337529d0119d13862738c5d96ba97a76afe534a9baf504e2d9e3e51c5da", func := "loop.example/dagconsensus/laws.FnExactCommitteeQuorum", spec := "fnExactCommitteeQuorum", apart := false }
def FnExactCommitteeQuorumSaid : Prop := fnExactCommitteeQuorumRow.holds Try.pinned (OpenSpec.ofChange fnExactCommitteeQuorumSpec)

/-- ITS FALSE NEIGHBOUR: 'it returns false'. Refute it at one input. -/
def fnExactCommitteeQuorumWrong : ChangeSpec := { name := "fnExactCommitteeQuorum", fn := fun _ => fun
  | [d] => { results := [.lit (.bool false)], args := [d] }
  | _ => none }
def FnExactCommitteeQuorumWrongFalsely : Prop := fnExactCommitteeQuorumRow.holds Try.pinned (OpenSpec.ofChange fnExactCommitteeQuorumWrong)

/-- 'laws.FnExactCommitteeSupport': WHATEVER THE INPUT: true; the input reads as it did. -/
def fnExactCommitteeSupportSpec : ChangeSpec := { name := "fnExactCommitteeSupport", fn := fun _ => fun
  | [d] => { results := [.lit (.bool true)], args := [d] }
  | _ => none }
def fnExactCommitteeSupportRow : OpenClaim := { program := "ytogklmkepdljpab", sum := "fa5fb337529d0119d13862738c5d96ba97a76afe534a9baf504e2d9e3e51c5da", func := "loop.example/dagconsensus/laws.FnExactCommitteeSupport", spec := "fnExactCommitteeSupport", apart := false }
def FnExactCommitteeSupportSaid : Prop := fnExactCommitteeSupportRow.holds Try.pinned (OpenSpec.ofChange fnExactCommitteeSupportSpec)

/-- ITS FALSE NEIGHBOUR: 'it returns false'. Refute it at one input. -/
def fnExactCommitteeSupportWrong : ChangeSpec := { name := "fnExactCommitteeSupport", fn := fun _ => fun
  | [d] => { results := [.lit (.bool false)], args := [d] }
  | _ => none }
def FnExactCommitteeSupportWrongFalsely : Prop := fnExactCommitteeSupportRow.holds Try.pinned (OpenSpec.ofChange fnExactCommitteeSupportWrong)

/-- 'laws.FnExactMembersValid': WHATEVER THE INPUT: true; the input reads as it did. -/
def fnExactMembersValidSpec : ChangeSpec := { name := "fnExactMembersValid", fn := fun _ => fun
  | [d1, d2] => { results := [.lit (.bool true)], args := [d1, d2] }
  | _ => none }
def fnExactMembersValidRow : OpenClaim := { program := "ytogklmkepdljpab", sum := "fa5fb337529d0119d13862738c5d96ba97a76afe534a9baf504e2d9e3e51c5da", func := "loop.example/dagconsensus/laws.FnExactMembersValid", spec := "fnExactMembersValid", apart := false }
def FnExactMembersValidSaid : Prop := fnExactMembersValidRow.holds Try.pinned (OpenSpec.ofChange fnExactMembersValidSpec)

/-- ITS FALSE NEIGHBOUR: 'it returns false'. Refute it at one input. -/
def fnExactMembersValidWrong : ChangeSpec := { name := "fnExactMembersValid", fn := fun _ => fun
  | [d1, d2] => { results := [.lit (.bool false)], args := [d1, d2] }
  | _ => none }
def FnExactMembersValidWrongFalsely : Prop := fnExactMembersValidRow.holds Try.pinned (OpenSpec.ofChange fnExactMembersValidWrong)

/-- 'laws.FnExactMembersWeight': WHATEVER THE INPUT: true; the input reads as it did. -/
def fnExactMembersWeightSpec : ChangeSpec := { name := "fnExactMembersWeight", fn := fun _ => fun
  | [d1, d2] => { results := [.lit (.bool true)], args := [d1, d2] }
  | _ => none }
def fnExactMembersWeightRow : OpenClaim := { program := "ytogklmkepdljpab", sum := "fa5fb337529d0119d13862738c5d96ba97a76afe534a9baf504e2d9e3e51c5da", func := "loop.example/dagconsensus/laws.FnExactMembersWeight", spec := "fnExactMembersWeight", apart := false }
def FnExactMembersWeightSaid : Prop := fnExactMembersWeightRow.holds Try.pinned (OpenSpec.ofChange fnExactMembersWeightSpec)

/-- ITS FALSE NEIGHBOUR: 'it returns false'. Refute it at one input. -/
def fnExactMembersWeightWrong : ChangeSpec := { name := "fnExactMembersWeight", fn := fun _ => fun
  | [d1, d2] => { results := [.lit (.bool false)], args := [d1, d2] }
  | _ => none }
def FnExactMembersWeightWrongFalsely : Prop := fnExactMembersWeightRow.holds Try.pinned (OpenSpec.ofChange fnExactMembersWeightWrong)

/- THE SECOND FORM. 'bulk': how many values and letters a reading holds, each counted each time it is reached (what is shared counts as often as it is met; a slice's spare places count too). A statement '..UptoSaid' is the law's where the arguments, and the package variables that the reading takes, are together of bulk at most 1048576: NARROWER than '..Said'. Prove '..Said' where nothing that the law and all that it calls make is longer than what came in: it says more and counts as full. Else prove '..UptoSaid'. A law counts once. -/
mutual
def uptoBulk {H : Type} : DataW H → Nat
  | .lit (.string bytes) => bytes.length + 1
  | .lit _ => 1
  | .nil => 1
  | .ptr d => uptoBulk d + 1
  | .slice elems spare => uptoBulkAll elems + uptoBulkAll spare + 1
  | .agg parts => uptoBulkAll parts + 1
  | .iface _ d => uptoBulk d + 1
  | .map entries => uptoBulkEntries entries + 1
  | .held _ => 1
def uptoBulkAll {H : Type} : List (DataW H) → Nat
  | [] => 0
  | d :: r => uptoBulk d + uptoBulkAll r
def uptoBulkEntries {H : Type} : List (Lit × DataW H) → Nat
  | [] => 0
  | x :: r => uptoBulkEntry x + uptoBulkEntries r
def uptoBulkEntry {H : Type} : Lit × DataW H → Nat
  | (.string bytes, d) => bytes.length + uptoBulk d + 1
  | (_, d) => uptoBulk d + 1
 end
def uptoSmall : (H : Type) → List (DataW H) → Bool := fun _ ds => decide (uptoBulkAll ds ≤ 1048576)
def OpenSpec.upto (s : _root_.Go.ChangeSpec) : _root_.Go.OpenSpec := { _root_.Go.OpenSpec.ofChange s with cond := some uptoSmall }

/-- 'laws.FnExactCommitteeQuorum', WHERE WHAT IT READS IS OF BULK AT MOST 1048576: true; the input reads as it did. -/
def fnExactCommitteeQuorumUptoRow : OpenClaim := { program := "ytogklmkepdljpab", sum := "fa5fb337529d0119d13862738c5d96ba97a76afe534a9baf504e2d9e3e51c5da", func := "loop.example/dagconsensus/laws.FnExactCommitteeQuorum", spec := "fnExactCommitteeQuorum", apart := false, narrowed := true }
def FnExactCommitteeQuorumUptoSaid : Prop := fnExactCommitteeQuorumUptoRow.holds Try.pinned (OpenSpec.upto fnExactCommitteeQuorumSpec)

/-- 'laws.FnExactCommitteeSupport', WHERE WHAT IT READS IS OF BULK AT MOST 1048576: true; the input reads as it did. -/
def fnExactCommitteeSupportUptoRow : OpenClaim := { program := "ytogklmkepdljpab", sum := "fa5fb337529d0119d13862738c5d96ba97a76afe534a9baf504e2d9e3e51c5da", func := "loop.example/dagconsensus/laws.FnExactCommitteeSupport", spec := "fnExactCommitteeSupport", apart := false, narrowed := true }
def FnExactCommitteeSupportUptoSaid : Prop := fnExactCommitteeSupportUptoRow.holds Try.pinned (OpenSpec.upto fnExactCommitteeSupportSpec)

/-- 'laws.FnExactMembersValid', WHERE WHAT IT READS IS OF BULK AT MOST 1048576: true; the input reads as it did. -/
def fnExactMembersValidUptoRow : OpenClaim := { program := "ytogklmkepdljpab", sum := "fa5fb337529d0119d13862738c5d96ba97a76afe534a9baf504e2d9e3e51c5da", func := "loop.example/dagconsensus/laws.FnExactMembersValid", spec := "fnExactMembersValid", apart := false, narrowed := true }
def FnExactMembersValidUptoSaid : Prop := fnExactMembersValidUptoRow.holds Try.pinned (OpenSpec.upto fnExactMembersValidSpec)

/-- 'laws.FnExactMembersWeight', WHERE WHAT IT READS IS OF BULK AT MOST 1048576: true; the input reads as it did. -/
def fnExactMembersWeightUptoRow : OpenClaim := { program := "ytogklmkepdljpab", sum := "fa5fb337529d0119d13862738c5d96ba97a76afe534a9baf504e2d9e3e51c5da", func := "loop.example/dagconsensus/laws.FnExactMembersWeight", spec := "fnExactMembersWeight", apart := false, narrowed := true }
def FnExactMembersWeightUptoSaid : Prop := fnExactMembersWeightUptoRow.holds Try.pinned (OpenSpec.upto fnExactMembersWeightSpec)

end Rows
end Go.Proofs.Ytogklmkepdljpab
