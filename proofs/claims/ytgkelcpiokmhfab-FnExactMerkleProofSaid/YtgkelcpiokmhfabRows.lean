/-
  No cell of these rows narrows 'for every input' (looked for: loops, veiled, ifaces, maps, wideKeys, modest, calm, conditions, laid).
  DERIVED. THE GIVEN ROWS OF THIS SEAT. 7 by the template 'for every input the law returns true; each argument reads behind the call as it read before'; 0 by the template 'total and deterministic' (their statements: YtgkelcpiokmhfabTotals.lean).
  GIVEN WITH THE SEED: the statements are not yours to turn. If you find one false, say at which input.
  Laid BY PROGRAM, IN A SANDBOX (cutbox-rows.mjs): the forced cells as the released guide's own fill.sh prints them over the translation 36e980fa012c5bf2… (all of the seat's roots in one cut). By AI agents, Wed Nov 11 2026. No macro, syntax, notation, axiom, sorry.
-/
import Derived.Test.YtgkelcpiokmhfabChecked
import GoSem.Claim
import GoSem.ClaimJoined
import GoSem.ClaimMapViews
import Derived.JoinedTies
import Derived.KernelRfl
namespace Go.Proofs.Ytgkelcpiokmhfab
/- THE CELL 'sum', in the pinned program and in every row, IS THE sha256 OF THE DUMP (.gsa) THAT YtgkelcpiokmhfabProg.lean LOADS. Nothing in Lean hashes anything: it is a label: what it is worth is what the hold of that sum in a sandbox is worth. -/
noncomputable def Try.pinned : Pinned := { name := "ytgkelcpiokmhfab", sum := "36e980fa012c5bf2cbfa27e1a8d46b3cab41fc5d0162379115c1a5b60be6205d", checked := Try.checked }
namespace Rows
def none {H : Type} : Left H := { results := [], args := [] }

/-- 'laws.FnMerkleLength': WHATEVER THE INPUT: true; the input reads as it did. -/
def fnMerkleLengthSpec : ChangeSpec := { name := "fnMerkleLength", fn := fun _ => fun
  | [d] => { results := [.lit (.bool true)], args := [d] }
  | _ => none }
def fnMerkleLengthRow : OpenClaim := { program := "ytgkelcpiokmhfab", sum := "36e980fa012c5bf2cbfa27e1a8d46b3cab41fc5d0162379115c1a5b60be6205d", func := "loop.example/dagconsensus/laws.FnMerkleLength", spec := "fnMerkleLength", unfollowed := true, recurses := true, apart := false }
def FnMerkleLengthSaid : Prop := fnMerkleLengthRow.holds Try.pinned (OpenSpec.ofChange fnMerkleLengthSpec)

/-- ITS FALSE NEIGHBOUR: 'it returns false'. Refute it at one input. -/
def fnMerkleLengthWrong : ChangeSpec := { name := "fnMerkleLength", fn := fun _ => fun
  | [d] => { results := [.lit (.bool false)], args := [d] }
  | _ => none }
def FnMerkleLengthWrongFalsely : Prop := fnMerkleLengthRow.holds Try.pinned (OpenSpec.ofChange fnMerkleLengthWrong)

/-- 'laws.FnMerkleRoots': WHATEVER THE INPUT: true; the input reads as it did. -/
def fnMerkleRootsSpec : ChangeSpec := { name := "fnMerkleRoots", fn := fun _ => fun
  | [d1, d2] => { results := [.lit (.bool true)], args := [d1, d2] }
  | _ => none }
def fnMerkleRootsRow : OpenClaim := { program := "ytgkelcpiokmhfab", sum := "36e980fa012c5bf2cbfa27e1a8d46b3cab41fc5d0162379115c1a5b60be6205d", func := "loop.example/dagconsensus/laws.FnMerkleRoots", spec := "fnMerkleRoots", unfollowed := true, recurses := true, apart := false }
def FnMerkleRootsSaid : Prop := fnMerkleRootsRow.holds Try.pinned (OpenSpec.ofChange fnMerkleRootsSpec)

/-- ITS FALSE NEIGHBOUR: 'it returns false'. Refute it at one input. -/
def fnMerkleRootsWrong : ChangeSpec := { name := "fnMerkleRoots", fn := fun _ => fun
  | [d1, d2] => { results := [.lit (.bool false)], args := [d1, d2] }
  | _ => none }
def FnMerkleRootsWrongFalsely : Prop := fnMerkleRootsRow.holds Try.pinned (OpenSpec.ofChange fnMerkleRootsWrong)

/-- 'laws.FnExactHashText': WHATEVER THE INPUT: true; the input reads as it did. -/
def fnExactHashTextSpec : ChangeSpec := { name := "fnExactHashText", fn := fun _ => fun
  | [d] => { results := [.lit (.bool true)], args := [d] }
  | _ => none }
def fnExactHashTextRow : OpenClaim := { program := "ytgkelcpiokmhfab", sum := "36e980fa012c5bf2cbfa27e1a8d46b3cab41fc5d0162379115c1a5b60be6205d", func := "loop.example/dagconsensus/laws.FnExactHashText", spec := "fnExactHashText", apart := false }
def FnExactHashTextSaid : Prop := fnExactHashTextRow.holds Try.pinned (OpenSpec.ofChange fnExactHashTextSpec)

/-- ITS FALSE NEIGHBOUR: 'it returns false'. Refute it at one input. -/
def fnExactHashTextWrong : ChangeSpec := { name := "fnExactHashText", fn := fun _ => fun
  | [d] => { results := [.lit (.bool false)], args := [d] }
  | _ => none }
def FnExactHashTextWrongFalsely : Prop := fnExactHashTextRow.holds Try.pinned (OpenSpec.ofChange fnExactHashTextWrong)

/-- 'laws.FnExactHashPair': WHATEVER THE INPUT: true; the input reads as it did. -/
def fnExactHashPairSpec : ChangeSpec := { name := "fnExactHashPair", fn := fun _ => fun
  | [d1, d2] => { results := [.lit (.bool true)], args := [d1, d2] }
  | _ => none }
def fnExactHashPairRow : OpenClaim := { program := "ytgkelcpiokmhfab", sum := "36e980fa012c5bf2cbfa27e1a8d46b3cab41fc5d0162379115c1a5b60be6205d", func := "loop.example/dagconsensus/laws.FnExactHashPair", spec := "fnExactHashPair", apart := false }
def FnExactHashPairSaid : Prop := fnExactHashPairRow.holds Try.pinned (OpenSpec.ofChange fnExactHashPairSpec)

/-- ITS FALSE NEIGHBOUR: 'it returns false'. Refute it at one input. -/
def fnExactHashPairWrong : ChangeSpec := { name := "fnExactHashPair", fn := fun _ => fun
  | [d1, d2] => { results := [.lit (.bool false)], args := [d1, d2] }
  | _ => none }
def FnExactHashPairWrongFalsely : Prop := fnExactHashPairRow.holds Try.pinned (OpenSpec.ofChange fnExactHashPairWrong)

/-- 'laws.FnExactMerkleRoot': WHATEVER THE INPUT: true; the input reads as it did. -/
def fnExactMerkleRootSpec : ChangeSpec := { name := "fnExactMerkleRoot", fn := fun _ => fun
  | [d] => { results := [.lit (.bool true)], args := [d] }
  | _ => none }
def fnExactMerkleRootRow : OpenClaim := { program := "ytgkelcpiokmhfab", sum := "36e980fa012c5bf2cbfa27e1a8d46b3cab41fc5d0162379115c1a5b60be6205d", func := "loop.example/dagconsensus/laws.FnExactMerkleRoot", spec := "fnExactMerkleRoot", unfollowed := true, recurses := true, apart := false }
def FnExactMerkleRootSaid : Prop := fnExactMerkleRootRow.holds Try.pinned (OpenSpec.ofChange fnExactMerkleRootSpec)

/-- ITS FALSE NEIGHBOUR: 'it returns false'. Refute it at one input. -/
def fnExactMerkleRootWrong : ChangeSpec := { name := "fnExactMerkleRoot", fn := fun _ => fun
  | [d] => { results := [.lit (.bool false)], args := [d] }
  | _ => none }
def FnExactMerkleRootWrongFalsely : Prop := fnExactMerkleRootRow.holds Try.pinned (OpenSpec.ofChange fnExactMerkleRootWrong)

/-- 'laws.FnExactMerkleProof': WHATEVER THE INPUT: true; the input reads as it did. -/
def fnExactMerkleProofSpec : ChangeSpec := { name := "fnExactMerkleProof", fn := fun _ => fun
  | [d1, d2] => { results := [.lit (.bool true)], args := [d1, d2] }
  | _ => none }
def fnExactMerkleProofRow : OpenClaim := { program := "ytgkelcpiokmhfab", sum := "36e980fa012c5bf2cbfa27e1a8d46b3cab41fc5d0162379115c1a5b60be6205d", func := "loop.example/dagconsensus/laws.FnExactMerkleProof", spec := "fnExactMerkleProof", unfollowed := true, recurses := true, apart := false }
def FnExactMerkleProofSaid : Prop := fnExactMerkleProofRow.holds Try.pinned (OpenSpec.ofChange fnExactMerkleProofSpec)

/-- ITS FALSE NEIGHBOUR: 'it returns false'. Refute it at one input. -/
def fnExactMerkleProofWrong : ChangeSpec := { name := "fnExactMerkleProof", fn := fun _ => fun
  | [d1, d2] => { results := [.lit (.bool false)], args := [d1, d2] }
  | _ => none }
def FnExactMerkleProofWrongFalsely : Prop := fnExactMerkleProofRow.holds Try.pinned (OpenSpec.ofChange fnExactMerkleProofWrong)

/-- 'laws.FnExactMerkleCheck': WHATEVER THE INPUT: true; the input reads as it did. -/
def fnExactMerkleCheckSpec : ChangeSpec := { name := "fnExactMerkleCheck", fn := fun _ => fun
  | [d1, d2, d3, d4, d5] => { results := [.lit (.bool true)], args := [d1, d2, d3, d4, d5] }
  | _ => none }
def fnExactMerkleCheckRow : OpenClaim := { program := "ytgkelcpiokmhfab", sum := "36e980fa012c5bf2cbfa27e1a8d46b3cab41fc5d0162379115c1a5b60be6205d", func := "loop.example/dagconsensus/laws.FnExactMerkleCheck", spec := "fnExactMerkleCheck", unfollowed := true, recurses := true, apart := false }
def FnExactMerkleCheckSaid : Prop := fnExactMerkleCheckRow.holds Try.pinned (OpenSpec.ofChange fnExactMerkleCheckSpec)

/-- ITS FALSE NEIGHBOUR: 'it returns false'. Refute it at one input. -/
def fnExactMerkleCheckWrong : ChangeSpec := { name := "fnExactMerkleCheck", fn := fun _ => fun
  | [d1, d2, d3, d4, d5] => { results := [.lit (.bool false)], args := [d1, d2, d3, d4, d5] }
  | _ => none }
def FnExactMerkleCheckWrongFalsely : Prop := fnExactMerkleCheckRow.holds Try.pinned (OpenSpec.ofChange fnExactMerkleCheckWrong)

/- THE SECOND FORM. 'bulk': how many values and letters a reading holds, each counted each time it is reached (what is shared counts as often as it is met; a slice's spare places count too). A statement '..UptoSaid' is the law's where the arguments, and the package variables that the reading takes, are together of bulk at most 1048576: NARROWER than '..Said'. Prove '..Said' where nothing that the law and all that it calls make is longer than what came in: it says more and counts as full. Else prove '..UptoSaid'. A law counts once. -/
mutual
def uptoBulk {H : Type} : DataW H → Nat
  | .lit (.string bytes) => bytes.length + 1
  | .lit _ => 1
  | .nil => 1
  | .ptr d => uptoBulk d + 1
  | .slice elems spare => uptoBulkAll elems + uptoBulkAll spare + 1
  | .agg parts => uptoBulkAll parts + 1
  | .iface _ d => uptoBulk d + 1
  | .map entries => uptoBulkEntries entries + 1
  | .held _ => 1
def uptoBulkAll {H : Type} : List (DataW H) → Nat
  | [] => 0
  | d :: r => uptoBulk d + uptoBulkAll r
def uptoBulkEntries {H : Type} : List (Lit × DataW H) → Nat
  | [] => 0
  | x :: r => uptoBulkEntry x + uptoBulkEntries r
def uptoBulkEntry {H : Type} : Lit × DataW H → Nat
  | (.string bytes, d) => bytes.length + uptoBulk d + 1
  | (_, d) => uptoBulk d + 1
 end
def uptoSmall : (H : Type) → List (DataW H) → Bool := fun _ ds => decide (uptoBulkAll ds ≤ 1048576)
def OpenSpec.upto (s : _root_.Go.ChangeSpec) : _root_.Go.OpenSpec := { _root_.Go.OpenSpec.ofChange s with cond := some uptoSmall }

/-- 'laws.FnMerkleLength', WHERE WHAT IT READS IS OF BULK AT MOST 1048576: true; the input reads as it did. -/
def fnMerkleLengthUptoRow : OpenClaim := { program := "ytgkelcpiokmhfab", sum := "36e980fa012c5bf2cbfa27e1a8d46b3cab41fc5d0162379115c1a5b60be6205d", func := "loop.example/dagconsensus/laws.FnMerkleLength", spec := "fnMerkleLength", unfollowed := true, recurses := true, apart := false, narrowed := true }
def FnMerkleLengthUptoSaid : Prop := fnMerkleLengthUptoRow.holds Try.pinned (OpenSpec.upto fnMerkleLengthSpec)

/-- 'laws.FnMerkleRoots', WHERE WHAT IT READS IS OF BULK AT MOST 1048576: true; the input reads as it did. -/
def fnMerkleRootsUptoRow : OpenClaim := { program := "ytgkelcpiokmhfab", sum := "36e980fa012c5bf2cbfa27e1a8d46b3cab41fc5d0162379115c1a5b60be6205d", func := "loop.example/dagconsensus/laws.FnMerkleRoots", spec := "fnMerkleRoots", unfollowed := true, recurses := true, apart := false, narrowed := true }
def FnMerkleRootsUptoSaid : Prop := fnMerkleRootsUptoRow.holds Try.pinned (OpenSpec.upto fnMerkleRootsSpec)

/-- 'laws.FnExactHashText', WHERE WHAT IT READS IS OF BULK AT MOST 1048576: true; the input reads as it did. -/
def fnExactHashTextUptoRow : OpenClaim := { program := "ytgkelcpiokmhfab", sum := "36e980fa012c5bf2cbfa27e1a8d46b3cab41fc5d0162379115c1a5b60be6205d", func := "loop.example/dagconsensus/laws.FnExactHashText", spec := "fnExactHashText", apart := false, narrowed := true }
def FnExactHashTextUptoSaid : Prop := fnExactHashTextUptoRow.holds Try.pinned (OpenSpec.upto fnExactHashTextSpec)

/-- 'laws.FnExactHashPair', WHERE WHAT IT READS IS OF BULK AT MOST 1048576: true; the input reads as it did. -/
def fnExactHashPairUptoRow : OpenClaim := { program := "ytgkelcpiokmhfab", sum := "36e980fa012c5bf2cbfa27e1a8d46b3cab41fc5d0162379115c1a5b60be6205d", func := "loop.example/dagconsensus/laws.FnExactHashPair", spec := "fnExactHashPair", apart := false, narrowed := true }
def FnExactHashPairUptoSaid : Prop := fnExactHashPairUptoRow.holds Try.pinned (OpenSpec.upto fnExactHashPairSpec)

/-- 'laws.FnExactMerkleRoot', WHERE WHAT IT READS IS OF BULK AT MOST 1048576: true; the input reads as it did. -/
def fnExactMerkleRootUptoRow : OpenClaim := { program := "ytgkelcpiokmhfab", sum := "36e980fa012c5bf2cbfa27e1a8d46b3cab41fc5d0162379115c1a5b60be6205d", func := "loop.example/dagconsensus/laws.FnExactMerkleRoot", spec := "fnExactMerkleRoot", unfollowed := true, recurses := true, apart := false, narrowed := true }
def FnExactMerkleRootUptoSaid : Prop := fnExactMerkleRootUptoRow.holds Try.pinned (OpenSpec.upto fnExactMerkleRootSpec)

/-- 'laws.FnExactMerkleProof', WHERE WHAT IT READS IS OF BULK AT MOST 1048576: true; the input reads as it did. -/
def fnExactMerkleProofUptoRow : OpenClaim := { program := "ytgkelcpiokmhfab", sum := "36e980fa012c5bf2cbfa27e1a8d46b3cab41fc5d0162379115c1a5b60be6205d", func := "loop.example/dagconsensus/laws.FnExactMerkleProof", spec := "fnExactMerkleProof", unfollowed := true, recurses := true, apart := false, narrowed := true }
def FnExactMerkleProofUptoSaid : Prop := fnExactMerkleProofUptoRow.holds Try.pinned (OpenSpec.upto fnExactMerkleProofSpec)

/-- 'laws.FnExactMerkleCheck', WHERE WHAT IT READS IS OF BULK AT MOST 1048576: true; the input reads as it did. -/
def fnExactMerkleCheckUptoRow : OpenClaim := { program := "ytgkelcpiokmhfab", sum := "36e980fa012c5bf2cbfa27e1a8d46b3cab41fc5d0162379115c1a5b60be6205d", func := "loop.example/dagconsensus/laws.FnExactMerkleCheck", spec := "fnExactMerkleCheck", unfollowed := true, recurses := true, apart := false, narrowed := true }
def FnExactMerkleCheckUptoSaid : Prop := fnExactMerkleCheckUptoRow.holds Try.pinned (OpenSpec.upto fnExactMerkleCheckSpec)

end Rows
end Go.Proofs.Ytgkelcpiokmhfab
