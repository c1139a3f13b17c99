/-
  No cell of these rows narrows 'for every input' (looked for: loops, veiled, ifaces, maps, wideKeys, modest, calm, conditions, laid).
  DERIVED. THE GIVEN ROWS OF THIS SEAT. 7 by the template 'for every input the law returns true; each argument reads behind the call as it read before'; 0 by the template 'total and deterministic' (their statements: YtgkelcpiokmhfaaTotals.lean).
  GIVEN WITH THE SEED: the statements are not yours to turn. If you find one false, say at which input.
  Laid BY PROGRAM, IN A SANDBOX (cutbox-rows.mjs): the forced cells as the released guide's own fill.sh prints them over the translation 4bc3a70d53e43a96… (all of the seat's roots in one cut). By AI agents, Wed Nov 11 2026. No macro, syntax, notation, axiom, sorry.
-/
import Derived.Test.YtgkelcpiokmhfaaChecked
import GoSem.Claim
import GoSem.ClaimJoined
import GoSem.ClaimMapViews
import Derived.JoinedTies
import Derived.KernelRfl
namespace Go.Proofs.Ytgkelcpiokmhfaa
/- THE CELL 'sum', in the pinned program and in every row, IS THE sha256 OF THE DUMP (.gsa) THAT YtgkelcpiokmhfaaProg.lean LOADS. Nothing in Lean hashes anything: it is a label: what it is worth is what the hold of that sum in a sandbox is worth. -/
noncomputable def Try.pinned : Pinned := { name := "ytgkelcpiokmhfaa", sum := "4bc3a70d53e43a96ddb3c5bbd6b4bc5a615b58dcc641dfa29dc14e494b806901", checked := Try.checked }
namespace Rows
def none {H : Type} : Left H := { results := [], args := [] }

/-- 'laws.FnHashByte': WHATEVER THE INPUT: true; the input reads as it did. -/
def fnHashByteSpec : ChangeSpec := { name := "fnHashByte", fn := fun _ => fun
  | [d1, d2] => { results := [.lit (.bool true)], args := [d1, d2] }
  | _ => none }
def fnHashByteRow : OpenClaim := { program := "ytgkelcpiokmhfaa", sum := "4bc3a70d53e43a96ddb3c5bbd6b4bc5a615b58dcc641dfa29dc14e494b806901", func := "loop.example/dagconsensus/laws.FnHashByte", spec := "fnHashByte", apart := false }
def FnHashByteSaid : Prop := fnHashByteRow.holds Try.pinned (OpenSpec.ofChange fnHashByteSpec)

/-- ITS FALSE NEIGHBOUR: 'it returns false'. Refute it at one input. -/
def fnHashByteWrong : ChangeSpec := { name := "fnHashByte", fn := fun _ => fun
  | [d1, d2] => { results := [.lit (.bool false)], args := [d1, d2] }
  | _ => none }
def FnHashByteWrongFalsely : Prop := fnHashByteRow.holds Try.pinned (OpenSpec.ofChange fnHashByteWrong)

/-- 'laws.FnHashEmpty': WHATEVER THE INPUT: true; the input reads as it did. -/
def fnHashEmptySpec : ChangeSpec := { name := "fnHashEmpty", fn := fun _ => fun
  | [d] => { results := [.lit (.bool true)], args := [d] }
  | _ => none }
def fnHashEmptyRow : OpenClaim := { program := "ytgkelcpiokmhfaa", sum := "4bc3a70d53e43a96ddb3c5bbd6b4bc5a615b58dcc641dfa29dc14e494b806901", func := "loop.example/dagconsensus/laws.FnHashEmpty", spec := "fnHashEmpty", apart := false }
def FnHashEmptySaid : Prop := fnHashEmptyRow.holds Try.pinned (OpenSpec.ofChange fnHashEmptySpec)

/-- ITS FALSE NEIGHBOUR: 'it returns false'. Refute it at one input. -/
def fnHashEmptyWrong : ChangeSpec := { name := "fnHashEmpty", fn := fun _ => fun
  | [d] => { results := [.lit (.bool false)], args := [d] }
  | _ => none }
def FnHashEmptyWrongFalsely : Prop := fnHashEmptyRow.holds Try.pinned (OpenSpec.ofChange fnHashEmptyWrong)

/-- 'laws.FnHashPair': WHATEVER THE INPUT: true; the input reads as it did. -/
def fnHashPairSpec : ChangeSpec := { name := "fnHashPair", fn := fun _ => fun
  | [d1, d2] => { results := [.lit (.bool true)], args := [d1, d2] }
  | _ => none }
def fnHashPairRow : OpenClaim := { program := "ytgkelcpiokmhfaa", sum := "4bc3a70d53e43a96ddb3c5bbd6b4bc5a615b58dcc641dfa29dc14e494b806901", func := "loop.example/dagconsensus/laws.FnHashPair", spec := "fnHashPair", apart := false }
def FnHashPairSaid : Prop := fnHashPairRow.holds Try.pinned (OpenSpec.ofChange fnHashPairSpec)

/-- ITS FALSE NEIGHBOUR: 'it returns false'. Refute it at one input. -/
def fnHashPairWrong : ChangeSpec := { name := "fnHashPair", fn := fun _ => fun
  | [d1, d2] => { results := [.lit (.bool false)], args := [d1, d2] }
  | _ => none }
def FnHashPairWrongFalsely : Prop := fnHashPairRow.holds Try.pinned (OpenSpec.ofChange fnHashPairWrong)

/-- 'laws.FnMerkleProof': WHATEVER THE INPUT: true; the input reads as it did. -/
def fnMerkleProofSpec : ChangeSpec := { name := "fnMerkleProof", fn := fun _ => fun
  | [d] => { results := [.lit (.bool true)], args := [d] }
  | _ => none }
def fnMerkleProofRow : OpenClaim := { program := "ytgkelcpiokmhfaa", sum := "4bc3a70d53e43a96ddb3c5bbd6b4bc5a615b58dcc641dfa29dc14e494b806901", func := "loop.example/dagconsensus/laws.FnMerkleProof", spec := "fnMerkleProof", unfollowed := true, recurses := true, apart := false }
def FnMerkleProofSaid : Prop := fnMerkleProofRow.holds Try.pinned (OpenSpec.ofChange fnMerkleProofSpec)

/-- ITS FALSE NEIGHBOUR: 'it returns false'. Refute it at one input. -/
def fnMerkleProofWrong : ChangeSpec := { name := "fnMerkleProof", fn := fun _ => fun
  | [d] => { results := [.lit (.bool false)], args := [d] }
  | _ => none }
def FnMerkleProofWrongFalsely : Prop := fnMerkleProofRow.holds Try.pinned (OpenSpec.ofChange fnMerkleProofWrong)

/-- 'laws.FnMerkleLeaf': WHATEVER THE INPUT: true; the input reads as it did. -/
def fnMerkleLeafSpec : ChangeSpec := { name := "fnMerkleLeaf", fn := fun _ => fun
  | [d1, d2] => { results := [.lit (.bool true)], args := [d1, d2] }
  | _ => none }
def fnMerkleLeafRow : OpenClaim := { program := "ytgkelcpiokmhfaa", sum := "4bc3a70d53e43a96ddb3c5bbd6b4bc5a615b58dcc641dfa29dc14e494b806901", func := "loop.example/dagconsensus/laws.FnMerkleLeaf", spec := "fnMerkleLeaf", unfollowed := true, recurses := true, apart := false }
def FnMerkleLeafSaid : Prop := fnMerkleLeafRow.holds Try.pinned (OpenSpec.ofChange fnMerkleLeafSpec)

/-- ITS FALSE NEIGHBOUR: 'it returns false'. Refute it at one input. -/
def fnMerkleLeafWrong : ChangeSpec := { name := "fnMerkleLeaf", fn := fun _ => fun
  | [d1, d2] => { results := [.lit (.bool false)], args := [d1, d2] }
  | _ => none }
def FnMerkleLeafWrongFalsely : Prop := fnMerkleLeafRow.holds Try.pinned (OpenSpec.ofChange fnMerkleLeafWrong)

/-- 'laws.FnMerkleChange': WHATEVER THE INPUT: true; the input reads as it did. -/
def fnMerkleChangeSpec : ChangeSpec := { name := "fnMerkleChange", fn := fun _ => fun
  | [d1, d2] => { results := [.lit (.bool true)], args := [d1, d2] }
  | _ => none }
def fnMerkleChangeRow : OpenClaim := { program := "ytgkelcpiokmhfaa", sum := "4bc3a70d53e43a96ddb3c5bbd6b4bc5a615b58dcc641dfa29dc14e494b806901", func := "loop.example/dagconsensus/laws.FnMerkleChange", spec := "fnMerkleChange", unfollowed := true, recurses := true, apart := false }
def FnMerkleChangeSaid : Prop := fnMerkleChangeRow.holds Try.pinned (OpenSpec.ofChange fnMerkleChangeSpec)

/-- ITS FALSE NEIGHBOUR: 'it returns false'. Refute it at one input. -/
def fnMerkleChangeWrong : ChangeSpec := { name := "fnMerkleChange", fn := fun _ => fun
  | [d1, d2] => { results := [.lit (.bool false)], args := [d1, d2] }
  | _ => none }
def FnMerkleChangeWrongFalsely : Prop := fnMerkleChangeRow.holds Try.pinned (OpenSpec.ofChange fnMerkleChangeWrong)

/-- 'laws.FnMerkleSingle': WHATEVER THE INPUT: true; the input reads as it did. -/
def fnMerkleSingleSpec : ChangeSpec := { name := "fnMerkleSingle", fn := fun _ => fun
  | [d] => { results := [.lit (.bool true)], args := [d] }
  | _ => none }
def fnMerkleSingleRow : OpenClaim := { program := "ytgkelcpiokmhfaa", sum := "4bc3a70d53e43a96ddb3c5bbd6b4bc5a615b58dcc641dfa29dc14e494b806901", func := "loop.example/dagconsensus/laws.FnMerkleSingle", spec := "fnMerkleSingle", unfollowed := true, recurses := true, apart := false }
def FnMerkleSingleSaid : Prop := fnMerkleSingleRow.holds Try.pinned (OpenSpec.ofChange fnMerkleSingleSpec)

/-- ITS FALSE NEIGHBOUR: 'it returns false'. Refute it at one input. -/
def fnMerkleSingleWrong : ChangeSpec := { name := "fnMerkleSingle", fn := fun _ => fun
  | [d] => { results := [.lit (.bool false)], args := [d] }
  | _ => none }
def FnMerkleSingleWrongFalsely : Prop := fnMerkleSingleRow.holds Try.pinned (OpenSpec.ofChange fnMerkleSingleWrong)

/- THE SECOND FORM. 'bulk': how many values and letters a reading holds, each counted each time it is reached (what is shared counts as often as it is met; a slice's spare places count too). A statement '..UptoSaid' is the law's where the arguments, and the package variables that the reading takes, are together of bulk at most 1048576: NARROWER than '..Said'. Prove '..Said' where nothing that the law and all that it calls make is longer than what came in: it says more and counts as full. Else prove '..UptoSaid'. A law counts once. -/
mutual
def uptoBulk {H : Type} : DataW H → Nat
  | .lit (.string bytes) => bytes.length + 1
  | .lit _ => 1
  | .nil => 1
  | .ptr d => uptoBulk d + 1
  | .slice elems spare => uptoBulkAll elems + uptoBulkAll spare + 1
  | .agg parts => uptoBulkAll parts + 1
  | .iface _ d => uptoBulk d + 1
  | .map entries => uptoBulkEntries entries + 1
  | .held _ => 1
def uptoBulkAll {H : Type} : List (DataW H) → Nat
  | [] => 0
  | d :: r => uptoBulk d + uptoBulkAll r
def uptoBulkEntries {H : Type} : List (Lit × DataW H) → Nat
  | [] => 0
  | x :: r => uptoBulkEntry x + uptoBulkEntries r
def uptoBulkEntry {H : Type} : Lit × DataW H → Nat
  | (.string bytes, d) => bytes.length + uptoBulk d + 1
  | (_, d) => uptoBulk d + 1
 end
def uptoSmall : (H : Type) → List (DataW H) → Bool := fun _ ds => decide (uptoBulkAll ds ≤ 1048576)
def OpenSpec.upto (s : _root_.Go.ChangeSpec) : _root_.Go.OpenSpec := { _root_.Go.OpenSpec.ofChange s with cond := some uptoSmall }

/-- 'laws.FnHashByte', WHERE WHAT IT READS IS OF BULK AT MOST 1048576: true; the input reads as it did. -/
def fnHashByteUptoRow : OpenClaim := { program := "ytgkelcpiokmhfaa", sum := "4bc3a70d53e43a96ddb3c5bbd6b4bc5a615b58dcc641dfa29dc14e494b806901", func := "loop.example/dagconsensus/laws.FnHashByte", spec := "fnHashByte", apart := false, narrowed := true }
def FnHashByteUptoSaid : Prop := fnHashByteUptoRow.holds Try.pinned (OpenSpec.upto fnHashByteSpec)

/-- 'laws.FnHashEmpty', WHERE WHAT IT READS IS OF BULK AT MOST 1048576: true; the input reads as it did. -/
def fnHashEmptyUptoRow : OpenClaim := { program := "ytgkelcpiokmhfaa", sum := "4bc3a70d53e43a96ddb3c5bbd6b4bc5a615b58dcc641dfa29dc14e494b806901", func := "loop.example/dagconsensus/laws.FnHashEmpty", spec := "fnHashEmpty", apart := false, narrowed := true }
def FnHashEmptyUptoSaid : Prop := fnHashEmptyUptoRow.holds Try.pinned (OpenSpec.upto fnHashEmptySpec)

/-- 'laws.FnHashPair', WHERE WHAT IT READS IS OF BULK AT MOST 1048576: true; the input reads as it did. -/
def fnHashPairUptoRow : OpenClaim := { program := "ytgkelcpiokmhfaa", sum := "4bc3a70d53e43a96ddb3c5bbd6b4bc5a615b58dcc641dfa29dc14e494b806901", func := "loop.example/dagconsensus/laws.FnHashPair", spec := "fnHashPair", apart := false, narrowed := true }
def FnHashPairUptoSaid : Prop := fnHashPairUptoRow.holds Try.pinned (OpenSpec.upto fnHashPairSpec)

/-- 'laws.FnMerkleProof', WHERE WHAT IT READS IS OF BULK AT MOST 1048576: true; the input reads as it did. -/
def fnMerkleProofUptoRow : OpenClaim := { program := "ytgkelcpiokmhfaa", sum := "4bc3a70d53e43a96ddb3c5bbd6b4bc5a615b58dcc641dfa29dc14e494b806901", func := "loop.example/dagconsensus/laws.FnMerkleProof", spec := "fnMerkleProof", unfollowed := true, recurses := true, apart := false, narrowed := true }
def FnMerkleProofUptoSaid : Prop := fnMerkleProofUptoRow.holds Try.pinned (OpenSpec.upto fnMerkleProofSpec)

/-- 'laws.FnMerkleLeaf', WHERE WHAT IT READS IS OF BULK AT MOST 1048576: true; the input reads as it did. -/
def fnMerkleLeafUptoRow : OpenClaim := { program := "ytgkelcpiokmhfaa", sum := "4bc3a70d53e43a96ddb3c5bbd6b4bc5a615b58dcc641dfa29dc14e494b806901", func := "loop.example/dagconsensus/laws.FnMerkleLeaf", spec := "fnMerkleLeaf", unfollowed := true, recurses := true, apart := false, narrowed := true }
def FnMerkleLeafUptoSaid : Prop := fnMerkleLeafUptoRow.holds Try.pinned (OpenSpec.upto fnMerkleLeafSpec)

/-- 'laws.FnMerkleChange', WHERE WHAT IT READS IS OF BULK AT MOST 1048576: true; the input reads as it did. -/
def fnMerkleChangeUptoRow : OpenClaim := { program := "ytgkelcpiokmhfaa", sum := "4bc3a70d53e43a96ddb3c5bbd6b4bc5a615b58dcc641dfa29dc14e494b806901", func := "loop.example/dagconsensus/laws.FnMerkleChange", spec := "fnMerkleChange", unfollowed := true, recurses := true, apart := false, narrowed := true }
def FnMerkleChangeUptoSaid : Prop := fnMerkleChangeUptoRow.holds Try.pinned (OpenSpec.upto fnMerkleChangeSpec)

/-- 'laws.FnMerkleSingle', WHERE WHAT IT READS IS OF BULK AT MOST 1048576: true; the input reads as it did. -/
def fnMerkleSingleUptoRow : OpenClaim := { program := "ytgkelcpiokmhfaa", sum := "4bc3a70d53e43a96ddb3c5bbd6b4bc5a615b58dcc641dfa29dc14e494b806901", func := "loop.example/dagconsensus/laws.FnMerkleSingle", spec := "fnMerkleSingle", unfollowed := true, recurses := true, apart := false, narrowed := true }
def FnMerkleSingleUptoSaid : Prop := fnMerkleSingleUptoRow.holds Try.pinned (OpenSpec.upto fnMerkleSingleSpec)

end Rows
end Go.Proofs.Ytgkelcpiokmhfaa
