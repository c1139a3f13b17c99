/-
  No cell of these rows narrows 'for every input' (looked for: loops, veiled, ifaces, maps, wideKeys, modest, calm, conditions, laid).
  DERIVED. THE GIVEN ROWS OF THIS SEAT. 4 by the template 'for every input the law returns true; each argument reads behind the call as it read before'; 0 by the template 'total and deterministic' (their statements: YtekpapodepachaaTotals.lean).
  GIVEN WITH THE SEED: the statements are not yours to turn. If you find one false, say at which input.
  Laid BY PROGRAM, IN A SANDBOX (cutbox-rows.mjs): the forced cells as the released guide's own fill.sh prints them over the translation 98d1e932b4e011f5… (all of the seat's roots in one cut). By AI agents, Wed Nov 11 2026. No macro, syntax, notation, axiom, sorry.
-/
import Derived.Test.YtekpapodepachaaChecked
import GoSem.Claim
import GoSem.ClaimJoined
import GoSem.ClaimMapViews
import Derived.JoinedTies
import Derived.KernelRfl
namespace Go.Proofs.Ytekpapodepachaa
/- THE CELL 'sum', in the pinned program and in every row, IS THE sha256 OF THE DUMP (.gsa) THAT YtekpapodepachaaProg.lean LOADS. Nothing in Lean hashes anything: it is a label: what it is worth is what the hold of that sum in a sandbox is worth. -/
noncomputable def Try.pinned : Pinned := { name := "ytekpapodepachaa", sum := "98d1e932b4e011f59b71f62213e1317d1ff4e6a800325b86c5537e1ee50e65d7", checked := Try.checked }
namespace Rows
def none {H : Type} : Left H := { results := [], args := [] }

/-- 'laws.FnCoinJoin': WHATEVER THE INPUT: true; the input reads as it did. -/
def fnCoinJoinSpec : ChangeSpec := { name := "fnCoinJoin", fn := fun _ => fun
  | [d1, d2] => { results := [.lit (.bool true)], args := [d1, d2] }
  | _ => none }
def fnCoinJoinRow : OpenClaim := { program := "ytekpapodepachaa", sum := "98d1e932b4e011f59b71f62213e1317d1ff4e6a800325b86c5537e1ee50e65d7", func := "loop.example/dagconsensus/laws.FnCoinJoin", spec := "fnCoinJoin", unfollowed := true, recurses := true, apart := false }
def FnCoinJoinSaid : Prop := fnCoinJoinRow.holds Try.pinned (OpenSpec.ofChange fnCoinJoinSpec)

/-- ITS FALSE NEIGHBOUR: 'it returns false'. Refute it at one input. -/
def fnCoinJoinWrong : ChangeSpec := { name := "fnCoinJoin", fn := fun _ => fun
  | [d1, d2] => { results := [.lit (.bool false)], args := [d1, d2] }
  | _ => none }
def FnCoinJoinWrongFalsely : Prop := fnCoinJoinRow.holds Try.pinned (OpenSpec.ofChange fnCoinJoinWrong)

/-- 'laws.FnCoinAll': WHATEVER THE INPUT: true; the input reads as it did. -/
def fnCoinAllSpec : ChangeSpec := { name := "fnCoinAll", fn := fun _ => fun
  | [d1, d2] => { results := [.lit (.bool true)], args := [d1, d2] }
  | _ => none }
def fnCoinAllRow : OpenClaim := { program := "ytekpapodepachaa", sum := "98d1e932b4e011f59b71f62213e1317d1ff4e6a800325b86c5537e1ee50e65d7", func := "loop.example/dagconsensus/laws.FnCoinAll", spec := "fnCoinAll", unfollowed := true, recurses := true, apart := false }
def FnCoinAllSaid : Prop := fnCoinAllRow.holds Try.pinned (OpenSpec.ofChange fnCoinAllSpec)

/-- ITS FALSE NEIGHBOUR: 'it returns false'. Refute it at one input. -/
def fnCoinAllWrong : ChangeSpec := { name := "fnCoinAll", fn := fun _ => fun
  | [d1, d2] => { results := [.lit (.bool false)], args := [d1, d2] }
  | _ => none }
def FnCoinAllWrongFalsely : Prop := fnCoinAllRow.holds Try.pinned (OpenSpec.ofChange fnCoinAllWrong)

/-- 'laws.FnCoinFew': WHATEVER THE INPUT: true; the input reads as it did. -/
def fnCoinFewSpec : ChangeSpec := { name := "fnCoinFew", fn := fun _ => fun
  | [d1, d2] => { results := [.lit (.bool true)], args := [d1, d2] }
  | _ => none }
def fnCoinFewRow : OpenClaim := { program := "ytekpapodepachaa", sum := "98d1e932b4e011f59b71f62213e1317d1ff4e6a800325b86c5537e1ee50e65d7", func := "loop.example/dagconsensus/laws.FnCoinFew", spec := "fnCoinFew", unfollowed := true, recurses := true, apart := false }
def FnCoinFewSaid : Prop := fnCoinFewRow.holds Try.pinned (OpenSpec.ofChange fnCoinFewSpec)

/-- ITS FALSE NEIGHBOUR: 'it returns false'. Refute it at one input. -/
def fnCoinFewWrong : ChangeSpec := { name := "fnCoinFew", fn := fun _ => fun
  | [d1, d2] => { results := [.lit (.bool false)], args := [d1, d2] }
  | _ => none }
def FnCoinFewWrongFalsely : Prop := fnCoinFewRow.holds Try.pinned (OpenSpec.ofChange fnCoinFewWrong)

/-- 'laws.FnCoinWrong': WHATEVER THE INPUT: true; the input reads as it did. -/
def fnCoinWrongSpec : ChangeSpec := { name := "fnCoinWrong", fn := fun _ => fun
  | [d1, d2] => { results := [.lit (.bool true)], args := [d1, d2] }
  | _ => none }
def fnCoinWrongRow : OpenClaim := { program := "ytekpapodepachaa", sum := "98d1e932b4e011f59b71f62213e1317d1ff4e6a800325b86c5537e1ee50e65d7", func := "loop.example/dagconsensus/laws.FnCoinWrong", spec := "fnCoinWrong", unfollowed := true, recurses := true, apart := false }
def FnCoinWrongSaid : Prop := fnCoinWrongRow.holds Try.pinned (OpenSpec.ofChange fnCoinWrongSpec)

/-- ITS FALSE NEIGHBOUR: 'it returns false'. Refute it at one input. -/
def fnCoinWrongWrong : ChangeSpec := { name := "fnCoinWrong", fn := fun _ => fun
  | [d1, d2] => { results := [.lit (.bool false)], args := [d1, d2] }
  | _ => none }
def FnCoinWrongWrongFalsely : Prop := fnCoinWrongRow.holds Try.pinned (OpenSpec.ofChange fnCoinWrongWrong)

/- THE SECOND FORM. 'bulk': how many values and letters a reading holds, each counted each time it is reached (what is shared counts as often as it is met; a slice's spare places count too). A statement '..UptoSaid' is the law's where the arguments, and the package variables that the reading takes, are together of bulk at most 1048576: NARROWER than '..Said'. Prove '..Said' where nothing that the law and all that it calls make is longer than what came in: it says more and counts as full. Else prove '..UptoSaid'. A law counts once. -/
mutual
def uptoBulk {H : Type} : DataW H → Nat
  | .lit (.string bytes) => bytes.length + 1
  | .lit _ => 1
  | .nil => 1
  | .ptr d => uptoBulk d + 1
  | .slice elems spare => uptoBulkAll elems + uptoBulkAll spare + 1
  | .agg parts => uptoBulkAll parts + 1
  | .iface _ d => uptoBulk d + 1
  | .map entries => uptoBulkEntries entries + 1
  | .held _ => 1
def uptoBulkAll {H : Type} : List (DataW H) → Nat
  | [] => 0
  | d :: r => uptoBulk d + uptoBulkAll r
def uptoBulkEntries {H : Type} : List (Lit × DataW H) → Nat
  | [] => 0
  | x :: r => uptoBulkEntry x + uptoBulkEntries r
def uptoBulkEntry {H : Type} : Lit × DataW H → Nat
  | (.string bytes, d) => bytes.length + uptoBulk d + 1
  | (_, d) => uptoBulk d + 1
 end
def uptoSmall : (H : Type) → List (DataW H) → Bool := fun _ ds => decide (uptoBulkAll ds ≤ 1048576)
def OpenSpec.upto (s : _root_.Go.ChangeSpec) : _root_.Go.OpenSpec := { _root_.Go.OpenSpec.ofChange s with cond := some uptoSmall }

/-- 'laws.FnCoinJoin', WHERE WHAT IT READS IS OF BULK AT MOST 1048576: true; the input reads as it did. -/
def fnCoinJoinUptoRow : OpenClaim := { program := "ytekpapodepachaa", sum := "98d1e932b4e011f59b71f62213e1317d1ff4e6a800325b86c5537e1ee50e65d7", func := "loop.example/dagconsensus/laws.FnCoinJoin", spec := "fnCoinJoin", unfollowed := true, recurses := true, apart := false, narrowed := true }
def FnCoinJoinUptoSaid : Prop := fnCoinJoinUptoRow.holds Try.pinned (OpenSpec.upto fnCoinJoinSpec)

/-- 'laws.FnCoinAll', WHERE WHAT IT READS IS OF BULK AT MOST 1048576: true; the input reads as it did. -/
def fnCoinAllUptoRow : OpenClaim := { program := "ytekpapodepachaa", sum := "98d1e932b4e011f59b71f62213e1317d1ff4e6a800325b86c5537e1ee50e65d7", func := "loop.example/dagconsensus/laws.FnCoinAll", spec := "fnCoinAll", unfollowed := true, recurses := true, apart := false, narrowed := true }
def FnCoinAllUptoSaid : Prop := fnCoinAllUptoRow.holds Try.pinned (OpenSpec.upto fnCoinAllSpec)

/-- 'laws.FnCoinFew', WHERE WHAT IT READS IS OF BULK AT MOST 1048576: true; the input reads as it did. -/
def fnCoinFewUptoRow : OpenClaim := { program := "ytekpapodepachaa", sum := "98d1e932b4e011f59b71f62213e1317d1ff4e6a800325b86c5537e1ee50e65d7", func := "loop.example/dagconsensus/laws.FnCoinFew", spec := "fnCoinFew", unfollowed := true, recurses := true, apart := false, narrowed := true }
def FnCoinFewUptoSaid : Prop := fnCoinFewUptoRow.holds Try.pinned (OpenSpec.upto fnCoinFewSpec)

/-- 'laws.FnCoinWrong', WHERE WHAT IT READS IS OF BULK AT MOST 1048576: true; the input reads as it did. -/
def fnCoinWrongUptoRow : OpenClaim := { program := "ytekpapodepachaa", sum := "98d1e932b4e011f59b71f62213e1317d1ff4e6a800325b86c5537e1ee50e65d7", func := "loop.example/dagconsensus/laws.FnCoinWrong", spec := "fnCoinWrong", unfollowed := true, recurses := true, apart := false, narrowed := true }
def FnCoinWrongUptoSaid : Prop := fnCoinWrongUptoRow.holds Try.pinned (OpenSpec.upto fnCoinWrongSpec)

end Rows
end Go.Proofs.Ytekpapodepachaa
