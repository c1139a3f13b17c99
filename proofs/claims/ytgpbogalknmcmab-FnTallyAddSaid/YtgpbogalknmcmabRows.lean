/-
  No cell of these rows narrows 'for every input' (looked for: loops, veiled, ifaces, maps, wideKeys, modest, calm, conditions, laid).
  DERIVED. THE GIVEN ROWS OF THIS SEAT. 7 by the template 'for every input the law returns true; each argument reads behind the call as it read before'; 0 by the template 'total and deterministic' (their statements: YtgpbogalknmcmabTotals.lean).
  GIVEN WITH THE SEED: the statements are not yours to turn. If you find one false, say at which input.
  Laid BY PROGRAM, IN A SANDBOX (cutbox-rows.mjs): the forced cells as the released guide's own fill.sh prints them over the translation b4778df42a6f9a5c… (all of the seat's roots in one cut). By AI agents, Wed Nov 11 2026. No macro, syntax, notation, axiom, sorry.
-/
import Derived.Test.YtgpbogalknmcmabChecked
import GoSem.Claim
import GoSem.ClaimJoined
import GoSem.ClaimMapViews
import Derived.JoinedTies
import Derived.KernelRfl
namespace Go.Proofs.Ytgpbogalknmcmab
/- THE CELL 'sum', in the pinned program and in every row, IS THE sha256 OF THE DUMP (.gsa) THAT YtgpbogalknmcmabProg.lean LOADS. Nothing in Lean hashes anything: it is a label: what it is worth is what the hold of that sum in a sandbox is worth. -/
noncomputable def Try.pinned : Pinned := { name := "ytgpbogalknmcmab", sum := "b4778df42a6f9a5ce1b071357133558848b9a9d8040fbc9512708e162313b0e2", checked := Try.checked }
namespace Rows
def none {H : Type} : Left H := { results := [], args := [] }

/-- 'laws.FnTallyAdd': WHATEVER THE INPUT: true; the input reads as it did. -/
def fnTallyAddSpec : ChangeSpec := { name := "fnTallyAdd", fn := fun _ => fun
  | [d] => { results := [.lit (.bool true)], args := [d] }
  | _ => none }
def fnTallyAddRow : OpenClaim := { program := "ytgpbogalknmcmab", sum := "b4778df42a6f9a5ce1b071357133558848b9a9d8040fbc9512708e162313b0e2", func := "loop.example/dagconsensus/laws.FnTallyAdd", spec := "fnTallyAdd", inPlace := ["slices.overlaps[int]"], apart := false }
def FnTallyAddSaid : Prop := fnTallyAddRow.holds Try.pinned (OpenSpec.ofChange fnTallyAddSpec)

/-- ITS FALSE NEIGHBOUR: 'it returns false'. Refute it at one input. -/
def fnTallyAddWrong : ChangeSpec := { name := "fnTallyAdd", fn := fun _ => fun
  | [d] => { results := [.lit (.bool false)], args := [d] }
  | _ => none }
def FnTallyAddWrongFalsely : Prop := fnTallyAddRow.holds Try.pinned (OpenSpec.ofChange fnTallyAddWrong)

/-- 'laws.FnTallyDone': WHATEVER THE INPUT: true; the input reads as it did. -/
def fnTallyDoneSpec : ChangeSpec := { name := "fnTallyDone", fn := fun _ => fun
  | [d1, d2] => { results := [.lit (.bool true)], args := [d1, d2] }
  | _ => none }
def fnTallyDoneRow : OpenClaim := { program := "ytgpbogalknmcmab", sum := "b4778df42a6f9a5ce1b071357133558848b9a9d8040fbc9512708e162313b0e2", func := "loop.example/dagconsensus/laws.FnTallyDone", spec := "fnTallyDone", inPlace := ["slices.overlaps[int]"], apart := false }
def FnTallyDoneSaid : Prop := fnTallyDoneRow.holds Try.pinned (OpenSpec.ofChange fnTallyDoneSpec)

/-- ITS FALSE NEIGHBOUR: 'it returns false'. Refute it at one input. -/
def fnTallyDoneWrong : ChangeSpec := { name := "fnTallyDone", fn := fun _ => fun
  | [d1, d2] => { results := [.lit (.bool false)], args := [d1, d2] }
  | _ => none }
def FnTallyDoneWrongFalsely : Prop := fnTallyDoneRow.holds Try.pinned (OpenSpec.ofChange fnTallyDoneWrong)

/-- 'laws.FnTallyGuilty': WHATEVER THE INPUT: true; the input reads as it did. -/
def fnTallyGuiltySpec : ChangeSpec := { name := "fnTallyGuilty", fn := fun _ => fun
  | [d] => { results := [.lit (.bool true)], args := [d] }
  | _ => none }
def fnTallyGuiltyRow : OpenClaim := { program := "ytgpbogalknmcmab", sum := "b4778df42a6f9a5ce1b071357133558848b9a9d8040fbc9512708e162313b0e2", func := "loop.example/dagconsensus/laws.FnTallyGuilty", spec := "fnTallyGuilty", unfollowed := true, recurses := true, apart := false }
def FnTallyGuiltySaid : Prop := fnTallyGuiltyRow.holds Try.pinned (OpenSpec.ofChange fnTallyGuiltySpec)

/-- ITS FALSE NEIGHBOUR: 'it returns false'. Refute it at one input. -/
def fnTallyGuiltyWrong : ChangeSpec := { name := "fnTallyGuilty", fn := fun _ => fun
  | [d] => { results := [.lit (.bool false)], args := [d] }
  | _ => none }
def FnTallyGuiltyWrongFalsely : Prop := fnTallyGuiltyRow.holds Try.pinned (OpenSpec.ofChange fnTallyGuiltyWrong)

/-- 'laws.FnTallyInnocent': WHATEVER THE INPUT: true; the input reads as it did. -/
def fnTallyInnocentSpec : ChangeSpec := { name := "fnTallyInnocent", fn := fun _ => fun
  | [d] => { results := [.lit (.bool true)], args := [d] }
  | _ => none }
def fnTallyInnocentRow : OpenClaim := { program := "ytgpbogalknmcmab", sum := "b4778df42a6f9a5ce1b071357133558848b9a9d8040fbc9512708e162313b0e2", func := "loop.example/dagconsensus/laws.FnTallyInnocent", spec := "fnTallyInnocent", unfollowed := true, recurses := true, apart := false }
def FnTallyInnocentSaid : Prop := fnTallyInnocentRow.holds Try.pinned (OpenSpec.ofChange fnTallyInnocentSpec)

/-- ITS FALSE NEIGHBOUR: 'it returns false'. Refute it at one input. -/
def fnTallyInnocentWrong : ChangeSpec := { name := "fnTallyInnocent", fn := fun _ => fun
  | [d] => { results := [.lit (.bool false)], args := [d] }
  | _ => none }
def FnTallyInnocentWrongFalsely : Prop := fnTallyInnocentRow.holds Try.pinned (OpenSpec.ofChange fnTallyInnocentWrong)

/-- 'laws.FnExactTallyAdd': WHATEVER THE INPUT: true; the input reads as it did. -/
def fnExactTallyAddSpec : ChangeSpec := { name := "fnExactTallyAdd", fn := fun _ => fun
  | [d1, d2, d3] => { results := [.lit (.bool true)], args := [d1, d2, d3] }
  | _ => none }
def fnExactTallyAddRow : OpenClaim := { program := "ytgpbogalknmcmab", sum := "b4778df42a6f9a5ce1b071357133558848b9a9d8040fbc9512708e162313b0e2", func := "loop.example/dagconsensus/laws.FnExactTallyAdd", spec := "fnExactTallyAdd", inPlace := ["slices.overlaps[int]"], apart := false }
def FnExactTallyAddSaid : Prop := fnExactTallyAddRow.holds Try.pinned (OpenSpec.ofChange fnExactTallyAddSpec)

/-- ITS FALSE NEIGHBOUR: 'it returns false'. Refute it at one input. -/
def fnExactTallyAddWrong : ChangeSpec := { name := "fnExactTallyAdd", fn := fun _ => fun
  | [d1, d2, d3] => { results := [.lit (.bool false)], args := [d1, d2, d3] }
  | _ => none }
def FnExactTallyAddWrongFalsely : Prop := fnExactTallyAddRow.holds Try.pinned (OpenSpec.ofChange fnExactTallyAddWrong)

/-- 'laws.FnExactTallyDone': WHATEVER THE INPUT: true; the input reads as it did. -/
def fnExactTallyDoneSpec : ChangeSpec := { name := "fnExactTallyDone", fn := fun _ => fun
  | [d1, d2] => { results := [.lit (.bool true)], args := [d1, d2] }
  | _ => none }
def fnExactTallyDoneRow : OpenClaim := { program := "ytgpbogalknmcmab", sum := "b4778df42a6f9a5ce1b071357133558848b9a9d8040fbc9512708e162313b0e2", func := "loop.example/dagconsensus/laws.FnExactTallyDone", spec := "fnExactTallyDone", apart := false }
def FnExactTallyDoneSaid : Prop := fnExactTallyDoneRow.holds Try.pinned (OpenSpec.ofChange fnExactTallyDoneSpec)

/-- ITS FALSE NEIGHBOUR: 'it returns false'. Refute it at one input. -/
def fnExactTallyDoneWrong : ChangeSpec := { name := "fnExactTallyDone", fn := fun _ => fun
  | [d1, d2] => { results := [.lit (.bool false)], args := [d1, d2] }
  | _ => none }
def FnExactTallyDoneWrongFalsely : Prop := fnExactTallyDoneRow.holds Try.pinned (OpenSpec.ofChange fnExactTallyDoneWrong)

/-- 'laws.FnExactTallyGuilty': WHATEVER THE INPUT: true; the input reads as it did. -/
def fnExactTallyGuiltySpec : ChangeSpec := { name := "fnExactTallyGuilty", fn := fun _ => fun
  | [d1, d2, d3] => { results := [.lit (.bool true)], args := [d1, d2, d3] }
  | _ => none }
def fnExactTallyGuiltyRow : OpenClaim := { program := "ytgpbogalknmcmab", sum := "b4778df42a6f9a5ce1b071357133558848b9a9d8040fbc9512708e162313b0e2", func := "loop.example/dagconsensus/laws.FnExactTallyGuilty", spec := "fnExactTallyGuilty", unfollowed := true, recurses := true, apart := false }
def FnExactTallyGuiltySaid : Prop := fnExactTallyGuiltyRow.holds Try.pinned (OpenSpec.ofChange fnExactTallyGuiltySpec)

/-- ITS FALSE NEIGHBOUR: 'it returns false'. Refute it at one input. -/
def fnExactTallyGuiltyWrong : ChangeSpec := { name := "fnExactTallyGuilty", fn := fun _ => fun
  | [d1, d2, d3] => { results := [.lit (.bool false)], args := [d1, d2, d3] }
  | _ => none }
def FnExactTallyGuiltyWrongFalsely : Prop := fnExactTallyGuiltyRow.holds Try.pinned (OpenSpec.ofChange fnExactTallyGuiltyWrong)

/- THE SECOND FORM. 'bulk': how many values and letters a reading holds, each counted each time it is reached (what is shared counts as often as it is met; a slice's spare places count too). A statement '..UptoSaid' is the law's where the arguments, and the package variables that the reading takes, are together of bulk at most 1048576: NARROWER than '..Said'. Prove '..Said' where nothing that the law and all that it calls make is longer than what came in: it says more and counts as full. Else prove '..UptoSaid'. A law counts once. -/
mutual
def uptoBulk {H : Type} : DataW H → Nat
  | .lit (.string bytes) => bytes.length + 1
  | .lit _ => 1
  | .nil => 1
  | .ptr d => uptoBulk d + 1
  | .slice elems spare => uptoBulkAll elems + uptoBulkAll spare + 1
  | .agg parts => uptoBulkAll parts + 1
  | .iface _ d => uptoBulk d + 1
  | .map entries => uptoBulkEntries entries + 1
  | .held _ => 1
def uptoBulkAll {H : Type} : List (DataW H) → Nat
  | [] => 0
  | d :: r => uptoBulk d + uptoBulkAll r
def uptoBulkEntries {H : Type} : List (Lit × DataW H) → Nat
  | [] => 0
  | x :: r => uptoBulkEntry x + uptoBulkEntries r
def uptoBulkEntry {H : Type} : Lit × DataW H → Nat
  | (.string bytes, d) => bytes.length + uptoBulk d + 1
  | (_, d) => uptoBulk d + 1
 end
def uptoSmall : (H : Type) → List (DataW H) → Bool := fun _ ds => decide (uptoBulkAll ds ≤ 1048576)
def OpenSpec.upto (s : _root_.Go.ChangeSpec) : _root_.Go.OpenSpec := { _root_.Go.OpenSpec.ofChange s with cond := some uptoSmall }

/-- 'laws.FnTallyAdd', WHERE WHAT IT READS IS OF BULK AT MOST 1048576: true; the input reads as it did. -/
def fnTallyAddUptoRow : OpenClaim := { program := "ytgpbogalknmcmab", sum := "b4778df42a6f9a5ce1b071357133558848b9a9d8040fbc9512708e162313b0e2", func := "loop.example/dagconsensus/laws.FnTallyAdd", spec := "fnTallyAdd", inPlace := ["slices.overlaps[int]"], apart := false, narrowed := true }
def FnTallyAddUptoSaid : Prop := fnTallyAddUptoRow.holds Try.pinned (OpenSpec.upto fnTallyAddSpec)

/-- 'laws.FnTallyDone', WHERE WHAT IT READS IS OF BULK AT MOST 1048576: true; the input reads as it did. -/
def fnTallyDoneUptoRow : OpenClaim := { program := "ytgpbogalknmcmab", sum := "b4778df42a6f9a5ce1b071357133558848b9a9d8040fbc9512708e162313b0e2", func := "loop.example/dagconsensus/laws.FnTallyDone", spec := "fnTallyDone", inPlace := ["slices.overlaps[int]"], apart := false, narrowed := true }
def FnTallyDoneUptoSaid : Prop := fnTallyDoneUptoRow.holds Try.pinned (OpenSpec.upto fnTallyDoneSpec)

/-- 'laws.FnTallyGuilty', WHERE WHAT IT READS IS OF BULK AT MOST 1048576: true; the input reads as it did. -/
def fnTallyGuiltyUptoRow : OpenClaim := { program := "ytgpbogalknmcmab", sum := "b4778df42a6f9a5ce1b071357133558848b9a9d8040fbc9512708e162313b0e2", func := "loop.example/dagconsensus/laws.FnTallyGuilty", spec := "fnTallyGuilty", unfollowed := true, recurses := true, apart := false, narrowed := true }
def FnTallyGuiltyUptoSaid : Prop := fnTallyGuiltyUptoRow.holds Try.pinned (OpenSpec.upto fnTallyGuiltySpec)

/-- 'laws.FnTallyInnocent', WHERE WHAT IT READS IS OF BULK AT MOST 1048576: true; the input reads as it did. -/
def fnTallyInnocentUptoRow : OpenClaim := { program := "ytgpbogalknmcmab", sum := "b4778df42a6f9a5ce1b071357133558848b9a9d8040fbc9512708e162313b0e2", func := "loop.example/dagconsensus/laws.FnTallyInnocent", spec := "fnTallyInnocent", unfollowed := true, recurses := true, apart := false, narrowed := true }
def FnTallyInnocentUptoSaid : Prop := fnTallyInnocentUptoRow.holds Try.pinned (OpenSpec.upto fnTallyInnocentSpec)

/-- 'laws.FnExactTallyAdd', WHERE WHAT IT READS IS OF BULK AT MOST 1048576: true; the input reads as it did. -/
def fnExactTallyAddUptoRow : OpenClaim := { program := "ytgpbogalknmcmab", sum := "b4778df42a6f9a5ce1b071357133558848b9a9d8040fbc9512708e162313b0e2", func := "loop.example/dagconsensus/laws.FnExactTallyAdd", spec := "fnExactTallyAdd", inPlace := ["slices.overlaps[int]"], apart := false, narrowed := true }
def FnExactTallyAddUptoSaid : Prop := fnExactTallyAddUptoRow.holds Try.pinned (OpenSpec.upto fnExactTallyAddSpec)

/-- 'laws.FnExactTallyDone', WHERE WHAT IT READS IS OF BULK AT MOST 1048576: true; the input reads as it did. -/
def fnExactTallyDoneUptoRow : OpenClaim := { program := "ytgpbogalknmcmab", sum := "b4778df42a6f9a5ce1b071357133558848b9a9d8040fbc9512708e162313b0e2", func := "loop.example/dagconsensus/laws.FnExactTallyDone", spec := "fnExactTallyDone", apart := false, narrowed := true }
def FnExactTallyDoneUptoSaid : Prop := fnExactTallyDoneUptoRow.holds Try.pinned (OpenSpec.upto fnExactTallyDoneSpec)

/-- 'laws.FnExactTallyGuilty', WHERE WHAT IT READS IS OF BULK AT MOST 1048576: true; the input reads as it did. -/
def fnExactTallyGuiltyUptoRow : OpenClaim := { program := "ytgpbogalknmcmab", sum := "b4778df42a6f9a5ce1b071357133558848b9a9d8040fbc9512708e162313b0e2", func := "loop.example/dagconsensus/laws.FnExactTallyGuilty", spec := "fnExactTallyGuilty", unfollowed := true, recurses := true, apart := false, narrowed := true }
def FnExactTallyGuiltyUptoSaid : Prop := fnExactTallyGuiltyUptoRow.holds Try.pinned (OpenSpec.upto fnExactTallyGuiltySpec)

end Rows
end Go.Proofs.Ytgpbogalknmcmab
