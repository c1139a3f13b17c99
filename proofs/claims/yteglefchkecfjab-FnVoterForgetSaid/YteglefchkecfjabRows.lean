/-
  No cell of these rows narrows 'for every input' (looked for: loops, veiled, ifaces, maps, wideKeys, modest, calm, conditions, laid).
  DERIVED. THE GIVEN ROWS OF THIS SEAT. 9 by the template 'for every input the law returns true; each argument reads behind the call as it read before'; 0 by the template 'total and deterministic' (their statements: YteglefchkecfjabTotals.lean).
  GIVEN WITH THE SEED: the statements are not yours to turn. If you find one false, say at which input.
  Laid BY PROGRAM, IN A SANDBOX (cutbox-rows.mjs): the forced cells as the released guide's own fill.sh prints them over the translation d1e3c77fa35ede31… (all of the seat's roots in one cut). By AI agents, Wed Nov 11 2026. No macro, syntax, notation, axiom, sorry.
-/
import Derived.Test.YteglefchkecfjabChecked
import GoSem.Claim
import GoSem.ClaimJoined
import GoSem.ClaimMapViews
import Derived.JoinedTies
import Derived.KernelRfl
namespace Go.Proofs.Yteglefchkecfjab
/- THE CELL 'sum', in the pinned program and in every row, IS THE sha256 OF THE DUMP (.gsa) THAT YteglefchkecfjabProg.lean LOADS. Nothing in Lean hashes anything: it is a label: what it is worth is what the hold of that sum in a sandbox is worth. -/
noncomputable def Try.pinned : Pinned := { name := "yteglefchkecfjab", sum := "d1e3c77fa35ede31ed9a5db85be909c20cd5655cdf0f17a8d4278aa164da2efc", checked := Try.checked }
namespace Rows
def none {H : Type} : Left H := { results := [], args := [] }

/-- 'laws.FnGraphPrefix': WHATEVER THE INPUT: true; the input reads as it did. -/
def fnGraphPrefixSpec : ChangeSpec := { name := "fnGraphPrefix", fn := fun _ => fun
  | [d1, d2] => { results := [.lit (.bool true)], args := [d1, d2] }
  | _ => none }
def fnGraphPrefixRow : OpenClaim := { program := "yteglefchkecfjab", sum := "d1e3c77fa35ede31ed9a5db85be909c20cd5655cdf0f17a8d4278aa164da2efc", func := "loop.example/dagconsensus/laws.FnGraphPrefix", spec := "fnGraphPrefix", plainKeys := false, apart := false }
def FnGraphPrefixSaid : Prop := fnGraphPrefixRow.holds Try.pinned (OpenSpec.ofChange fnGraphPrefixSpec)

/-- ITS FALSE NEIGHBOUR: 'it returns false'. Refute it at one input. -/
def fnGraphPrefixWrong : ChangeSpec := { name := "fnGraphPrefix", fn := fun _ => fun
  | [d1, d2] => { results := [.lit (.bool false)], args := [d1, d2] }
  | _ => none }
def FnGraphPrefixWrongFalsely : Prop := fnGraphPrefixRow.holds Try.pinned (OpenSpec.ofChange fnGraphPrefixWrong)

/-- 'laws.FnGraphAdd': WHATEVER THE INPUT: true; the input reads as it did. -/
def fnGraphAddSpec : ChangeSpec := { name := "fnGraphAdd", fn := fun _ => fun
  | [d] => { results := [.lit (.bool true)], args := [d] }
  | _ => none }
def fnGraphAddRow : OpenClaim := { program := "yteglefchkecfjab", sum := "d1e3c77fa35ede31ed9a5db85be909c20cd5655cdf0f17a8d4278aa164da2efc", func := "loop.example/dagconsensus/laws.FnGraphAdd", spec := "fnGraphAdd", plainKeys := false, apart := false }
def FnGraphAddSaid : Prop := fnGraphAddRow.holds Try.pinned (OpenSpec.ofChange fnGraphAddSpec)

/-- ITS FALSE NEIGHBOUR: 'it returns false'. Refute it at one input. -/
def fnGraphAddWrong : ChangeSpec := { name := "fnGraphAdd", fn := fun _ => fun
  | [d] => { results := [.lit (.bool false)], args := [d] }
  | _ => none }
def FnGraphAddWrongFalsely : Prop := fnGraphAddRow.holds Try.pinned (OpenSpec.ofChange fnGraphAddWrong)

/-- 'laws.FnGraphAuthors': WHATEVER THE INPUT: true; the input reads as it did. -/
def fnGraphAuthorsSpec : ChangeSpec := { name := "fnGraphAuthors", fn := fun _ => fun
  | [d] => { results := [.lit (.bool true)], args := [d] }
  | _ => none }
def fnGraphAuthorsRow : OpenClaim := { program := "yteglefchkecfjab", sum := "d1e3c77fa35ede31ed9a5db85be909c20cd5655cdf0f17a8d4278aa164da2efc", func := "loop.example/dagconsensus/laws.FnGraphAuthors", spec := "fnGraphAuthors", unfollowed := true, recurses := true, plainKeys := false, apart := false }
def FnGraphAuthorsSaid : Prop := fnGraphAuthorsRow.holds Try.pinned (OpenSpec.ofChange fnGraphAuthorsSpec)

/-- ITS FALSE NEIGHBOUR: 'it returns false'. Refute it at one input. -/
def fnGraphAuthorsWrong : ChangeSpec := { name := "fnGraphAuthors", fn := fun _ => fun
  | [d] => { results := [.lit (.bool false)], args := [d] }
  | _ => none }
def FnGraphAuthorsWrongFalsely : Prop := fnGraphAuthorsRow.holds Try.pinned (OpenSpec.ofChange fnGraphAuthorsWrong)

/-- 'laws.FnGraphHeight': WHATEVER THE INPUT: true; the input reads as it did. -/
def fnGraphHeightSpec : ChangeSpec := { name := "fnGraphHeight", fn := fun _ => fun
  | [d] => { results := [.lit (.bool true)], args := [d] }
  | _ => none }
def fnGraphHeightRow : OpenClaim := { program := "yteglefchkecfjab", sum := "d1e3c77fa35ede31ed9a5db85be909c20cd5655cdf0f17a8d4278aa164da2efc", func := "loop.example/dagconsensus/laws.FnGraphHeight", spec := "fnGraphHeight", plainKeys := false, apart := false }
def FnGraphHeightSaid : Prop := fnGraphHeightRow.holds Try.pinned (OpenSpec.ofChange fnGraphHeightSpec)

/-- ITS FALSE NEIGHBOUR: 'it returns false'. Refute it at one input. -/
def fnGraphHeightWrong : ChangeSpec := { name := "fnGraphHeight", fn := fun _ => fun
  | [d] => { results := [.lit (.bool false)], args := [d] }
  | _ => none }
def FnGraphHeightWrongFalsely : Prop := fnGraphHeightRow.holds Try.pinned (OpenSpec.ofChange fnGraphHeightWrong)

/-- 'laws.FnVoterRepeat': WHATEVER THE INPUT: true; the input reads as it did. -/
def fnVoterRepeatSpec : ChangeSpec := { name := "fnVoterRepeat", fn := fun _ => fun
  | [d] => { results := [.lit (.bool true)], args := [d] }
  | _ => none }
def fnVoterRepeatRow : OpenClaim := { program := "yteglefchkecfjab", sum := "d1e3c77fa35ede31ed9a5db85be909c20cd5655cdf0f17a8d4278aa164da2efc", func := "loop.example/dagconsensus/laws.FnVoterRepeat", spec := "fnVoterRepeat", unfollowed := true, recurses := true, plainKeys := false, apart := false }
def FnVoterRepeatSaid : Prop := fnVoterRepeatRow.holds Try.pinned (OpenSpec.ofChange fnVoterRepeatSpec)

/-- ITS FALSE NEIGHBOUR: 'it returns false'. Refute it at one input. -/
def fnVoterRepeatWrong : ChangeSpec := { name := "fnVoterRepeat", fn := fun _ => fun
  | [d] => { results := [.lit (.bool false)], args := [d] }
  | _ => none }
def FnVoterRepeatWrongFalsely : Prop := fnVoterRepeatRow.holds Try.pinned (OpenSpec.ofChange fnVoterRepeatWrong)

/-- 'laws.FnVoterForget': WHATEVER THE INPUT: true; the input reads as it did. -/
def fnVoterForgetSpec : ChangeSpec := { name := "fnVoterForget", fn := fun _ => fun
  | [d1, d2] => { results := [.lit (.bool true)], args := [d1, d2] }
  | _ => none }
def fnVoterForgetRow : OpenClaim := { program := "yteglefchkecfjab", sum := "d1e3c77fa35ede31ed9a5db85be909c20cd5655cdf0f17a8d4278aa164da2efc", func := "loop.example/dagconsensus/laws.FnVoterForget", spec := "fnVoterForget", unfollowed := true, recurses := true, plainKeys := false, apart := false }
def FnVoterForgetSaid : Prop := fnVoterForgetRow.holds Try.pinned (OpenSpec.ofChange fnVoterForgetSpec)

/-- ITS FALSE NEIGHBOUR: 'it returns false'. Refute it at one input. -/
def fnVoterForgetWrong : ChangeSpec := { name := "fnVoterForget", fn := fun _ => fun
  | [d1, d2] => { results := [.lit (.bool false)], args := [d1, d2] }
  | _ => none }
def FnVoterForgetWrongFalsely : Prop := fnVoterForgetRow.holds Try.pinned (OpenSpec.ofChange fnVoterForgetWrong)

/-- 'laws.FnTallyAdd': WHATEVER THE INPUT: true; the input reads as it did. -/
def fnTallyAddSpec : ChangeSpec := { name := "fnTallyAdd", fn := fun _ => fun
  | [d] => { results := [.lit (.bool true)], args := [d] }
  | _ => none }
def fnTallyAddRow : OpenClaim := { program := "yteglefchkecfjab", sum := "d1e3c77fa35ede31ed9a5db85be909c20cd5655cdf0f17a8d4278aa164da2efc", func := "loop.example/dagconsensus/laws.FnTallyAdd", spec := "fnTallyAdd", inPlace := ["slices.overlaps[int]"], plainKeys := false, apart := false }
def FnTallyAddSaid : Prop := fnTallyAddRow.holds Try.pinned (OpenSpec.ofChange fnTallyAddSpec)

/-- ITS FALSE NEIGHBOUR: 'it returns false'. Refute it at one input. -/
def fnTallyAddWrong : ChangeSpec := { name := "fnTallyAdd", fn := fun _ => fun
  | [d] => { results := [.lit (.bool false)], args := [d] }
  | _ => none }
def FnTallyAddWrongFalsely : Prop := fnTallyAddRow.holds Try.pinned (OpenSpec.ofChange fnTallyAddWrong)

/-- 'laws.FnTallyDone': WHATEVER THE INPUT: true; the input reads as it did. -/
def fnTallyDoneSpec : ChangeSpec := { name := "fnTallyDone", fn := fun _ => fun
  | [d1, d2] => { results := [.lit (.bool true)], args := [d1, d2] }
  | _ => none }
def fnTallyDoneRow : OpenClaim := { program := "yteglefchkecfjab", sum := "d1e3c77fa35ede31ed9a5db85be909c20cd5655cdf0f17a8d4278aa164da2efc", func := "loop.example/dagconsensus/laws.FnTallyDone", spec := "fnTallyDone", inPlace := ["slices.overlaps[int]"], plainKeys := false, apart := false }
def FnTallyDoneSaid : Prop := fnTallyDoneRow.holds Try.pinned (OpenSpec.ofChange fnTallyDoneSpec)

/-- ITS FALSE NEIGHBOUR: 'it returns false'. Refute it at one input. -/
def fnTallyDoneWrong : ChangeSpec := { name := "fnTallyDone", fn := fun _ => fun
  | [d1, d2] => { results := [.lit (.bool false)], args := [d1, d2] }
  | _ => none }
def FnTallyDoneWrongFalsely : Prop := fnTallyDoneRow.holds Try.pinned (OpenSpec.ofChange fnTallyDoneWrong)

/-- 'laws.FnCoinMake': WHATEVER THE INPUT: true; the input reads as it did. -/
def fnCoinMakeSpec : ChangeSpec := { name := "fnCoinMake", fn := fun _ => fun
  | [d1, d2] => { results := [.lit (.bool true)], args := [d1, d2] }
  | _ => none }
def fnCoinMakeRow : OpenClaim := { program := "yteglefchkecfjab", sum := "d1e3c77fa35ede31ed9a5db85be909c20cd5655cdf0f17a8d4278aa164da2efc", func := "loop.example/dagconsensus/laws.FnCoinMake", spec := "fnCoinMake", plainKeys := false, apart := false }
def FnCoinMakeSaid : Prop := fnCoinMakeRow.holds Try.pinned (OpenSpec.ofChange fnCoinMakeSpec)

/-- ITS FALSE NEIGHBOUR: 'it returns false'. Refute it at one input. -/
def fnCoinMakeWrong : ChangeSpec := { name := "fnCoinMake", fn := fun _ => fun
  | [d1, d2] => { results := [.lit (.bool false)], args := [d1, d2] }
  | _ => none }
def FnCoinMakeWrongFalsely : Prop := fnCoinMakeRow.holds Try.pinned (OpenSpec.ofChange fnCoinMakeWrong)

/- THE SECOND FORM. 'bulk': how many values and letters a reading holds, each counted each time it is reached (what is shared counts as often as it is met; a slice's spare places count too). A statement '..UptoSaid' is the law's where the arguments, and the package variables that the reading takes, are together of bulk at most 1048576: NARROWER than '..Said'. Prove '..Said' where nothing that the law and all that it calls make is longer than what came in: it says more and counts as full. Else prove '..UptoSaid'. A law counts once. -/
mutual
def uptoBulk {H : Type} : DataW H → Nat
  | .lit (.string bytes) => bytes.length + 1
  | .lit _ => 1
  | .nil => 1
  | .ptr d => uptoBulk d + 1
  | .slice elems spare => uptoBulkAll elems + uptoBulkAll spare + 1
  | .agg parts => uptoBulkAll parts + 1
  | .iface _ d => uptoBulk d + 1
  | .map entries => uptoBulkEntries entries + 1
  | .held _ => 1
def uptoBulkAll {H : Type} : List (DataW H) → Nat
  | [] => 0
  | d :: r => uptoBulk d + uptoBulkAll r
def uptoBulkEntries {H : Type} : List (Lit × DataW H) → Nat
  | [] => 0
  | x :: r => uptoBulkEntry x + uptoBulkEntries r
def uptoBulkEntry {H : Type} : Lit × DataW H → Nat
  | (.string bytes, d) => bytes.length + uptoBulk d + 1
  | (_, d) => uptoBulk d + 1
 end
def uptoSmall : (H : Type) → List (DataW H) → Bool := fun _ ds => decide (uptoBulkAll ds ≤ 1048576)
def OpenSpec.upto (s : _root_.Go.ChangeSpec) : _root_.Go.OpenSpec := { _root_.Go.OpenSpec.ofChange s with cond := some uptoSmall }

/-- 'laws.FnGraphPrefix', WHERE WHAT IT READS IS OF BULK AT MOST 1048576: true; the input reads as it did. -/
def fnGraphPrefixUptoRow : OpenClaim := { program := "yteglefchkecfjab", sum := "d1e3c77fa35ede31ed9a5db85be909c20cd5655cdf0f17a8d4278aa164da2efc", func := "loop.example/dagconsensus/laws.FnGraphPrefix", spec := "fnGraphPrefix", plainKeys := false, apart := false, narrowed := true }
def FnGraphPrefixUptoSaid : Prop := fnGraphPrefixUptoRow.holds Try.pinned (OpenSpec.upto fnGraphPrefixSpec)

/-- 'laws.FnGraphAdd', WHERE WHAT IT READS IS OF BULK AT MOST 1048576: true; the input reads as it did. -/
def fnGraphAddUptoRow : OpenClaim := { program := "yteglefchkecfjab", sum := "d1e3c77fa35ede31ed9a5db85be909c20cd5655cdf0f17a8d4278aa164da2efc", func := "loop.example/dagconsensus/laws.FnGraphAdd", spec := "fnGraphAdd", plainKeys := false, apart := false, narrowed := true }
def FnGraphAddUptoSaid : Prop := fnGraphAddUptoRow.holds Try.pinned (OpenSpec.upto fnGraphAddSpec)

/-- 'laws.FnGraphAuthors', WHERE WHAT IT READS IS OF BULK AT MOST 1048576: true; the input reads as it did. -/
def fnGraphAuthorsUptoRow : OpenClaim := { program := "yteglefchkecfjab", sum := "d1e3c77fa35ede31ed9a5db85be909c20cd5655cdf0f17a8d4278aa164da2efc", func := "loop.example/dagconsensus/laws.FnGraphAuthors", spec := "fnGraphAuthors", unfollowed := true, recurses := true, plainKeys := false, apart := false, narrowed := true }
def FnGraphAuthorsUptoSaid : Prop := fnGraphAuthorsUptoRow.holds Try.pinned (OpenSpec.upto fnGraphAuthorsSpec)

/-- 'laws.FnGraphHeight', WHERE WHAT IT READS IS OF BULK AT MOST 1048576: true; the input reads as it did. -/
def fnGraphHeightUptoRow : OpenClaim := { program := "yteglefchkecfjab", sum := "d1e3c77fa35ede31ed9a5db85be909c20cd5655cdf0f17a8d4278aa164da2efc", func := "loop.example/dagconsensus/laws.FnGraphHeight", spec := "fnGraphHeight", plainKeys := false, apart := false, narrowed := true }
def FnGraphHeightUptoSaid : Prop := fnGraphHeightUptoRow.holds Try.pinned (OpenSpec.upto fnGraphHeightSpec)

/-- 'laws.FnVoterRepeat', WHERE WHAT IT READS IS OF BULK AT MOST 1048576: true; the input reads as it did. -/
def fnVoterRepeatUptoRow : OpenClaim := { program := "yteglefchkecfjab", sum := "d1e3c77fa35ede31ed9a5db85be909c20cd5655cdf0f17a8d4278aa164da2efc", func := "loop.example/dagconsensus/laws.FnVoterRepeat", spec := "fnVoterRepeat", unfollowed := true, recurses := true, plainKeys := false, apart := false, narrowed := true }
def FnVoterRepeatUptoSaid : Prop := fnVoterRepeatUptoRow.holds Try.pinned (OpenSpec.upto fnVoterRepeatSpec)

/-- 'laws.FnVoterForget', WHERE WHAT IT READS IS OF BULK AT MOST 1048576: true; the input reads as it did. -/
def fnVoterForgetUptoRow : OpenClaim := { program := "yteglefchkecfjab", sum := "d1e3c77fa35ede31ed9a5db85be909c20cd5655cdf0f17a8d4278aa164da2efc", func := "loop.example/dagconsensus/laws.FnVoterForget", spec := "fnVoterForget", unfollowed := true, recurses := true, plainKeys := false, apart := false, narrowed := true }
def FnVoterForgetUptoSaid : Prop := fnVoterForgetUptoRow.holds Try.pinned (OpenSpec.upto fnVoterForgetSpec)

/-- 'laws.FnTallyAdd', WHERE WHAT IT READS IS OF BULK AT MOST 1048576: true; the input reads as it did. -/
def fnTallyAddUptoRow : OpenClaim := { program := "yteglefchkecfjab", sum := "d1e3c77fa35ede31ed9a5db85be909c20cd5655cdf0f17a8d4278aa164da2efc", func := "loop.example/dagconsensus/laws.FnTallyAdd", spec := "fnTallyAdd", inPlace := ["slices.overlaps[int]"], plainKeys := false, apart := false, narrowed := true }
def FnTallyAddUptoSaid : Prop := fnTallyAddUptoRow.holds Try.pinned (OpenSpec.upto fnTallyAddSpec)

/-- 'laws.FnTallyDone', WHERE WHAT IT READS IS OF BULK AT MOST 1048576: true; the input reads as it did. -/
def fnTallyDoneUptoRow : OpenClaim := { program := "yteglefchkecfjab", sum := "d1e3c77fa35ede31ed9a5db85be909c20cd5655cdf0f17a8d4278aa164da2efc", func := "loop.example/dagconsensus/laws.FnTallyDone", spec := "fnTallyDone", inPlace := ["slices.overlaps[int]"], plainKeys := false, apart := false, narrowed := true }
def FnTallyDoneUptoSaid : Prop := fnTallyDoneUptoRow.holds Try.pinned (OpenSpec.upto fnTallyDoneSpec)

/-- 'laws.FnCoinMake', WHERE WHAT IT READS IS OF BULK AT MOST 1048576: true; the input reads as it did. -/
def fnCoinMakeUptoRow : OpenClaim := { program := "yteglefchkecfjab", sum := "d1e3c77fa35ede31ed9a5db85be909c20cd5655cdf0f17a8d4278aa164da2efc", func := "loop.example/dagconsensus/laws.FnCoinMake", spec := "fnCoinMake", plainKeys := false, apart := false, narrowed := true }
def FnCoinMakeUptoSaid : Prop := fnCoinMakeUptoRow.holds Try.pinned (OpenSpec.upto fnCoinMakeSpec)

end Rows
end Go.Proofs.Yteglefchkecfjab
