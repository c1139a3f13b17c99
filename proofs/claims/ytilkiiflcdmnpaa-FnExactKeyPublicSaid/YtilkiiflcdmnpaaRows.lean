/-
  No cell of these rows narrows 'for every input' (looked for: loops, veiled, ifaces, maps, wideKeys, modest, calm, conditions, laid).
  DERIVED. THE GIVEN ROWS OF THIS SEAT. 8 by the template 'for every input the law returns true; each argument reads behind the call as it read before'; 0 by the template 'total and deterministic' (their statements: YtilkiiflcdmnpaaTotals.lean).
  GIVEN WITH THE SEED: the statements are not yours to turn. If you find one false, say at which input.
  Laid BY PROGRAM, IN A SANDBOX (cutbox-rows.mjs): the forced cells as the released guide's own fill.sh prints them over the translation 19518ce722624fb5… (all of the seat's roots in one cut). By AI agents, Wed Nov 11 2026. No macro, syntax, notation, axiom, sorry.
-/
import Derived.Test.YtilkiiflcdmnpaaChecked
import GoSem.Claim
import GoSem.ClaimJoined
import GoSem.ClaimMapViews
import Derived.JoinedTies
import Derived.KernelRfl
namespace Go.Proofs.Ytilkiiflcdmnpaa
/- THE CELL 'sum', in the pinned program and in every row, IS THE sha256 OF THE DUMP (.gsa) THAT YtilkiiflcdmnpaaProg.lean LOADS. Nothing in Lean hashes anything: it is a label: what it is worth is what the hold of that sum in a sandbox is worth. -/
noncomputable def Try.pinned : Pinned := { name := "ytilkiiflcdmnpaa", sum := "19518ce722624fb50cb369c6092e800a68fcd50951c61c0172927d89842c94e4", checked := Try.checked }
namespace Rows
def none {H : Type} : Left H := { results := [], args := [] }

/-- 'laws.FnSignRoundTrip': WHATEVER THE INPUT: true; the input reads as it did. -/
def fnSignRoundTripSpec : ChangeSpec := { name := "fnSignRoundTrip", fn := fun _ => fun
  | [d] => { results := [.lit (.bool true)], args := [d] }
  | _ => none }
def fnSignRoundTripRow : OpenClaim := { program := "ytilkiiflcdmnpaa", sum := "19518ce722624fb50cb369c6092e800a68fcd50951c61c0172927d89842c94e4", func := "loop.example/dagconsensus/laws.FnSignRoundTrip", spec := "fnSignRoundTrip", unfollowed := true, recurses := true, apart := false }
def FnSignRoundTripSaid : Prop := fnSignRoundTripRow.holds Try.pinned (OpenSpec.ofChange fnSignRoundTripSpec)

/-- ITS FALSE NEIGHBOUR: 'it returns false'. Refute it at one input. -/
def fnSignRoundTripWrong : ChangeSpec := { name := "fnSignRoundTrip", fn := fun _ => fun
  | [d] => { results := [.lit (.bool false)], args := [d] }
  | _ => none }
def FnSignRoundTripWrongFalsely : Prop := fnSignRoundTripRow.holds Try.pinned (OpenSpec.ofChange fnSignRoundTripWrong)

/-- 'laws.FnSignDigest': WHATEVER THE INPUT: true; the input reads as it did. -/
def fnSignDigestSpec : ChangeSpec := { name := "fnSignDigest", fn := fun _ => fun
  | [d1, d2] => { results := [.lit (.bool true)], args := [d1, d2] }
  | _ => none }
def fnSignDigestRow : OpenClaim := { program := "ytilkiiflcdmnpaa", sum := "19518ce722624fb50cb369c6092e800a68fcd50951c61c0172927d89842c94e4", func := "loop.example/dagconsensus/laws.FnSignDigest", spec := "fnSignDigest", unfollowed := true, recurses := true, apart := false }
def FnSignDigestSaid : Prop := fnSignDigestRow.holds Try.pinned (OpenSpec.ofChange fnSignDigestSpec)

/-- ITS FALSE NEIGHBOUR: 'it returns false'. Refute it at one input. -/
def fnSignDigestWrong : ChangeSpec := { name := "fnSignDigest", fn := fun _ => fun
  | [d1, d2] => { results := [.lit (.bool false)], args := [d1, d2] }
  | _ => none }
def FnSignDigestWrongFalsely : Prop := fnSignDigestRow.holds Try.pinned (OpenSpec.ofChange fnSignDigestWrong)

/-- 'laws.FnSignKey': WHATEVER THE INPUT: true; the input reads as it did. -/
def fnSignKeySpec : ChangeSpec := { name := "fnSignKey", fn := fun _ => fun
  | [d1, d2] => { results := [.lit (.bool true)], args := [d1, d2] }
  | _ => none }
def fnSignKeyRow : OpenClaim := { program := "ytilkiiflcdmnpaa", sum := "19518ce722624fb50cb369c6092e800a68fcd50951c61c0172927d89842c94e4", func := "loop.example/dagconsensus/laws.FnSignKey", spec := "fnSignKey", unfollowed := true, recurses := true, apart := false }
def FnSignKeySaid : Prop := fnSignKeyRow.holds Try.pinned (OpenSpec.ofChange fnSignKeySpec)

/-- ITS FALSE NEIGHBOUR: 'it returns false'. Refute it at one input. -/
def fnSignKeyWrong : ChangeSpec := { name := "fnSignKey", fn := fun _ => fun
  | [d1, d2] => { results := [.lit (.bool false)], args := [d1, d2] }
  | _ => none }
def FnSignKeyWrongFalsely : Prop := fnSignKeyRow.holds Try.pinned (OpenSpec.ofChange fnSignKeyWrong)

/-- 'laws.FnKeyPublic': WHATEVER THE INPUT: true; the input reads as it did. -/
def fnKeyPublicSpec : ChangeSpec := { name := "fnKeyPublic", fn := fun _ => fun
  | [d1, d2] => { results := [.lit (.bool true)], args := [d1, d2] }
  | _ => none }
def fnKeyPublicRow : OpenClaim := { program := "ytilkiiflcdmnpaa", sum := "19518ce722624fb50cb369c6092e800a68fcd50951c61c0172927d89842c94e4", func := "loop.example/dagconsensus/laws.FnKeyPublic", spec := "fnKeyPublic", apart := false }
def FnKeyPublicSaid : Prop := fnKeyPublicRow.holds Try.pinned (OpenSpec.ofChange fnKeyPublicSpec)

/-- ITS FALSE NEIGHBOUR: 'it returns false'. Refute it at one input. -/
def fnKeyPublicWrong : ChangeSpec := { name := "fnKeyPublic", fn := fun _ => fun
  | [d1, d2] => { results := [.lit (.bool false)], args := [d1, d2] }
  | _ => none }
def FnKeyPublicWrongFalsely : Prop := fnKeyPublicRow.holds Try.pinned (OpenSpec.ofChange fnKeyPublicWrong)

/-- 'laws.FnSignOne': WHATEVER THE INPUT: true; the input reads as it did. -/
def fnSignOneSpec : ChangeSpec := { name := "fnSignOne", fn := fun _ => fun
  | [d1, d2] => { results := [.lit (.bool true)], args := [d1, d2] }
  | _ => none }
def fnSignOneRow : OpenClaim := { program := "ytilkiiflcdmnpaa", sum := "19518ce722624fb50cb369c6092e800a68fcd50951c61c0172927d89842c94e4", func := "loop.example/dagconsensus/laws.FnSignOne", spec := "fnSignOne", unfollowed := true, recurses := true, apart := false }
def FnSignOneSaid : Prop := fnSignOneRow.holds Try.pinned (OpenSpec.ofChange fnSignOneSpec)

/-- ITS FALSE NEIGHBOUR: 'it returns false'. Refute it at one input. -/
def fnSignOneWrong : ChangeSpec := { name := "fnSignOne", fn := fun _ => fun
  | [d1, d2] => { results := [.lit (.bool false)], args := [d1, d2] }
  | _ => none }
def FnSignOneWrongFalsely : Prop := fnSignOneRow.holds Try.pinned (OpenSpec.ofChange fnSignOneWrong)

/-- 'laws.FnExactKeyPublic': WHATEVER THE INPUT: true; the input reads as it did. -/
def fnExactKeyPublicSpec : ChangeSpec := { name := "fnExactKeyPublic", fn := fun _ => fun
  | [d] => { results := [.lit (.bool true)], args := [d] }
  | _ => none }
def fnExactKeyPublicRow : OpenClaim := { program := "ytilkiiflcdmnpaa", sum := "19518ce722624fb50cb369c6092e800a68fcd50951c61c0172927d89842c94e4", func := "loop.example/dagconsensus/laws.FnExactKeyPublic", spec := "fnExactKeyPublic", apart := false }
def FnExactKeyPublicSaid : Prop := fnExactKeyPublicRow.holds Try.pinned (OpenSpec.ofChange fnExactKeyPublicSpec)

/-- ITS FALSE NEIGHBOUR: 'it returns false'. Refute it at one input. -/
def fnExactKeyPublicWrong : ChangeSpec := { name := "fnExactKeyPublic", fn := fun _ => fun
  | [d] => { results := [.lit (.bool false)], args := [d] }
  | _ => none }
def FnExactKeyPublicWrongFalsely : Prop := fnExactKeyPublicRow.holds Try.pinned (OpenSpec.ofChange fnExactKeyPublicWrong)

/-- 'laws.FnExactSignMake': WHATEVER THE INPUT: true; the input reads as it did. -/
def fnExactSignMakeSpec : ChangeSpec := { name := "fnExactSignMake", fn := fun _ => fun
  | [d1, d2] => { results := [.lit (.bool true)], args := [d1, d2] }
  | _ => none }
def fnExactSignMakeRow : OpenClaim := { program := "ytilkiiflcdmnpaa", sum := "19518ce722624fb50cb369c6092e800a68fcd50951c61c0172927d89842c94e4", func := "loop.example/dagconsensus/laws.FnExactSignMake", spec := "fnExactSignMake", apart := false }
def FnExactSignMakeSaid : Prop := fnExactSignMakeRow.holds Try.pinned (OpenSpec.ofChange fnExactSignMakeSpec)

/-- ITS FALSE NEIGHBOUR: 'it returns false'. Refute it at one input. -/
def fnExactSignMakeWrong : ChangeSpec := { name := "fnExactSignMake", fn := fun _ => fun
  | [d1, d2] => { results := [.lit (.bool false)], args := [d1, d2] }
  | _ => none }
def FnExactSignMakeWrongFalsely : Prop := fnExactSignMakeRow.holds Try.pinned (OpenSpec.ofChange fnExactSignMakeWrong)

/-- 'laws.FnExactSignCheck': WHATEVER THE INPUT: true; the input reads as it did. -/
def fnExactSignCheckSpec : ChangeSpec := { name := "fnExactSignCheck", fn := fun _ => fun
  | [d1, d2, d3] => { results := [.lit (.bool true)], args := [d1, d2, d3] }
  | _ => none }
def fnExactSignCheckRow : OpenClaim := { program := "ytilkiiflcdmnpaa", sum := "19518ce722624fb50cb369c6092e800a68fcd50951c61c0172927d89842c94e4", func := "loop.example/dagconsensus/laws.FnExactSignCheck", spec := "fnExactSignCheck", unfollowed := true, recurses := true, apart := false }
def FnExactSignCheckSaid : Prop := fnExactSignCheckRow.holds Try.pinned (OpenSpec.ofChange fnExactSignCheckSpec)

/-- ITS FALSE NEIGHBOUR: 'it returns false'. Refute it at one input. -/
def fnExactSignCheckWrong : ChangeSpec := { name := "fnExactSignCheck", fn := fun _ => fun
  | [d1, d2, d3] => { results := [.lit (.bool false)], args := [d1, d2, d3] }
  | _ => none }
def FnExactSignCheckWrongFalsely : Prop := fnExactSignCheckRow.holds Try.pinned (OpenSpec.ofChange fnExactSignCheckWrong)

/- THE SECOND FORM. 'bulk': how many values and letters a reading holds, each counted each time it is reached (what is shared counts as often as it is met; a slice's spare places count too). A statement '..UptoSaid' is the law's where the arguments, and the package variables that the reading takes, are together of bulk at most 1048576: NARROWER than '..Said'. Prove '..Said' where nothing that the law and all that it calls make is longer than what came in: it says more and counts as full. Else prove '..UptoSaid'. A law counts once. -/
mutual
def uptoBulk {H : Type} : DataW H → Nat
  | .lit (.string bytes) => bytes.length + 1
  | .lit _ => 1
  | .nil => 1
  | .ptr d => uptoBulk d + 1
  | .slice elems spare => uptoBulkAll elems + uptoBulkAll spare + 1
  | .agg parts => uptoBulkAll parts + 1
  | .iface _ d => uptoBulk d + 1
  | .map entries => uptoBulkEntries entries + 1
  | .held _ => 1
def uptoBulkAll {H : Type} : List (DataW H) → Nat
  | [] => 0
  | d :: r => uptoBulk d + uptoBulkAll r
def uptoBulkEntries {H : Type} : List (Lit × DataW H) → Nat
  | [] => 0
  | x :: r => uptoBulkEntry x + uptoBulkEntries r
def uptoBulkEntry {H : Type} : Lit × DataW H → Nat
  | (.string bytes, d) => bytes.length + uptoBulk d + 1
  | (_, d) => uptoBulk d + 1
 end
def uptoSmall : (H : Type) → List (DataW H) → Bool := fun _ ds => decide (uptoBulkAll ds ≤ 1048576)
def OpenSpec.upto (s : _root_.Go.ChangeSpec) : _root_.Go.OpenSpec := { _root_.Go.OpenSpec.ofChange s with cond := some uptoSmall }

/-- 'laws.FnSignRoundTrip', WHERE WHAT IT READS IS OF BULK AT MOST 1048576: true; the input reads as it did. -/
def fnSignRoundTripUptoRow : OpenClaim := { program := "ytilkiiflcdmnpaa", sum := "19518ce722624fb50cb369c6092e800a68fcd50951c61c0172927d89842c94e4", func := "loop.example/dagconsensus/laws.FnSignRoundTrip", spec := "fnSignRoundTrip", unfollowed := true, recurses := true, apart := false, narrowed := true }
def FnSignRoundTripUptoSaid : Prop := fnSignRoundTripUptoRow.holds Try.pinned (OpenSpec.upto fnSignRoundTripSpec)

/-- 'laws.FnSignDigest', WHERE WHAT IT READS IS OF BULK AT MOST 1048576: true; the input reads as it did. -/
def fnSignDigestUptoRow : OpenClaim := { program := "ytilkiiflcdmnpaa", sum := "19518ce722624fb50cb369c6092e800a68fcd50951c61c0172927d89842c94e4", func := "loop.example/dagconsensus/laws.FnSignDigest", spec := "fnSignDigest", unfollowed := true, recurses := true, apart := false, narrowed := true }
def FnSignDigestUptoSaid : Prop := fnSignDigestUptoRow.holds Try.pinned (OpenSpec.upto fnSignDigestSpec)

/-- 'laws.FnSignKey', WHERE WHAT IT READS IS OF BULK AT MOST 1048576: true; the input reads as it did. -/
def fnSignKeyUptoRow : OpenClaim := { program := "ytilkiiflcdmnpaa", sum := "19518ce722624fb50cb369c6092e800a68fcd50951c61c0172927d89842c94e4", func := "loop.example/dagconsensus/laws.FnSignKey", spec := "fnSignKey", unfollowed := true, recurses := true, apart := false, narrowed := true }
def FnSignKeyUptoSaid : Prop := fnSignKeyUptoRow.holds Try.pinned (OpenSpec.upto fnSignKeySpec)

/-- 'laws.FnKeyPublic', WHERE WHAT IT READS IS OF BULK AT MOST 1048576: true; the input reads as it did. -/
def fnKeyPublicUptoRow : OpenClaim := { program := "ytilkiiflcdmnpaa", sum := "19518ce722624fb50cb369c6092e800a68fcd50951c61c0172927d89842c94e4", func := "loop.example/dagconsensus/laws.FnKeyPublic", spec := "fnKeyPublic", apart := false, narrowed := true }
def FnKeyPublicUptoSaid : Prop := fnKeyPublicUptoRow.holds Try.pinned (OpenSpec.upto fnKeyPublicSpec)

/-- 'laws.FnSignOne', WHERE WHAT IT READS IS OF BULK AT MOST 1048576: true; the input reads as it did. -/
def fnSignOneUptoRow : OpenClaim := { program := "ytilkiiflcdmnpaa", sum := "19518ce722624fb50cb369c6092e800a68fcd50951c61c0172927d89842c94e4", func := "loop.example/dagconsensus/laws.FnSignOne", spec := "fnSignOne", unfollowed := true, recurses := true, apart := false, narrowed := true }
def FnSignOneUptoSaid : Prop := fnSignOneUptoRow.holds Try.pinned (OpenSpec.upto fnSignOneSpec)

/-- 'laws.FnExactKeyPublic', WHERE WHAT IT READS IS OF BULK AT MOST 1048576: true; the input reads as it did. -/
def fnExactKeyPublicUptoRow : OpenClaim := { program := "ytilkiiflcdmnpaa", sum := "19518ce722624fb50cb369c6092e800a68fcd50951c61c0172927d89842c94e4", func := "loop.example/dagconsensus/laws.FnExactKeyPublic", spec := "fnExactKeyPublic", apart := false, narrowed := true }
def FnExactKeyPublicUptoSaid : Prop := fnExactKeyPublicUptoRow.holds Try.pinned (OpenSpec.upto fnExactKeyPublicSpec)

/-- 'laws.FnExactSignMake', WHERE WHAT IT READS IS OF BULK AT MOST 1048576: true; the input reads as it did. -/
def fnExactSignMakeUptoRow : OpenClaim := { program := "ytilkiiflcdmnpaa", sum := "19518ce722624fb50cb369c6092e800a68fcd50951c61c0172927d89842c94e4", func := "loop.example/dagconsensus/laws.FnExactSignMake", spec := "fnExactSignMake", apart := false, narrowed := true }
def FnExactSignMakeUptoSaid : Prop := fnExactSignMakeUptoRow.holds Try.pinned (OpenSpec.upto fnExactSignMakeSpec)

/-- 'laws.FnExactSignCheck', WHERE WHAT IT READS IS OF BULK AT MOST 1048576: true; the input reads as it did. -/
def fnExactSignCheckUptoRow : OpenClaim := { program := "ytilkiiflcdmnpaa", sum := "19518ce722624fb50cb369c6092e800a68fcd50951c61c0172927d89842c94e4", func := "loop.example/dagconsensus/laws.FnExactSignCheck", spec := "fnExactSignCheck", unfollowed := true, recurses := true, apart := false, narrowed := true }
def FnExactSignCheckUptoSaid : Prop := fnExactSignCheckUptoRow.holds Try.pinned (OpenSpec.upto fnExactSignCheckSpec)

end Rows
end Go.Proofs.Ytilkiiflcdmnpaa
