/-
  No cell of these rows narrows 'for every input' (looked for: loops, veiled, ifaces, maps, wideKeys, modest, calm, conditions, laid).
  DERIVED. THE GIVEN ROWS OF THIS SEAT. 7 by the template 'for every input the law returns true; each argument reads behind the call as it read before'; 0 by the template 'total and deterministic' (their statements: YthojbcecbeapgabTotals.lean).
  GIVEN WITH THE SEED: the statements are not yours to turn. If you find one false, say at which input.
  Laid BY PROGRAM, IN A SANDBOX (cutbox-rows.mjs): the forced cells as the released guide's own fill.sh prints them over the translation 52e590f9bb3e00c7… (all of the seat's roots in one cut). By AI agents, Wed Nov 11 2026. No macro, syntax, notation, axiom, sorry.
-/
import Derived.Test.YthojbcecbeapgabChecked
import GoSem.Claim
import GoSem.ClaimJoined
import GoSem.ClaimMapViews
import Derived.JoinedTies
import Derived.KernelRfl
namespace Go.Proofs.Ythojbcecbeapgab
/- THE CELL 'sum', in the pinned program and in every row, IS THE sha256 OF THE DUMP (.gsa) THAT YthojbcecbeapgabProg.lean LOADS. Nothing in Lean hashes anything: it is a label: what it is worth is what the hold of that sum in a sandbox is worth. -/
noncomputable def Try.pinned : Pinned := { name := "ythojbcecbeapgab", sum := "52e590f9bb3e00c7ac6e09c77204fad68064888eb6031e05070355e6a3c075be", checked := Try.checked }
namespace Rows
def none {H : Type} : Left H := { results := [], args := [] }

/-- 'laws.FnStoreOthers': WHATEVER THE INPUT: true; the input reads as it did. -/
def fnStoreOthersSpec : ChangeSpec := { name := "fnStoreOthers", fn := fun _ => fun
  | [d1, d2] => { results := [.lit (.bool true)], args := [d1, d2] }
  | _ => none }
def fnStoreOthersRow : OpenClaim := { program := "ythojbcecbeapgab", sum := "52e590f9bb3e00c7ac6e09c77204fad68064888eb6031e05070355e6a3c075be", func := "loop.example/dagconsensus/laws.FnStoreOthers", spec := "fnStoreOthers", unfollowed := true, recurses := true, apart := false }
def FnStoreOthersSaid : Prop := fnStoreOthersRow.holds Try.pinned (OpenSpec.ofChange fnStoreOthersSpec)

/-- ITS FALSE NEIGHBOUR: 'it returns false'. Refute it at one input. -/
def fnStoreOthersWrong : ChangeSpec := { name := "fnStoreOthers", fn := fun _ => fun
  | [d1, d2] => { results := [.lit (.bool false)], args := [d1, d2] }
  | _ => none }
def FnStoreOthersWrongFalsely : Prop := fnStoreOthersRow.holds Try.pinned (OpenSpec.ofChange fnStoreOthersWrong)

/-- 'laws.FnStoreGet': WHATEVER THE INPUT: true; the input reads as it did. -/
def fnStoreGetSpec : ChangeSpec := { name := "fnStoreGet", fn := fun _ => fun
  | [d] => { results := [.lit (.bool true)], args := [d] }
  | _ => none }
def fnStoreGetRow : OpenClaim := { program := "ythojbcecbeapgab", sum := "52e590f9bb3e00c7ac6e09c77204fad68064888eb6031e05070355e6a3c075be", func := "loop.example/dagconsensus/laws.FnStoreGet", spec := "fnStoreGet", unfollowed := true, recurses := true, apart := false }
def FnStoreGetSaid : Prop := fnStoreGetRow.holds Try.pinned (OpenSpec.ofChange fnStoreGetSpec)

/-- ITS FALSE NEIGHBOUR: 'it returns false'. Refute it at one input. -/
def fnStoreGetWrong : ChangeSpec := { name := "fnStoreGet", fn := fun _ => fun
  | [d] => { results := [.lit (.bool false)], args := [d] }
  | _ => none }
def FnStoreGetWrongFalsely : Prop := fnStoreGetRow.holds Try.pinned (OpenSpec.ofChange fnStoreGetWrong)

/-- 'laws.FnExactStoreValid': WHATEVER THE INPUT: true; the input reads as it did. -/
def fnExactStoreValidSpec : ChangeSpec := { name := "fnExactStoreValid", fn := fun _ => fun
  | [d] => { results := [.lit (.bool true)], args := [d] }
  | _ => none }
def fnExactStoreValidRow : OpenClaim := { program := "ythojbcecbeapgab", sum := "52e590f9bb3e00c7ac6e09c77204fad68064888eb6031e05070355e6a3c075be", func := "loop.example/dagconsensus/laws.FnExactStoreValid", spec := "fnExactStoreValid", unfollowed := true, recurses := true, apart := false }
def FnExactStoreValidSaid : Prop := fnExactStoreValidRow.holds Try.pinned (OpenSpec.ofChange fnExactStoreValidSpec)

/-- ITS FALSE NEIGHBOUR: 'it returns false'. Refute it at one input. -/
def fnExactStoreValidWrong : ChangeSpec := { name := "fnExactStoreValid", fn := fun _ => fun
  | [d] => { results := [.lit (.bool false)], args := [d] }
  | _ => none }
def FnExactStoreValidWrongFalsely : Prop := fnExactStoreValidRow.holds Try.pinned (OpenSpec.ofChange fnExactStoreValidWrong)

/-- 'laws.FnExactStorePut': WHATEVER THE INPUT: true; the input reads as it did. -/
def fnExactStorePutSpec : ChangeSpec := { name := "fnExactStorePut", fn := fun _ => fun
  | [d1, d2] => { results := [.lit (.bool true)], args := [d1, d2] }
  | _ => none }
def fnExactStorePutRow : OpenClaim := { program := "ythojbcecbeapgab", sum := "52e590f9bb3e00c7ac6e09c77204fad68064888eb6031e05070355e6a3c075be", func := "loop.example/dagconsensus/laws.FnExactStorePut", spec := "fnExactStorePut", unfollowed := true, recurses := true, apart := false }
def FnExactStorePutSaid : Prop := fnExactStorePutRow.holds Try.pinned (OpenSpec.ofChange fnExactStorePutSpec)

/-- ITS FALSE NEIGHBOUR: 'it returns false'. Refute it at one input. -/
def fnExactStorePutWrong : ChangeSpec := { name := "fnExactStorePut", fn := fun _ => fun
  | [d1, d2] => { results := [.lit (.bool false)], args := [d1, d2] }
  | _ => none }
def FnExactStorePutWrongFalsely : Prop := fnExactStorePutRow.holds Try.pinned (OpenSpec.ofChange fnExactStorePutWrong)

/-- 'laws.FnExactStoreUsed': WHATEVER THE INPUT: true; the input reads as it did. -/
def fnExactStoreUsedSpec : ChangeSpec := { name := "fnExactStoreUsed", fn := fun _ => fun
  | [d1, d2] => { results := [.lit (.bool true)], args := [d1, d2] }
  | _ => none }
def fnExactStoreUsedRow : OpenClaim := { program := "ythojbcecbeapgab", sum := "52e590f9bb3e00c7ac6e09c77204fad68064888eb6031e05070355e6a3c075be", func := "loop.example/dagconsensus/laws.FnExactStoreUsed", spec := "fnExactStoreUsed", unfollowed := true, recurses := true, apart := false }
def FnExactStoreUsedSaid : Prop := fnExactStoreUsedRow.holds Try.pinned (OpenSpec.ofChange fnExactStoreUsedSpec)

/-- ITS FALSE NEIGHBOUR: 'it returns false'. Refute it at one input. -/
def fnExactStoreUsedWrong : ChangeSpec := { name := "fnExactStoreUsed", fn := fun _ => fun
  | [d1, d2] => { results := [.lit (.bool false)], args := [d1, d2] }
  | _ => none }
def FnExactStoreUsedWrongFalsely : Prop := fnExactStoreUsedRow.holds Try.pinned (OpenSpec.ofChange fnExactStoreUsedWrong)

/-- 'laws.FnExactStoreGet': WHATEVER THE INPUT: true; the input reads as it did. -/
def fnExactStoreGetSpec : ChangeSpec := { name := "fnExactStoreGet", fn := fun _ => fun
  | [d1, d2] => { results := [.lit (.bool true)], args := [d1, d2] }
  | _ => none }
def fnExactStoreGetRow : OpenClaim := { program := "ythojbcecbeapgab", sum := "52e590f9bb3e00c7ac6e09c77204fad68064888eb6031e05070355e6a3c075be", func := "loop.example/dagconsensus/laws.FnExactStoreGet", spec := "fnExactStoreGet", unfollowed := true, recurses := true, apart := false }
def FnExactStoreGetSaid : Prop := fnExactStoreGetRow.holds Try.pinned (OpenSpec.ofChange fnExactStoreGetSpec)

/-- ITS FALSE NEIGHBOUR: 'it returns false'. Refute it at one input. -/
def fnExactStoreGetWrong : ChangeSpec := { name := "fnExactStoreGet", fn := fun _ => fun
  | [d1, d2] => { results := [.lit (.bool false)], args := [d1, d2] }
  | _ => none }
def FnExactStoreGetWrongFalsely : Prop := fnExactStoreGetRow.holds Try.pinned (OpenSpec.ofChange fnExactStoreGetWrong)

/-- 'laws.FnExactStoreForget': WHATEVER THE INPUT: true; the input reads as it did. -/
def fnExactStoreForgetSpec : ChangeSpec := { name := "fnExactStoreForget", fn := fun _ => fun
  | [d1, d2] => { results := [.lit (.bool true)], args := [d1, d2] }
  | _ => none }
def fnExactStoreForgetRow : OpenClaim := { program := "ythojbcecbeapgab", sum := "52e590f9bb3e00c7ac6e09c77204fad68064888eb6031e05070355e6a3c075be", func := "loop.example/dagconsensus/laws.FnExactStoreForget", spec := "fnExactStoreForget", unfollowed := true, recurses := true, apart := false }
def FnExactStoreForgetSaid : Prop := fnExactStoreForgetRow.holds Try.pinned (OpenSpec.ofChange fnExactStoreForgetSpec)

/-- ITS FALSE NEIGHBOUR: 'it returns false'. Refute it at one input. -/
def fnExactStoreForgetWrong : ChangeSpec := { name := "fnExactStoreForget", fn := fun _ => fun
  | [d1, d2] => { results := [.lit (.bool false)], args := [d1, d2] }
  | _ => none }
def FnExactStoreForgetWrongFalsely : Prop := fnExactStoreForgetRow.holds Try.pinned (OpenSpec.ofChange fnExactStoreForgetWrong)

/- THE SECOND FORM. 'bulk': how many values and letters a reading holds, each counted each time it is reached (what is shared counts as often as it is met; a slice's spare places count too). A statement '..UptoSaid' is the law's where the arguments, and the package variables that the reading takes, are together of bulk at most 1048576: NARROWER than '..Said'. Prove '..Said' where nothing that the law and all that it calls make is longer than what came in: it says more and counts as full. Else prove '..UptoSaid'. A law counts once. -/
mutual
def uptoBulk {H : Type} : DataW H → Nat
  | .lit (.string bytes) => bytes.length + 1
  | .lit _ => 1
  | .nil => 1
  | .ptr d => uptoBulk d + 1
  | .slice elems spare => uptoBulkAll elems + uptoBulkAll spare + 1
  | .agg parts => uptoBulkAll parts + 1
  | .iface _ d => uptoBulk d + 1
  | .map entries => uptoBulkEntries entries + 1
  | .held _ => 1
def uptoBulkAll {H : Type} : List (DataW H) → Nat
  | [] => 0
  | d :: r => uptoBulk d + uptoBulkAll r
def uptoBulkEntries {H : Type} : List (Lit × DataW H) → Nat
  | [] => 0
  | x :: r => uptoBulkEntry x + uptoBulkEntries r
def uptoBulkEntry {H : Type} : Lit × DataW H → Nat
  | (.string bytes, d) => bytes.length + uptoBulk d + 1
  | (_, d) => uptoBulk d + 1
 end
def uptoSmall : (H : Type) → List (DataW H) → Bool := fun _ ds => decide (uptoBulkAll ds ≤ 1048576)
def OpenSpec.upto (s : _root_.Go.ChangeSpec) : _root_.Go.OpenSpec := { _root_.Go.OpenSpec.ofChange s with cond := some uptoSmall }

/-- 'laws.FnStoreOthers', WHERE WHAT IT READS IS OF BULK AT MOST 1048576: true; the input reads as it did. -/
def fnStoreOthersUptoRow : OpenClaim := { program := "ythojbcecbeapgab", sum := "52e590f9bb3e00c7ac6e09c77204fad68064888eb6031e05070355e6a3c075be", func := "loop.example/dagconsensus/laws.FnStoreOthers", spec := "fnStoreOthers", unfollowed := true, recurses := true, apart := false, narrowed := true }
def FnStoreOthersUptoSaid : Prop := fnStoreOthersUptoRow.holds Try.pinned (OpenSpec.upto fnStoreOthersSpec)

/-- 'laws.FnStoreGet', WHERE WHAT IT READS IS OF BULK AT MOST 1048576: true; the input reads as it did. -/
def fnStoreGetUptoRow : OpenClaim := { program := "ythojbcecbeapgab", sum := "52e590f9bb3e00c7ac6e09c77204fad68064888eb6031e05070355e6a3c075be", func := "loop.example/dagconsensus/laws.FnStoreGet", spec := "fnStoreGet", unfollowed := true, recurses := true, apart := false, narrowed := true }
def FnStoreGetUptoSaid : Prop := fnStoreGetUptoRow.holds Try.pinned (OpenSpec.upto fnStoreGetSpec)

/-- 'laws.FnExactStoreValid', WHERE WHAT IT READS IS OF BULK AT MOST 1048576: true; the input reads as it did. -/
def fnExactStoreValidUptoRow : OpenClaim := { program := "ythojbcecbeapgab", sum := "52e590f9bb3e00c7ac6e09c77204fad68064888eb6031e05070355e6a3c075be", func := "loop.example/dagconsensus/laws.FnExactStoreValid", spec := "fnExactStoreValid", unfollowed := true, recurses := true, apart := false, narrowed := true }
def FnExactStoreValidUptoSaid : Prop := fnExactStoreValidUptoRow.holds Try.pinned (OpenSpec.upto fnExactStoreValidSpec)

/-- 'laws.FnExactStorePut', WHERE WHAT IT READS IS OF BULK AT MOST 1048576: true; the input reads as it did. -/
def fnExactStorePutUptoRow : OpenClaim := { program := "ythojbcecbeapgab", sum := "52e590f9bb3e00c7ac6e09c77204fad68064888eb6031e05070355e6a3c075be", func := "loop.example/dagconsensus/laws.FnExactStorePut", spec := "fnExactStorePut", unfollowed := true, recurses := true, apart := false, narrowed := true }
def FnExactStorePutUptoSaid : Prop := fnExactStorePutUptoRow.holds Try.pinned (OpenSpec.upto fnExactStorePutSpec)

/-- 'laws.FnExactStoreUsed', WHERE WHAT IT READS IS OF BULK AT MOST 1048576: true; the input reads as it did. -/
def fnExactStoreUsedUptoRow : OpenClaim := { program := "ythojbcecbeapgab", sum := "52e590f9bb3e00c7ac6e09c77204fad68064888eb6031e05070355e6a3c075be", func := "loop.example/dagconsensus/laws.FnExactStoreUsed", spec := "fnExactStoreUsed", unfollowed := true, recurses := true, apart := false, narrowed := true }
def FnExactStoreUsedUptoSaid : Prop := fnExactStoreUsedUptoRow.holds Try.pinned (OpenSpec.upto fnExactStoreUsedSpec)

/-- 'laws.FnExactStoreGet', WHERE WHAT IT READS IS OF BULK AT MOST 1048576: true; the input reads as it did. -/
def fnExactStoreGetUptoRow : OpenClaim := { program := "ythojbcecbeapgab", sum := "52e590f9bb3e00c7ac6e09c77204fad68064888eb6031e05070355e6a3c075be", func := "loop.example/dagconsensus/laws.FnExactStoreGet", spec := "fnExactStoreGet", unfollowed := true, recurses := true, apart := false, narrowed := true }
def FnExactStoreGetUptoSaid : Prop := fnExactStoreGetUptoRow.holds Try.pinned (OpenSpec.upto fnExactStoreGetSpec)

/-- 'laws.FnExactStoreForget', WHERE WHAT IT READS IS OF BULK AT MOST 1048576: true; the input reads as it did. -/
def fnExactStoreForgetUptoRow : OpenClaim := { program := "ythojbcecbeapgab", sum := "52e590f9bb3e00c7ac6e09c77204fad68064888eb6031e05070355e6a3c075be", func := "loop.example/dagconsensus/laws.FnExactStoreForget", spec := "fnExactStoreForget", unfollowed := true, recurses := true, apart := false, narrowed := true }
def FnExactStoreForgetUptoSaid : Prop := fnExactStoreForgetUptoRow.holds Try.pinned (OpenSpec.upto fnExactStoreForgetSpec)

end Rows
end Go.Proofs.Ythojbcecbeapgab
