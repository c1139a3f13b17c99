/-
  No cell of these rows narrows 'for every input' (looked for: loops, veiled, ifaces, maps, wideKeys, modest, calm, conditions, laid).
  DERIVED. THE GIVEN ROWS OF THIS SEAT. 10 by the template 'for every input the law returns true; each argument reads behind the call as it read before'; 0 by the template 'total and deterministic' (their statements: YtgpbogalknmcmaaTotals.lean).
  GIVEN WITH THE SEED: the statements are not yours to turn. If you find one false, say at which input.
  Laid BY PROGRAM, IN A SANDBOX (cutbox-rows.mjs): the forced cells as the released guide's own fill.sh prints them over the translation 4842c6e543c3591d… (all of the seat's roots in one cut). By AI agents, Wed Nov 11 2026. No macro, syntax, notation, axiom, sorry.
-/
import Derived.Test.YtgpbogalknmcmaaChecked
import GoSem.Claim
import GoSem.ClaimJoined
import GoSem.ClaimMapViews
import Derived.JoinedTies
import Derived.KernelRfl
namespace Go.Proofs.Ytgpbogalknmcmaa
/- THE CELL 'sum', in the pinned program and in every row, IS THE sha256 OF THE DUMP (.gsa) THAT YtgpbogalknmcmaaProg.lean LOADS. Nothing in Lean hashes anything: it is a label: what it is worth is what the hold of that sum in a sandbox is worth. -/
noncomputable def Try.pinned : Pinned := { name := "ytgpbogalknmcmaa", sum := "4842c6e543c3591d8a847945cda4cb031dbac8b950f13c191e177f54776344d6", checked := Try.checked }
namespace Rows
def none {H : Type} : Left H := { results := [], args := [] }

/-- 'laws.FnVoterOnce': WHATEVER THE INPUT: true; the input reads as it did. -/
def fnVoterOnceSpec : ChangeSpec := { name := "fnVoterOnce", fn := fun _ => fun
  | [d1, d2] => { results := [.lit (.bool true)], args := [d1, d2] }
  | _ => none }
def fnVoterOnceRow : OpenClaim := { program := "ytgpbogalknmcmaa", sum := "4842c6e543c3591d8a847945cda4cb031dbac8b950f13c191e177f54776344d6", func := "loop.example/dagconsensus/laws.FnVoterOnce", spec := "fnVoterOnce", unfollowed := true, recurses := true, plainKeys := false, apart := false }
def FnVoterOnceSaid : Prop := fnVoterOnceRow.holds Try.pinned (OpenSpec.ofChange fnVoterOnceSpec)

/-- ITS FALSE NEIGHBOUR: 'it returns false'. Refute it at one input. -/
def fnVoterOnceWrong : ChangeSpec := { name := "fnVoterOnce", fn := fun _ => fun
  | [d1, d2] => { results := [.lit (.bool false)], args := [d1, d2] }
  | _ => none }
def FnVoterOnceWrongFalsely : Prop := fnVoterOnceRow.holds Try.pinned (OpenSpec.ofChange fnVoterOnceWrong)

/-- 'laws.FnVoterRepeat': WHATEVER THE INPUT: true; the input reads as it did. -/
def fnVoterRepeatSpec : ChangeSpec := { name := "fnVoterRepeat", fn := fun _ => fun
  | [d] => { results := [.lit (.bool true)], args := [d] }
  | _ => none }
def fnVoterRepeatRow : OpenClaim := { program := "ytgpbogalknmcmaa", sum := "4842c6e543c3591d8a847945cda4cb031dbac8b950f13c191e177f54776344d6", func := "loop.example/dagconsensus/laws.FnVoterRepeat", spec := "fnVoterRepeat", unfollowed := true, recurses := true, plainKeys := false, apart := false }
def FnVoterRepeatSaid : Prop := fnVoterRepeatRow.holds Try.pinned (OpenSpec.ofChange fnVoterRepeatSpec)

/-- ITS FALSE NEIGHBOUR: 'it returns false'. Refute it at one input. -/
def fnVoterRepeatWrong : ChangeSpec := { name := "fnVoterRepeat", fn := fun _ => fun
  | [d] => { results := [.lit (.bool false)], args := [d] }
  | _ => none }
def FnVoterRepeatWrongFalsely : Prop := fnVoterRepeatRow.holds Try.pinned (OpenSpec.ofChange fnVoterRepeatWrong)

/-- 'laws.FnVoterKeeps': WHATEVER THE INPUT: true; the input reads as it did. -/
def fnVoterKeepsSpec : ChangeSpec := { name := "fnVoterKeeps", fn := fun _ => fun
  | [d] => { results := [.lit (.bool true)], args := [d] }
  | _ => none }
def fnVoterKeepsRow : OpenClaim := { program := "ytgpbogalknmcmaa", sum := "4842c6e543c3591d8a847945cda4cb031dbac8b950f13c191e177f54776344d6", func := "loop.example/dagconsensus/laws.FnVoterKeeps", spec := "fnVoterKeeps", unfollowed := true, recurses := true, plainKeys := false, apart := false }
def FnVoterKeepsSaid : Prop := fnVoterKeepsRow.holds Try.pinned (OpenSpec.ofChange fnVoterKeepsSpec)

/-- ITS FALSE NEIGHBOUR: 'it returns false'. Refute it at one input. -/
def fnVoterKeepsWrong : ChangeSpec := { name := "fnVoterKeeps", fn := fun _ => fun
  | [d] => { results := [.lit (.bool false)], args := [d] }
  | _ => none }
def FnVoterKeepsWrongFalsely : Prop := fnVoterKeepsRow.holds Try.pinned (OpenSpec.ofChange fnVoterKeepsWrong)

/-- 'laws.FnVoterForget': WHATEVER THE INPUT: true; the input reads as it did. -/
def fnVoterForgetSpec : ChangeSpec := { name := "fnVoterForget", fn := fun _ => fun
  | [d1, d2] => { results := [.lit (.bool true)], args := [d1, d2] }
  | _ => none }
def fnVoterForgetRow : OpenClaim := { program := "ytgpbogalknmcmaa", sum := "4842c6e543c3591d8a847945cda4cb031dbac8b950f13c191e177f54776344d6", func := "loop.example/dagconsensus/laws.FnVoterForget", spec := "fnVoterForget", unfollowed := true, recurses := true, plainKeys := false, apart := false }
def FnVoterForgetSaid : Prop := fnVoterForgetRow.holds Try.pinned (OpenSpec.ofChange fnVoterForgetSpec)

/-- ITS FALSE NEIGHBOUR: 'it returns false'. Refute it at one input. -/
def fnVoterForgetWrong : ChangeSpec := { name := "fnVoterForget", fn := fun _ => fun
  | [d1, d2] => { results := [.lit (.bool false)], args := [d1, d2] }
  | _ => none }
def FnVoterForgetWrongFalsely : Prop := fnVoterForgetRow.holds Try.pinned (OpenSpec.ofChange fnVoterForgetWrong)

/-- 'laws.FnVoterForgetSteps': WHATEVER THE INPUT: true; the input reads as it did. -/
def fnVoterForgetStepsSpec : ChangeSpec := { name := "fnVoterForgetSteps", fn := fun _ => fun
  | [d1, d2] => { results := [.lit (.bool true)], args := [d1, d2] }
  | _ => none }
def fnVoterForgetStepsRow : OpenClaim := { program := "ytgpbogalknmcmaa", sum := "4842c6e543c3591d8a847945cda4cb031dbac8b950f13c191e177f54776344d6", func := "loop.example/dagconsensus/laws.FnVoterForgetSteps", spec := "fnVoterForgetSteps", unfollowed := true, recurses := true, plainKeys := false, apart := false }
def FnVoterForgetStepsSaid : Prop := fnVoterForgetStepsRow.holds Try.pinned (OpenSpec.ofChange fnVoterForgetStepsSpec)

/-- ITS FALSE NEIGHBOUR: 'it returns false'. Refute it at one input. -/
def fnVoterForgetStepsWrong : ChangeSpec := { name := "fnVoterForgetSteps", fn := fun _ => fun
  | [d1, d2] => { results := [.lit (.bool false)], args := [d1, d2] }
  | _ => none }
def FnVoterForgetStepsWrongFalsely : Prop := fnVoterForgetStepsRow.holds Try.pinned (OpenSpec.ofChange fnVoterForgetStepsWrong)

/-- 'laws.FnVoterFull': WHATEVER THE INPUT: true; the input reads as it did. -/
def fnVoterFullSpec : ChangeSpec := { name := "fnVoterFull", fn := fun _ => fun
  | [d] => { results := [.lit (.bool true)], args := [d] }
  | _ => none }
def fnVoterFullRow : OpenClaim := { program := "ytgpbogalknmcmaa", sum := "4842c6e543c3591d8a847945cda4cb031dbac8b950f13c191e177f54776344d6", func := "loop.example/dagconsensus/laws.FnVoterFull", spec := "fnVoterFull", unfollowed := true, recurses := true, plainKeys := false, apart := false }
def FnVoterFullSaid : Prop := fnVoterFullRow.holds Try.pinned (OpenSpec.ofChange fnVoterFullSpec)

/-- ITS FALSE NEIGHBOUR: 'it returns false'. Refute it at one input. -/
def fnVoterFullWrong : ChangeSpec := { name := "fnVoterFull", fn := fun _ => fun
  | [d] => { results := [.lit (.bool false)], args := [d] }
  | _ => none }
def FnVoterFullWrongFalsely : Prop := fnVoterFullRow.holds Try.pinned (OpenSpec.ofChange fnVoterFullWrong)

/-- 'laws.FnVoterOrder': WHATEVER THE INPUT: true; the input reads as it did. -/
def fnVoterOrderSpec : ChangeSpec := { name := "fnVoterOrder", fn := fun _ => fun
  | [d1, d2] => { results := [.lit (.bool true)], args := [d1, d2] }
  | _ => none }
def fnVoterOrderRow : OpenClaim := { program := "ytgpbogalknmcmaa", sum := "4842c6e543c3591d8a847945cda4cb031dbac8b950f13c191e177f54776344d6", func := "loop.example/dagconsensus/laws.FnVoterOrder", spec := "fnVoterOrder", unfollowed := true, recurses := true, plainKeys := false, apart := false }
def FnVoterOrderSaid : Prop := fnVoterOrderRow.holds Try.pinned (OpenSpec.ofChange fnVoterOrderSpec)

/-- ITS FALSE NEIGHBOUR: 'it returns false'. Refute it at one input. -/
def fnVoterOrderWrong : ChangeSpec := { name := "fnVoterOrder", fn := fun _ => fun
  | [d1, d2] => { results := [.lit (.bool false)], args := [d1, d2] }
  | _ => none }
def FnVoterOrderWrongFalsely : Prop := fnVoterOrderRow.holds Try.pinned (OpenSpec.ofChange fnVoterOrderWrong)

/-- 'laws.FnExactVoterValid': WHATEVER THE INPUT: true; the input reads as it did. -/
def fnExactVoterValidSpec : ChangeSpec := { name := "fnExactVoterValid", fn := fun _ => fun
  | [d] => { results := [.lit (.bool true)], args := [d] }
  | _ => none }
def fnExactVoterValidRow : OpenClaim := { program := "ytgpbogalknmcmaa", sum := "4842c6e543c3591d8a847945cda4cb031dbac8b950f13c191e177f54776344d6", func := "loop.example/dagconsensus/laws.FnExactVoterValid", spec := "fnExactVoterValid", plainKeys := false, apart := false }
def FnExactVoterValidSaid : Prop := fnExactVoterValidRow.holds Try.pinned (OpenSpec.ofChange fnExactVoterValidSpec)

/-- ITS FALSE NEIGHBOUR: 'it returns false'. Refute it at one input. -/
def fnExactVoterValidWrong : ChangeSpec := { name := "fnExactVoterValid", fn := fun _ => fun
  | [d] => { results := [.lit (.bool false)], args := [d] }
  | _ => none }
def FnExactVoterValidWrongFalsely : Prop := fnExactVoterValidRow.holds Try.pinned (OpenSpec.ofChange fnExactVoterValidWrong)

/-- 'laws.FnExactVoterSign': WHATEVER THE INPUT: true; the input reads as it did. -/
def fnExactVoterSignSpec : ChangeSpec := { name := "fnExactVoterSign", fn := fun _ => fun
  | [d1, d2] => { results := [.lit (.bool true)], args := [d1, d2] }
  | _ => none }
def fnExactVoterSignRow : OpenClaim := { program := "ytgpbogalknmcmaa", sum := "4842c6e543c3591d8a847945cda4cb031dbac8b950f13c191e177f54776344d6", func := "loop.example/dagconsensus/laws.FnExactVoterSign", spec := "fnExactVoterSign", unfollowed := true, recurses := true, plainKeys := false, apart := false }
def FnExactVoterSignSaid : Prop := fnExactVoterSignRow.holds Try.pinned (OpenSpec.ofChange fnExactVoterSignSpec)

/-- ITS FALSE NEIGHBOUR: 'it returns false'. Refute it at one input. -/
def fnExactVoterSignWrong : ChangeSpec := { name := "fnExactVoterSign", fn := fun _ => fun
  | [d1, d2] => { results := [.lit (.bool false)], args := [d1, d2] }
  | _ => none }
def FnExactVoterSignWrongFalsely : Prop := fnExactVoterSignRow.holds Try.pinned (OpenSpec.ofChange fnExactVoterSignWrong)

/-- 'laws.FnExactVoterForget': WHATEVER THE INPUT: true; the input reads as it did. -/
def fnExactVoterForgetSpec : ChangeSpec := { name := "fnExactVoterForget", fn := fun _ => fun
  | [d1, d2] => { results := [.lit (.bool true)], args := [d1, d2] }
  | _ => none }
def fnExactVoterForgetRow : OpenClaim := { program := "ytgpbogalknmcmaa", sum := "4842c6e543c3591d8a847945cda4cb031dbac8b950f13c191e177f54776344d6", func := "loop.example/dagconsensus/laws.FnExactVoterForget", spec := "fnExactVoterForget", unfollowed := true, recurses := true, plainKeys := false, apart := false }
def FnExactVoterForgetSaid : Prop := fnExactVoterForgetRow.holds Try.pinned (OpenSpec.ofChange fnExactVoterForgetSpec)

/-- ITS FALSE NEIGHBOUR: 'it returns false'. Refute it at one input. -/
def fnExactVoterForgetWrong : ChangeSpec := { name := "fnExactVoterForget", fn := fun _ => fun
  | [d1, d2] => { results := [.lit (.bool false)], args := [d1, d2] }
  | _ => none }
def FnExactVoterForgetWrongFalsely : Prop := fnExactVoterForgetRow.holds Try.pinned (OpenSpec.ofChange fnExactVoterForgetWrong)

/- THE SECOND FORM. 'bulk': how many values and letters a reading holds, each counted each time it is reached (what is shared counts as often as it is met; a slice's spare places count too). A statement '..UptoSaid' is the law's where the arguments, and the package variables that the reading takes, are together of bulk at most 1048576: NARROWER than '..Said'. Prove '..Said' where nothing that the law and all that it calls make is longer than what came in: it says more and counts as full. Else prove '..UptoSaid'. A law counts once. -/
mutual
def uptoBulk {H : Type} : DataW H → Nat
  | .lit (.string bytes) => bytes.length + 1
  | .lit _ => 1
  | .nil => 1
  | .ptr d => uptoBulk d + 1
  | .slice elems spare => uptoBulkAll elems + uptoBulkAll spare + 1
  | .agg parts => uptoBulkAll parts + 1
  | .iface _ d => uptoBulk d + 1
  | .map entries => uptoBulkEntries entries + 1
  | .held _ => 1
def uptoBulkAll {H : Type} : List (DataW H) → Nat
  | [] => 0
  | d :: r => uptoBulk d + uptoBulkAll r
def uptoBulkEntries {H : Type} : List (Lit × DataW H) → Nat
  | [] => 0
  | x :: r => uptoBulkEntry x + uptoBulkEntries r
def uptoBulkEntry {H : Type} : Lit × DataW H → Nat
  | (.string bytes, d) => bytes.length + uptoBulk d + 1
  | (_, d) => uptoBulk d + 1
 end
def uptoSmall : (H : Type) → List (DataW H) → Bool := fun _ ds => decide (uptoBulkAll ds ≤ 1048576)
def OpenSpec.upto (s : _root_.Go.ChangeSpec) : _root_.Go.OpenSpec := { _root_.Go.OpenSpec.ofChange s with cond := some uptoSmall }

/-- 'laws.FnVoterOnce', WHERE WHAT IT READS IS OF BULK AT MOST 1048576: true; the input reads as it did. -/
def fnVoterOnceUptoRow : OpenClaim := { program := "ytgpbogalknmcmaa", sum := "4842c6e543c3591d8a847945cda4cb031dbac8b950f13c191e177f54776344d6", func := "loop.example/dagconsensus/laws.FnVoterOnce", spec := "fnVoterOnce", unfollowed := true, recurses := true, plainKeys := false, apart := false, narrowed := true }
def FnVoterOnceUptoSaid : Prop := fnVoterOnceUptoRow.holds Try.pinned (OpenSpec.upto fnVoterOnceSpec)

/-- 'laws.FnVoterRepeat', WHERE WHAT IT READS IS OF BULK AT MOST 1048576: true; the input reads as it did. -/
def fnVoterRepeatUptoRow : OpenClaim := { program := "ytgpbogalknmcmaa", sum := "4842c6e543c3591d8a847945cda4cb031dbac8b950f13c191e177f54776344d6", func := "loop.example/dagconsensus/laws.FnVoterRepeat", spec := "fnVoterRepeat", unfollowed := true, recurses := true, plainKeys := false, apart := false, narrowed := true }
def FnVoterRepeatUptoSaid : Prop := fnVoterRepeatUptoRow.holds Try.pinned (OpenSpec.upto fnVoterRepeatSpec)

/-- 'laws.FnVoterKeeps', WHERE WHAT IT READS IS OF BULK AT MOST 1048576: true; the input reads as it did. -/
def fnVoterKeepsUptoRow : OpenClaim := { program := "ytgpbogalknmcmaa", sum := "4842c6e543c3591d8a847945cda4cb031dbac8b950f13c191e177f54776344d6", func := "loop.example/dagconsensus/laws.FnVoterKeeps", spec := "fnVoterKeeps", unfollowed := true, recurses := true, plainKeys := false, apart := false, narrowed := true }
def FnVoterKeepsUptoSaid : Prop := fnVoterKeepsUptoRow.holds Try.pinned (OpenSpec.upto fnVoterKeepsSpec)

/-- 'laws.FnVoterForget', WHERE WHAT IT READS IS OF BULK AT MOST 1048576: true; the input reads as it did. -/
def fnVoterForgetUptoRow : OpenClaim := { program := "ytgpbogalknmcmaa", sum := "4842c6e543c3591d8a847945cda4cb031dbac8b950f13c191e177f54776344d6", func := "loop.example/dagconsensus/laws.FnVoterForget", spec := "fnVoterForget", unfollowed := true, recurses := true, plainKeys := false, apart := false, narrowed := true }
def FnVoterForgetUptoSaid : Prop := fnVoterForgetUptoRow.holds Try.pinned (OpenSpec.upto fnVoterForgetSpec)

/-- 'laws.FnVoterForgetSteps', WHERE WHAT IT READS IS OF BULK AT MOST 1048576: true; the input reads as it did. -/
def fnVoterForgetStepsUptoRow : OpenClaim := { program := "ytgpbogalknmcmaa", sum := "4842c6e543c3591d8a847945cda4cb031dbac8b950f13c191e177f54776344d6", func := "loop.example/dagconsensus/laws.FnVoterForgetSteps", spec := "fnVoterForgetSteps", unfollowed := true, recurses := true, plainKeys := false, apart := false, narrowed := true }
def FnVoterForgetStepsUptoSaid : Prop := fnVoterForgetStepsUptoRow.holds Try.pinned (OpenSpec.upto fnVoterForgetStepsSpec)

/-- 'laws.FnVoterFull', WHERE WHAT IT READS IS OF BULK AT MOST 1048576: true; the input reads as it did. -/
def fnVoterFullUptoRow : OpenClaim := { program := "ytgpbogalknmcmaa", sum := "4842c6e543c3591d8a847945cda4cb031dbac8b950f13c191e177f54776344d6", func := "loop.example/dagconsensus/laws.FnVoterFull", spec := "fnVoterFull", unfollowed := true, recurses := true, plainKeys := false, apart := false, narrowed := true }
def FnVoterFullUptoSaid : Prop := fnVoterFullUptoRow.holds Try.pinned (OpenSpec.upto fnVoterFullSpec)

/-- 'laws.FnVoterOrder', WHERE WHAT IT READS IS OF BULK AT MOST 1048576: true; the input reads as it did. -/
def fnVoterOrderUptoRow : OpenClaim := { program := "ytgpbogalknmcmaa", sum := "4842c6e543c3591d8a847945cda4cb031dbac8b950f13c191e177f54776344d6", func := "loop.example/dagconsensus/laws.FnVoterOrder", spec := "fnVoterOrder", unfollowed := true, recurses := true, plainKeys := false, apart := false, narrowed := true }
def FnVoterOrderUptoSaid : Prop := fnVoterOrderUptoRow.holds Try.pinned (OpenSpec.upto fnVoterOrderSpec)

/-- 'laws.FnExactVoterValid', WHERE WHAT IT READS IS OF BULK AT MOST 1048576: true; the input reads as it did. -/
def fnExactVoterValidUptoRow : OpenClaim := { program := "ytgpbogalknmcmaa", sum := "4842c6e543c3591d8a847945cda4cb031dbac8b950f13c191e177f54776344d6", func := "loop.example/dagconsensus/laws.FnExactVoterValid", spec := "fnExactVoterValid", plainKeys := false, apart := false, narrowed := true }
def FnExactVoterValidUptoSaid : Prop := fnExactVoterValidUptoRow.holds Try.pinned (OpenSpec.upto fnExactVoterValidSpec)

/-- 'laws.FnExactVoterSign', WHERE WHAT IT READS IS OF BULK AT MOST 1048576: true; the input reads as it did. -/
def fnExactVoterSignUptoRow : OpenClaim := { program := "ytgpbogalknmcmaa", sum := "4842c6e543c3591d8a847945cda4cb031dbac8b950f13c191e177f54776344d6", func := "loop.example/dagconsensus/laws.FnExactVoterSign", spec := "fnExactVoterSign", unfollowed := true, recurses := true, plainKeys := false, apart := false, narrowed := true }
def FnExactVoterSignUptoSaid : Prop := fnExactVoterSignUptoRow.holds Try.pinned (OpenSpec.upto fnExactVoterSignSpec)

/-- 'laws.FnExactVoterForget', WHERE WHAT IT READS IS OF BULK AT MOST 1048576: true; the input reads as it did. -/
def fnExactVoterForgetUptoRow : OpenClaim := { program := "ytgpbogalknmcmaa", sum := "4842c6e543c3591d8a847945cda4cb031dbac8b950f13c191e177f54776344d6", func := "loop.example/dagconsensus/laws.FnExactVoterForget", spec := "fnExactVoterForget", unfollowed := true, recurses := true, plainKeys := false, apart := false, narrowed := true }
def FnExactVoterForgetUptoSaid : Prop := fnExactVoterForgetUptoRow.holds Try.pinned (OpenSpec.upto fnExactVoterForgetSpec)

end Rows
end Go.Proofs.Ytgpbogalknmcmaa
