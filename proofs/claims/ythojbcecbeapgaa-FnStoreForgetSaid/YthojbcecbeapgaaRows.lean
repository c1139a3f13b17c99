/-
  No cell of these rows narrows 'for every input' (looked for: loops, veiled, ifaces, maps, wideKeys, modest, calm, conditions, laid).
  DERIVED. THE GIVEN ROWS OF THIS SEAT. 7 by the template 'for every input the law returns true; each argument reads behind the call as it read before'; 0 by the template 'total and deterministic' (their statements: YthojbcecbeapgaaTotals.lean).
  GIVEN WITH THE SEED: the statements are not yours to turn. If you find one false, say at which input.
  Laid BY PROGRAM, IN A SANDBOX (cutbox-rows.mjs): the forced cells as the released guide's own fill.sh prints them over the translation a8816a22ffcf6e73… (all of the seat's roots in one cut). By AI agents, Wed Nov 11 2026. No macro, syntax, notation, axiom, sorry.
-/
import Derived.Test.YthojbcecbeapgaaChecked
import GoSem.Claim
import GoSem.ClaimJoined
import GoSem.ClaimMapViews
import Derived.JoinedTies
import Derived.KernelRfl
namespace Go.Proofs.Ythojbcecbeapgaa
/- THE CELL 'sum', in the pinned program and in every row, IS THE sha256 OF THE DUMP (.gsa) THAT YthojbcecbeapgaaProg.lean LOADS. Nothing in Lean hashes anything: it is a label: what it is worth is what the hold of that sum in a sandbox is worth. -/
noncomputable def Try.pinned : Pinned := { name := "ythojbcecbeapgaa", sum := "a8816a22ffcf6e73d62638bdb7e2280775d2cd70ca6436653b9d7f5b47728c14", checked := Try.checked }
namespace Rows
def none {H : Type} : Left H := { results := [], args := [] }

/-- 'laws.FnStorePut': WHATEVER THE INPUT: true; the input reads as it did. -/
def fnStorePutSpec : ChangeSpec := { name := "fnStorePut", fn := fun _ => fun
  | [d] => { results := [.lit (.bool true)], args := [d] }
  | _ => none }
def fnStorePutRow : OpenClaim := { program := "ythojbcecbeapgaa", sum := "a8816a22ffcf6e73d62638bdb7e2280775d2cd70ca6436653b9d7f5b47728c14", func := "loop.example/dagconsensus/laws.FnStorePut", spec := "fnStorePut", unfollowed := true, recurses := true, apart := false }
def FnStorePutSaid : Prop := fnStorePutRow.holds Try.pinned (OpenSpec.ofChange fnStorePutSpec)

/-- ITS FALSE NEIGHBOUR: 'it returns false'. Refute it at one input. -/
def fnStorePutWrong : ChangeSpec := { name := "fnStorePut", fn := fun _ => fun
  | [d] => { results := [.lit (.bool false)], args := [d] }
  | _ => none }
def FnStorePutWrongFalsely : Prop := fnStorePutRow.holds Try.pinned (OpenSpec.ofChange fnStorePutWrong)

/-- 'laws.FnStorePutTwice': WHATEVER THE INPUT: true; the input reads as it did. -/
def fnStorePutTwiceSpec : ChangeSpec := { name := "fnStorePutTwice", fn := fun _ => fun
  | [d] => { results := [.lit (.bool true)], args := [d] }
  | _ => none }
def fnStorePutTwiceRow : OpenClaim := { program := "ythojbcecbeapgaa", sum := "a8816a22ffcf6e73d62638bdb7e2280775d2cd70ca6436653b9d7f5b47728c14", func := "loop.example/dagconsensus/laws.FnStorePutTwice", spec := "fnStorePutTwice", unfollowed := true, recurses := true, apart := false }
def FnStorePutTwiceSaid : Prop := fnStorePutTwiceRow.holds Try.pinned (OpenSpec.ofChange fnStorePutTwiceSpec)

/-- ITS FALSE NEIGHBOUR: 'it returns false'. Refute it at one input. -/
def fnStorePutTwiceWrong : ChangeSpec := { name := "fnStorePutTwice", fn := fun _ => fun
  | [d] => { results := [.lit (.bool false)], args := [d] }
  | _ => none }
def FnStorePutTwiceWrongFalsely : Prop := fnStorePutTwiceRow.holds Try.pinned (OpenSpec.ofChange fnStorePutTwiceWrong)

/-- 'laws.FnStoreQuota': WHATEVER THE INPUT: true; the input reads as it did. -/
def fnStoreQuotaSpec : ChangeSpec := { name := "fnStoreQuota", fn := fun _ => fun
  | [d] => { results := [.lit (.bool true)], args := [d] }
  | _ => none }
def fnStoreQuotaRow : OpenClaim := { program := "ythojbcecbeapgaa", sum := "a8816a22ffcf6e73d62638bdb7e2280775d2cd70ca6436653b9d7f5b47728c14", func := "loop.example/dagconsensus/laws.FnStoreQuota", spec := "fnStoreQuota", unfollowed := true, recurses := true, apart := false }
def FnStoreQuotaSaid : Prop := fnStoreQuotaRow.holds Try.pinned (OpenSpec.ofChange fnStoreQuotaSpec)

/-- ITS FALSE NEIGHBOUR: 'it returns false'. Refute it at one input. -/
def fnStoreQuotaWrong : ChangeSpec := { name := "fnStoreQuota", fn := fun _ => fun
  | [d] => { results := [.lit (.bool false)], args := [d] }
  | _ => none }
def FnStoreQuotaWrongFalsely : Prop := fnStoreQuotaRow.holds Try.pinned (OpenSpec.ofChange fnStoreQuotaWrong)

/-- 'laws.FnStoreCodes': WHATEVER THE INPUT: true; the input reads as it did. -/
def fnStoreCodesSpec : ChangeSpec := { name := "fnStoreCodes", fn := fun _ => fun
  | [d] => { results := [.lit (.bool true)], args := [d] }
  | _ => none }
def fnStoreCodesRow : OpenClaim := { program := "ythojbcecbeapgaa", sum := "a8816a22ffcf6e73d62638bdb7e2280775d2cd70ca6436653b9d7f5b47728c14", func := "loop.example/dagconsensus/laws.FnStoreCodes", spec := "fnStoreCodes", unfollowed := true, recurses := true, apart := false }
def FnStoreCodesSaid : Prop := fnStoreCodesRow.holds Try.pinned (OpenSpec.ofChange fnStoreCodesSpec)

/-- ITS FALSE NEIGHBOUR: 'it returns false'. Refute it at one input. -/
def fnStoreCodesWrong : ChangeSpec := { name := "fnStoreCodes", fn := fun _ => fun
  | [d] => { results := [.lit (.bool false)], args := [d] }
  | _ => none }
def FnStoreCodesWrongFalsely : Prop := fnStoreCodesRow.holds Try.pinned (OpenSpec.ofChange fnStoreCodesWrong)

/-- 'laws.FnStoreForget': WHATEVER THE INPUT: true; the input reads as it did. -/
def fnStoreForgetSpec : ChangeSpec := { name := "fnStoreForget", fn := fun _ => fun
  | [d] => { results := [.lit (.bool true)], args := [d] }
  | _ => none }
def fnStoreForgetRow : OpenClaim := { program := "ythojbcecbeapgaa", sum := "a8816a22ffcf6e73d62638bdb7e2280775d2cd70ca6436653b9d7f5b47728c14", func := "loop.example/dagconsensus/laws.FnStoreForget", spec := "fnStoreForget", unfollowed := true, recurses := true, apart := false }
def FnStoreForgetSaid : Prop := fnStoreForgetRow.holds Try.pinned (OpenSpec.ofChange fnStoreForgetSpec)

/-- ITS FALSE NEIGHBOUR: 'it returns false'. Refute it at one input. -/
def fnStoreForgetWrong : ChangeSpec := { name := "fnStoreForget", fn := fun _ => fun
  | [d] => { results := [.lit (.bool false)], args := [d] }
  | _ => none }
def FnStoreForgetWrongFalsely : Prop := fnStoreForgetRow.holds Try.pinned (OpenSpec.ofChange fnStoreForgetWrong)

/-- 'laws.FnStoreForgetSteps': WHATEVER THE INPUT: true; the input reads as it did. -/
def fnStoreForgetStepsSpec : ChangeSpec := { name := "fnStoreForgetSteps", fn := fun _ => fun
  | [d1, d2] => { results := [.lit (.bool true)], args := [d1, d2] }
  | _ => none }
def fnStoreForgetStepsRow : OpenClaim := { program := "ythojbcecbeapgaa", sum := "a8816a22ffcf6e73d62638bdb7e2280775d2cd70ca6436653b9d7f5b47728c14", func := "loop.example/dagconsensus/laws.FnStoreForgetSteps", spec := "fnStoreForgetSteps", unfollowed := true, recurses := true, apart := false }
def FnStoreForgetStepsSaid : Prop := fnStoreForgetStepsRow.holds Try.pinned (OpenSpec.ofChange fnStoreForgetStepsSpec)

/-- ITS FALSE NEIGHBOUR: 'it returns false'. Refute it at one input. -/
def fnStoreForgetStepsWrong : ChangeSpec := { name := "fnStoreForgetSteps", fn := fun _ => fun
  | [d1, d2] => { results := [.lit (.bool false)], args := [d1, d2] }
  | _ => none }
def FnStoreForgetStepsWrongFalsely : Prop := fnStoreForgetStepsRow.holds Try.pinned (OpenSpec.ofChange fnStoreForgetStepsWrong)

/-- 'laws.FnStoreOrder': WHATEVER THE INPUT: true; the input reads as it did. -/
def fnStoreOrderSpec : ChangeSpec := { name := "fnStoreOrder", fn := fun _ => fun
  | [d1, d2] => { results := [.lit (.bool true)], args := [d1, d2] }
  | _ => none }
def fnStoreOrderRow : OpenClaim := { program := "ythojbcecbeapgaa", sum := "a8816a22ffcf6e73d62638bdb7e2280775d2cd70ca6436653b9d7f5b47728c14", func := "loop.example/dagconsensus/laws.FnStoreOrder", spec := "fnStoreOrder", unfollowed := true, recurses := true, apart := false }
def FnStoreOrderSaid : Prop := fnStoreOrderRow.holds Try.pinned (OpenSpec.ofChange fnStoreOrderSpec)

/-- ITS FALSE NEIGHBOUR: 'it returns false'. Refute it at one input. -/
def fnStoreOrderWrong : ChangeSpec := { name := "fnStoreOrder", fn := fun _ => fun
  | [d1, d2] => { results := [.lit (.bool false)], args := [d1, d2] }
  | _ => none }
def FnStoreOrderWrongFalsely : Prop := fnStoreOrderRow.holds Try.pinned (OpenSpec.ofChange fnStoreOrderWrong)

/- THE SECOND FORM. 'bulk': how many values and letters a reading holds, each counted each time it is reached (what is shared counts as often as it is met; a slice's spare places count too). A statement '..UptoSaid' is the law's where the arguments, and the package variables that the reading takes, are together of bulk at most 1048576: NARROWER than '..Said'. Prove '..Said' where nothing that the law and all that it calls make is longer than what came in: it says more and counts as full. Else prove '..UptoSaid'. A law counts once. -/
mutual
def uptoBulk {H : Type} : DataW H → Nat
  | .lit (.string bytes) => bytes.length + 1
  | .lit _ => 1
  | .nil => 1
  | .ptr d => uptoBulk d + 1
  | .slice elems spare => uptoBulkAll elems + uptoBulkAll spare + 1
  | .agg parts => uptoBulkAll parts + 1
  | .iface _ d => uptoBulk d + 1
  | .map entries => uptoBulkEntries entries + 1
  | .held _ => 1
def uptoBulkAll {H : Type} : List (DataW H) → Nat
  | [] => 0
  | d :: r => uptoBulk d + uptoBulkAll r
def uptoBulkEntries {H : Type} : List (Lit × DataW H) → Nat
  | [] => 0
  | x :: r => uptoBulkEntry x + uptoBulkEntries r
def uptoBulkEntry {H : Type} : Lit × DataW H → Nat
  | (.string bytes, d) => bytes.length + uptoBulk d + 1
  | (_, d) => uptoBulk d + 1
 end
def uptoSmall : (H : Type) → List (DataW H) → Bool := fun _ ds => decide (uptoBulkAll ds ≤ 1048576)
def OpenSpec.upto (s : _root_.Go.ChangeSpec) : _root_.Go.OpenSpec := { _root_.Go.OpenSpec.ofChange s with cond := some uptoSmall }

/-- 'laws.FnStorePut', WHERE WHAT IT READS IS OF BULK AT MOST 1048576: true; the input reads as it did. -/
def fnStorePutUptoRow : OpenClaim := { program := "ythojbcecbeapgaa", sum := "a8816a22ffcf6e73d62638bdb7e2280775d2cd70ca6436653b9d7f5b47728c14", func := "loop.example/dagconsensus/laws.FnStorePut", spec := "fnStorePut", unfollowed := true, recurses := true, apart := false, narrowed := true }
def FnStorePutUptoSaid : Prop := fnStorePutUptoRow.holds Try.pinned (OpenSpec.upto fnStorePutSpec)

/-- 'laws.FnStorePutTwice', WHERE WHAT IT READS IS OF BULK AT MOST 1048576: true; the input reads as it did. -/
def fnStorePutTwiceUptoRow : OpenClaim := { program := "ythojbcecbeapgaa", sum := "a8816a22ffcf6e73d62638bdb7e2280775d2cd70ca6436653b9d7f5b47728c14", func := "loop.example/dagconsensus/laws.FnStorePutTwice", spec := "fnStorePutTwice", unfollowed := true, recurses := true, apart := false, narrowed := true }
def FnStorePutTwiceUptoSaid : Prop := fnStorePutTwiceUptoRow.holds Try.pinned (OpenSpec.upto fnStorePutTwiceSpec)

/-- 'laws.FnStoreQuota', WHERE WHAT IT READS IS OF BULK AT MOST 1048576: true; the input reads as it did. -/
def fnStoreQuotaUptoRow : OpenClaim := { program := "ythojbcecbeapgaa", sum := "a8816a22ffcf6e73d62638bdb7e2280775d2cd70ca6436653b9d7f5b47728c14", func := "loop.example/dagconsensus/laws.FnStoreQuota", spec := "fnStoreQuota", unfollowed := true, recurses := true, apart := false, narrowed := true }
def FnStoreQuotaUptoSaid : Prop := fnStoreQuotaUptoRow.holds Try.pinned (OpenSpec.upto fnStoreQuotaSpec)

/-- 'laws.FnStoreCodes', WHERE WHAT IT READS IS OF BULK AT MOST 1048576: true; the input reads as it did. -/
def fnStoreCodesUptoRow : OpenClaim := { program := "ythojbcecbeapgaa", sum := "a8816a22ffcf6e73d62638bdb7e2280775d2cd70ca6436653b9d7f5b47728c14", func := "loop.example/dagconsensus/laws.FnStoreCodes", spec := "fnStoreCodes", unfollowed := true, recurses := true, apart := false, narrowed := true }
def FnStoreCodesUptoSaid : Prop := fnStoreCodesUptoRow.holds Try.pinned (OpenSpec.upto fnStoreCodesSpec)

/-- 'laws.FnStoreForget', WHERE WHAT IT READS IS OF BULK AT MOST 1048576: true; the input reads as it did. -/
def fnStoreForgetUptoRow : OpenClaim := { program := "ythojbcecbeapgaa", sum := "a8816a22ffcf6e73d62638bdb7e2280775d2cd70ca6436653b9d7f5b47728c14", func := "loop.example/dagconsensus/laws.FnStoreForget", spec := "fnStoreForget", unfollowed := true, recurses := true, apart := false, narrowed := true }
def FnStoreForgetUptoSaid : Prop := fnStoreForgetUptoRow.holds Try.pinned (OpenSpec.upto fnStoreForgetSpec)

/-- 'laws.FnStoreForgetSteps', WHERE WHAT IT READS IS OF BULK AT MOST 1048576: true; the input reads as it did. -/
def fnStoreForgetStepsUptoRow : OpenClaim := { program := "ythojbcecbeapgaa", sum := "a8816a22ffcf6e73d62638bdb7e2280775d2cd70ca6436653b9d7f5b47728c14", func := "loop.example/dagconsensus/laws.FnStoreForgetSteps", spec := "fnStoreForgetSteps", unfollowed := true, recurses := true, apart := false, narrowed := true }
def FnStoreForgetStepsUptoSaid : Prop := fnStoreForgetStepsUptoRow.holds Try.pinned (OpenSpec.upto fnStoreForgetStepsSpec)

/-- 'laws.FnStoreOrder', WHERE WHAT IT READS IS OF BULK AT MOST 1048576: true; the input reads as it did. -/
def fnStoreOrderUptoRow : OpenClaim := { program := "ythojbcecbeapgaa", sum := "a8816a22ffcf6e73d62638bdb7e2280775d2cd70ca6436653b9d7f5b47728c14", func := "loop.example/dagconsensus/laws.FnStoreOrder", spec := "fnStoreOrder", unfollowed := true, recurses := true, apart := false, narrowed := true }
def FnStoreOrderUptoSaid : Prop := fnStoreOrderUptoRow.holds Try.pinned (OpenSpec.upto fnStoreOrderSpec)

end Rows
end Go.Proofs.Ythojbcecbeapgaa
