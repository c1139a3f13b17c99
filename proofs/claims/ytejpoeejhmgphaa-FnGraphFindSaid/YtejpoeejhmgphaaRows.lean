/-
  No cell of these rows narrows 'for every input' (looked for: loops, veiled, ifaces, maps, wideKeys, modest, calm, conditions, laid).
  DERIVED. THE GIVEN ROWS OF THIS SEAT. 8 by the template 'for every input the law returns true; each argument reads behind the call as it read before'; 0 by the template 'total and deterministic' (their statements: YtejpoeejhmgphaaTotals.lean).
  GIVEN WITH THE SEED: the statements are not yours to turn. If you find one false, say at which input.
  Laid BY PROGRAM, IN A SANDBOX (cutbox-rows.mjs): the forced cells as the released guide's own fill.sh prints them over the translation 6f15ae831d3212eb… (all of the seat's roots in one cut). By AI agents, Wed Nov 11 2026. No macro, syntax, notation, axiom, sorry.
-/
import Derived.Test.YtejpoeejhmgphaaChecked
import GoSem.Claim
import GoSem.ClaimJoined
import GoSem.ClaimMapViews
import Derived.JoinedTies
import Derived.KernelRfl
namespace Go.Proofs.Ytejpoeejhmgphaa
/- THE CELL 'sum', in the pinned program and in every row, IS THE sha256 OF THE DUMP (.gsa) THAT YtejpoeejhmgphaaProg.lean LOADS. Nothing in Lean hashes anything: it is a label: what it is worth is what the hold of that sum in a sandbox is worth. -/
noncomputable def Try.pinned : Pinned := { name := "ytejpoeejhmgphaa", sum := "6f15ae831d3212ebc655a1bf2e9338fbd087df78fec80705680e58d0039a6b54", checked := Try.checked }
namespace Rows
def none {H : Type} : Left H := { results := [], args := [] }

/-- 'laws.FnGraphFind': WHATEVER THE INPUT: true; the input reads as it did. -/
def fnGraphFindSpec : ChangeSpec := { name := "fnGraphFind", fn := fun _ => fun
  | [d] => { results := [.lit (.bool true)], args := [d] }
  | _ => none }
def fnGraphFindRow : OpenClaim := { program := "ytejpoeejhmgphaa", sum := "6f15ae831d3212ebc655a1bf2e9338fbd087df78fec80705680e58d0039a6b54", func := "loop.example/dagconsensus/laws.FnGraphFind", spec := "fnGraphFind", unfollowed := true, recurses := true, apart := false }
def FnGraphFindSaid : Prop := fnGraphFindRow.holds Try.pinned (OpenSpec.ofChange fnGraphFindSpec)

/-- ITS FALSE NEIGHBOUR: 'it returns false'. Refute it at one input. -/
def fnGraphFindWrong : ChangeSpec := { name := "fnGraphFind", fn := fun _ => fun
  | [d] => { results := [.lit (.bool false)], args := [d] }
  | _ => none }
def FnGraphFindWrongFalsely : Prop := fnGraphFindRow.holds Try.pinned (OpenSpec.ofChange fnGraphFindWrong)

/-- 'laws.FnGraphAddTwice': WHATEVER THE INPUT: true; the input reads as it did. -/
def fnGraphAddTwiceSpec : ChangeSpec := { name := "fnGraphAddTwice", fn := fun _ => fun
  | [d1, d2] => { results := [.lit (.bool true)], args := [d1, d2] }
  | _ => none }
def fnGraphAddTwiceRow : OpenClaim := { program := "ytejpoeejhmgphaa", sum := "6f15ae831d3212ebc655a1bf2e9338fbd087df78fec80705680e58d0039a6b54", func := "loop.example/dagconsensus/laws.FnGraphAddTwice", spec := "fnGraphAddTwice", apart := false }
def FnGraphAddTwiceSaid : Prop := fnGraphAddTwiceRow.holds Try.pinned (OpenSpec.ofChange fnGraphAddTwiceSpec)

/-- ITS FALSE NEIGHBOUR: 'it returns false'. Refute it at one input. -/
def fnGraphAddTwiceWrong : ChangeSpec := { name := "fnGraphAddTwice", fn := fun _ => fun
  | [d1, d2] => { results := [.lit (.bool false)], args := [d1, d2] }
  | _ => none }
def FnGraphAddTwiceWrongFalsely : Prop := fnGraphAddTwiceRow.holds Try.pinned (OpenSpec.ofChange fnGraphAddTwiceWrong)

/-- 'laws.FnGraphAddCodes': WHATEVER THE INPUT: true; the input reads as it did. -/
def fnGraphAddCodesSpec : ChangeSpec := { name := "fnGraphAddCodes", fn := fun _ => fun
  | [d] => { results := [.lit (.bool true)], args := [d] }
  | _ => none }
def fnGraphAddCodesRow : OpenClaim := { program := "ytejpoeejhmgphaa", sum := "6f15ae831d3212ebc655a1bf2e9338fbd087df78fec80705680e58d0039a6b54", func := "loop.example/dagconsensus/laws.FnGraphAddCodes", spec := "fnGraphAddCodes", unfollowed := true, recurses := true, apart := false }
def FnGraphAddCodesSaid : Prop := fnGraphAddCodesRow.holds Try.pinned (OpenSpec.ofChange fnGraphAddCodesSpec)

/-- ITS FALSE NEIGHBOUR: 'it returns false'. Refute it at one input. -/
def fnGraphAddCodesWrong : ChangeSpec := { name := "fnGraphAddCodes", fn := fun _ => fun
  | [d] => { results := [.lit (.bool false)], args := [d] }
  | _ => none }
def FnGraphAddCodesWrongFalsely : Prop := fnGraphAddCodesRow.holds Try.pinned (OpenSpec.ofChange fnGraphAddCodesWrong)

/-- 'laws.FnGraphAddOrder': WHATEVER THE INPUT: true; the input reads as it did. -/
def fnGraphAddOrderSpec : ChangeSpec := { name := "fnGraphAddOrder", fn := fun _ => fun
  | [d1, d2] => { results := [.lit (.bool true)], args := [d1, d2] }
  | _ => none }
def fnGraphAddOrderRow : OpenClaim := { program := "ytejpoeejhmgphaa", sum := "6f15ae831d3212ebc655a1bf2e9338fbd087df78fec80705680e58d0039a6b54", func := "loop.example/dagconsensus/laws.FnGraphAddOrder", spec := "fnGraphAddOrder", apart := false }
def FnGraphAddOrderSaid : Prop := fnGraphAddOrderRow.holds Try.pinned (OpenSpec.ofChange fnGraphAddOrderSpec)

/-- ITS FALSE NEIGHBOUR: 'it returns false'. Refute it at one input. -/
def fnGraphAddOrderWrong : ChangeSpec := { name := "fnGraphAddOrder", fn := fun _ => fun
  | [d1, d2] => { results := [.lit (.bool false)], args := [d1, d2] }
  | _ => none }
def FnGraphAddOrderWrongFalsely : Prop := fnGraphAddOrderRow.holds Try.pinned (OpenSpec.ofChange fnGraphAddOrderWrong)

/-- 'laws.FnGraphPast': WHATEVER THE INPUT: true; the input reads as it did. -/
def fnGraphPastSpec : ChangeSpec := { name := "fnGraphPast", fn := fun _ => fun
  | [d] => { results := [.lit (.bool true)], args := [d] }
  | _ => none }
def fnGraphPastRow : OpenClaim := { program := "ytejpoeejhmgphaa", sum := "6f15ae831d3212ebc655a1bf2e9338fbd087df78fec80705680e58d0039a6b54", func := "loop.example/dagconsensus/laws.FnGraphPast", spec := "fnGraphPast", unfollowed := true, recurses := true, apart := false }
def FnGraphPastSaid : Prop := fnGraphPastRow.holds Try.pinned (OpenSpec.ofChange fnGraphPastSpec)

/-- ITS FALSE NEIGHBOUR: 'it returns false'. Refute it at one input. -/
def fnGraphPastWrong : ChangeSpec := { name := "fnGraphPast", fn := fun _ => fun
  | [d] => { results := [.lit (.bool false)], args := [d] }
  | _ => none }
def FnGraphPastWrongFalsely : Prop := fnGraphPastRow.holds Try.pinned (OpenSpec.ofChange fnGraphPastWrong)

/-- 'laws.FnGraphPastLeast': WHATEVER THE INPUT: true; the input reads as it did. -/
def fnGraphPastLeastSpec : ChangeSpec := { name := "fnGraphPastLeast", fn := fun _ => fun
  | [d] => { results := [.lit (.bool true)], args := [d] }
  | _ => none }
def fnGraphPastLeastRow : OpenClaim := { program := "ytejpoeejhmgphaa", sum := "6f15ae831d3212ebc655a1bf2e9338fbd087df78fec80705680e58d0039a6b54", func := "loop.example/dagconsensus/laws.FnGraphPastLeast", spec := "fnGraphPastLeast", recurses := true, apart := false }
def FnGraphPastLeastSaid : Prop := fnGraphPastLeastRow.holds Try.pinned (OpenSpec.ofChange fnGraphPastLeastSpec)

/-- ITS FALSE NEIGHBOUR: 'it returns false'. Refute it at one input. -/
def fnGraphPastLeastWrong : ChangeSpec := { name := "fnGraphPastLeast", fn := fun _ => fun
  | [d] => { results := [.lit (.bool false)], args := [d] }
  | _ => none }
def FnGraphPastLeastWrongFalsely : Prop := fnGraphPastLeastRow.holds Try.pinned (OpenSpec.ofChange fnGraphPastLeastWrong)

/-- 'laws.FnGraphPastKeeps': WHATEVER THE INPUT: true; the input reads as it did. -/
def fnGraphPastKeepsSpec : ChangeSpec := { name := "fnGraphPastKeeps", fn := fun _ => fun
  | [d1, d2] => { results := [.lit (.bool true)], args := [d1, d2] }
  | _ => none }
def fnGraphPastKeepsRow : OpenClaim := { program := "ytejpoeejhmgphaa", sum := "6f15ae831d3212ebc655a1bf2e9338fbd087df78fec80705680e58d0039a6b54", func := "loop.example/dagconsensus/laws.FnGraphPastKeeps", spec := "fnGraphPastKeeps", recurses := true, apart := false }
def FnGraphPastKeepsSaid : Prop := fnGraphPastKeepsRow.holds Try.pinned (OpenSpec.ofChange fnGraphPastKeepsSpec)

/-- ITS FALSE NEIGHBOUR: 'it returns false'. Refute it at one input. -/
def fnGraphPastKeepsWrong : ChangeSpec := { name := "fnGraphPastKeeps", fn := fun _ => fun
  | [d1, d2] => { results := [.lit (.bool false)], args := [d1, d2] }
  | _ => none }
def FnGraphPastKeepsWrongFalsely : Prop := fnGraphPastKeepsRow.holds Try.pinned (OpenSpec.ofChange fnGraphPastKeepsWrong)

/-- 'laws.FnGraphPastRounds': WHATEVER THE INPUT: true; the input reads as it did. -/
def fnGraphPastRoundsSpec : ChangeSpec := { name := "fnGraphPastRounds", fn := fun _ => fun
  | [d] => { results := [.lit (.bool true)], args := [d] }
  | _ => none }
def fnGraphPastRoundsRow : OpenClaim := { program := "ytejpoeejhmgphaa", sum := "6f15ae831d3212ebc655a1bf2e9338fbd087df78fec80705680e58d0039a6b54", func := "loop.example/dagconsensus/laws.FnGraphPastRounds", spec := "fnGraphPastRounds", recurses := true, apart := false }
def FnGraphPastRoundsSaid : Prop := fnGraphPastRoundsRow.holds Try.pinned (OpenSpec.ofChange fnGraphPastRoundsSpec)

/-- ITS FALSE NEIGHBOUR: 'it returns false'. Refute it at one input. -/
def fnGraphPastRoundsWrong : ChangeSpec := { name := "fnGraphPastRounds", fn := fun _ => fun
  | [d] => { results := [.lit (.bool false)], args := [d] }
  | _ => none }
def FnGraphPastRoundsWrongFalsely : Prop := fnGraphPastRoundsRow.holds Try.pinned (OpenSpec.ofChange fnGraphPastRoundsWrong)

/- THE SECOND FORM. 'bulk': how many values and letters a reading holds, each counted each time it is reached (what is shared counts as often as it is met; a slice's spare places count too). A statement '..UptoSaid' is the law's where the arguments, and the package variables that the reading takes, are together of bulk at most 1048576: NARROWER than '..Said'. Prove '..Said' where nothing that the law and all that it calls make is longer than what came in: it says more and counts as full. Else prove '..UptoSaid'. A law counts once. -/
mutual
def uptoBulk {H : Type} : DataW H → Nat
  | .lit (.string bytes) => bytes.length + 1
  | .lit _ => 1
  | .nil => 1
  | .ptr d => uptoBulk d + 1
  | .slice elems spare => uptoBulkAll elems + uptoBulkAll spare + 1
  | .agg parts => uptoBulkAll parts + 1
  | .iface _ d => uptoBulk d + 1
  | .map entries => uptoBulkEntries entries + 1
  | .held _ => 1
def uptoBulkAll {H : Type} : List (DataW H) → Nat
  | [] => 0
  | d :: r => uptoBulk d + uptoBulkAll r
def uptoBulkEntries {H : Type} : List (Lit × DataW H) → Nat
  | [] => 0
  | x :: r => uptoBulkEntry x + uptoBulkEntries r
def uptoBulkEntry {H : Type} : Lit × DataW H → Nat
  | (.string bytes, d) => bytes.length + uptoBulk d + 1
  | (_, d) => uptoBulk d + 1
 end
def uptoSmall : (H : Type) → List (DataW H) → Bool := fun _ ds => decide (uptoBulkAll ds ≤ 1048576)
def OpenSpec.upto (s : _root_.Go.ChangeSpec) : _root_.Go.OpenSpec := { _root_.Go.OpenSpec.ofChange s with cond := some uptoSmall }

/-- 'laws.FnGraphFind', WHERE WHAT IT READS IS OF BULK AT MOST 1048576: true; the input reads as it did. -/
def fnGraphFindUptoRow : OpenClaim := { program := "ytejpoeejhmgphaa", sum := "6f15ae831d3212ebc655a1bf2e9338fbd087df78fec80705680e58d0039a6b54", func := "loop.example/dagconsensus/laws.FnGraphFind", spec := "fnGraphFind", unfollowed := true, recurses := true, apart := false, narrowed := true }
def FnGraphFindUptoSaid : Prop := fnGraphFindUptoRow.holds Try.pinned (OpenSpec.upto fnGraphFindSpec)

/-- 'laws.FnGraphAddTwice', WHERE WHAT IT READS IS OF BULK AT MOST 1048576: true; the input reads as it did. -/
def fnGraphAddTwiceUptoRow : OpenClaim := { program := "ytejpoeejhmgphaa", sum := "6f15ae831d3212ebc655a1bf2e9338fbd087df78fec80705680e58d0039a6b54", func := "loop.example/dagconsensus/laws.FnGraphAddTwice", spec := "fnGraphAddTwice", apart := false, narrowed := true }
def FnGraphAddTwiceUptoSaid : Prop := fnGraphAddTwiceUptoRow.holds Try.pinned (OpenSpec.upto fnGraphAddTwiceSpec)

/-- 'laws.FnGraphAddCodes', WHERE WHAT IT READS IS OF BULK AT MOST 1048576: true; the input reads as it did. -/
def fnGraphAddCodesUptoRow : OpenClaim := { program := "ytejpoeejhmgphaa", sum := "6f15ae831d3212ebc655a1bf2e9338fbd087df78fec80705680e58d0039a6b54", func := "loop.example/dagconsensus/laws.FnGraphAddCodes", spec := "fnGraphAddCodes", unfollowed := true, recurses := true, apart := false, narrowed := true }
def FnGraphAddCodesUptoSaid : Prop := fnGraphAddCodesUptoRow.holds Try.pinned (OpenSpec.upto fnGraphAddCodesSpec)

/-- 'laws.FnGraphAddOrder', WHERE WHAT IT READS IS OF BULK AT MOST 1048576: true; the input reads as it did. -/
def fnGraphAddOrderUptoRow : OpenClaim := { program := "ytejpoeejhmgphaa", sum := "6f15ae831d3212ebc655a1bf2e9338fbd087df78fec80705680e58d0039a6b54", func := "loop.example/dagconsensus/laws.FnGraphAddOrder", spec := "fnGraphAddOrder", apart := false, narrowed := true }
def FnGraphAddOrderUptoSaid : Prop := fnGraphAddOrderUptoRow.holds Try.pinned (OpenSpec.upto fnGraphAddOrderSpec)

/-- 'laws.FnGraphPast', WHERE WHAT IT READS IS OF BULK AT MOST 1048576: true; the input reads as it did. -/
def fnGraphPastUptoRow : OpenClaim := { program := "ytejpoeejhmgphaa", sum := "6f15ae831d3212ebc655a1bf2e9338fbd087df78fec80705680e58d0039a6b54", func := "loop.example/dagconsensus/laws.FnGraphPast", spec := "fnGraphPast", unfollowed := true, recurses := true, apart := false, narrowed := true }
def FnGraphPastUptoSaid : Prop := fnGraphPastUptoRow.holds Try.pinned (OpenSpec.upto fnGraphPastSpec)

/-- 'laws.FnGraphPastLeast', WHERE WHAT IT READS IS OF BULK AT MOST 1048576: true; the input reads as it did. -/
def fnGraphPastLeastUptoRow : OpenClaim := { program := "ytejpoeejhmgphaa", sum := "6f15ae831d3212ebc655a1bf2e9338fbd087df78fec80705680e58d0039a6b54", func := "loop.example/dagconsensus/laws.FnGraphPastLeast", spec := "fnGraphPastLeast", recurses := true, apart := false, narrowed := true }
def FnGraphPastLeastUptoSaid : Prop := fnGraphPastLeastUptoRow.holds Try.pinned (OpenSpec.upto fnGraphPastLeastSpec)

/-- 'laws.FnGraphPastKeeps', WHERE WHAT IT READS IS OF BULK AT MOST 1048576: true; the input reads as it did. -/
def fnGraphPastKeepsUptoRow : OpenClaim := { program := "ytejpoeejhmgphaa", sum := "6f15ae831d3212ebc655a1bf2e9338fbd087df78fec80705680e58d0039a6b54", func := "loop.example/dagconsensus/laws.FnGraphPastKeeps", spec := "fnGraphPastKeeps", recurses := true, apart := false, narrowed := true }
def FnGraphPastKeepsUptoSaid : Prop := fnGraphPastKeepsUptoRow.holds Try.pinned (OpenSpec.upto fnGraphPastKeepsSpec)

/-- 'laws.FnGraphPastRounds', WHERE WHAT IT READS IS OF BULK AT MOST 1048576: true; the input reads as it did. -/
def fnGraphPastRoundsUptoRow : OpenClaim := { program := "ytejpoeejhmgphaa", sum := "6f15ae831d3212ebc655a1bf2e9338fbd087df78fec80705680e58d0039a6b54", func := "loop.example/dagconsensus/laws.FnGraphPastRounds", spec := "fnGraphPastRounds", recurses := true, apart := false, narrowed := true }
def FnGraphPastRoundsUptoSaid : Prop := fnGraphPastRoundsUptoRow.holds Try.pinned (OpenSpec.upto fnGraphPastRoundsSpec)

end Rows
end Go.Proofs.Ytejpoeejhmgphaa
