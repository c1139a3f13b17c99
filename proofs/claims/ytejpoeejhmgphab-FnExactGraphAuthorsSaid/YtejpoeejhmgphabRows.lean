/-
  No cell of these rows narrows 'for every input' (looked for: loops, veiled, ifaces, maps, wideKeys, modest, calm, conditions, laid).
  DERIVED. THE GIVEN ROWS OF THIS SEAT. 8 by the template 'for every input the law returns true; each argument reads behind the call as it read before'; 0 by the template 'total and deterministic' (their statements: YtejpoeejhmgphabTotals.lean).
  GIVEN WITH THE SEED: the statements are not yours to turn. If you find one false, say at which input.
  Laid BY PROGRAM, IN A SANDBOX (cutbox-rows.mjs): the forced cells as the released guide's own fill.sh prints them over the translation ef5f62d734914e4a… (all of the seat's roots in one cut). By AI agents, Wed Nov 11 2026. No macro, syntax, notation, axiom, sorry.
-/
import Derived.Test.YtejpoeejhmgphabChecked
import GoSem.Claim
import GoSem.ClaimJoined
import GoSem.ClaimMapViews
import Derived.JoinedTies
import Derived.KernelRfl
namespace Go.Proofs.Ytejpoeejhmgphab
/- THE CELL 'sum', in the pinned program and in every row, IS THE sha256 OF THE DUMP (.gsa) THAT YtejpoeejhmgphabProg.lean LOADS. Nothing in Lean hashes anything: it is a label: what it is worth is what the hold of that sum in a sandbox is worth. -/
noncomputable def Try.pinned : Pinned := { name := "ytejpoeejhmgphab", sum := "ef5f62d734914e4a50705317e5ad0f5d1b6203dad9e243ea1f4118bb48949009", checked := Try.checked }
namespace Rows
def none {H : Type} : Left H := { results := [], args := [] }

/-- 'laws.FnExactVertexValid': WHATEVER THE INPUT: true; the input reads as it did. -/
def fnExactVertexValidSpec : ChangeSpec := { name := "fnExactVertexValid", fn := fun _ => fun
  | [d1, d2] => { results := [.lit (.bool true)], args := [d1, d2] }
  | _ => none }
def fnExactVertexValidRow : OpenClaim := { program := "ytejpoeejhmgphab", sum := "ef5f62d734914e4a50705317e5ad0f5d1b6203dad9e243ea1f4118bb48949009", func := "loop.example/dagconsensus/laws.FnExactVertexValid", spec := "fnExactVertexValid", apart := false }
def FnExactVertexValidSaid : Prop := fnExactVertexValidRow.holds Try.pinned (OpenSpec.ofChange fnExactVertexValidSpec)

/-- ITS FALSE NEIGHBOUR: 'it returns false'. Refute it at one input. -/
def fnExactVertexValidWrong : ChangeSpec := { name := "fnExactVertexValid", fn := fun _ => fun
  | [d1, d2] => { results := [.lit (.bool false)], args := [d1, d2] }
  | _ => none }
def FnExactVertexValidWrongFalsely : Prop := fnExactVertexValidRow.holds Try.pinned (OpenSpec.ofChange fnExactVertexValidWrong)

/-- 'laws.FnExactGraphValid': WHATEVER THE INPUT: true; the input reads as it did. -/
def fnExactGraphValidSpec : ChangeSpec := { name := "fnExactGraphValid", fn := fun _ => fun
  | [d1, d2] => { results := [.lit (.bool true)], args := [d1, d2] }
  | _ => none }
def fnExactGraphValidRow : OpenClaim := { program := "ytejpoeejhmgphab", sum := "ef5f62d734914e4a50705317e5ad0f5d1b6203dad9e243ea1f4118bb48949009", func := "loop.example/dagconsensus/laws.FnExactGraphValid", spec := "fnExactGraphValid", apart := false }
def FnExactGraphValidSaid : Prop := fnExactGraphValidRow.holds Try.pinned (OpenSpec.ofChange fnExactGraphValidSpec)

/-- ITS FALSE NEIGHBOUR: 'it returns false'. Refute it at one input. -/
def fnExactGraphValidWrong : ChangeSpec := { name := "fnExactGraphValid", fn := fun _ => fun
  | [d1, d2] => { results := [.lit (.bool false)], args := [d1, d2] }
  | _ => none }
def FnExactGraphValidWrongFalsely : Prop := fnExactGraphValidRow.holds Try.pinned (OpenSpec.ofChange fnExactGraphValidWrong)

/-- 'laws.FnExactGraphFind': WHATEVER THE INPUT: true; the input reads as it did. -/
def fnExactGraphFindSpec : ChangeSpec := { name := "fnExactGraphFind", fn := fun _ => fun
  | [d1, d2, d3, d4] => { results := [.lit (.bool true)], args := [d1, d2, d3, d4] }
  | _ => none }
def fnExactGraphFindRow : OpenClaim := { program := "ytejpoeejhmgphab", sum := "ef5f62d734914e4a50705317e5ad0f5d1b6203dad9e243ea1f4118bb48949009", func := "loop.example/dagconsensus/laws.FnExactGraphFind", spec := "fnExactGraphFind", unfollowed := true, recurses := true, apart := false }
def FnExactGraphFindSaid : Prop := fnExactGraphFindRow.holds Try.pinned (OpenSpec.ofChange fnExactGraphFindSpec)

/-- ITS FALSE NEIGHBOUR: 'it returns false'. Refute it at one input. -/
def fnExactGraphFindWrong : ChangeSpec := { name := "fnExactGraphFind", fn := fun _ => fun
  | [d1, d2, d3, d4] => { results := [.lit (.bool false)], args := [d1, d2, d3, d4] }
  | _ => none }
def FnExactGraphFindWrongFalsely : Prop := fnExactGraphFindRow.holds Try.pinned (OpenSpec.ofChange fnExactGraphFindWrong)

/-- 'laws.FnExactGraphAdd': WHATEVER THE INPUT: true; the input reads as it did. -/
def fnExactGraphAddSpec : ChangeSpec := { name := "fnExactGraphAdd", fn := fun _ => fun
  | [d1, d2, d3] => { results := [.lit (.bool true)], args := [d1, d2, d3] }
  | _ => none }
def fnExactGraphAddRow : OpenClaim := { program := "ytejpoeejhmgphab", sum := "ef5f62d734914e4a50705317e5ad0f5d1b6203dad9e243ea1f4118bb48949009", func := "loop.example/dagconsensus/laws.FnExactGraphAdd", spec := "fnExactGraphAdd", apart := false }
def FnExactGraphAddSaid : Prop := fnExactGraphAddRow.holds Try.pinned (OpenSpec.ofChange fnExactGraphAddSpec)

/-- ITS FALSE NEIGHBOUR: 'it returns false'. Refute it at one input. -/
def fnExactGraphAddWrong : ChangeSpec := { name := "fnExactGraphAdd", fn := fun _ => fun
  | [d1, d2, d3] => { results := [.lit (.bool false)], args := [d1, d2, d3] }
  | _ => none }
def FnExactGraphAddWrongFalsely : Prop := fnExactGraphAddRow.holds Try.pinned (OpenSpec.ofChange fnExactGraphAddWrong)

/-- 'laws.FnExactGraphPast': WHATEVER THE INPUT: true; the input reads as it did. -/
def fnExactGraphPastSpec : ChangeSpec := { name := "fnExactGraphPast", fn := fun _ => fun
  | [d1, d2, d3, d4] => { results := [.lit (.bool true)], args := [d1, d2, d3, d4] }
  | _ => none }
def fnExactGraphPastRow : OpenClaim := { program := "ytejpoeejhmgphab", sum := "ef5f62d734914e4a50705317e5ad0f5d1b6203dad9e243ea1f4118bb48949009", func := "loop.example/dagconsensus/laws.FnExactGraphPast", spec := "fnExactGraphPast", recurses := true, apart := false }
def FnExactGraphPastSaid : Prop := fnExactGraphPastRow.holds Try.pinned (OpenSpec.ofChange fnExactGraphPastSpec)

/-- ITS FALSE NEIGHBOUR: 'it returns false'. Refute it at one input. -/
def fnExactGraphPastWrong : ChangeSpec := { name := "fnExactGraphPast", fn := fun _ => fun
  | [d1, d2, d3, d4] => { results := [.lit (.bool false)], args := [d1, d2, d3, d4] }
  | _ => none }
def FnExactGraphPastWrongFalsely : Prop := fnExactGraphPastRow.holds Try.pinned (OpenSpec.ofChange fnExactGraphPastWrong)

/-- 'laws.FnExactGraphAuthors': WHATEVER THE INPUT: true; the input reads as it did. -/
def fnExactGraphAuthorsSpec : ChangeSpec := { name := "fnExactGraphAuthors", fn := fun _ => fun
  | [d1, d2, d3] => { results := [.lit (.bool true)], args := [d1, d2, d3] }
  | _ => none }
def fnExactGraphAuthorsRow : OpenClaim := { program := "ytejpoeejhmgphab", sum := "ef5f62d734914e4a50705317e5ad0f5d1b6203dad9e243ea1f4118bb48949009", func := "loop.example/dagconsensus/laws.FnExactGraphAuthors", spec := "fnExactGraphAuthors", apart := false }
def FnExactGraphAuthorsSaid : Prop := fnExactGraphAuthorsRow.holds Try.pinned (OpenSpec.ofChange fnExactGraphAuthorsSpec)

/-- ITS FALSE NEIGHBOUR: 'it returns false'. Refute it at one input. -/
def fnExactGraphAuthorsWrong : ChangeSpec := { name := "fnExactGraphAuthors", fn := fun _ => fun
  | [d1, d2, d3] => { results := [.lit (.bool false)], args := [d1, d2, d3] }
  | _ => none }
def FnExactGraphAuthorsWrongFalsely : Prop := fnExactGraphAuthorsRow.holds Try.pinned (OpenSpec.ofChange fnExactGraphAuthorsWrong)

/-- 'laws.FnExactGraphHeight': WHATEVER THE INPUT: true; the input reads as it did. -/
def fnExactGraphHeightSpec : ChangeSpec := { name := "fnExactGraphHeight", fn := fun _ => fun
  | [d1, d2] => { results := [.lit (.bool true)], args := [d1, d2] }
  | _ => none }
def fnExactGraphHeightRow : OpenClaim := { program := "ytejpoeejhmgphab", sum := "ef5f62d734914e4a50705317e5ad0f5d1b6203dad9e243ea1f4118bb48949009", func := "loop.example/dagconsensus/laws.FnExactGraphHeight", spec := "fnExactGraphHeight", apart := false }
def FnExactGraphHeightSaid : Prop := fnExactGraphHeightRow.holds Try.pinned (OpenSpec.ofChange fnExactGraphHeightSpec)

/-- ITS FALSE NEIGHBOUR: 'it returns false'. Refute it at one input. -/
def fnExactGraphHeightWrong : ChangeSpec := { name := "fnExactGraphHeight", fn := fun _ => fun
  | [d1, d2] => { results := [.lit (.bool false)], args := [d1, d2] }
  | _ => none }
def FnExactGraphHeightWrongFalsely : Prop := fnExactGraphHeightRow.holds Try.pinned (OpenSpec.ofChange fnExactGraphHeightWrong)

/-- 'laws.FnExactGraphMerge': WHATEVER THE INPUT: true; the input reads as it did. -/
def fnExactGraphMergeSpec : ChangeSpec := { name := "fnExactGraphMerge", fn := fun _ => fun
  | [d1, d2, d3] => { results := [.lit (.bool true)], args := [d1, d2, d3] }
  | _ => none }
def fnExactGraphMergeRow : OpenClaim := { program := "ytejpoeejhmgphab", sum := "ef5f62d734914e4a50705317e5ad0f5d1b6203dad9e243ea1f4118bb48949009", func := "loop.example/dagconsensus/laws.FnExactGraphMerge", spec := "fnExactGraphMerge", apart := false }
def FnExactGraphMergeSaid : Prop := fnExactGraphMergeRow.holds Try.pinned (OpenSpec.ofChange fnExactGraphMergeSpec)

/-- ITS FALSE NEIGHBOUR: 'it returns false'. Refute it at one input. -/
def fnExactGraphMergeWrong : ChangeSpec := { name := "fnExactGraphMerge", fn := fun _ => fun
  | [d1, d2, d3] => { results := [.lit (.bool false)], args := [d1, d2, d3] }
  | _ => none }
def FnExactGraphMergeWrongFalsely : Prop := fnExactGraphMergeRow.holds Try.pinned (OpenSpec.ofChange fnExactGraphMergeWrong)

/- THE SECOND FORM. 'bulk': how many values and letters a reading holds, each counted each time it is reached (what is shared counts as often as it is met; a slice's spare places count too). A statement '..UptoSaid' is the law's where the arguments, and the package variables that the reading takes, are together of bulk at most 1048576: NARROWER than '..Said'. Prove '..Said' where nothing that the law and all that it calls make is longer than what came in: it says more and counts as full. Else prove '..UptoSaid'. A law counts once. -/
mutual
def uptoBulk {H : Type} : DataW H → Nat
  | .lit (.string bytes) => bytes.length + 1
  | .lit _ => 1
  | .nil => 1
  | .ptr d => uptoBulk d + 1
  | .slice elems spare => uptoBulkAll elems + uptoBulkAll spare + 1
  | .agg parts => uptoBulkAll parts + 1
  | .iface _ d => uptoBulk d + 1
  | .map entries => uptoBulkEntries entries + 1
  | .held _ => 1
def uptoBulkAll {H : Type} : List (DataW H) → Nat
  | [] => 0
  | d :: r => uptoBulk d + uptoBulkAll r
def uptoBulkEntries {H : Type} : List (Lit × DataW H) → Nat
  | [] => 0
  | x :: r => uptoBulkEntry x + uptoBulkEntries r
def uptoBulkEntry {H : Type} : Lit × DataW H → Nat
  | (.string bytes, d) => bytes.length + uptoBulk d + 1
  | (_, d) => uptoBulk d + 1
 end
def uptoSmall : (H : Type) → List (DataW H) → Bool := fun _ ds => decide (uptoBulkAll ds ≤ 1048576)
def OpenSpec.upto (s : _root_.Go.ChangeSpec) : _root_.Go.OpenSpec := { _root_.Go.OpenSpec.ofChange s with cond := some uptoSmall }

/-- 'laws.FnExactVertexValid', WHERE WHAT IT READS IS OF BULK AT MOST 1048576: true; the input reads as it did. -/
def fnExactVertexValidUptoRow : OpenClaim := { program := "ytejpoeejhmgphab", sum := "ef5f62d734914e4a50705317e5ad0f5d1b6203dad9e243ea1f4118bb48949009", func := "loop.example/dagconsensus/laws.FnExactVertexValid", spec := "fnExactVertexValid", apart := false, narrowed := true }
def FnExactVertexValidUptoSaid : Prop := fnExactVertexValidUptoRow.holds Try.pinned (OpenSpec.upto fnExactVertexValidSpec)

/-- 'laws.FnExactGraphValid', WHERE WHAT IT READS IS OF BULK AT MOST 1048576: true; the input reads as it did. -/
def fnExactGraphValidUptoRow : OpenClaim := { program := "ytejpoeejhmgphab", sum := "ef5f62d734914e4a50705317e5ad0f5d1b6203dad9e243ea1f4118bb48949009", func := "loop.example/dagconsensus/laws.FnExactGraphValid", spec := "fnExactGraphValid", apart := false, narrowed := true }
def FnExactGraphValidUptoSaid : Prop := fnExactGraphValidUptoRow.holds Try.pinned (OpenSpec.upto fnExactGraphValidSpec)

/-- 'laws.FnExactGraphFind', WHERE WHAT IT READS IS OF BULK AT MOST 1048576: true; the input reads as it did. -/
def fnExactGraphFindUptoRow : OpenClaim := { program := "ytejpoeejhmgphab", sum := "ef5f62d734914e4a50705317e5ad0f5d1b6203dad9e243ea1f4118bb48949009", func := "loop.example/dagconsensus/laws.FnExactGraphFind", spec := "fnExactGraphFind", unfollowed := true, recurses := true, apart := false, narrowed := true }
def FnExactGraphFindUptoSaid : Prop := fnExactGraphFindUptoRow.holds Try.pinned (OpenSpec.upto fnExactGraphFindSpec)

/-- 'laws.FnExactGraphAdd', WHERE WHAT IT READS IS OF BULK AT MOST 1048576: true; the input reads as it did. -/
def fnExactGraphAddUptoRow : OpenClaim := { program := "ytejpoeejhmgphab", sum := "ef5f62d734914e4a50705317e5ad0f5d1b6203dad9e243ea1f4118bb48949009", func := "loop.example/dagconsensus/laws.FnExactGraphAdd", spec := "fnExactGraphAdd", apart := false, narrowed := true }
def FnExactGraphAddUptoSaid : Prop := fnExactGraphAddUptoRow.holds Try.pinned (OpenSpec.upto fnExactGraphAddSpec)

/-- 'laws.FnExactGraphPast', WHERE WHAT IT READS IS OF BULK AT MOST 1048576: true; the input reads as it did. -/
def fnExactGraphPastUptoRow : OpenClaim := { program := "ytejpoeejhmgphab", sum := "ef5f62d734914e4a50705317e5ad0f5d1b6203dad9e243ea1f4118bb48949009", func := "loop.example/dagconsensus/laws.FnExactGraphPast", spec := "fnExactGraphPast", recurses := true, apart := false, narrowed := true }
def FnExactGraphPastUptoSaid : Prop := fnExactGraphPastUptoRow.holds Try.pinned (OpenSpec.upto fnExactGraphPastSpec)

/-- 'laws.FnExactGraphAuthors', WHERE WHAT IT READS IS OF BULK AT MOST 1048576: true; the input reads as it did. -/
def fnExactGraphAuthorsUptoRow : OpenClaim := { program := "ytejpoeejhmgphab", sum := "ef5f62d734914e4a50705317e5ad0f5d1b6203dad9e243ea1f4118bb48949009", func := "loop.example/dagconsensus/laws.FnExactGraphAuthors", spec := "fnExactGraphAuthors", apart := false, narrowed := true }
def FnExactGraphAuthorsUptoSaid : Prop := fnExactGraphAuthorsUptoRow.holds Try.pinned (OpenSpec.upto fnExactGraphAuthorsSpec)

/-- 'laws.FnExactGraphHeight', WHERE WHAT IT READS IS OF BULK AT MOST 1048576: true; the input reads as it did. -/
def fnExactGraphHeightUptoRow : OpenClaim := { program := "ytejpoeejhmgphab", sum := "ef5f62d734914e4a50705317e5ad0f5d1b6203dad9e243ea1f4118bb48949009", func := "loop.example/dagconsensus/laws.FnExactGraphHeight", spec := "fnExactGraphHeight", apart := false, narrowed := true }
def FnExactGraphHeightUptoSaid : Prop := fnExactGraphHeightUptoRow.holds Try.pinned (OpenSpec.upto fnExactGraphHeightSpec)

/-- 'laws.FnExactGraphMerge', WHERE WHAT IT READS IS OF BULK AT MOST 1048576: true; the input reads as it did. -/
def fnExactGraphMergeUptoRow : OpenClaim := { program := "ytejpoeejhmgphab", sum := "ef5f62d734914e4a50705317e5ad0f5d1b6203dad9e243ea1f4118bb48949009", func := "loop.example/dagconsensus/laws.FnExactGraphMerge", spec := "fnExactGraphMerge", apart := false, narrowed := true }
def FnExactGraphMergeUptoSaid : Prop := fnExactGraphMergeUptoRow.holds Try.pinned (OpenSpec.upto fnExactGraphMergeSpec)

end Rows
end Go.Proofs.Ytejpoeejhmgphab
