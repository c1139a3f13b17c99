/-
  DERIVED. GIVEN WITH THE SEED: THE CARDS: each row of YtjaacdapibokiabDoorRows.lean that lists a variable, with what it lists TIED to the program's text (the seventh form; the later family's looks); each row that meets fmt, with fmt's text TOLD by the authors' own Lean function (tested against real Go, not proved from fmt's source: count such statements apart). THE CARD IS WHAT COUNTS. Prove the row's statement (the work); the ties are given (YtjaacdapibokiabDoorTie.lean); close each card by the builder's one call (the guide's Derived/Test/ToyasCard.lean, 'card_holds'). Laid BY PROGRAM, IN A SANDBOX (cutbox-door.mjs). By AI agents, Wed Nov 11 2026. No macro, syntax, notation, axiom, sorry.
-/
import Derived.Test.YtjaacdapibokiabDoorRows
import GoSem.ClaimSeven
namespace Go.Proofs.YtjaacdapibokiabDoor
namespace Rows

/-- THE TIED CARD OF 'laws.FnExactOrderDigests'. -/
def fnExactOrderDigestsCard : Claim7 := { stood := { row := fnExactOrderDigestsRow, standIns := [], harness := (true, "bb0c11b7f3569c3996bdaf00a5e019b15be3b62712fb7c1756cd24899fe6ae5a"), looks := true }, kinds := [], alts := [], laidByText := true, laidKinds := [.sentinel, .sentinel], laidTests := true, laidLooks := .later }
def FnExactOrderDigestsCardSaid : Prop := Claim7.holds Tryd.pinned (.plain (OpenSpec.ofChange fnExactOrderDigestsSpec)) fnExactOrderDigestsCard

/-- THE TIED CARD OF 'laws.FnExactOrderWave'. -/
def fnExactOrderWaveCard : Claim7 := { stood := { row := fnExactOrderWaveRow, standIns := [], harness := (true, "bb0c11b7f3569c3996bdaf00a5e019b15be3b62712fb7c1756cd24899fe6ae5a"), looks := true }, kinds := [], alts := [], laidByText := true, laidKinds := [.sentinel, .sentinel], laidTests := true, laidLooks := .later }
def FnExactOrderWaveCardSaid : Prop := Claim7.holds Tryd.pinned (.plain (OpenSpec.ofChange fnExactOrderWaveSpec)) fnExactOrderWaveCard

/-- THE SECOND FORM's CARD OF 'laws.FnExactOrderDigests'. -/
def fnExactOrderDigestsUptoCard : Claim7 := { stood := { row := fnExactOrderDigestsUptoRow, standIns := [], harness := (true, "bb0c11b7f3569c3996bdaf00a5e019b15be3b62712fb7c1756cd24899fe6ae5a"), looks := true }, kinds := [], alts := [], laidByText := true, laidKinds := [.sentinel, .sentinel], laidTests := true, laidLooks := .later }
def FnExactOrderDigestsUptoCardSaid : Prop := Claim7.holds Tryd.pinned (.plain (OpenSpec.upto fnExactOrderDigestsSpec)) fnExactOrderDigestsUptoCard

/-- THE SECOND FORM's CARD OF 'laws.FnExactOrderWave'. -/
def fnExactOrderWaveUptoCard : Claim7 := { stood := { row := fnExactOrderWaveUptoRow, standIns := [], harness := (true, "bb0c11b7f3569c3996bdaf00a5e019b15be3b62712fb7c1756cd24899fe6ae5a"), looks := true }, kinds := [], alts := [], laidByText := true, laidKinds := [.sentinel, .sentinel], laidTests := true, laidLooks := .later }
def FnExactOrderWaveUptoCardSaid : Prop := Claim7.holds Tryd.pinned (.plain (OpenSpec.upto fnExactOrderWaveSpec)) fnExactOrderWaveUptoCard
end Rows
end Go.Proofs.YtjaacdapibokiabDoor
