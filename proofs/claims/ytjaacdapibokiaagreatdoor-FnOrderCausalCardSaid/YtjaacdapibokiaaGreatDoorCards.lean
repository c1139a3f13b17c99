/-
  DERIVED. GIVEN WITH THE SEED: THE CARDS: each row of YtjaacdapibokiaaGreatDoorRows.lean that lists a variable, with what it lists TIED to the program's text (the seventh form; the later family's looks); each row that meets fmt, with fmt's text TOLD by the authors' own Lean function (tested against real Go, not proved from fmt's source: count such statements apart). THE CARD IS WHAT COUNTS. Prove the row's statement (the work); the ties are given (YtjaacdapibokiaaGreatDoorTie.lean); close each card by the builder's one call (the guide's Derived/Test/ToyasCard.lean, 'card_holds'). Laid BY PROGRAM, IN A SANDBOX (cutbox-door.mjs). By AI agents, Wed Nov 11 2026. No macro, syntax, notation, axiom, sorry.
-/
import Derived.Test.YtjaacdapibokiaaGreatDoorRows
import GoSem.ClaimSeven
namespace Go.Proofs.YtjaacdapibokiaaGreatDoor
namespace Rows

/-- THE TIED CARD OF 'laws.FnOrderOnce'. -/
def fnOrderOnceCard : Claim7 := { stood := { row := fnOrderOnceRow, standIns := [], harness := (true, "7c4e44a7fb88b045c60121086822e982905f2ab825a2b8fd541d522b2f3a94df"), looks := true }, kinds := [], alts := [], laidByText := true, laidKinds := [.sentinel, .sentinel], laidTests := true, laidLooks := .later }
def FnOrderOnceCardSaid : Prop := Claim7.holds Tryz.pinned (.plain (OpenSpec.ofChange fnOrderOnceSpec)) fnOrderOnceCard

/-- THE TIED CARD OF 'laws.FnOrderAgree'. -/
def fnOrderAgreeCard : Claim7 := { stood := { row := fnOrderAgreeRow, standIns := [], harness := (true, "7c4e44a7fb88b045c60121086822e982905f2ab825a2b8fd541d522b2f3a94df"), looks := true }, kinds := [], alts := [], laidByText := true, laidKinds := [.sentinel, .sentinel], laidTests := true, laidLooks := .later }
def FnOrderAgreeCardSaid : Prop := Claim7.holds Tryz.pinned (.plain (OpenSpec.ofChange fnOrderAgreeSpec)) fnOrderAgreeCard

/-- THE TIED CARD OF 'laws.FnOrderGrow'. -/
def fnOrderGrowCard : Claim7 := { stood := { row := fnOrderGrowRow, standIns := [], harness := (true, "7c4e44a7fb88b045c60121086822e982905f2ab825a2b8fd541d522b2f3a94df"), looks := true }, kinds := [], alts := [], laidByText := true, laidKinds := [.sentinel, .sentinel], laidTests := true, laidLooks := .later }
def FnOrderGrowCardSaid : Prop := Claim7.holds Tryz.pinned (.plain (OpenSpec.ofChange fnOrderGrowSpec)) fnOrderGrowCard

/-- THE TIED CARD OF 'laws.FnOrderCausal'. -/
def fnOrderCausalCard : Claim7 := { stood := { row := fnOrderCausalRow, standIns := [], harness := (true, "7c4e44a7fb88b045c60121086822e982905f2ab825a2b8fd541d522b2f3a94df"), looks := true }, kinds := [], alts := [], laidByText := true, laidKinds := [.sentinel, .sentinel], laidTests := true, laidLooks := .later }
def FnOrderCausalCardSaid : Prop := Claim7.holds Tryz.pinned (.plain (OpenSpec.ofChange fnOrderCausalSpec)) fnOrderCausalCard

/-- THE TIED CARD OF 'laws.FnOrderPast'. -/
def fnOrderPastCard : Claim7 := { stood := { row := fnOrderPastRow, standIns := [], harness := (true, "7c4e44a7fb88b045c60121086822e982905f2ab825a2b8fd541d522b2f3a94df"), looks := true }, kinds := [], alts := [], laidByText := true, laidKinds := [.sentinel, .sentinel], laidTests := true, laidLooks := .later }
def FnOrderPastCardSaid : Prop := Claim7.holds Tryz.pinned (.plain (OpenSpec.ofChange fnOrderPastSpec)) fnOrderPastCard

/-- THE TIED CARD OF 'laws.FnOrderDigests'. -/
def fnOrderDigestsCard : Claim7 := { stood := { row := fnOrderDigestsRow, standIns := [], harness := (true, "7c4e44a7fb88b045c60121086822e982905f2ab825a2b8fd541d522b2f3a94df"), looks := true }, kinds := [], alts := [], laidByText := true, laidKinds := [.sentinel, .sentinel], laidTests := true, laidLooks := .later }
def FnOrderDigestsCardSaid : Prop := Claim7.holds Tryz.pinned (.plain (OpenSpec.ofChange fnOrderDigestsSpec)) fnOrderDigestsCard

/-- THE TIED CARD OF 'laws.FnOrderWave'. -/
def fnOrderWaveCard : Claim7 := { stood := { row := fnOrderWaveRow, standIns := [], harness := (true, "7c4e44a7fb88b045c60121086822e982905f2ab825a2b8fd541d522b2f3a94df"), looks := true }, kinds := [], alts := [], laidByText := true, laidKinds := [.sentinel, .sentinel], laidTests := true, laidLooks := .later }
def FnOrderWaveCardSaid : Prop := Claim7.holds Tryz.pinned (.plain (OpenSpec.ofChange fnOrderWaveSpec)) fnOrderWaveCard

/-- THE SECOND FORM's CARD OF 'laws.FnOrderOnce'. -/
def fnOrderOnceUptoCard : Claim7 := { stood := { row := fnOrderOnceUptoRow, standIns := [], harness := (true, "7c4e44a7fb88b045c60121086822e982905f2ab825a2b8fd541d522b2f3a94df"), looks := true }, kinds := [], alts := [], laidByText := true, laidKinds := [.sentinel, .sentinel], laidTests := true, laidLooks := .later }
def FnOrderOnceUptoCardSaid : Prop := Claim7.holds Tryz.pinned (.plain (OpenSpec.upto fnOrderOnceSpec)) fnOrderOnceUptoCard

/-- THE SECOND FORM's CARD OF 'laws.FnOrderAgree'. -/
def fnOrderAgreeUptoCard : Claim7 := { stood := { row := fnOrderAgreeUptoRow, standIns := [], harness := (true, "7c4e44a7fb88b045c60121086822e982905f2ab825a2b8fd541d522b2f3a94df"), looks := true }, kinds := [], alts := [], laidByText := true, laidKinds := [.sentinel, .sentinel], laidTests := true, laidLooks := .later }
def FnOrderAgreeUptoCardSaid : Prop := Claim7.holds Tryz.pinned (.plain (OpenSpec.upto fnOrderAgreeSpec)) fnOrderAgreeUptoCard

/-- THE SECOND FORM's CARD OF 'laws.FnOrderGrow'. -/
def fnOrderGrowUptoCard : Claim7 := { stood := { row := fnOrderGrowUptoRow, standIns := [], harness := (true, "7c4e44a7fb88b045c60121086822e982905f2ab825a2b8fd541d522b2f3a94df"), looks := true }, kinds := [], alts := [], laidByText := true, laidKinds := [.sentinel, .sentinel], laidTests := true, laidLooks := .later }
def FnOrderGrowUptoCardSaid : Prop := Claim7.holds Tryz.pinned (.plain (OpenSpec.upto fnOrderGrowSpec)) fnOrderGrowUptoCard

/-- THE SECOND FORM's CARD OF 'laws.FnOrderCausal'. -/
def fnOrderCausalUptoCard : Claim7 := { stood := { row := fnOrderCausalUptoRow, standIns := [], harness := (true, "7c4e44a7fb88b045c60121086822e982905f2ab825a2b8fd541d522b2f3a94df"), looks := true }, kinds := [], alts := [], laidByText := true, laidKinds := [.sentinel, .sentinel], laidTests := true, laidLooks := .later }
def FnOrderCausalUptoCardSaid : Prop := Claim7.holds Tryz.pinned (.plain (OpenSpec.upto fnOrderCausalSpec)) fnOrderCausalUptoCard

/-- THE SECOND FORM's CARD OF 'laws.FnOrderPast'. -/
def fnOrderPastUptoCard : Claim7 := { stood := { row := fnOrderPastUptoRow, standIns := [], harness := (true, "7c4e44a7fb88b045c60121086822e982905f2ab825a2b8fd541d522b2f3a94df"), looks := true }, kinds := [], alts := [], laidByText := true, laidKinds := [.sentinel, .sentinel], laidTests := true, laidLooks := .later }
def FnOrderPastUptoCardSaid : Prop := Claim7.holds Tryz.pinned (.plain (OpenSpec.upto fnOrderPastSpec)) fnOrderPastUptoCard

/-- THE SECOND FORM's CARD OF 'laws.FnOrderDigests'. -/
def fnOrderDigestsUptoCard : Claim7 := { stood := { row := fnOrderDigestsUptoRow, standIns := [], harness := (true, "7c4e44a7fb88b045c60121086822e982905f2ab825a2b8fd541d522b2f3a94df"), looks := true }, kinds := [], alts := [], laidByText := true, laidKinds := [.sentinel, .sentinel], laidTests := true, laidLooks := .later }
def FnOrderDigestsUptoCardSaid : Prop := Claim7.holds Tryz.pinned (.plain (OpenSpec.upto fnOrderDigestsSpec)) fnOrderDigestsUptoCard

/-- THE SECOND FORM's CARD OF 'laws.FnOrderWave'. -/
def fnOrderWaveUptoCard : Claim7 := { stood := { row := fnOrderWaveUptoRow, standIns := [], harness := (true, "7c4e44a7fb88b045c60121086822e982905f2ab825a2b8fd541d522b2f3a94df"), looks := true }, kinds := [], alts := [], laidByText := true, laidKinds := [.sentinel, .sentinel], laidTests := true, laidLooks := .later }
def FnOrderWaveUptoCardSaid : Prop := Claim7.holds Tryz.pinned (.plain (OpenSpec.upto fnOrderWaveSpec)) fnOrderWaveUptoCard
end Rows
end Go.Proofs.YtjaacdapibokiaaGreatDoor
