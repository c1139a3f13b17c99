/-
  DERIVED. GIVEN WITH THE SEED: THE CARDS: each row of YtjaacdapibokiabGreatDoorRows.lean that lists a variable, with what it lists TIED to the program's text (the seventh form; the later family's looks); each row that meets fmt, with fmt's text TOLD by the authors' own Lean function (tested against real Go, not proved from fmt's source: count such statements apart). THE CARD IS WHAT COUNTS. Prove the row's statement (the work); the ties are given (YtjaacdapibokiabGreatDoorTie.lean); close each card by the builder's one call (the guide's Derived/Test/ToyasCard.lean, 'card_holds'). Laid BY PROGRAM, IN A SANDBOX (cutbox-door.mjs). By AI agents, Wed Nov 11 2026. No macro, syntax, notation, axiom, sorry.
-/
import Derived.Test.YtjaacdapibokiabGreatDoorRows
import GoSem.ClaimSeven
namespace Go.Proofs.YtjaacdapibokiabGreatDoor
namespace Rows

/-- THE TIED CARD OF 'laws.FnOrderWaves'. -/
def fnOrderWavesCard : Claim7 := { stood := { row := fnOrderWavesRow, standIns := [], harness := (true, "3986fc7f53ff41c09d399b733417960a4d2e57b73834915883bf3a0eadbbc69b"), looks := true }, kinds := [], alts := [], laidByText := true, laidKinds := [.sentinel, .sentinel], laidTests := true, laidLooks := .later }
def FnOrderWavesCardSaid : Prop := Claim7.holds Tryz.pinned (.plain (OpenSpec.ofChange fnOrderWavesSpec)) fnOrderWavesCard

/-- THE TIED CARD OF 'laws.FnOrderQuorum'. -/
def fnOrderQuorumCard : Claim7 := { stood := { row := fnOrderQuorumRow, standIns := [], harness := (true, "3986fc7f53ff41c09d399b733417960a4d2e57b73834915883bf3a0eadbbc69b"), looks := true }, kinds := [], alts := [], laidByText := true, laidKinds := [.sentinel, .sentinel], laidTests := true, laidLooks := .later }
def FnOrderQuorumCardSaid : Prop := Claim7.holds Tryz.pinned (.plain (OpenSpec.ofChange fnOrderQuorumSpec)) fnOrderQuorumCard

/-- THE TIED CARD OF 'laws.FnExactOrderSlots'. -/
def fnExactOrderSlotsCard : Claim7 := { stood := { row := fnExactOrderSlotsRow, standIns := [], harness := (true, "3986fc7f53ff41c09d399b733417960a4d2e57b73834915883bf3a0eadbbc69b"), looks := true }, kinds := [], alts := [], laidByText := true, laidKinds := [.sentinel, .sentinel], laidTests := true, laidLooks := .later }
def FnExactOrderSlotsCardSaid : Prop := Claim7.holds Tryz.pinned (.plain (OpenSpec.ofChange fnExactOrderSlotsSpec)) fnExactOrderSlotsCard

/-- THE SECOND FORM's CARD OF 'laws.FnOrderWaves'. -/
def fnOrderWavesUptoCard : Claim7 := { stood := { row := fnOrderWavesUptoRow, standIns := [], harness := (true, "3986fc7f53ff41c09d399b733417960a4d2e57b73834915883bf3a0eadbbc69b"), looks := true }, kinds := [], alts := [], laidByText := true, laidKinds := [.sentinel, .sentinel], laidTests := true, laidLooks := .later }
def FnOrderWavesUptoCardSaid : Prop := Claim7.holds Tryz.pinned (.plain (OpenSpec.upto fnOrderWavesSpec)) fnOrderWavesUptoCard

/-- THE SECOND FORM's CARD OF 'laws.FnOrderQuorum'. -/
def fnOrderQuorumUptoCard : Claim7 := { stood := { row := fnOrderQuorumUptoRow, standIns := [], harness := (true, "3986fc7f53ff41c09d399b733417960a4d2e57b73834915883bf3a0eadbbc69b"), looks := true }, kinds := [], alts := [], laidByText := true, laidKinds := [.sentinel, .sentinel], laidTests := true, laidLooks := .later }
def FnOrderQuorumUptoCardSaid : Prop := Claim7.holds Tryz.pinned (.plain (OpenSpec.upto fnOrderQuorumSpec)) fnOrderQuorumUptoCard

/-- THE SECOND FORM's CARD OF 'laws.FnExactOrderSlots'. -/
def fnExactOrderSlotsUptoCard : Claim7 := { stood := { row := fnExactOrderSlotsUptoRow, standIns := [], harness := (true, "3986fc7f53ff41c09d399b733417960a4d2e57b73834915883bf3a0eadbbc69b"), looks := true }, kinds := [], alts := [], laidByText := true, laidKinds := [.sentinel, .sentinel], laidTests := true, laidLooks := .later }
def FnExactOrderSlotsUptoCardSaid : Prop := Claim7.holds Tryz.pinned (.plain (OpenSpec.upto fnExactOrderSlotsSpec)) fnExactOrderSlotsUptoCard
end Rows
end Go.Proofs.YtjaacdapibokiabGreatDoor
