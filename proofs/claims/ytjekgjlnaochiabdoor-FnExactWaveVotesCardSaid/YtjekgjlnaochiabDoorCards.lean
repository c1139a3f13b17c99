/-
  DERIVED. GIVEN WITH THE SEED: THE CARDS: each row of YtjekgjlnaochiabDoorRows.lean that lists a variable, with what it lists TIED to the program's text (the seventh form; the later family's looks); each row that meets fmt, with fmt's text TOLD by the authors' own Lean function (tested against real Go, not proved from fmt's source: count such statements apart). THE CARD IS WHAT COUNTS. Prove the row's statement (the work); the ties are given (YtjekgjlnaochiabDoorTie.lean); close each card by the builder's one call (the guide's Derived/Test/ToyasCard.lean, 'card_holds'). Laid BY PROGRAM, IN A SANDBOX (cutbox-door.mjs). By AI agents, Wed Nov 11 2026. No macro, syntax, notation, axiom, sorry.
-/
import Derived.Test.YtjekgjlnaochiabDoorRows
import GoSem.ClaimSeven
namespace Go.Proofs.YtjekgjlnaochiabDoor
namespace Rows

/-- THE TIED CARD OF 'laws.FnWavesAgree'. -/
def fnWavesAgreeCard : Claim7 := { stood := { row := fnWavesAgreeRow, standIns := [], harness := (true, "a5186265e83a31202901871549033e032339cab45f360ca9969cf412f4244838"), looks := true }, kinds := [], alts := [], laidByText := true, laidKinds := [.sentinel, .sentinel], laidTests := true, laidLooks := .later }
def FnWavesAgreeCardSaid : Prop := Claim7.holds Tryd.pinned (.plain (OpenSpec.ofChange fnWavesAgreeSpec)) fnWavesAgreeCard

/-- THE TIED CARD OF 'laws.FnWavesGrow'. -/
def fnWavesGrowCard : Claim7 := { stood := { row := fnWavesGrowRow, standIns := [], harness := (true, "a5186265e83a31202901871549033e032339cab45f360ca9969cf412f4244838"), looks := true }, kinds := [], alts := [], laidByText := true, laidKinds := [.sentinel, .sentinel], laidTests := true, laidLooks := .later }
def FnWavesGrowCardSaid : Prop := Claim7.holds Tryd.pinned (.plain (OpenSpec.ofChange fnWavesGrowSpec)) fnWavesGrowCard

/-- THE TIED CARD OF 'laws.FnWavesLeaders'. -/
def fnWavesLeadersCard : Claim7 := { stood := { row := fnWavesLeadersRow, standIns := [], harness := (true, "a5186265e83a31202901871549033e032339cab45f360ca9969cf412f4244838"), looks := true }, kinds := [], alts := [], laidByText := true, laidKinds := [.sentinel, .sentinel], laidTests := true, laidLooks := .later }
def FnWavesLeadersCardSaid : Prop := Claim7.holds Tryd.pinned (.plain (OpenSpec.ofChange fnWavesLeadersSpec)) fnWavesLeadersCard

/-- THE TIED CARD OF 'laws.FnExactWaveLeader'. -/
def fnExactWaveLeaderCard : Claim7 := { stood := { row := fnExactWaveLeaderRow, standIns := [], harness := (true, "a5186265e83a31202901871549033e032339cab45f360ca9969cf412f4244838"), looks := true }, kinds := [], alts := [], laidByText := true, laidKinds := [.sentinel, .sentinel], laidTests := true, laidLooks := .later }
def FnExactWaveLeaderCardSaid : Prop := Claim7.holds Tryd.pinned (.plain (OpenSpec.ofChange fnExactWaveLeaderSpec)) fnExactWaveLeaderCard

/-- THE TIED CARD OF 'laws.FnExactWaveVotes'. -/
def fnExactWaveVotesCard : Claim7 := { stood := { row := fnExactWaveVotesRow, standIns := [], harness := (true, "a5186265e83a31202901871549033e032339cab45f360ca9969cf412f4244838"), looks := true }, kinds := [], alts := [], laidByText := true, laidKinds := [.sentinel, .sentinel], laidTests := true, laidLooks := .later }
def FnExactWaveVotesCardSaid : Prop := Claim7.holds Tryd.pinned (.plain (OpenSpec.ofChange fnExactWaveVotesSpec)) fnExactWaveVotesCard

/-- THE TIED CARD OF 'laws.FnExactWaveDirect'. -/
def fnExactWaveDirectCard : Claim7 := { stood := { row := fnExactWaveDirectRow, standIns := [], harness := (true, "a5186265e83a31202901871549033e032339cab45f360ca9969cf412f4244838"), looks := true }, kinds := [], alts := [], laidByText := true, laidKinds := [.sentinel, .sentinel], laidTests := true, laidLooks := .later }
def FnExactWaveDirectCardSaid : Prop := Claim7.holds Tryd.pinned (.plain (OpenSpec.ofChange fnExactWaveDirectSpec)) fnExactWaveDirectCard

/-- THE TIED CARD OF 'laws.FnExactCommitWaves'. -/
def fnExactCommitWavesCard : Claim7 := { stood := { row := fnExactCommitWavesRow, standIns := [], harness := (true, "a5186265e83a31202901871549033e032339cab45f360ca9969cf412f4244838"), looks := true }, kinds := [], alts := [], laidByText := true, laidKinds := [.sentinel, .sentinel], laidTests := true, laidLooks := .later }
def FnExactCommitWavesCardSaid : Prop := Claim7.holds Tryd.pinned (.plain (OpenSpec.ofChange fnExactCommitWavesSpec)) fnExactCommitWavesCard

/-- THE SECOND FORM's CARD OF 'laws.FnWavesAgree'. -/
def fnWavesAgreeUptoCard : Claim7 := { stood := { row := fnWavesAgreeUptoRow, standIns := [], harness := (true, "a5186265e83a31202901871549033e032339cab45f360ca9969cf412f4244838"), looks := true }, kinds := [], alts := [], laidByText := true, laidKinds := [.sentinel, .sentinel], laidTests := true, laidLooks := .later }
def FnWavesAgreeUptoCardSaid : Prop := Claim7.holds Tryd.pinned (.plain (OpenSpec.upto fnWavesAgreeSpec)) fnWavesAgreeUptoCard

/-- THE SECOND FORM's CARD OF 'laws.FnWavesGrow'. -/
def fnWavesGrowUptoCard : Claim7 := { stood := { row := fnWavesGrowUptoRow, standIns := [], harness := (true, "a5186265e83a31202901871549033e032339cab45f360ca9969cf412f4244838"), looks := true }, kinds := [], alts := [], laidByText := true, laidKinds := [.sentinel, .sentinel], laidTests := true, laidLooks := .later }
def FnWavesGrowUptoCardSaid : Prop := Claim7.holds Tryd.pinned (.plain (OpenSpec.upto fnWavesGrowSpec)) fnWavesGrowUptoCard

/-- THE SECOND FORM's CARD OF 'laws.FnWavesLeaders'. -/
def fnWavesLeadersUptoCard : Claim7 := { stood := { row := fnWavesLeadersUptoRow, standIns := [], harness := (true, "a5186265e83a31202901871549033e032339cab45f360ca9969cf412f4244838"), looks := true }, kinds := [], alts := [], laidByText := true, laidKinds := [.sentinel, .sentinel], laidTests := true, laidLooks := .later }
def FnWavesLeadersUptoCardSaid : Prop := Claim7.holds Tryd.pinned (.plain (OpenSpec.upto fnWavesLeadersSpec)) fnWavesLeadersUptoCard

/-- THE SECOND FORM's CARD OF 'laws.FnExactWaveLeader'. -/
def fnExactWaveLeaderUptoCard : Claim7 := { stood := { row := fnExactWaveLeaderUptoRow, standIns := [], harness := (true, "a5186265e83a31202901871549033e032339cab45f360ca9969cf412f4244838"), looks := true }, kinds := [], alts := [], laidByText := true, laidKinds := [.sentinel, .sentinel], laidTests := true, laidLooks := .later }
def FnExactWaveLeaderUptoCardSaid : Prop := Claim7.holds Tryd.pinned (.plain (OpenSpec.upto fnExactWaveLeaderSpec)) fnExactWaveLeaderUptoCard

/-- THE SECOND FORM's CARD OF 'laws.FnExactWaveVotes'. -/
def fnExactWaveVotesUptoCard : Claim7 := { stood := { row := fnExactWaveVotesUptoRow, standIns := [], harness := (true, "a5186265e83a31202901871549033e032339cab45f360ca9969cf412f4244838"), looks := true }, kinds := [], alts := [], laidByText := true, laidKinds := [.sentinel, .sentinel], laidTests := true, laidLooks := .later }
def FnExactWaveVotesUptoCardSaid : Prop := Claim7.holds Tryd.pinned (.plain (OpenSpec.upto fnExactWaveVotesSpec)) fnExactWaveVotesUptoCard

/-- THE SECOND FORM's CARD OF 'laws.FnExactWaveDirect'. -/
def fnExactWaveDirectUptoCard : Claim7 := { stood := { row := fnExactWaveDirectUptoRow, standIns := [], harness := (true, "a5186265e83a31202901871549033e032339cab45f360ca9969cf412f4244838"), looks := true }, kinds := [], alts := [], laidByText := true, laidKinds := [.sentinel, .sentinel], laidTests := true, laidLooks := .later }
def FnExactWaveDirectUptoCardSaid : Prop := Claim7.holds Tryd.pinned (.plain (OpenSpec.upto fnExactWaveDirectSpec)) fnExactWaveDirectUptoCard

/-- THE SECOND FORM's CARD OF 'laws.FnExactCommitWaves'. -/
def fnExactCommitWavesUptoCard : Claim7 := { stood := { row := fnExactCommitWavesUptoRow, standIns := [], harness := (true, "a5186265e83a31202901871549033e032339cab45f360ca9969cf412f4244838"), looks := true }, kinds := [], alts := [], laidByText := true, laidKinds := [.sentinel, .sentinel], laidTests := true, laidLooks := .later }
def FnExactCommitWavesUptoCardSaid : Prop := Claim7.holds Tryd.pinned (.plain (OpenSpec.upto fnExactCommitWavesSpec)) fnExactCommitWavesUptoCard
end Rows
end Go.Proofs.YtjekgjlnaochiabDoor
