/-
  DERIVED. GIVEN WITH THE SEED: THE CARDS: each row of YtjekgjlnaochiaaDoorRows.lean that lists a variable, with what it lists TIED to the program's text (the seventh form; the later family's looks); each row that meets fmt, with fmt's text TOLD by the authors' own Lean function (tested against real Go, not proved from fmt's source: count such statements apart). THE CARD IS WHAT COUNTS. Prove the row's statement (the work); the ties are given (YtjekgjlnaochiaaDoorTie.lean); close each card by the builder's one call (the guide's Derived/Test/ToyasCard.lean, 'card_holds'). Laid BY PROGRAM, IN A SANDBOX (cutbox-door.mjs). By AI agents, Wed Nov 11 2026. No macro, syntax, notation, axiom, sorry.
-/
import Derived.Test.YtjekgjlnaochiaaDoorRows
import GoSem.ClaimSeven
namespace Go.Proofs.YtjekgjlnaochiaaDoor
namespace Rows

/-- THE TIED CARD OF 'laws.FnWaveLeader'. -/
def fnWaveLeaderCard : Claim7 := { stood := { row := fnWaveLeaderRow, standIns := [], harness := (true, "50d4cdb52ffe8c843928a3bb6f9281ff14ec83d196906e5eca2f67e47c417208"), looks := true }, kinds := [], alts := [], laidByText := true, laidKinds := [.sentinel, .sentinel], laidTests := true, laidLooks := .later }
def FnWaveLeaderCardSaid : Prop := Claim7.holds Tryd.pinned (.plain (OpenSpec.ofChange fnWaveLeaderSpec)) fnWaveLeaderCard

/-- THE TIED CARD OF 'laws.FnWaveVotes'. -/
def fnWaveVotesCard : Claim7 := { stood := { row := fnWaveVotesRow, standIns := [], harness := (true, "50d4cdb52ffe8c843928a3bb6f9281ff14ec83d196906e5eca2f67e47c417208"), looks := true }, kinds := [], alts := [], laidByText := true, laidKinds := [.sentinel, .sentinel], laidTests := true, laidLooks := .later }
def FnWaveVotesCardSaid : Prop := Claim7.holds Tryd.pinned (.plain (OpenSpec.ofChange fnWaveVotesSpec)) fnWaveVotesCard

/-- THE TIED CARD OF 'laws.FnWaveDirect'. -/
def fnWaveDirectCard : Claim7 := { stood := { row := fnWaveDirectRow, standIns := [], harness := (true, "50d4cdb52ffe8c843928a3bb6f9281ff14ec83d196906e5eca2f67e47c417208"), looks := true }, kinds := [], alts := [], laidByText := true, laidKinds := [.sentinel, .sentinel], laidTests := true, laidLooks := .later }
def FnWaveDirectCardSaid : Prop := Claim7.holds Tryd.pinned (.plain (OpenSpec.ofChange fnWaveDirectSpec)) fnWaveDirectCard

/-- THE TIED CARD OF 'laws.FnWavesAscending'. -/
def fnWavesAscendingCard : Claim7 := { stood := { row := fnWavesAscendingRow, standIns := [], harness := (true, "50d4cdb52ffe8c843928a3bb6f9281ff14ec83d196906e5eca2f67e47c417208"), looks := true }, kinds := [], alts := [], laidByText := true, laidKinds := [.sentinel, .sentinel], laidTests := true, laidLooks := .later }
def FnWavesAscendingCardSaid : Prop := Claim7.holds Tryd.pinned (.plain (OpenSpec.ofChange fnWavesAscendingSpec)) fnWavesAscendingCard

/-- THE TIED CARD OF 'laws.FnWavesDirect'. -/
def fnWavesDirectCard : Claim7 := { stood := { row := fnWavesDirectRow, standIns := [], harness := (true, "50d4cdb52ffe8c843928a3bb6f9281ff14ec83d196906e5eca2f67e47c417208"), looks := true }, kinds := [], alts := [], laidByText := true, laidKinds := [.sentinel, .sentinel], laidTests := true, laidLooks := .later }
def FnWavesDirectCardSaid : Prop := Claim7.holds Tryd.pinned (.plain (OpenSpec.ofChange fnWavesDirectSpec)) fnWavesDirectCard

/-- THE TIED CARD OF 'laws.FnWavesLinked'. -/
def fnWavesLinkedCard : Claim7 := { stood := { row := fnWavesLinkedRow, standIns := [], harness := (true, "50d4cdb52ffe8c843928a3bb6f9281ff14ec83d196906e5eca2f67e47c417208"), looks := true }, kinds := [], alts := [], laidByText := true, laidKinds := [.sentinel, .sentinel], laidTests := true, laidLooks := .later }
def FnWavesLinkedCardSaid : Prop := Claim7.holds Tryd.pinned (.plain (OpenSpec.ofChange fnWavesLinkedSpec)) fnWavesLinkedCard

/-- THE TIED CARD OF 'laws.FnWavesReach'. -/
def fnWavesReachCard : Claim7 := { stood := { row := fnWavesReachRow, standIns := [], harness := (true, "50d4cdb52ffe8c843928a3bb6f9281ff14ec83d196906e5eca2f67e47c417208"), looks := true }, kinds := [], alts := [], laidByText := true, laidKinds := [.sentinel, .sentinel], laidTests := true, laidLooks := .later }
def FnWavesReachCardSaid : Prop := Claim7.holds Tryd.pinned (.plain (OpenSpec.ofChange fnWavesReachSpec)) fnWavesReachCard

/-- THE SECOND FORM's CARD OF 'laws.FnWaveLeader'. -/
def fnWaveLeaderUptoCard : Claim7 := { stood := { row := fnWaveLeaderUptoRow, standIns := [], harness := (true, "50d4cdb52ffe8c843928a3bb6f9281ff14ec83d196906e5eca2f67e47c417208"), looks := true }, kinds := [], alts := [], laidByText := true, laidKinds := [.sentinel, .sentinel], laidTests := true, laidLooks := .later }
def FnWaveLeaderUptoCardSaid : Prop := Claim7.holds Tryd.pinned (.plain (OpenSpec.upto fnWaveLeaderSpec)) fnWaveLeaderUptoCard

/-- THE SECOND FORM's CARD OF 'laws.FnWaveVotes'. -/
def fnWaveVotesUptoCard : Claim7 := { stood := { row := fnWaveVotesUptoRow, standIns := [], harness := (true, "50d4cdb52ffe8c843928a3bb6f9281ff14ec83d196906e5eca2f67e47c417208"), looks := true }, kinds := [], alts := [], laidByText := true, laidKinds := [.sentinel, .sentinel], laidTests := true, laidLooks := .later }
def FnWaveVotesUptoCardSaid : Prop := Claim7.holds Tryd.pinned (.plain (OpenSpec.upto fnWaveVotesSpec)) fnWaveVotesUptoCard

/-- THE SECOND FORM's CARD OF 'laws.FnWaveDirect'. -/
def fnWaveDirectUptoCard : Claim7 := { stood := { row := fnWaveDirectUptoRow, standIns := [], harness := (true, "50d4cdb52ffe8c843928a3bb6f9281ff14ec83d196906e5eca2f67e47c417208"), looks := true }, kinds := [], alts := [], laidByText := true, laidKinds := [.sentinel, .sentinel], laidTests := true, laidLooks := .later }
def FnWaveDirectUptoCardSaid : Prop := Claim7.holds Tryd.pinned (.plain (OpenSpec.upto fnWaveDirectSpec)) fnWaveDirectUptoCard

/-- THE SECOND FORM's CARD OF 'laws.FnWavesAscending'. -/
def fnWavesAscendingUptoCard : Claim7 := { stood := { row := fnWavesAscendingUptoRow, standIns := [], harness := (true, "50d4cdb52ffe8c843928a3bb6f9281ff14ec83d196906e5eca2f67e47c417208"), looks := true }, kinds := [], alts := [], laidByText := true, laidKinds := [.sentinel, .sentinel], laidTests := true, laidLooks := .later }
def FnWavesAscendingUptoCardSaid : Prop := Claim7.holds Tryd.pinned (.plain (OpenSpec.upto fnWavesAscendingSpec)) fnWavesAscendingUptoCard

/-- THE SECOND FORM's CARD OF 'laws.FnWavesDirect'. -/
def fnWavesDirectUptoCard : Claim7 := { stood := { row := fnWavesDirectUptoRow, standIns := [], harness := (true, "50d4cdb52ffe8c843928a3bb6f9281ff14ec83d196906e5eca2f67e47c417208"), looks := true }, kinds := [], alts := [], laidByText := true, laidKinds := [.sentinel, .sentinel], laidTests := true, laidLooks := .later }
def FnWavesDirectUptoCardSaid : Prop := Claim7.holds Tryd.pinned (.plain (OpenSpec.upto fnWavesDirectSpec)) fnWavesDirectUptoCard

/-- THE SECOND FORM's CARD OF 'laws.FnWavesLinked'. -/
def fnWavesLinkedUptoCard : Claim7 := { stood := { row := fnWavesLinkedUptoRow, standIns := [], harness := (true, "50d4cdb52ffe8c843928a3bb6f9281ff14ec83d196906e5eca2f67e47c417208"), looks := true }, kinds := [], alts := [], laidByText := true, laidKinds := [.sentinel, .sentinel], laidTests := true, laidLooks := .later }
def FnWavesLinkedUptoCardSaid : Prop := Claim7.holds Tryd.pinned (.plain (OpenSpec.upto fnWavesLinkedSpec)) fnWavesLinkedUptoCard

/-- THE SECOND FORM's CARD OF 'laws.FnWavesReach'. -/
def fnWavesReachUptoCard : Claim7 := { stood := { row := fnWavesReachUptoRow, standIns := [], harness := (true, "50d4cdb52ffe8c843928a3bb6f9281ff14ec83d196906e5eca2f67e47c417208"), looks := true }, kinds := [], alts := [], laidByText := true, laidKinds := [.sentinel, .sentinel], laidTests := true, laidLooks := .later }
def FnWavesReachUptoCardSaid : Prop := Claim7.holds Tryd.pinned (.plain (OpenSpec.upto fnWavesReachSpec)) fnWavesReachUptoCard
end Rows
end Go.Proofs.YtjekgjlnaochiaaDoor
