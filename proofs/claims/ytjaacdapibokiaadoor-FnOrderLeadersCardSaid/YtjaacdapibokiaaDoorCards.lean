/-
  DERIVED. GIVEN WITH THE SEED: THE CARDS: each row of YtjaacdapibokiaaDoorRows.lean that lists a variable, with what it lists TIED to the program's text (the seventh form; the later family's looks); each row that meets fmt, with fmt's text TOLD by the authors' own Lean function (tested against real Go, not proved from fmt's source: count such statements apart). THE CARD IS WHAT COUNTS. Prove the row's statement (the work); the ties are given (YtjaacdapibokiaaDoorTie.lean); close each card by the builder's one call (the guide's Derived/Test/ToyasCard.lean, 'card_holds'). Laid BY PROGRAM, IN A SANDBOX (cutbox-door.mjs). By AI agents, Wed Nov 11 2026. No macro, syntax, notation, axiom, sorry.
-/
import Derived.Test.YtjaacdapibokiaaDoorRows
import GoSem.ClaimSeven
namespace Go.Proofs.YtjaacdapibokiaaDoor
namespace Rows

/-- THE TIED CARD OF 'laws.FnOrderLeaders'. -/
def fnOrderLeadersCard : Claim7 := { stood := { row := fnOrderLeadersRow, standIns := [], harness := (true, "db1ee20601c94daa6bd6b32179718980692af302b924e2a71f47568b1e41b18e"), looks := true }, kinds := [], alts := [], laidByText := true, laidKinds := [.sentinel, .sentinel], laidTests := true, laidLooks := .later }
def FnOrderLeadersCardSaid : Prop := Claim7.holds Tryd.pinned (.plain (OpenSpec.ofChange fnOrderLeadersSpec)) fnOrderLeadersCard

/-- THE SECOND FORM's CARD OF 'laws.FnOrderLeaders'. -/
def fnOrderLeadersUptoCard : Claim7 := { stood := { row := fnOrderLeadersUptoRow, standIns := [], harness := (true, "db1ee20601c94daa6bd6b32179718980692af302b924e2a71f47568b1e41b18e"), looks := true }, kinds := [], alts := [], laidByText := true, laidKinds := [.sentinel, .sentinel], laidTests := true, laidLooks := .later }
def FnOrderLeadersUptoCardSaid : Prop := Claim7.holds Tryd.pinned (.plain (OpenSpec.upto fnOrderLeadersSpec)) fnOrderLeadersUptoCard
end Rows
end Go.Proofs.YtjaacdapibokiaaDoor
