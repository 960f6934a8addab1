/-
  DERIVED. GIVEN WITH THE SEED: THE CARDS: each row of YtkpgbhokoohimaaDoorRows.lean that lists a variable, with what it lists TIED to the program's text (the seventh form; the later family's looks); each row that meets fmt, with fmt's text TOLD by the authors' own Lean function (tested against real Go, not proved from fmt's source: count such statements apart). THE CARD IS WHAT COUNTS. Prove the row's statement (the work); the ties are given (YtkpgbhokoohimaaDoorTie.lean); close each card by the builder's one call (the guide's Derived/Test/ToyasCard.lean, 'card_holds'). Laid BY PROGRAM, IN A SANDBOX (cutbox-door.mjs). By AI agents, Wed Nov 11 2026. No macro, syntax, notation, axiom, sorry.
-/
import Derived.Test.YtkpgbhokoohimaaDoorRows
import GoSem.ClaimSeven
namespace Go.Proofs.YtkpgbhokoohimaaDoor
namespace Rows

/-- THE TIED CARD OF 'massiflaw12.CarryEvents'. -/
def carryEventsCard : Claim7 := { stood := { row := carryEventsRow, standIns := [], harness := (true, "e29ea2e7836ea99d13b7c1d1340a09f16b5f84654ca07266c2b10fa6056f3817"), looks := false }, kinds := [], alts := [], laidByText := true, laidKinds := [.data, .data, .data], laidTests := true, laidLooks := .later }
def CarryEventsCardSaid : Prop := Claim7.holds Tryd.pinned (.plain (OpenSpec.ofChange carryEventsSpec)) carryEventsCard

/-- THE SECOND FORM's CARD OF 'massiflaw12.CarryEvents'. -/
def carryEventsUptoCard : Claim7 := { stood := { row := carryEventsUptoRow, standIns := [], harness := (true, "e29ea2e7836ea99d13b7c1d1340a09f16b5f84654ca07266c2b10fa6056f3817"), looks := false }, kinds := [], alts := [], laidByText := true, laidKinds := [.data, .data, .data], laidTests := true, laidLooks := .later }
def CarryEventsUptoCardSaid : Prop := Claim7.holds Tryd.pinned (.plain (OpenSpec.upto carryEventsSpec)) carryEventsUptoCard
end Rows
end Go.Proofs.YtkpgbhokoohimaaDoor
