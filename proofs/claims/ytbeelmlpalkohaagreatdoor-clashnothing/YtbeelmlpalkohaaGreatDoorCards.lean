/-
  DERIVED. GIVEN WITH THE SEED: THE CARDS: each row of YtbeelmlpalkohaaGreatDoorRows.lean that lists a variable, with what it lists TIED to the program's text (the seventh form; the later family's looks); each row that meets fmt, with fmt's text TOLD by the authors' own Lean function (tested against real Go, not proved from fmt's source: count such statements apart). THE CARD IS WHAT COUNTS. Prove the row's statement (the work); the ties are given (YtbeelmlpalkohaaGreatDoorTie.lean); close each card by the builder's one call (the guide's Derived/Test/ToyasCard.lean, 'card_holds'). Laid BY PROGRAM, IN A SANDBOX (cutbox-door.mjs). By AI agents, Wed Nov 11 2026. No macro, syntax, notation, axiom, sorry.
-/
import Derived.Test.YtbeelmlpalkohaaGreatDoorRows
import GoSem.ClaimSeven
namespace Go.Proofs.YtbeelmlpalkohaaGreatDoor
namespace Rows

/-- THE TIED CARD OF 'massiflaw9.ClashNothing'. -/
def clashNothingCard : Claim7 := { stood := { row := clashNothingRow, standIns := [], harness := (true, "ff1ffa891e9836ad1980b06ad49c210bbd94a1551aea1578116cb5529cb0171c"), looks := false }, kinds := [], alts := [], laidByText := true, laidKinds := [.data, .data, .data], laidTests := true, laidLooks := .later }
def ClashNothingCardSaid : Prop := Claim7.holds Tryz.pinned (.plain (OpenSpec.ofChange clashNothingSpec)) clashNothingCard

/-- THE SECOND FORM's CARD OF 'massiflaw9.ClashNothing'. -/
def clashNothingUptoCard : Claim7 := { stood := { row := clashNothingUptoRow, standIns := [], harness := (true, "ff1ffa891e9836ad1980b06ad49c210bbd94a1551aea1578116cb5529cb0171c"), looks := false }, kinds := [], alts := [], laidByText := true, laidKinds := [.data, .data, .data], laidTests := true, laidLooks := .later }
def ClashNothingUptoCardSaid : Prop := Claim7.holds Tryz.pinned (.plain (OpenSpec.upto clashNothingSpec)) clashNothingUptoCard
end Rows
end Go.Proofs.YtbeelmlpalkohaaGreatDoor
