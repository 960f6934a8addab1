/-
  DERIVED. GIVEN WITH THE SEED: THE CARDS: each row of YtdggkbpabjgdfaaGreatDoorRows.lean that lists a variable, with what it lists TIED to the program's text (the seventh form; the later family's looks); each row that meets fmt, with fmt's text TOLD by the authors' own Lean function (tested against real Go, not proved from fmt's source: count such statements apart). THE CARD IS WHAT COUNTS. Prove the row's statement (the work); the ties are given (YtdggkbpabjgdfaaGreatDoorTie.lean); close each card by the builder's one call (the guide's Derived/Test/ToyasCard.lean, 'card_holds'). Laid BY PROGRAM, IN A SANDBOX (cutbox-door.mjs). By AI agents, Wed Nov 11 2026. No macro, syntax, notation, axiom, sorry.
-/
import Derived.Test.YtdggkbpabjgdfaaGreatDoorRows
import GoSem.ClaimSeven
namespace Go.Proofs.YtdggkbpabjgdfaaGreatDoor
namespace Rows

/-- THE TIED CARD OF 'massiflaw9.ClashAcross'. -/
def clashAcrossCard : Claim7 := { stood := { row := clashAcrossRow, standIns := [], harness := (true, "a6ec5e5363a0c4634e487ea4e39ee456f144c827c192e6943c1bb9b2cd7d7046"), looks := false }, kinds := [], alts := [], laidByText := true, laidKinds := [.data, .data, .data], laidTests := true, laidLooks := .later }
def ClashAcrossCardSaid : Prop := Claim7.holds Tryz.pinned (.plain (OpenSpec.ofChange clashAcrossSpec)) clashAcrossCard

/-- THE SECOND FORM's CARD OF 'massiflaw9.ClashAcross'. -/
def clashAcrossUptoCard : Claim7 := { stood := { row := clashAcrossUptoRow, standIns := [], harness := (true, "a6ec5e5363a0c4634e487ea4e39ee456f144c827c192e6943c1bb9b2cd7d7046"), looks := false }, kinds := [], alts := [], laidByText := true, laidKinds := [.data, .data, .data], laidTests := true, laidLooks := .later }
def ClashAcrossUptoCardSaid : Prop := Claim7.holds Tryz.pinned (.plain (OpenSpec.upto clashAcrossSpec)) clashAcrossUptoCard
end Rows
end Go.Proofs.YtdggkbpabjgdfaaGreatDoor
