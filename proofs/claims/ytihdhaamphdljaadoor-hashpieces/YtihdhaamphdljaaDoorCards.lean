/-
  DERIVED. GIVEN WITH THE SEED: THE CARDS: each row of YtihdhaamphdljaaDoorRows.lean that lists a variable, with what it lists TIED to the program's text (the seventh form; the later family's looks); each row that meets fmt, with fmt's text TOLD by the authors' own Lean function (tested against real Go, not proved from fmt's source: count such statements apart). THE CARD IS WHAT COUNTS. Prove the row's statement (the work); the ties are given (YtihdhaamphdljaaDoorTie.lean); close each card by the builder's one call (the guide's Derived/Test/ToyasCard.lean, 'card_holds'). Laid BY PROGRAM, IN A SANDBOX (cutbox-door.mjs). By AI agents, Wed Nov 11 2026. No macro, syntax, notation, axiom, sorry.
-/
import Derived.Test.YtihdhaamphdljaaDoorRows
import GoSem.ClaimSeven
namespace Go.Proofs.YtihdhaamphdljaaDoor
namespace Rows

/-- THE TIED CARD OF 'massiflaw2.HashPieces'. -/
def hashPiecesCard : Claim7 := { stood := { row := hashPiecesRow, standIns := [], harness := (true, "c795794ce6bab114bfe2e7158167104d8defb6a5504976ce8f6ad6b8a5387051"), looks := false }, kinds := [], alts := [], laidByText := true, laidKinds := [.data, .data], laidTests := true, laidLooks := .later }
def HashPiecesCardSaid : Prop := Claim7.holds Tryd.pinned (.plain (OpenSpec.ofChange hashPiecesSpec)) hashPiecesCard

/-- THE TIED CARD OF 'massiflaw9.ClashHolds'. -/
def clashHoldsCard : Claim7 := { stood := { row := clashHoldsRow, standIns := [], harness := (true, "c795794ce6bab114bfe2e7158167104d8defb6a5504976ce8f6ad6b8a5387051"), looks := false }, kinds := [], alts := [], laidByText := true, laidKinds := [.data, .data], laidTests := true, laidLooks := .later }
def ClashHoldsCardSaid : Prop := Claim7.holds Tryd.pinned (.plain (OpenSpec.ofChange clashHoldsSpec)) clashHoldsCard

/-- THE SECOND FORM's CARD OF 'massiflaw2.HashPieces'. -/
def hashPiecesUptoCard : Claim7 := { stood := { row := hashPiecesUptoRow, standIns := [], harness := (true, "c795794ce6bab114bfe2e7158167104d8defb6a5504976ce8f6ad6b8a5387051"), looks := false }, kinds := [], alts := [], laidByText := true, laidKinds := [.data, .data], laidTests := true, laidLooks := .later }
def HashPiecesUptoCardSaid : Prop := Claim7.holds Tryd.pinned (.plain (OpenSpec.upto hashPiecesSpec)) hashPiecesUptoCard

/-- THE SECOND FORM's CARD OF 'massiflaw9.ClashHolds'. -/
def clashHoldsUptoCard : Claim7 := { stood := { row := clashHoldsUptoRow, standIns := [], harness := (true, "c795794ce6bab114bfe2e7158167104d8defb6a5504976ce8f6ad6b8a5387051"), looks := false }, kinds := [], alts := [], laidByText := true, laidKinds := [.data, .data], laidTests := true, laidLooks := .later }
def ClashHoldsUptoCardSaid : Prop := Claim7.holds Tryd.pinned (.plain (OpenSpec.upto clashHoldsSpec)) clashHoldsUptoCard
end Rows
end Go.Proofs.YtihdhaamphdljaaDoor
