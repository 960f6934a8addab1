/-
  DERIVED. GIVEN WITH THE SEED: THE CARDS: each row of YtgnbkcdclelmfaaDoorRows.lean that lists a variable, with what it lists TIED to the program's text (the seventh form; the later family's looks); each row that meets fmt, with fmt's text TOLD by the authors' own Lean function (tested against real Go, not proved from fmt's source: count such statements apart). THE CARD IS WHAT COUNTS. Prove the row's statement (the work); the ties are given (YtgnbkcdclelmfaaDoorTie.lean); close each card by the builder's one call (the guide's Derived/Test/ToyasCard.lean, 'card_holds'). Laid BY PROGRAM, IN A SANDBOX (cutbox-door.mjs). By AI agents, Wed Nov 11 2026. No macro, syntax, notation, axiom, sorry.
-/
import Derived.Test.YtgnbkcdclelmfaaDoorRows
import GoSem.ClaimSeven
namespace Go.Proofs.YtgnbkcdclelmfaaDoor
namespace Rows

/-- THE TIED CARD OF 'massiflaw2.HashPieces'. -/
def hashPiecesCard : Claim7 := { stood := { row := hashPiecesRow, standIns := [], harness := (true, "d90fa88b2d11fafaaed0347b32783c6006bf5647735d9435b4d142a4f7ece1cb"), looks := false }, kinds := [], alts := [], laidByText := true, laidKinds := [.data, .data], laidTests := true, laidLooks := .later }
def HashPiecesCardSaid : Prop := Claim7.holds Tryd.pinned (.plain (OpenSpec.ofChange hashPiecesSpec)) hashPiecesCard

/-- THE TIED CARD OF 'massiflaw2.HashDescends'. -/
def hashDescendsCard : Claim7 := { stood := { row := hashDescendsRow, standIns := [], harness := (true, "d90fa88b2d11fafaaed0347b32783c6006bf5647735d9435b4d142a4f7ece1cb"), looks := false }, kinds := [], alts := [], laidByText := true, laidKinds := [.data, .data], laidTests := true, laidLooks := .later }
def HashDescendsCardSaid : Prop := Claim7.holds Tryd.pinned (.plain (OpenSpec.ofChange hashDescendsSpec)) hashDescendsCard

/-- THE TIED CARD OF 'massiflaw2.HashBlocks'. -/
def hashBlocksCard : Claim7 := { stood := { row := hashBlocksRow, standIns := [], harness := (true, "d90fa88b2d11fafaaed0347b32783c6006bf5647735d9435b4d142a4f7ece1cb"), looks := false }, kinds := [], alts := [], laidByText := true, laidKinds := [.data, .data], laidTests := true, laidLooks := .later }
def HashBlocksCardSaid : Prop := Claim7.holds Tryd.pinned (.plain (OpenSpec.ofChange hashBlocksSpec)) hashBlocksCard

/-- THE SECOND FORM's CARD OF 'massiflaw2.HashPieces'. -/
def hashPiecesUptoCard : Claim7 := { stood := { row := hashPiecesUptoRow, standIns := [], harness := (true, "d90fa88b2d11fafaaed0347b32783c6006bf5647735d9435b4d142a4f7ece1cb"), looks := false }, kinds := [], alts := [], laidByText := true, laidKinds := [.data, .data], laidTests := true, laidLooks := .later }
def HashPiecesUptoCardSaid : Prop := Claim7.holds Tryd.pinned (.plain (OpenSpec.upto hashPiecesSpec)) hashPiecesUptoCard

/-- THE SECOND FORM's CARD OF 'massiflaw2.HashDescends'. -/
def hashDescendsUptoCard : Claim7 := { stood := { row := hashDescendsUptoRow, standIns := [], harness := (true, "d90fa88b2d11fafaaed0347b32783c6006bf5647735d9435b4d142a4f7ece1cb"), looks := false }, kinds := [], alts := [], laidByText := true, laidKinds := [.data, .data], laidTests := true, laidLooks := .later }
def HashDescendsUptoCardSaid : Prop := Claim7.holds Tryd.pinned (.plain (OpenSpec.upto hashDescendsSpec)) hashDescendsUptoCard

/-- THE SECOND FORM's CARD OF 'massiflaw2.HashBlocks'. -/
def hashBlocksUptoCard : Claim7 := { stood := { row := hashBlocksUptoRow, standIns := [], harness := (true, "d90fa88b2d11fafaaed0347b32783c6006bf5647735d9435b4d142a4f7ece1cb"), looks := false }, kinds := [], alts := [], laidByText := true, laidKinds := [.data, .data], laidTests := true, laidLooks := .later }
def HashBlocksUptoCardSaid : Prop := Claim7.holds Tryd.pinned (.plain (OpenSpec.upto hashBlocksSpec)) hashBlocksUptoCard
end Rows
end Go.Proofs.YtgnbkcdclelmfaaDoor
