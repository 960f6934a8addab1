/-
  DERIVED. GIVEN WITH THE SEED: THE CARDS: each row of YtbmjoiiagldklaaDoorRows.lean that lists a variable, with what it lists TIED to the program's text (the seventh form; the later family's looks); each row that meets fmt, with fmt's text TOLD by the authors' own Lean function (tested against real Go, not proved from fmt's source: count such statements apart). THE CARD IS WHAT COUNTS. Prove the row's statement (the work); the ties are given (YtbmjoiiagldklaaDoorTie.lean); close each card by the builder's one call (the guide's Derived/Test/ToyasCard.lean, 'card_holds'). Laid BY PROGRAM, IN A SANDBOX (cutbox-door.mjs). By AI agents, Wed Nov 11 2026. No macro, syntax, notation, axiom, sorry.
-/
import Derived.Test.YtbmjoiiagldklaaDoorRows
import GoSem.ClaimSeven
namespace Go.Proofs.YtbmjoiiagldklaaDoor
namespace Rows

/-- THE TIED CARD OF 'massiflaw9.ClashPeaks'. -/
def clashPeaksCard : Claim7 := { stood := { row := clashPeaksRow, standIns := [], harness := (true, "7bdd54a16f4f17ef2263bd856e20bba0d8957f154a717f26ec48aaa2366c17fd"), looks := false }, kinds := [], alts := [], laidByText := true, laidKinds := [.data, .data], laidTests := true, laidLooks := .later }
def ClashPeaksCardSaid : Prop := Claim7.holds Tryd.pinned (.plain (OpenSpec.ofChange clashPeaksSpec)) clashPeaksCard

/-- THE TIED CARD OF 'massiflaw9.ClashBlocks'. -/
def clashBlocksCard : Claim7 := { stood := { row := clashBlocksRow, standIns := [], harness := (true, "7bdd54a16f4f17ef2263bd856e20bba0d8957f154a717f26ec48aaa2366c17fd"), looks := false }, kinds := [], alts := [], laidByText := true, laidKinds := [.data, .data, .data], laidTests := true, laidLooks := .later }
def ClashBlocksCardSaid : Prop := Claim7.holds Tryd.pinned (.plain (OpenSpec.ofChange clashBlocksSpec)) clashBlocksCard

/-- THE SECOND FORM's CARD OF 'massiflaw9.ClashPeaks'. -/
def clashPeaksUptoCard : Claim7 := { stood := { row := clashPeaksUptoRow, standIns := [], harness := (true, "7bdd54a16f4f17ef2263bd856e20bba0d8957f154a717f26ec48aaa2366c17fd"), looks := false }, kinds := [], alts := [], laidByText := true, laidKinds := [.data, .data], laidTests := true, laidLooks := .later }
def ClashPeaksUptoCardSaid : Prop := Claim7.holds Tryd.pinned (.plain (OpenSpec.upto clashPeaksSpec)) clashPeaksUptoCard

/-- THE SECOND FORM's CARD OF 'massiflaw9.ClashBlocks'. -/
def clashBlocksUptoCard : Claim7 := { stood := { row := clashBlocksUptoRow, standIns := [], harness := (true, "7bdd54a16f4f17ef2263bd856e20bba0d8957f154a717f26ec48aaa2366c17fd"), looks := false }, kinds := [], alts := [], laidByText := true, laidKinds := [.data, .data, .data], laidTests := true, laidLooks := .later }
def ClashBlocksUptoCardSaid : Prop := Claim7.holds Tryd.pinned (.plain (OpenSpec.upto clashBlocksSpec)) clashBlocksUptoCard
end Rows
end Go.Proofs.YtbmjoiiagldklaaDoor
