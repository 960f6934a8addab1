/-
  DERIVED. GIVEN WITH THE SEED: THE CARDS: each row of YtlklnljgmkagoabDoorRows.lean that lists a variable, with what it lists TIED to the program's text (the seventh form; the later family's looks); each row that meets fmt, with fmt's text TOLD by the authors' own Lean function (tested against real Go, not proved from fmt's source: count such statements apart). THE CARD IS WHAT COUNTS. Prove the row's statement (the work); the ties are given (YtlklnljgmkagoabDoorTie.lean); close each card by the builder's one call (the guide's Derived/Test/ToyasCard.lean, 'card_holds'). Laid BY PROGRAM, IN A SANDBOX (cutbox-door.mjs). By AI agents, Wed Nov 11 2026. No macro, syntax, notation, axiom, sorry.
-/
import Derived.Test.YtlklnljgmkagoabDoorRows
import GoSem.ClaimSeven
namespace Go.Proofs.YtlklnljgmkagoabDoor
namespace Rows

/-- THE TIED CARD OF 'massiflaw1.NumCounts'. -/
def numCountsCard : Claim7 := { stood := { row := numCountsRow, standIns := [], harness := (true, "258f338a27f4a394e4c6e8a9d3b8ffa26cb770e5b6cfa73d3632b5635900f72c"), looks := false }, kinds := [], alts := [], laidByText := true, laidKinds := [.data], laidTests := true, laidLooks := .later }
def NumCountsCardSaid : Prop := Claim7.holds Tryd.pinned (.plain (OpenSpec.ofChange numCountsSpec)) numCountsCard

/-- THE SECOND FORM's CARD OF 'massiflaw1.NumCounts'. -/
def numCountsUptoCard : Claim7 := { stood := { row := numCountsUptoRow, standIns := [], harness := (true, "258f338a27f4a394e4c6e8a9d3b8ffa26cb770e5b6cfa73d3632b5635900f72c"), looks := false }, kinds := [], alts := [], laidByText := true, laidKinds := [.data], laidTests := true, laidLooks := .later }
def NumCountsUptoCardSaid : Prop := Claim7.holds Tryd.pinned (.plain (OpenSpec.upto numCountsSpec)) numCountsUptoCard
end Rows
end Go.Proofs.YtlklnljgmkagoabDoor
