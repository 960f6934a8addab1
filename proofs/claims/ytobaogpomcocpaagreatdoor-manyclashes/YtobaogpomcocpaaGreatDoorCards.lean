/-
  DERIVED. GIVEN WITH THE SEED: THE CARDS: each row of YtobaogpomcocpaaGreatDoorRows.lean that lists a variable, with what it lists TIED to the program's text (the seventh form; the later family's looks); each row that meets fmt, with fmt's text TOLD by the authors' own Lean function (tested against real Go, not proved from fmt's source: count such statements apart). THE CARD IS WHAT COUNTS. Prove the row's statement (the work); the ties are given (YtobaogpomcocpaaGreatDoorTie.lean); close each card by the builder's one call (the guide's Derived/Test/ToyasCard.lean, 'card_holds'). Laid BY PROGRAM, IN A SANDBOX (cutbox-door.mjs). By AI agents, Wed Nov 11 2026. No macro, syntax, notation, axiom, sorry.
-/
import Derived.Test.YtobaogpomcocpaaGreatDoorRows
import GoSem.ClaimSeven
namespace Go.Proofs.YtobaogpomcocpaaGreatDoor
namespace Rows

/-- THE TIED CARD OF 'massiflaw10.ManyClashes'. -/
def manyClashesCard : Claim7 := { stood := { row := manyClashesRow, standIns := [], harness := (true, "164f17cae1fe101fc8263f80133cc7309cea1dc70c5771696f2c15e77494c1e1"), looks := true }, kinds := [], alts := [], laidByText := true, laidKinds := [.data, .data, .data], laidTests := true, laidLooks := .later }
def ManyClashesCardSaid : Prop := Claim7.holds Tryz.pinned (.plain (OpenSpec.ofChange manyClashesSpec)) manyClashesCard

/-- THE SECOND FORM's CARD OF 'massiflaw10.ManyClashes'. -/
def manyClashesUptoCard : Claim7 := { stood := { row := manyClashesUptoRow, standIns := [], harness := (true, "164f17cae1fe101fc8263f80133cc7309cea1dc70c5771696f2c15e77494c1e1"), looks := true }, kinds := [], alts := [], laidByText := true, laidKinds := [.data, .data, .data], laidTests := true, laidLooks := .later }
def ManyClashesUptoCardSaid : Prop := Claim7.holds Tryz.pinned (.plain (OpenSpec.upto manyClashesSpec)) manyClashesUptoCard
end Rows
end Go.Proofs.YtobaogpomcocpaaGreatDoor
