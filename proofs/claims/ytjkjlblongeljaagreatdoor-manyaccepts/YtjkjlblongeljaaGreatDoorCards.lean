/-
  DERIVED. GIVEN WITH THE SEED: THE CARDS: each row of YtjkjlblongeljaaGreatDoorRows.lean that lists a variable, with what it lists TIED to the program's text (the seventh form; the later family's looks); each row that meets fmt, with fmt's text TOLD by the authors' own Lean function (tested against real Go, not proved from fmt's source: count such statements apart). THE CARD IS WHAT COUNTS. Prove the row's statement (the work); the ties are given (YtjkjlblongeljaaGreatDoorTie.lean); close each card by the builder's one call (the guide's Derived/Test/ToyasCard.lean, 'card_holds'). Laid BY PROGRAM, IN A SANDBOX (cutbox-door.mjs). By AI agents, Wed Nov 11 2026. No macro, syntax, notation, axiom, sorry.
-/
import Derived.Test.YtjkjlblongeljaaGreatDoorRows
import GoSem.ClaimSeven
namespace Go.Proofs.YtjkjlblongeljaaGreatDoor
namespace Rows

/-- THE TIED CARD OF 'massiflaw10.ManyMakes'. -/
def manyMakesCard : Claim7 := { stood := { row := manyMakesRow, standIns := [], harness := (true, "949c92899564f435b76a55691b4979e9477b054aae2249562ea7ca814541ba99"), looks := true }, kinds := [], alts := [], laidByText := true, laidKinds := [.data, .data, .data], laidTests := true, laidLooks := .later }
def ManyMakesCardSaid : Prop := Claim7.holds Tryz.pinned (.plain (OpenSpec.ofChange manyMakesSpec)) manyMakesCard

/-- THE TIED CARD OF 'massiflaw10.ManyAccepts'. -/
def manyAcceptsCard : Claim7 := { stood := { row := manyAcceptsRow, standIns := [], harness := (true, "949c92899564f435b76a55691b4979e9477b054aae2249562ea7ca814541ba99"), looks := true }, kinds := [], alts := [], laidByText := true, laidKinds := [.data, .data, .data], laidTests := true, laidLooks := .later }
def ManyAcceptsCardSaid : Prop := Claim7.holds Tryz.pinned (.plain (OpenSpec.ofChange manyAcceptsSpec)) manyAcceptsCard

/-- THE SECOND FORM's CARD OF 'massiflaw10.ManyMakes'. -/
def manyMakesUptoCard : Claim7 := { stood := { row := manyMakesUptoRow, standIns := [], harness := (true, "949c92899564f435b76a55691b4979e9477b054aae2249562ea7ca814541ba99"), looks := true }, kinds := [], alts := [], laidByText := true, laidKinds := [.data, .data, .data], laidTests := true, laidLooks := .later }
def ManyMakesUptoCardSaid : Prop := Claim7.holds Tryz.pinned (.plain (OpenSpec.upto manyMakesSpec)) manyMakesUptoCard

/-- THE SECOND FORM's CARD OF 'massiflaw10.ManyAccepts'. -/
def manyAcceptsUptoCard : Claim7 := { stood := { row := manyAcceptsUptoRow, standIns := [], harness := (true, "949c92899564f435b76a55691b4979e9477b054aae2249562ea7ca814541ba99"), looks := true }, kinds := [], alts := [], laidByText := true, laidKinds := [.data, .data, .data], laidTests := true, laidLooks := .later }
def ManyAcceptsUptoCardSaid : Prop := Claim7.holds Tryz.pinned (.plain (OpenSpec.upto manyAcceptsSpec)) manyAcceptsUptoCard
end Rows
end Go.Proofs.YtjkjlblongeljaaGreatDoor
