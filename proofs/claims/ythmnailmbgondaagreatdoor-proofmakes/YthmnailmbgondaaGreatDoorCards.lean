/-
  DERIVED. GIVEN WITH THE SEED: THE CARDS: each row of YthmnailmbgondaaGreatDoorRows.lean that lists a variable, with what it lists TIED to the program's text (the seventh form; the later family's looks); each row that meets fmt, with fmt's text TOLD by the authors' own Lean function (tested against real Go, not proved from fmt's source: count such statements apart). THE CARD IS WHAT COUNTS. Prove the row's statement (the work); the ties are given (YthmnailmbgondaaGreatDoorTie.lean); close each card by the builder's one call (the guide's Derived/Test/ToyasCard.lean, 'card_holds'). Laid BY PROGRAM, IN A SANDBOX (cutbox-door.mjs). By AI agents, Wed Nov 11 2026. No macro, syntax, notation, axiom, sorry.
-/
import Derived.Test.YthmnailmbgondaaGreatDoorRows
import GoSem.ClaimSeven
namespace Go.Proofs.YthmnailmbgondaaGreatDoor
namespace Rows

/-- THE TIED CARD OF 'massiflaw7.ProofMakes'. -/
def proofMakesCard : Claim7 := { stood := { row := proofMakesRow, standIns := [], harness := (true, "c92d0cace2882204ef9faf546fc82053d6c876c72e70818eade31778091238fc"), looks := true }, kinds := [], alts := [], laidByText := true, laidKinds := [.data, .data, .data], laidTests := true, laidLooks := .later }
def ProofMakesCardSaid : Prop := Claim7.holds Tryz.pinned (.plain (OpenSpec.ofChange proofMakesSpec)) proofMakesCard

/-- THE TIED CARD OF 'massiflaw10.ManyMakes'. -/
def manyMakesCard : Claim7 := { stood := { row := manyMakesRow, standIns := [], harness := (true, "c92d0cace2882204ef9faf546fc82053d6c876c72e70818eade31778091238fc"), looks := true }, kinds := [], alts := [], laidByText := true, laidKinds := [.data, .data, .data], laidTests := true, laidLooks := .later }
def ManyMakesCardSaid : Prop := Claim7.holds Tryz.pinned (.plain (OpenSpec.ofChange manyMakesSpec)) manyMakesCard

/-- THE SECOND FORM's CARD OF 'massiflaw7.ProofMakes'. -/
def proofMakesUptoCard : Claim7 := { stood := { row := proofMakesUptoRow, standIns := [], harness := (true, "c92d0cace2882204ef9faf546fc82053d6c876c72e70818eade31778091238fc"), looks := true }, kinds := [], alts := [], laidByText := true, laidKinds := [.data, .data, .data], laidTests := true, laidLooks := .later }
def ProofMakesUptoCardSaid : Prop := Claim7.holds Tryz.pinned (.plain (OpenSpec.upto proofMakesSpec)) proofMakesUptoCard

/-- THE SECOND FORM's CARD OF 'massiflaw10.ManyMakes'. -/
def manyMakesUptoCard : Claim7 := { stood := { row := manyMakesUptoRow, standIns := [], harness := (true, "c92d0cace2882204ef9faf546fc82053d6c876c72e70818eade31778091238fc"), looks := true }, kinds := [], alts := [], laidByText := true, laidKinds := [.data, .data, .data], laidTests := true, laidLooks := .later }
def ManyMakesUptoCardSaid : Prop := Claim7.holds Tryz.pinned (.plain (OpenSpec.upto manyMakesSpec)) manyMakesUptoCard
end Rows
end Go.Proofs.YthmnailmbgondaaGreatDoor
