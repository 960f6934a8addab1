/-
  DERIVED. GIVEN WITH THE SEED: THE CARDS: each row of YtlicfinmibbpdaaGreatDoorRows.lean that lists a variable, with what it lists TIED to the program's text (the seventh form; the later family's looks); each row that meets fmt, with fmt's text TOLD by the authors' own Lean function (tested against real Go, not proved from fmt's source: count such statements apart). THE CARD IS WHAT COUNTS. Prove the row's statement (the work); the ties are given (YtlicfinmibbpdaaGreatDoorTie.lean); close each card by the builder's one call (the guide's Derived/Test/ToyasCard.lean, 'card_holds'). Laid BY PROGRAM, IN A SANDBOX (cutbox-door.mjs). By AI agents, Wed Nov 11 2026. No macro, syntax, notation, axiom, sorry.
-/
import Derived.Test.YtlicfinmibbpdaaGreatDoorRows
import GoSem.ClaimSeven
namespace Go.Proofs.YtlicfinmibbpdaaGreatDoor
namespace Rows

/-- THE TIED CARD OF 'massiflaw10.ManyClimbs'. -/
def manyClimbsCard : Claim7 := { stood := { row := manyClimbsRow, standIns := [], harness := (true, "62ba2ce9136c94aebcd4ea35329a6e1cdb8e1bd5580d80b1959c5c876b234289"), looks := true }, kinds := [], alts := [], laidByText := true, laidKinds := [.data, .data, .data], laidTests := true, laidLooks := .later }
def ManyClimbsCardSaid : Prop := Claim7.holds Tryz.pinned (.plain (OpenSpec.ofChange manyClimbsSpec)) manyClimbsCard

/-- THE TIED CARD OF 'massiflaw10.ManyVerifies'. -/
def manyVerifiesCard : Claim7 := { stood := { row := manyVerifiesRow, standIns := [], harness := (true, "62ba2ce9136c94aebcd4ea35329a6e1cdb8e1bd5580d80b1959c5c876b234289"), looks := true }, kinds := [], alts := [], laidByText := true, laidKinds := [.data, .data, .data], laidTests := true, laidLooks := .later }
def ManyVerifiesCardSaid : Prop := Claim7.holds Tryz.pinned (.plain (OpenSpec.ofChange manyVerifiesSpec)) manyVerifiesCard

/-- THE TIED CARD OF 'massiflaw10.ManyAccepts'. -/
def manyAcceptsCard : Claim7 := { stood := { row := manyAcceptsRow, standIns := [], harness := (true, "62ba2ce9136c94aebcd4ea35329a6e1cdb8e1bd5580d80b1959c5c876b234289"), looks := true }, kinds := [], alts := [], laidByText := true, laidKinds := [.data, .data, .data], laidTests := true, laidLooks := .later }
def ManyAcceptsCardSaid : Prop := Claim7.holds Tryz.pinned (.plain (OpenSpec.ofChange manyAcceptsSpec)) manyAcceptsCard

/-- THE SECOND FORM's CARD OF 'massiflaw10.ManyClimbs'. -/
def manyClimbsUptoCard : Claim7 := { stood := { row := manyClimbsUptoRow, standIns := [], harness := (true, "62ba2ce9136c94aebcd4ea35329a6e1cdb8e1bd5580d80b1959c5c876b234289"), looks := true }, kinds := [], alts := [], laidByText := true, laidKinds := [.data, .data, .data], laidTests := true, laidLooks := .later }
def ManyClimbsUptoCardSaid : Prop := Claim7.holds Tryz.pinned (.plain (OpenSpec.upto manyClimbsSpec)) manyClimbsUptoCard

/-- THE SECOND FORM's CARD OF 'massiflaw10.ManyVerifies'. -/
def manyVerifiesUptoCard : Claim7 := { stood := { row := manyVerifiesUptoRow, standIns := [], harness := (true, "62ba2ce9136c94aebcd4ea35329a6e1cdb8e1bd5580d80b1959c5c876b234289"), looks := true }, kinds := [], alts := [], laidByText := true, laidKinds := [.data, .data, .data], laidTests := true, laidLooks := .later }
def ManyVerifiesUptoCardSaid : Prop := Claim7.holds Tryz.pinned (.plain (OpenSpec.upto manyVerifiesSpec)) manyVerifiesUptoCard

/-- THE SECOND FORM's CARD OF 'massiflaw10.ManyAccepts'. -/
def manyAcceptsUptoCard : Claim7 := { stood := { row := manyAcceptsUptoRow, standIns := [], harness := (true, "62ba2ce9136c94aebcd4ea35329a6e1cdb8e1bd5580d80b1959c5c876b234289"), looks := true }, kinds := [], alts := [], laidByText := true, laidKinds := [.data, .data, .data], laidTests := true, laidLooks := .later }
def ManyAcceptsUptoCardSaid : Prop := Claim7.holds Tryz.pinned (.plain (OpenSpec.upto manyAcceptsSpec)) manyAcceptsUptoCard
end Rows
end Go.Proofs.YtlicfinmibbpdaaGreatDoor
