/-
  DERIVED. GIVEN WITH THE SEED: THE CARDS: each row of YtlbcnaenhghieaaGreatDoorRows.lean that lists a variable, with what it lists TIED to the program's text (the seventh form; the later family's looks); each row that meets fmt, with fmt's text TOLD by the authors' own Lean function (tested against real Go, not proved from fmt's source: count such statements apart). THE CARD IS WHAT COUNTS. Prove the row's statement (the work); the ties are given (YtlbcnaenhghieaaGreatDoorTie.lean); close each card by the builder's one call (the guide's Derived/Test/ToyasCard.lean, 'card_holds'). Laid BY PROGRAM, IN A SANDBOX (cutbox-door.mjs). By AI agents, Wed Nov 11 2026. No macro, syntax, notation, axiom, sorry.
-/
import Derived.Test.YtlbcnaenhghieaaGreatDoorRows
import GoSem.ClaimSeven
namespace Go.Proofs.YtlbcnaenhghieaaGreatDoor
namespace Rows

/-- THE TIED CARD OF 'massiflaw22.FindProves'. -/
def findProvesCard : Claim7 := { stood := { row := findProvesRow, standIns := [], harness := (true, "6bfb7ff418fd311d7cc8ab9eab9fdea85e6ed16454244ac0df4dde9f62b641dd"), looks := false }, kinds := [], alts := [], laidByText := true, laidKinds := [.data, .data, .data], laidTests := true, laidLooks := .later }
def FindProvesCardSaid : Prop := Claim7.holds Tryz.pinned (.plain (OpenSpec.ofChange findProvesSpec)) findProvesCard

/-- THE SECOND FORM's CARD OF 'massiflaw22.FindProves'. -/
def findProvesUptoCard : Claim7 := { stood := { row := findProvesUptoRow, standIns := [], harness := (true, "6bfb7ff418fd311d7cc8ab9eab9fdea85e6ed16454244ac0df4dde9f62b641dd"), looks := false }, kinds := [], alts := [], laidByText := true, laidKinds := [.data, .data, .data], laidTests := true, laidLooks := .later }
def FindProvesUptoCardSaid : Prop := Claim7.holds Tryz.pinned (.plain (OpenSpec.upto findProvesSpec)) findProvesUptoCard
end Rows
end Go.Proofs.YtlbcnaenhghieaaGreatDoor
