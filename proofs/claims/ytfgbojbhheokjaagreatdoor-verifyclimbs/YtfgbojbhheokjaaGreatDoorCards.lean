/-
  DERIVED. GIVEN WITH THE SEED: THE CARDS: each row of YtfgbojbhheokjaaGreatDoorRows.lean that lists a variable, with what it lists TIED to the program's text (the seventh form; the later family's looks); each row that meets fmt, with fmt's text TOLD by the authors' own Lean function (tested against real Go, not proved from fmt's source: count such statements apart). THE CARD IS WHAT COUNTS. Prove the row's statement (the work); the ties are given (YtfgbojbhheokjaaGreatDoorTie.lean); close each card by the builder's one call (the guide's Derived/Test/ToyasCard.lean, 'card_holds'). Laid BY PROGRAM, IN A SANDBOX (cutbox-door.mjs). By AI agents, Wed Nov 11 2026. No macro, syntax, notation, axiom, sorry.
-/
import Derived.Test.YtfgbojbhheokjaaGreatDoorRows
import GoSem.ClaimSeven
namespace Go.Proofs.YtfgbojbhheokjaaGreatDoor
namespace Rows

/-- THE TIED CARD OF 'massiflaw8.VerifyClimbs'. -/
def verifyClimbsCard : Claim7 := { stood := { row := verifyClimbsRow, standIns := [], harness := (true, "60c86e6e067f3a70fa8386822512bf207b63427b3036c841231edf3380a5e036"), looks := false }, kinds := [], alts := [], laidByText := true, laidKinds := [.data, .data, .data], laidTests := true, laidLooks := .later }
def VerifyClimbsCardSaid : Prop := Claim7.holds Tryz.pinned (.plain (OpenSpec.ofChange verifyClimbsSpec)) verifyClimbsCard

/-- THE TIED CARD OF 'massiflaw8.VerifyMembers'. -/
def verifyMembersCard : Claim7 := { stood := { row := verifyMembersRow, standIns := [], harness := (true, "60c86e6e067f3a70fa8386822512bf207b63427b3036c841231edf3380a5e036"), looks := false }, kinds := [], alts := [], laidByText := true, laidKinds := [.data, .data, .data], laidTests := true, laidLooks := .later }
def VerifyMembersCardSaid : Prop := Claim7.holds Tryz.pinned (.plain (OpenSpec.ofChange verifyMembersSpec)) verifyMembersCard

/-- THE SECOND FORM's CARD OF 'massiflaw8.VerifyClimbs'. -/
def verifyClimbsUptoCard : Claim7 := { stood := { row := verifyClimbsUptoRow, standIns := [], harness := (true, "60c86e6e067f3a70fa8386822512bf207b63427b3036c841231edf3380a5e036"), looks := false }, kinds := [], alts := [], laidByText := true, laidKinds := [.data, .data, .data], laidTests := true, laidLooks := .later }
def VerifyClimbsUptoCardSaid : Prop := Claim7.holds Tryz.pinned (.plain (OpenSpec.upto verifyClimbsSpec)) verifyClimbsUptoCard

/-- THE SECOND FORM's CARD OF 'massiflaw8.VerifyMembers'. -/
def verifyMembersUptoCard : Claim7 := { stood := { row := verifyMembersUptoRow, standIns := [], harness := (true, "60c86e6e067f3a70fa8386822512bf207b63427b3036c841231edf3380a5e036"), looks := false }, kinds := [], alts := [], laidByText := true, laidKinds := [.data, .data, .data], laidTests := true, laidLooks := .later }
def VerifyMembersUptoCardSaid : Prop := Claim7.holds Tryz.pinned (.plain (OpenSpec.upto verifyMembersSpec)) verifyMembersUptoCard
end Rows
end Go.Proofs.YtfgbojbhheokjaaGreatDoor
