/-
  DERIVED. GIVEN WITH THE SEED: THE CARDS: each row of YtkcfhgflgkejoaaGreatDoorRows.lean that lists a variable, with what it lists TIED to the program's text (the seventh form; the later family's looks); each row that meets fmt, with fmt's text TOLD by the authors' own Lean function (tested against real Go, not proved from fmt's source: count such statements apart). THE CARD IS WHAT COUNTS. Prove the row's statement (the work); the ties are given (YtkcfhgflgkejoaaGreatDoorTie.lean); close each card by the builder's one call (the guide's Derived/Test/ToyasCard.lean, 'card_holds'). Laid BY PROGRAM, IN A SANDBOX (cutbox-door.mjs). By AI agents, Wed Nov 11 2026. No macro, syntax, notation, axiom, sorry.
-/
import Derived.Test.YtkcfhgflgkejoaaGreatDoorRows
import GoSem.ClaimSeven
namespace Go.Proofs.YtkcfhgflgkejoaaGreatDoor
namespace Rows

/-- THE TIED CARD OF 'massiflaw8.VerifyMembers'. -/
def verifyMembersCard : Claim7 := { stood := { row := verifyMembersRow, standIns := [], harness := (true, "97770c654394064f16745b24e35977fbc386ca2d2eb2db5aedde84e8b7b61872"), looks := false }, kinds := [], alts := [], laidByText := true, laidKinds := [.data, .data, .data], laidTests := true, laidLooks := .later }
def VerifyMembersCardSaid : Prop := Claim7.holds Tryz.pinned (.plain (OpenSpec.ofChange verifyMembersSpec)) verifyMembersCard

/-- THE TIED CARD OF 'massiflaw8.VerifyReaches'. -/
def verifyReachesCard : Claim7 := { stood := { row := verifyReachesRow, standIns := [], harness := (true, "97770c654394064f16745b24e35977fbc386ca2d2eb2db5aedde84e8b7b61872"), looks := false }, kinds := [], alts := [], laidByText := true, laidKinds := [.data, .data, .data], laidTests := true, laidLooks := .later }
def VerifyReachesCardSaid : Prop := Claim7.holds Tryz.pinned (.plain (OpenSpec.ofChange verifyReachesSpec)) verifyReachesCard

/-- THE TIED CARD OF 'massiflaw8.VerifyPrefixes'. -/
def verifyPrefixesCard : Claim7 := { stood := { row := verifyPrefixesRow, standIns := [], harness := (true, "97770c654394064f16745b24e35977fbc386ca2d2eb2db5aedde84e8b7b61872"), looks := false }, kinds := [], alts := [], laidByText := true, laidKinds := [.data, .data, .data], laidTests := true, laidLooks := .later }
def VerifyPrefixesCardSaid : Prop := Claim7.holds Tryz.pinned (.plain (OpenSpec.ofChange verifyPrefixesSpec)) verifyPrefixesCard

/-- THE SECOND FORM's CARD OF 'massiflaw8.VerifyMembers'. -/
def verifyMembersUptoCard : Claim7 := { stood := { row := verifyMembersUptoRow, standIns := [], harness := (true, "97770c654394064f16745b24e35977fbc386ca2d2eb2db5aedde84e8b7b61872"), looks := false }, kinds := [], alts := [], laidByText := true, laidKinds := [.data, .data, .data], laidTests := true, laidLooks := .later }
def VerifyMembersUptoCardSaid : Prop := Claim7.holds Tryz.pinned (.plain (OpenSpec.upto verifyMembersSpec)) verifyMembersUptoCard

/-- THE SECOND FORM's CARD OF 'massiflaw8.VerifyReaches'. -/
def verifyReachesUptoCard : Claim7 := { stood := { row := verifyReachesUptoRow, standIns := [], harness := (true, "97770c654394064f16745b24e35977fbc386ca2d2eb2db5aedde84e8b7b61872"), looks := false }, kinds := [], alts := [], laidByText := true, laidKinds := [.data, .data, .data], laidTests := true, laidLooks := .later }
def VerifyReachesUptoCardSaid : Prop := Claim7.holds Tryz.pinned (.plain (OpenSpec.upto verifyReachesSpec)) verifyReachesUptoCard

/-- THE SECOND FORM's CARD OF 'massiflaw8.VerifyPrefixes'. -/
def verifyPrefixesUptoCard : Claim7 := { stood := { row := verifyPrefixesUptoRow, standIns := [], harness := (true, "97770c654394064f16745b24e35977fbc386ca2d2eb2db5aedde84e8b7b61872"), looks := false }, kinds := [], alts := [], laidByText := true, laidKinds := [.data, .data, .data], laidTests := true, laidLooks := .later }
def VerifyPrefixesUptoCardSaid : Prop := Claim7.holds Tryz.pinned (.plain (OpenSpec.upto verifyPrefixesSpec)) verifyPrefixesUptoCard
end Rows
end Go.Proofs.YtkcfhgflgkejoaaGreatDoor
