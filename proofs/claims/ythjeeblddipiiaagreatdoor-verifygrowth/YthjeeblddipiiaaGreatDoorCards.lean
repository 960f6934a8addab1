/-
  DERIVED. GIVEN WITH THE SEED: THE CARDS: each row of YthjeeblddipiiaaGreatDoorRows.lean that lists a variable, with what it lists TIED to the program's text (the seventh form; the later family's looks); each row that meets fmt, with fmt's text TOLD by the authors' own Lean function (tested against real Go, not proved from fmt's source: count such statements apart). THE CARD IS WHAT COUNTS. Prove the row's statement (the work); the ties are given (YthjeeblddipiiaaGreatDoorTie.lean); close each card by the builder's one call (the guide's Derived/Test/ToyasCard.lean, 'card_holds'). Laid BY PROGRAM, IN A SANDBOX (cutbox-door.mjs). By AI agents, Wed Nov 11 2026. No macro, syntax, notation, axiom, sorry.
-/
import Derived.Test.YthjeeblddipiiaaGreatDoorRows
import GoSem.ClaimSeven
namespace Go.Proofs.YthjeeblddipiiaaGreatDoor
namespace Rows

/-- THE TIED CARD OF 'massiflaw8.VerifyAccepts'. -/
def verifyAcceptsCard : Claim7 := { stood := { row := verifyAcceptsRow, standIns := [], harness := (true, "2c681d9180d313d7a11468a9433fe277641b61014810ea0b2cb74a06d18af87b"), looks := false }, kinds := [], alts := [], laidByText := true, laidKinds := [.data, .data, .data], laidTests := true, laidLooks := .later }
def VerifyAcceptsCardSaid : Prop := Claim7.holds Tryz.pinned (.plain (OpenSpec.ofChange verifyAcceptsSpec)) verifyAcceptsCard

/-- THE TIED CARD OF 'massiflaw8.VerifyGrowth'. -/
def verifyGrowthCard : Claim7 := { stood := { row := verifyGrowthRow, standIns := [], harness := (true, "2c681d9180d313d7a11468a9433fe277641b61014810ea0b2cb74a06d18af87b"), looks := false }, kinds := [], alts := [], laidByText := true, laidKinds := [.data, .data, .data], laidTests := true, laidLooks := .later }
def VerifyGrowthCardSaid : Prop := Claim7.holds Tryz.pinned (.plain (OpenSpec.ofChange verifyGrowthSpec)) verifyGrowthCard

/-- THE TIED CARD OF 'massiflaw8.VerifyTurns'. -/
def verifyTurnsCard : Claim7 := { stood := { row := verifyTurnsRow, standIns := [], harness := (true, "2c681d9180d313d7a11468a9433fe277641b61014810ea0b2cb74a06d18af87b"), looks := false }, kinds := [], alts := [], laidByText := true, laidKinds := [.data, .data, .data], laidTests := true, laidLooks := .later }
def VerifyTurnsCardSaid : Prop := Claim7.holds Tryz.pinned (.plain (OpenSpec.ofChange verifyTurnsSpec)) verifyTurnsCard

/-- THE SECOND FORM's CARD OF 'massiflaw8.VerifyAccepts'. -/
def verifyAcceptsUptoCard : Claim7 := { stood := { row := verifyAcceptsUptoRow, standIns := [], harness := (true, "2c681d9180d313d7a11468a9433fe277641b61014810ea0b2cb74a06d18af87b"), looks := false }, kinds := [], alts := [], laidByText := true, laidKinds := [.data, .data, .data], laidTests := true, laidLooks := .later }
def VerifyAcceptsUptoCardSaid : Prop := Claim7.holds Tryz.pinned (.plain (OpenSpec.upto verifyAcceptsSpec)) verifyAcceptsUptoCard

/-- THE SECOND FORM's CARD OF 'massiflaw8.VerifyGrowth'. -/
def verifyGrowthUptoCard : Claim7 := { stood := { row := verifyGrowthUptoRow, standIns := [], harness := (true, "2c681d9180d313d7a11468a9433fe277641b61014810ea0b2cb74a06d18af87b"), looks := false }, kinds := [], alts := [], laidByText := true, laidKinds := [.data, .data, .data], laidTests := true, laidLooks := .later }
def VerifyGrowthUptoCardSaid : Prop := Claim7.holds Tryz.pinned (.plain (OpenSpec.upto verifyGrowthSpec)) verifyGrowthUptoCard

/-- THE SECOND FORM's CARD OF 'massiflaw8.VerifyTurns'. -/
def verifyTurnsUptoCard : Claim7 := { stood := { row := verifyTurnsUptoRow, standIns := [], harness := (true, "2c681d9180d313d7a11468a9433fe277641b61014810ea0b2cb74a06d18af87b"), looks := false }, kinds := [], alts := [], laidByText := true, laidKinds := [.data, .data, .data], laidTests := true, laidLooks := .later }
def VerifyTurnsUptoCardSaid : Prop := Claim7.holds Tryz.pinned (.plain (OpenSpec.upto verifyTurnsSpec)) verifyTurnsUptoCard
end Rows
end Go.Proofs.YthjeeblddipiiaaGreatDoor
