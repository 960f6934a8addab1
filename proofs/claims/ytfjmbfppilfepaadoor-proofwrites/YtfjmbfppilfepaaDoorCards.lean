/-
  DERIVED. GIVEN WITH THE SEED: THE CARDS: each row of YtfjmbfppilfepaaDoorRows.lean that lists a variable, with what it lists TIED to the program's text (the seventh form; the later family's looks); each row that meets fmt, with fmt's text TOLD by the authors' own Lean function (tested against real Go, not proved from fmt's source: count such statements apart). THE CARD IS WHAT COUNTS. Prove the row's statement (the work); the ties are given (YtfjmbfppilfepaaDoorTie.lean); close each card by the builder's one call (the guide's Derived/Test/ToyasCard.lean, 'card_holds'). Laid BY PROGRAM, IN A SANDBOX (cutbox-door.mjs). By AI agents, Wed Nov 11 2026. No macro, syntax, notation, axiom, sorry.
-/
import Derived.Test.YtfjmbfppilfepaaDoorRows
import GoSem.ClaimSeven
namespace Go.Proofs.YtfjmbfppilfepaaDoor
namespace Rows

/-- THE TIED CARD OF 'massiflaw7.ProofRound'. -/
def proofRoundCard : Claim7 := { stood := { row := proofRoundRow, standIns := [], harness := (true, "89ee5c7372c46ed56a7e8b92f302ba2b65fcc5fe49043bfed1794beab64a6612"), looks := false }, kinds := [], alts := [], laidByText := true, laidKinds := [.data], laidTests := true, laidLooks := .later }
def ProofRoundCardSaid : Prop := Claim7.holds Tryd.pinned (.plain (OpenSpec.ofChange proofRoundSpec)) proofRoundCard

/-- THE TIED CARD OF 'massiflaw7.ProofReads'. -/
def proofReadsCard : Claim7 := { stood := { row := proofReadsRow, standIns := [], harness := (true, "89ee5c7372c46ed56a7e8b92f302ba2b65fcc5fe49043bfed1794beab64a6612"), looks := false }, kinds := [], alts := [], laidByText := true, laidKinds := [.data], laidTests := true, laidLooks := .later }
def ProofReadsCardSaid : Prop := Claim7.holds Tryd.pinned (.plain (OpenSpec.ofChange proofReadsSpec)) proofReadsCard

/-- THE TIED CARD OF 'massiflaw7.ProofWrites'. -/
def proofWritesCard : Claim7 := { stood := { row := proofWritesRow, standIns := [], harness := (true, "89ee5c7372c46ed56a7e8b92f302ba2b65fcc5fe49043bfed1794beab64a6612"), looks := false }, kinds := [], alts := [], laidByText := true, laidKinds := [.data], laidTests := true, laidLooks := .later }
def ProofWritesCardSaid : Prop := Claim7.holds Tryd.pinned (.plain (OpenSpec.ofChange proofWritesSpec)) proofWritesCard

/-- THE TIED CARD OF 'massiflaw8.VerifyBinds'. -/
def verifyBindsCard : Claim7 := { stood := { row := verifyBindsRow, standIns := [], harness := (true, "89ee5c7372c46ed56a7e8b92f302ba2b65fcc5fe49043bfed1794beab64a6612"), looks := false }, kinds := [], alts := [], laidByText := true, laidKinds := [.data, .data, .data], laidTests := true, laidLooks := .later }
def VerifyBindsCardSaid : Prop := Claim7.holds Tryd.pinned (.plain (OpenSpec.ofChange verifyBindsSpec)) verifyBindsCard

/-- THE SECOND FORM's CARD OF 'massiflaw7.ProofRound'. -/
def proofRoundUptoCard : Claim7 := { stood := { row := proofRoundUptoRow, standIns := [], harness := (true, "89ee5c7372c46ed56a7e8b92f302ba2b65fcc5fe49043bfed1794beab64a6612"), looks := false }, kinds := [], alts := [], laidByText := true, laidKinds := [.data], laidTests := true, laidLooks := .later }
def ProofRoundUptoCardSaid : Prop := Claim7.holds Tryd.pinned (.plain (OpenSpec.upto proofRoundSpec)) proofRoundUptoCard

/-- THE SECOND FORM's CARD OF 'massiflaw7.ProofReads'. -/
def proofReadsUptoCard : Claim7 := { stood := { row := proofReadsUptoRow, standIns := [], harness := (true, "89ee5c7372c46ed56a7e8b92f302ba2b65fcc5fe49043bfed1794beab64a6612"), looks := false }, kinds := [], alts := [], laidByText := true, laidKinds := [.data], laidTests := true, laidLooks := .later }
def ProofReadsUptoCardSaid : Prop := Claim7.holds Tryd.pinned (.plain (OpenSpec.upto proofReadsSpec)) proofReadsUptoCard

/-- THE SECOND FORM's CARD OF 'massiflaw7.ProofWrites'. -/
def proofWritesUptoCard : Claim7 := { stood := { row := proofWritesUptoRow, standIns := [], harness := (true, "89ee5c7372c46ed56a7e8b92f302ba2b65fcc5fe49043bfed1794beab64a6612"), looks := false }, kinds := [], alts := [], laidByText := true, laidKinds := [.data], laidTests := true, laidLooks := .later }
def ProofWritesUptoCardSaid : Prop := Claim7.holds Tryd.pinned (.plain (OpenSpec.upto proofWritesSpec)) proofWritesUptoCard

/-- THE SECOND FORM's CARD OF 'massiflaw8.VerifyBinds'. -/
def verifyBindsUptoCard : Claim7 := { stood := { row := verifyBindsUptoRow, standIns := [], harness := (true, "89ee5c7372c46ed56a7e8b92f302ba2b65fcc5fe49043bfed1794beab64a6612"), looks := false }, kinds := [], alts := [], laidByText := true, laidKinds := [.data, .data, .data], laidTests := true, laidLooks := .later }
def VerifyBindsUptoCardSaid : Prop := Claim7.holds Tryd.pinned (.plain (OpenSpec.upto verifyBindsSpec)) verifyBindsUptoCard
end Rows
end Go.Proofs.YtfjmbfppilfepaaDoor
