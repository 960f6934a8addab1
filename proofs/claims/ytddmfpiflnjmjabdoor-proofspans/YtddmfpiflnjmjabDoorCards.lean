/-
  DERIVED. GIVEN WITH THE SEED: THE CARDS: each row of YtddmfpiflnjmjabDoorRows.lean that lists a variable, with what it lists TIED to the program's text (the seventh form; the later family's looks); each row that meets fmt, with fmt's text TOLD by the authors' own Lean function (tested against real Go, not proved from fmt's source: count such statements apart). THE CARD IS WHAT COUNTS. Prove the row's statement (the work); the ties are given (YtddmfpiflnjmjabDoorTie.lean); close each card by the builder's one call (the guide's Derived/Test/ToyasCard.lean, 'card_holds'). Laid BY PROGRAM, IN A SANDBOX (cutbox-door.mjs). By AI agents, Wed Nov 11 2026. No macro, syntax, notation, axiom, sorry.
-/
import Derived.Test.YtddmfpiflnjmjabDoorRows
import GoSem.ClaimSeven
namespace Go.Proofs.YtddmfpiflnjmjabDoor
namespace Rows

/-- THE TIED CARD OF 'massiflaw7.ProofSets'. -/
def proofSetsCard : Claim7 := { stood := { row := proofSetsRow, standIns := [], harness := (true, "93d404f9b59b860a90a25763ab671892ff4e5231fddcba53a39cde0fe19cbf59"), looks := false }, kinds := [], alts := [], laidByText := true, laidKinds := [.data], laidTests := true, laidLooks := .later }
def ProofSetsCardSaid : Prop := Claim7.holds Tryd.pinned (.plain (OpenSpec.ofChange proofSetsSpec)) proofSetsCard

/-- THE TIED CARD OF 'massiflaw7.ProofSpans'. -/
def proofSpansCard : Claim7 := { stood := { row := proofSpansRow, standIns := [], harness := (true, "93d404f9b59b860a90a25763ab671892ff4e5231fddcba53a39cde0fe19cbf59"), looks := false }, kinds := [], alts := [], laidByText := true, laidKinds := [.data], laidTests := true, laidLooks := .later }
def ProofSpansCardSaid : Prop := Claim7.holds Tryd.pinned (.plain (OpenSpec.ofChange proofSpansSpec)) proofSpansCard

/-- THE SECOND FORM's CARD OF 'massiflaw7.ProofSets'. -/
def proofSetsUptoCard : Claim7 := { stood := { row := proofSetsUptoRow, standIns := [], harness := (true, "93d404f9b59b860a90a25763ab671892ff4e5231fddcba53a39cde0fe19cbf59"), looks := false }, kinds := [], alts := [], laidByText := true, laidKinds := [.data], laidTests := true, laidLooks := .later }
def ProofSetsUptoCardSaid : Prop := Claim7.holds Tryd.pinned (.plain (OpenSpec.upto proofSetsSpec)) proofSetsUptoCard

/-- THE SECOND FORM's CARD OF 'massiflaw7.ProofSpans'. -/
def proofSpansUptoCard : Claim7 := { stood := { row := proofSpansUptoRow, standIns := [], harness := (true, "93d404f9b59b860a90a25763ab671892ff4e5231fddcba53a39cde0fe19cbf59"), looks := false }, kinds := [], alts := [], laidByText := true, laidKinds := [.data], laidTests := true, laidLooks := .later }
def ProofSpansUptoCardSaid : Prop := Claim7.holds Tryd.pinned (.plain (OpenSpec.upto proofSpansSpec)) proofSpansUptoCard
end Rows
end Go.Proofs.YtddmfpiflnjmjabDoor
