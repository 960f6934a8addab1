/-
  DERIVED. GIVEN WITH THE SEED: THE CARDS: each row of YthogidnbjdmaaaaDoorRows.lean that lists a variable, with what it lists TIED to the program's text (the seventh form; the later family's looks); each row that meets fmt, with fmt's text TOLD by the authors' own Lean function (tested against real Go, not proved from fmt's source: count such statements apart). THE CARD IS WHAT COUNTS. Prove the row's statement (the work); the ties are given (YthogidnbjdmaaaaDoorTie.lean); close each card by the builder's one call (the guide's Derived/Test/ToyasCard.lean, 'card_holds'). Laid BY PROGRAM, IN A SANDBOX (cutbox-door.mjs). By AI agents, Wed Nov 11 2026. No macro, syntax, notation, axiom, sorry.
-/
import Derived.Test.YthogidnbjdmaaaaDoorRows
import GoSem.ClaimSeven
namespace Go.Proofs.YthogidnbjdmaaaaDoor
namespace Rows

/-- THE TIED CARD OF 'massiflaw4.CutSpans'. -/
def cutSpansCard : Claim7 := { stood := { row := cutSpansRow, standIns := [], harness := (true, "eeffee8eb53e6b7672bf33e0e634a3a0d268508815065c614fd86f6a5ecb8658"), looks := false }, kinds := [], alts := [], laidByText := true, laidKinds := [.data], laidTests := true, laidLooks := .later }
def CutSpansCardSaid : Prop := Claim7.holds Tryd.pinned (.plain (OpenSpec.ofChange cutSpansSpec)) cutSpansCard

/-- THE TIED CARD OF 'massiflaw4.CutMerges'. -/
def cutMergesCard : Claim7 := { stood := { row := cutMergesRow, standIns := [], harness := (true, "eeffee8eb53e6b7672bf33e0e634a3a0d268508815065c614fd86f6a5ecb8658"), looks := false }, kinds := [], alts := [], laidByText := true, laidKinds := [.data], laidTests := true, laidLooks := .later }
def CutMergesCardSaid : Prop := Claim7.holds Tryd.pinned (.plain (OpenSpec.ofChange cutMergesSpec)) cutMergesCard

/-- THE SECOND FORM's CARD OF 'massiflaw4.CutSpans'. -/
def cutSpansUptoCard : Claim7 := { stood := { row := cutSpansUptoRow, standIns := [], harness := (true, "eeffee8eb53e6b7672bf33e0e634a3a0d268508815065c614fd86f6a5ecb8658"), looks := false }, kinds := [], alts := [], laidByText := true, laidKinds := [.data], laidTests := true, laidLooks := .later }
def CutSpansUptoCardSaid : Prop := Claim7.holds Tryd.pinned (.plain (OpenSpec.upto cutSpansSpec)) cutSpansUptoCard

/-- THE SECOND FORM's CARD OF 'massiflaw4.CutMerges'. -/
def cutMergesUptoCard : Claim7 := { stood := { row := cutMergesUptoRow, standIns := [], harness := (true, "eeffee8eb53e6b7672bf33e0e634a3a0d268508815065c614fd86f6a5ecb8658"), looks := false }, kinds := [], alts := [], laidByText := true, laidKinds := [.data], laidTests := true, laidLooks := .later }
def CutMergesUptoCardSaid : Prop := Claim7.holds Tryd.pinned (.plain (OpenSpec.upto cutMergesSpec)) cutMergesUptoCard
end Rows
end Go.Proofs.YthogidnbjdmaaaaDoor
