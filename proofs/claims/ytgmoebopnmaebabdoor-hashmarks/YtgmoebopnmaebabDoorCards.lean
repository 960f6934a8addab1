/-
  DERIVED. GIVEN WITH THE SEED: THE CARDS: each row of YtgmoebopnmaebabDoorRows.lean that lists a variable, with what it lists TIED to the program's text (the seventh form; the later family's looks); each row that meets fmt, with fmt's text TOLD by the authors' own Lean function (tested against real Go, not proved from fmt's source: count such statements apart). THE CARD IS WHAT COUNTS. Prove the row's statement (the work); the ties are given (YtgmoebopnmaebabDoorTie.lean); close each card by the builder's one call (the guide's Derived/Test/ToyasCard.lean, 'card_holds'). Laid BY PROGRAM, IN A SANDBOX (cutbox-door.mjs). By AI agents, Wed Nov 11 2026. No macro, syntax, notation, axiom, sorry.
-/
import Derived.Test.YtgmoebopnmaebabDoorRows
import GoSem.ClaimSeven
namespace Go.Proofs.YtgmoebopnmaebabDoor
namespace Rows

/-- THE TIED CARD OF 'massiflaw2.HashWidths'. -/
def hashWidthsCard : Claim7 := { stood := { row := hashWidthsRow, standIns := [], harness := (true, "7e1ce6a764b15c1407360c7426b5b94d5064023b8d208888d737f85597b3c478"), looks := false }, kinds := [], alts := [], laidByText := true, laidKinds := [.data, .data], laidTests := true, laidLooks := .later }
def HashWidthsCardSaid : Prop := Claim7.holds Tryd.pinned (.plain (OpenSpec.ofChange hashWidthsSpec)) hashWidthsCard

/-- THE TIED CARD OF 'massiflaw2.HashCuts'. -/
def hashCutsCard : Claim7 := { stood := { row := hashCutsRow, standIns := [], harness := (true, "7e1ce6a764b15c1407360c7426b5b94d5064023b8d208888d737f85597b3c478"), looks := false }, kinds := [], alts := [], laidByText := true, laidKinds := [.data, .data], laidTests := true, laidLooks := .later }
def HashCutsCardSaid : Prop := Claim7.holds Tryd.pinned (.plain (OpenSpec.ofChange hashCutsSpec)) hashCutsCard

/-- THE TIED CARD OF 'massiflaw2.HashMarks'. -/
def hashMarksCard : Claim7 := { stood := { row := hashMarksRow, standIns := [], harness := (true, "7e1ce6a764b15c1407360c7426b5b94d5064023b8d208888d737f85597b3c478"), looks := false }, kinds := [], alts := [], laidByText := true, laidKinds := [.data, .data], laidTests := true, laidLooks := .later }
def HashMarksCardSaid : Prop := Claim7.holds Tryd.pinned (.plain (OpenSpec.ofChange hashMarksSpec)) hashMarksCard

/-- THE SECOND FORM's CARD OF 'massiflaw2.HashWidths'. -/
def hashWidthsUptoCard : Claim7 := { stood := { row := hashWidthsUptoRow, standIns := [], harness := (true, "7e1ce6a764b15c1407360c7426b5b94d5064023b8d208888d737f85597b3c478"), looks := false }, kinds := [], alts := [], laidByText := true, laidKinds := [.data, .data], laidTests := true, laidLooks := .later }
def HashWidthsUptoCardSaid : Prop := Claim7.holds Tryd.pinned (.plain (OpenSpec.upto hashWidthsSpec)) hashWidthsUptoCard

/-- THE SECOND FORM's CARD OF 'massiflaw2.HashCuts'. -/
def hashCutsUptoCard : Claim7 := { stood := { row := hashCutsUptoRow, standIns := [], harness := (true, "7e1ce6a764b15c1407360c7426b5b94d5064023b8d208888d737f85597b3c478"), looks := false }, kinds := [], alts := [], laidByText := true, laidKinds := [.data, .data], laidTests := true, laidLooks := .later }
def HashCutsUptoCardSaid : Prop := Claim7.holds Tryd.pinned (.plain (OpenSpec.upto hashCutsSpec)) hashCutsUptoCard

/-- THE SECOND FORM's CARD OF 'massiflaw2.HashMarks'. -/
def hashMarksUptoCard : Claim7 := { stood := { row := hashMarksUptoRow, standIns := [], harness := (true, "7e1ce6a764b15c1407360c7426b5b94d5064023b8d208888d737f85597b3c478"), looks := false }, kinds := [], alts := [], laidByText := true, laidKinds := [.data, .data], laidTests := true, laidLooks := .later }
def HashMarksUptoCardSaid : Prop := Claim7.holds Tryd.pinned (.plain (OpenSpec.upto hashMarksSpec)) hashMarksUptoCard
end Rows
end Go.Proofs.YtgmoebopnmaebabDoor
