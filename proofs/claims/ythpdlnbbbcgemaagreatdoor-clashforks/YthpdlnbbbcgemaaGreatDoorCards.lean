/-
  DERIVED. GIVEN WITH THE SEED: THE CARDS: each row of YthpdlnbbbcgemaaGreatDoorRows.lean that lists a variable, with what it lists TIED to the program's text (the seventh form; the later family's looks); each row that meets fmt, with fmt's text TOLD by the authors' own Lean function (tested against real Go, not proved from fmt's source: count such statements apart). THE CARD IS WHAT COUNTS. Prove the row's statement (the work); the ties are given (YthpdlnbbbcgemaaGreatDoorTie.lean); close each card by the builder's one call (the guide's Derived/Test/ToyasCard.lean, 'card_holds'). Laid BY PROGRAM, IN A SANDBOX (cutbox-door.mjs). By AI agents, Wed Nov 11 2026. No macro, syntax, notation, axiom, sorry.
-/
import Derived.Test.YthpdlnbbbcgemaaGreatDoorRows
import GoSem.ClaimSeven
namespace Go.Proofs.YthpdlnbbbcgemaaGreatDoor
namespace Rows

/-- THE TIED CARD OF 'massiflaw9.ClashAcross'. -/
def clashAcrossCard : Claim7 := { stood := { row := clashAcrossRow, standIns := [], harness := (true, "ea825a1c5d544ea6658588bbe8876b8cec3043c825d51eda92abf8a454614526"), looks := false }, kinds := [], alts := [], laidByText := true, laidKinds := [.data, .data, .data], laidTests := true, laidLooks := .later }
def ClashAcrossCardSaid : Prop := Claim7.holds Tryz.pinned (.plain (OpenSpec.ofChange clashAcrossSpec)) clashAcrossCard

/-- THE TIED CARD OF 'massiflaw9.ClashForks'. -/
def clashForksCard : Claim7 := { stood := { row := clashForksRow, standIns := [], harness := (true, "ea825a1c5d544ea6658588bbe8876b8cec3043c825d51eda92abf8a454614526"), looks := false }, kinds := [], alts := [], laidByText := true, laidKinds := [.data, .data, .data], laidTests := true, laidLooks := .later }
def ClashForksCardSaid : Prop := Claim7.holds Tryz.pinned (.plain (OpenSpec.ofChange clashForksSpec)) clashForksCard

/-- THE SECOND FORM's CARD OF 'massiflaw9.ClashAcross'. -/
def clashAcrossUptoCard : Claim7 := { stood := { row := clashAcrossUptoRow, standIns := [], harness := (true, "ea825a1c5d544ea6658588bbe8876b8cec3043c825d51eda92abf8a454614526"), looks := false }, kinds := [], alts := [], laidByText := true, laidKinds := [.data, .data, .data], laidTests := true, laidLooks := .later }
def ClashAcrossUptoCardSaid : Prop := Claim7.holds Tryz.pinned (.plain (OpenSpec.upto clashAcrossSpec)) clashAcrossUptoCard

/-- THE SECOND FORM's CARD OF 'massiflaw9.ClashForks'. -/
def clashForksUptoCard : Claim7 := { stood := { row := clashForksUptoRow, standIns := [], harness := (true, "ea825a1c5d544ea6658588bbe8876b8cec3043c825d51eda92abf8a454614526"), looks := false }, kinds := [], alts := [], laidByText := true, laidKinds := [.data, .data, .data], laidTests := true, laidLooks := .later }
def ClashForksUptoCardSaid : Prop := Claim7.holds Tryz.pinned (.plain (OpenSpec.upto clashForksSpec)) clashForksUptoCard
end Rows
end Go.Proofs.YthpdlnbbbcgemaaGreatDoor
