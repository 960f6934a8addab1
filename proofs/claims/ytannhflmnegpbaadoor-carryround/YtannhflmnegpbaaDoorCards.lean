/-
  DERIVED. GIVEN WITH THE SEED: THE CARDS: each row of YtannhflmnegpbaaDoorRows.lean that lists a variable, with what it lists TIED to the program's text (the seventh form; the later family's looks); each row that meets fmt, with fmt's text TOLD by the authors' own Lean function (tested against real Go, not proved from fmt's source: count such statements apart). THE CARD IS WHAT COUNTS. Prove the row's statement (the work); the ties are given (YtannhflmnegpbaaDoorTie.lean); close each card by the builder's one call (the guide's Derived/Test/ToyasCard.lean, 'card_holds'). Laid BY PROGRAM, IN A SANDBOX (cutbox-door.mjs). By AI agents, Wed Nov 11 2026. No macro, syntax, notation, axiom, sorry.
-/
import Derived.Test.YtannhflmnegpbaaDoorRows
import GoSem.ClaimSeven
namespace Go.Proofs.YtannhflmnegpbaaDoor
namespace Rows

/-- THE TIED CARD OF 'massiflaw12.CarryEvents'. -/
def carryEventsCard : Claim7 := { stood := { row := carryEventsRow, standIns := [], harness := (true, "3f7f5ccd6166c8684d4df2a0d83917d9ec72ee56edfcb24845cfddb0ab08de88"), looks := false }, kinds := [], alts := [], laidByText := true, laidKinds := [.data, .data, .data], laidTests := true, laidLooks := .later }
def CarryEventsCardSaid : Prop := Claim7.holds Tryd.pinned (.plain (OpenSpec.ofChange carryEventsSpec)) carryEventsCard

/-- THE TIED CARD OF 'massiflaw12.CarryRound'. -/
def carryRoundCard : Claim7 := { stood := { row := carryRoundRow, standIns := [], harness := (true, "3f7f5ccd6166c8684d4df2a0d83917d9ec72ee56edfcb24845cfddb0ab08de88"), looks := false }, kinds := [], alts := [], laidByText := true, laidKinds := [.data, .data, .data], laidTests := true, laidLooks := .later }
def CarryRoundCardSaid : Prop := Claim7.holds Tryd.pinned (.plain (OpenSpec.ofChange carryRoundSpec)) carryRoundCard

/-- THE SECOND FORM's CARD OF 'massiflaw12.CarryEvents'. -/
def carryEventsUptoCard : Claim7 := { stood := { row := carryEventsUptoRow, standIns := [], harness := (true, "3f7f5ccd6166c8684d4df2a0d83917d9ec72ee56edfcb24845cfddb0ab08de88"), looks := false }, kinds := [], alts := [], laidByText := true, laidKinds := [.data, .data, .data], laidTests := true, laidLooks := .later }
def CarryEventsUptoCardSaid : Prop := Claim7.holds Tryd.pinned (.plain (OpenSpec.upto carryEventsSpec)) carryEventsUptoCard

/-- THE SECOND FORM's CARD OF 'massiflaw12.CarryRound'. -/
def carryRoundUptoCard : Claim7 := { stood := { row := carryRoundUptoRow, standIns := [], harness := (true, "3f7f5ccd6166c8684d4df2a0d83917d9ec72ee56edfcb24845cfddb0ab08de88"), looks := false }, kinds := [], alts := [], laidByText := true, laidKinds := [.data, .data, .data], laidTests := true, laidLooks := .later }
def CarryRoundUptoCardSaid : Prop := Claim7.holds Tryd.pinned (.plain (OpenSpec.upto carryRoundSpec)) carryRoundUptoCard
end Rows
end Go.Proofs.YtannhflmnegpbaaDoor
