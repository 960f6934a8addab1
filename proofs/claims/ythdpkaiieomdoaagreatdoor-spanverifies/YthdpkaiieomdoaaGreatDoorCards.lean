/-
  DERIVED. GIVEN WITH THE SEED: THE CARDS: each row of YthdpkaiieomdoaaGreatDoorRows.lean that lists a variable, with what it lists TIED to the program's text (the seventh form; the later family's looks); each row that meets fmt, with fmt's text TOLD by the authors' own Lean function (tested against real Go, not proved from fmt's source: count such statements apart). THE CARD IS WHAT COUNTS. Prove the row's statement (the work); the ties are given (YthdpkaiieomdoaaGreatDoorTie.lean); close each card by the builder's one call (the guide's Derived/Test/ToyasCard.lean, 'card_holds'). Laid BY PROGRAM, IN A SANDBOX (cutbox-door.mjs). By AI agents, Wed Nov 11 2026. No macro, syntax, notation, axiom, sorry.
-/
import Derived.Test.YthdpkaiieomdoaaGreatDoorRows
import GoSem.ClaimSeven
namespace Go.Proofs.YthdpkaiieomdoaaGreatDoor
namespace Rows

/-- THE TIED CARD OF 'massiflaw20.SpanVerifies'. -/
def spanVerifiesCard : Claim7 := { stood := { row := spanVerifiesRow, standIns := [], harness := (true, "86751e3740083c3e9280c49043960a1b9603db2de396b6fc5254aea88400e463"), looks := false }, kinds := [], alts := [], laidByText := true, laidKinds := [.data, .data, .data], laidTests := true, laidLooks := .later }
def SpanVerifiesCardSaid : Prop := Claim7.holds Tryz.pinned (.plain (OpenSpec.ofChange spanVerifiesSpec)) spanVerifiesCard

/-- THE TIED CARD OF 'massiflaw20.SpanClashes'. -/
def spanClashesCard : Claim7 := { stood := { row := spanClashesRow, standIns := [], harness := (true, "86751e3740083c3e9280c49043960a1b9603db2de396b6fc5254aea88400e463"), looks := false }, kinds := [], alts := [], laidByText := true, laidKinds := [.data, .data, .data], laidTests := true, laidLooks := .later }
def SpanClashesCardSaid : Prop := Claim7.holds Tryz.pinned (.plain (OpenSpec.ofChange spanClashesSpec)) spanClashesCard

/-- THE TIED CARD OF 'massiflaw20.SpanAccepts'. -/
def spanAcceptsCard : Claim7 := { stood := { row := spanAcceptsRow, standIns := [], harness := (true, "86751e3740083c3e9280c49043960a1b9603db2de396b6fc5254aea88400e463"), looks := false }, kinds := [], alts := [], laidByText := true, laidKinds := [.data, .data, .data], laidTests := true, laidLooks := .later }
def SpanAcceptsCardSaid : Prop := Claim7.holds Tryz.pinned (.plain (OpenSpec.ofChange spanAcceptsSpec)) spanAcceptsCard

/-- THE TIED CARD OF 'massiflaw20.SpanMeets'. -/
def spanMeetsCard : Claim7 := { stood := { row := spanMeetsRow, standIns := [], harness := (true, "86751e3740083c3e9280c49043960a1b9603db2de396b6fc5254aea88400e463"), looks := false }, kinds := [], alts := [], laidByText := true, laidKinds := [.data, .data, .data], laidTests := true, laidLooks := .later }
def SpanMeetsCardSaid : Prop := Claim7.holds Tryz.pinned (.plain (OpenSpec.ofChange spanMeetsSpec)) spanMeetsCard

/-- THE SECOND FORM's CARD OF 'massiflaw20.SpanVerifies'. -/
def spanVerifiesUptoCard : Claim7 := { stood := { row := spanVerifiesUptoRow, standIns := [], harness := (true, "86751e3740083c3e9280c49043960a1b9603db2de396b6fc5254aea88400e463"), looks := false }, kinds := [], alts := [], laidByText := true, laidKinds := [.data, .data, .data], laidTests := true, laidLooks := .later }
def SpanVerifiesUptoCardSaid : Prop := Claim7.holds Tryz.pinned (.plain (OpenSpec.upto spanVerifiesSpec)) spanVerifiesUptoCard

/-- THE SECOND FORM's CARD OF 'massiflaw20.SpanClashes'. -/
def spanClashesUptoCard : Claim7 := { stood := { row := spanClashesUptoRow, standIns := [], harness := (true, "86751e3740083c3e9280c49043960a1b9603db2de396b6fc5254aea88400e463"), looks := false }, kinds := [], alts := [], laidByText := true, laidKinds := [.data, .data, .data], laidTests := true, laidLooks := .later }
def SpanClashesUptoCardSaid : Prop := Claim7.holds Tryz.pinned (.plain (OpenSpec.upto spanClashesSpec)) spanClashesUptoCard

/-- THE SECOND FORM's CARD OF 'massiflaw20.SpanAccepts'. -/
def spanAcceptsUptoCard : Claim7 := { stood := { row := spanAcceptsUptoRow, standIns := [], harness := (true, "86751e3740083c3e9280c49043960a1b9603db2de396b6fc5254aea88400e463"), looks := false }, kinds := [], alts := [], laidByText := true, laidKinds := [.data, .data, .data], laidTests := true, laidLooks := .later }
def SpanAcceptsUptoCardSaid : Prop := Claim7.holds Tryz.pinned (.plain (OpenSpec.upto spanAcceptsSpec)) spanAcceptsUptoCard

/-- THE SECOND FORM's CARD OF 'massiflaw20.SpanMeets'. -/
def spanMeetsUptoCard : Claim7 := { stood := { row := spanMeetsUptoRow, standIns := [], harness := (true, "86751e3740083c3e9280c49043960a1b9603db2de396b6fc5254aea88400e463"), looks := false }, kinds := [], alts := [], laidByText := true, laidKinds := [.data, .data, .data], laidTests := true, laidLooks := .later }
def SpanMeetsUptoCardSaid : Prop := Claim7.holds Tryz.pinned (.plain (OpenSpec.upto spanMeetsSpec)) spanMeetsUptoCard
end Rows
end Go.Proofs.YthdpkaiieomdoaaGreatDoor
