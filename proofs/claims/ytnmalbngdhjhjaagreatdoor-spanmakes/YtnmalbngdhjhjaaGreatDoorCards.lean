/-
  DERIVED. GIVEN WITH THE SEED: THE CARDS: each row of YtnmalbngdhjhjaaGreatDoorRows.lean that lists a variable, with what it lists TIED to the program's text (the seventh form; the later family's looks); each row that meets fmt, with fmt's text TOLD by the authors' own Lean function (tested against real Go, not proved from fmt's source: count such statements apart). THE CARD IS WHAT COUNTS. Prove the row's statement (the work); the ties are given (YtnmalbngdhjhjaaGreatDoorTie.lean); close each card by the builder's one call (the guide's Derived/Test/ToyasCard.lean, 'card_holds'). Laid BY PROGRAM, IN A SANDBOX (cutbox-door.mjs). By AI agents, Wed Nov 11 2026. No macro, syntax, notation, axiom, sorry.
-/
import Derived.Test.YtnmalbngdhjhjaaGreatDoorRows
import GoSem.ClaimSeven
namespace Go.Proofs.YtnmalbngdhjhjaaGreatDoor
namespace Rows

/-- THE TIED CARD OF 'massiflaw20.SpanMakes'. -/
def spanMakesCard : Claim7 := { stood := { row := spanMakesRow, standIns := [], harness := (true, "78687694f5fc375b2a6d1b3c472f2b2d1f30f56d417db6e7b335d1ab49311eca"), looks := true }, kinds := [], alts := [], laidByText := true, laidKinds := [.data, .data, .data], laidTests := true, laidLooks := .later }
def SpanMakesCardSaid : Prop := Claim7.holds Tryz.pinned (.plain (OpenSpec.ofChange spanMakesSpec)) spanMakesCard

/-- THE TIED CARD OF 'massiflaw20.SpanVerifies'. -/
def spanVerifiesCard : Claim7 := { stood := { row := spanVerifiesRow, standIns := [], harness := (true, "78687694f5fc375b2a6d1b3c472f2b2d1f30f56d417db6e7b335d1ab49311eca"), looks := true }, kinds := [], alts := [], laidByText := true, laidKinds := [.data, .data, .data], laidTests := true, laidLooks := .later }
def SpanVerifiesCardSaid : Prop := Claim7.holds Tryz.pinned (.plain (OpenSpec.ofChange spanVerifiesSpec)) spanVerifiesCard

/-- THE TIED CARD OF 'massiflaw20.SpanAccepts'. -/
def spanAcceptsCard : Claim7 := { stood := { row := spanAcceptsRow, standIns := [], harness := (true, "78687694f5fc375b2a6d1b3c472f2b2d1f30f56d417db6e7b335d1ab49311eca"), looks := true }, kinds := [], alts := [], laidByText := true, laidKinds := [.data, .data, .data], laidTests := true, laidLooks := .later }
def SpanAcceptsCardSaid : Prop := Claim7.holds Tryz.pinned (.plain (OpenSpec.ofChange spanAcceptsSpec)) spanAcceptsCard

/-- THE TIED CARD OF 'massiflaw10.ManyClashes'. -/
def manyClashesCard : Claim7 := { stood := { row := manyClashesRow, standIns := [], harness := (true, "78687694f5fc375b2a6d1b3c472f2b2d1f30f56d417db6e7b335d1ab49311eca"), looks := true }, kinds := [], alts := [], laidByText := true, laidKinds := [.data, .data, .data], laidTests := true, laidLooks := .later }
def ManyClashesCardSaid : Prop := Claim7.holds Tryz.pinned (.plain (OpenSpec.ofChange manyClashesSpec)) manyClashesCard

/-- THE SECOND FORM's CARD OF 'massiflaw20.SpanMakes'. -/
def spanMakesUptoCard : Claim7 := { stood := { row := spanMakesUptoRow, standIns := [], harness := (true, "78687694f5fc375b2a6d1b3c472f2b2d1f30f56d417db6e7b335d1ab49311eca"), looks := true }, kinds := [], alts := [], laidByText := true, laidKinds := [.data, .data, .data], laidTests := true, laidLooks := .later }
def SpanMakesUptoCardSaid : Prop := Claim7.holds Tryz.pinned (.plain (OpenSpec.upto spanMakesSpec)) spanMakesUptoCard

/-- THE SECOND FORM's CARD OF 'massiflaw20.SpanVerifies'. -/
def spanVerifiesUptoCard : Claim7 := { stood := { row := spanVerifiesUptoRow, standIns := [], harness := (true, "78687694f5fc375b2a6d1b3c472f2b2d1f30f56d417db6e7b335d1ab49311eca"), looks := true }, kinds := [], alts := [], laidByText := true, laidKinds := [.data, .data, .data], laidTests := true, laidLooks := .later }
def SpanVerifiesUptoCardSaid : Prop := Claim7.holds Tryz.pinned (.plain (OpenSpec.upto spanVerifiesSpec)) spanVerifiesUptoCard

/-- THE SECOND FORM's CARD OF 'massiflaw20.SpanAccepts'. -/
def spanAcceptsUptoCard : Claim7 := { stood := { row := spanAcceptsUptoRow, standIns := [], harness := (true, "78687694f5fc375b2a6d1b3c472f2b2d1f30f56d417db6e7b335d1ab49311eca"), looks := true }, kinds := [], alts := [], laidByText := true, laidKinds := [.data, .data, .data], laidTests := true, laidLooks := .later }
def SpanAcceptsUptoCardSaid : Prop := Claim7.holds Tryz.pinned (.plain (OpenSpec.upto spanAcceptsSpec)) spanAcceptsUptoCard

/-- THE SECOND FORM's CARD OF 'massiflaw10.ManyClashes'. -/
def manyClashesUptoCard : Claim7 := { stood := { row := manyClashesUptoRow, standIns := [], harness := (true, "78687694f5fc375b2a6d1b3c472f2b2d1f30f56d417db6e7b335d1ab49311eca"), looks := true }, kinds := [], alts := [], laidByText := true, laidKinds := [.data, .data, .data], laidTests := true, laidLooks := .later }
def ManyClashesUptoCardSaid : Prop := Claim7.holds Tryz.pinned (.plain (OpenSpec.upto manyClashesSpec)) manyClashesUptoCard
end Rows
end Go.Proofs.YtnmalbngdhjhjaaGreatDoor
