/-
  DERIVED. GIVEN WITH THE SEED: THE CARDS: each row of YtmkgldjocigffaaDoorRows.lean that lists a variable, with what it lists TIED to the program's text (the seventh form; the later family's looks); each row that meets fmt, with fmt's text TOLD by the authors' own Lean function (tested against real Go, not proved from fmt's source: count such statements apart). THE CARD IS WHAT COUNTS. Prove the row's statement (the work); the ties are given (YtmkgldjocigffaaDoorTie.lean); close each card by the builder's one call (the guide's Derived/Test/ToyasCard.lean, 'card_holds'). Laid BY PROGRAM, IN A SANDBOX (cutbox-door.mjs). By AI agents, Wed Nov 11 2026. No macro, syntax, notation, axiom, sorry.
-/
import Derived.Test.YtmkgldjocigffaaDoorRows
import GoSem.ClaimSeven
namespace Go.Proofs.YtmkgldjocigffaaDoor
namespace Rows

/-- THE TIED CARD OF 'massiflaw20.SpanPlaces'. -/
def spanPlacesCard : Claim7 := { stood := { row := spanPlacesRow, standIns := [], harness := (true, "29021b1306a2ab34962629445c641484bbdc07fdd5733f58f8255282795a9bb9"), looks := true }, kinds := [], alts := [], laidByText := true, laidKinds := [.data], laidTests := true, laidLooks := .later }
def SpanPlacesCardSaid : Prop := Claim7.holds Tryd.pinned (.plain (OpenSpec.ofChange spanPlacesSpec)) spanPlacesCard

/-- THE TIED CARD OF 'massiflaw20.SpanSets'. -/
def spanSetsCard : Claim7 := { stood := { row := spanSetsRow, standIns := [], harness := (true, "29021b1306a2ab34962629445c641484bbdc07fdd5733f58f8255282795a9bb9"), looks := true }, kinds := [], alts := [], laidByText := true, laidKinds := [.data], laidTests := true, laidLooks := .later }
def SpanSetsCardSaid : Prop := Claim7.holds Tryd.pinned (.plain (OpenSpec.ofChange spanSetsSpec)) spanSetsCard

/-- THE TIED CARD OF 'massiflaw20.SpanBytes'. -/
def spanBytesCard : Claim7 := { stood := { row := spanBytesRow, standIns := [], harness := (true, "29021b1306a2ab34962629445c641484bbdc07fdd5733f58f8255282795a9bb9"), looks := true }, kinds := [], alts := [], laidByText := true, laidKinds := [.data], laidTests := true, laidLooks := .later }
def SpanBytesCardSaid : Prop := Claim7.holds Tryd.pinned (.plain (OpenSpec.ofChange spanBytesSpec)) spanBytesCard

/-- THE TIED CARD OF 'massiflaw20.SpanRound'. -/
def spanRoundCard : Claim7 := { stood := { row := spanRoundRow, standIns := [], harness := (true, "29021b1306a2ab34962629445c641484bbdc07fdd5733f58f8255282795a9bb9"), looks := true }, kinds := [], alts := [], laidByText := true, laidKinds := [.data], laidTests := true, laidLooks := .later }
def SpanRoundCardSaid : Prop := Claim7.holds Tryd.pinned (.plain (OpenSpec.ofChange spanRoundSpec)) spanRoundCard

/-- THE SECOND FORM's CARD OF 'massiflaw20.SpanPlaces'. -/
def spanPlacesUptoCard : Claim7 := { stood := { row := spanPlacesUptoRow, standIns := [], harness := (true, "29021b1306a2ab34962629445c641484bbdc07fdd5733f58f8255282795a9bb9"), looks := true }, kinds := [], alts := [], laidByText := true, laidKinds := [.data], laidTests := true, laidLooks := .later }
def SpanPlacesUptoCardSaid : Prop := Claim7.holds Tryd.pinned (.plain (OpenSpec.upto spanPlacesSpec)) spanPlacesUptoCard

/-- THE SECOND FORM's CARD OF 'massiflaw20.SpanSets'. -/
def spanSetsUptoCard : Claim7 := { stood := { row := spanSetsUptoRow, standIns := [], harness := (true, "29021b1306a2ab34962629445c641484bbdc07fdd5733f58f8255282795a9bb9"), looks := true }, kinds := [], alts := [], laidByText := true, laidKinds := [.data], laidTests := true, laidLooks := .later }
def SpanSetsUptoCardSaid : Prop := Claim7.holds Tryd.pinned (.plain (OpenSpec.upto spanSetsSpec)) spanSetsUptoCard

/-- THE SECOND FORM's CARD OF 'massiflaw20.SpanBytes'. -/
def spanBytesUptoCard : Claim7 := { stood := { row := spanBytesUptoRow, standIns := [], harness := (true, "29021b1306a2ab34962629445c641484bbdc07fdd5733f58f8255282795a9bb9"), looks := true }, kinds := [], alts := [], laidByText := true, laidKinds := [.data], laidTests := true, laidLooks := .later }
def SpanBytesUptoCardSaid : Prop := Claim7.holds Tryd.pinned (.plain (OpenSpec.upto spanBytesSpec)) spanBytesUptoCard

/-- THE SECOND FORM's CARD OF 'massiflaw20.SpanRound'. -/
def spanRoundUptoCard : Claim7 := { stood := { row := spanRoundUptoRow, standIns := [], harness := (true, "29021b1306a2ab34962629445c641484bbdc07fdd5733f58f8255282795a9bb9"), looks := true }, kinds := [], alts := [], laidByText := true, laidKinds := [.data], laidTests := true, laidLooks := .later }
def SpanRoundUptoCardSaid : Prop := Claim7.holds Tryd.pinned (.plain (OpenSpec.upto spanRoundSpec)) spanRoundUptoCard
end Rows
end Go.Proofs.YtmkgldjocigffaaDoor
