/-
  DERIVED. GIVEN WITH THE SEED: THE CARDS: each row of YtmpaifkjlhodpaaDoorRows.lean that lists a variable, with what it lists TIED to the program's text (the seventh form; the later family's looks); each row that meets fmt, with fmt's text TOLD by the authors' own Lean function (tested against real Go, not proved from fmt's source: count such statements apart). THE CARD IS WHAT COUNTS. Prove the row's statement (the work); the ties are given (YtmpaifkjlhodpaaDoorTie.lean); close each card by the builder's one call (the guide's Derived/Test/ToyasCard.lean, 'card_holds'). Laid BY PROGRAM, IN A SANDBOX (cutbox-door.mjs). By AI agents, Wed Nov 11 2026. No macro, syntax, notation, axiom, sorry.
-/
import Derived.Test.YtmpaifkjlhodpaaDoorRows
import GoSem.ClaimSeven
namespace Go.Proofs.YtmpaifkjlhodpaaDoor
namespace Rows

/-- THE TIED CARD OF 'massiflaw10.ManyPlaces'. -/
def manyPlacesCard : Claim7 := { stood := { row := manyPlacesRow, standIns := [], harness := (true, "afd181267ef50d59e95ba9787523337da41d658e69388c2c1da31134e1385dd5"), looks := true }, kinds := [], alts := [], laidByText := true, laidKinds := [.data], laidTests := true, laidLooks := .later }
def ManyPlacesCardSaid : Prop := Claim7.holds Tryd.pinned (.plain (OpenSpec.ofChange manyPlacesSpec)) manyPlacesCard

/-- THE TIED CARD OF 'massiflaw10.ManyBytes'. -/
def manyBytesCard : Claim7 := { stood := { row := manyBytesRow, standIns := [], harness := (true, "afd181267ef50d59e95ba9787523337da41d658e69388c2c1da31134e1385dd5"), looks := true }, kinds := [], alts := [], laidByText := true, laidKinds := [.data], laidTests := true, laidLooks := .later }
def ManyBytesCardSaid : Prop := Claim7.holds Tryd.pinned (.plain (OpenSpec.ofChange manyBytesSpec)) manyBytesCard

/-- THE TIED CARD OF 'massiflaw10.ManyRound'. -/
def manyRoundCard : Claim7 := { stood := { row := manyRoundRow, standIns := [], harness := (true, "afd181267ef50d59e95ba9787523337da41d658e69388c2c1da31134e1385dd5"), looks := true }, kinds := [], alts := [], laidByText := true, laidKinds := [.data], laidTests := true, laidLooks := .later }
def ManyRoundCardSaid : Prop := Claim7.holds Tryd.pinned (.plain (OpenSpec.ofChange manyRoundSpec)) manyRoundCard

/-- THE SECOND FORM's CARD OF 'massiflaw10.ManyPlaces'. -/
def manyPlacesUptoCard : Claim7 := { stood := { row := manyPlacesUptoRow, standIns := [], harness := (true, "afd181267ef50d59e95ba9787523337da41d658e69388c2c1da31134e1385dd5"), looks := true }, kinds := [], alts := [], laidByText := true, laidKinds := [.data], laidTests := true, laidLooks := .later }
def ManyPlacesUptoCardSaid : Prop := Claim7.holds Tryd.pinned (.plain (OpenSpec.upto manyPlacesSpec)) manyPlacesUptoCard

/-- THE SECOND FORM's CARD OF 'massiflaw10.ManyBytes'. -/
def manyBytesUptoCard : Claim7 := { stood := { row := manyBytesUptoRow, standIns := [], harness := (true, "afd181267ef50d59e95ba9787523337da41d658e69388c2c1da31134e1385dd5"), looks := true }, kinds := [], alts := [], laidByText := true, laidKinds := [.data], laidTests := true, laidLooks := .later }
def ManyBytesUptoCardSaid : Prop := Claim7.holds Tryd.pinned (.plain (OpenSpec.upto manyBytesSpec)) manyBytesUptoCard

/-- THE SECOND FORM's CARD OF 'massiflaw10.ManyRound'. -/
def manyRoundUptoCard : Claim7 := { stood := { row := manyRoundUptoRow, standIns := [], harness := (true, "afd181267ef50d59e95ba9787523337da41d658e69388c2c1da31134e1385dd5"), looks := true }, kinds := [], alts := [], laidByText := true, laidKinds := [.data], laidTests := true, laidLooks := .later }
def ManyRoundUptoCardSaid : Prop := Claim7.holds Tryd.pinned (.plain (OpenSpec.upto manyRoundSpec)) manyRoundUptoCard
end Rows
end Go.Proofs.YtmpaifkjlhodpaaDoor
