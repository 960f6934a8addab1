/-
  DERIVED. GIVEN WITH THE SEED: THE CARDS: each row of YtfkgbafaeljieaaDoorRows.lean that lists a variable, with what it lists TIED to the program's text (the seventh form; the later family's looks); each row that meets fmt, with fmt's text TOLD by the authors' own Lean function (tested against real Go, not proved from fmt's source: count such statements apart). THE CARD IS WHAT COUNTS. Prove the row's statement (the work); the ties are given (YtfkgbafaeljieaaDoorTie.lean); close each card by the builder's one call (the guide's Derived/Test/ToyasCard.lean, 'card_holds'). Laid BY PROGRAM, IN A SANDBOX (cutbox-door.mjs). By AI agents, Wed Nov 11 2026. No macro, syntax, notation, axiom, sorry.
-/
import Derived.Test.YtfkgbafaeljieaaDoorRows
import GoSem.ClaimSeven
namespace Go.Proofs.YtfkgbafaeljieaaDoor
namespace Rows

/-- THE TIED CARD OF 'massiflaw3.PosNumbers'. -/
def posNumbersCard : Claim7 := { stood := { row := posNumbersRow, standIns := [], harness := (true, "f4bb98c1fe2e869d589949a6a8e0bab569e6c8d6cc27e6220f13f25c7b18553f"), looks := false }, kinds := [], alts := [], laidByText := true, laidKinds := [.data], laidTests := true, laidLooks := .later }
def PosNumbersCardSaid : Prop := Claim7.holds Tryd.pinned (.plain (OpenSpec.ofChange posNumbersSpec)) posNumbersCard

/-- THE TIED CARD OF 'massiflaw3.PosLeaves'. -/
def posLeavesCard : Claim7 := { stood := { row := posLeavesRow, standIns := [], harness := (true, "f4bb98c1fe2e869d589949a6a8e0bab569e6c8d6cc27e6220f13f25c7b18553f"), looks := false }, kinds := [], alts := [], laidByText := true, laidKinds := [.data], laidTests := true, laidLooks := .later }
def PosLeavesCardSaid : Prop := Claim7.holds Tryd.pinned (.plain (OpenSpec.ofChange posLeavesSpec)) posLeavesCard

/-- THE TIED CARD OF 'massiflaw3.PosSpots'. -/
def posSpotsCard : Claim7 := { stood := { row := posSpotsRow, standIns := [], harness := (true, "f4bb98c1fe2e869d589949a6a8e0bab569e6c8d6cc27e6220f13f25c7b18553f"), looks := false }, kinds := [], alts := [], laidByText := true, laidKinds := [.data], laidTests := true, laidLooks := .later }
def PosSpotsCardSaid : Prop := Claim7.holds Tryd.pinned (.plain (OpenSpec.ofChange posSpotsSpec)) posSpotsCard

/-- THE TIED CARD OF 'massiflaw3.PosKin'. -/
def posKinCard : Claim7 := { stood := { row := posKinRow, standIns := [], harness := (true, "f4bb98c1fe2e869d589949a6a8e0bab569e6c8d6cc27e6220f13f25c7b18553f"), looks := false }, kinds := [], alts := [], laidByText := true, laidKinds := [.data], laidTests := true, laidLooks := .later }
def PosKinCardSaid : Prop := Claim7.holds Tryd.pinned (.plain (OpenSpec.ofChange posKinSpec)) posKinCard

/-- THE TIED CARD OF 'massiflaw3.PosUnder'. -/
def posUnderCard : Claim7 := { stood := { row := posUnderRow, standIns := [], harness := (true, "f4bb98c1fe2e869d589949a6a8e0bab569e6c8d6cc27e6220f13f25c7b18553f"), looks := false }, kinds := [], alts := [], laidByText := true, laidKinds := [.data], laidTests := true, laidLooks := .later }
def PosUnderCardSaid : Prop := Claim7.holds Tryd.pinned (.plain (OpenSpec.ofChange posUnderSpec)) posUnderCard

/-- THE TIED CARD OF 'massiflaw3.PosPeaks'. -/
def posPeaksCard : Claim7 := { stood := { row := posPeaksRow, standIns := [], harness := (true, "f4bb98c1fe2e869d589949a6a8e0bab569e6c8d6cc27e6220f13f25c7b18553f"), looks := false }, kinds := [], alts := [], laidByText := true, laidKinds := [.data], laidTests := true, laidLooks := .later }
def PosPeaksCardSaid : Prop := Claim7.holds Tryd.pinned (.plain (OpenSpec.ofChange posPeaksSpec)) posPeaksCard

/-- THE SECOND FORM's CARD OF 'massiflaw3.PosNumbers'. -/
def posNumbersUptoCard : Claim7 := { stood := { row := posNumbersUptoRow, standIns := [], harness := (true, "f4bb98c1fe2e869d589949a6a8e0bab569e6c8d6cc27e6220f13f25c7b18553f"), looks := false }, kinds := [], alts := [], laidByText := true, laidKinds := [.data], laidTests := true, laidLooks := .later }
def PosNumbersUptoCardSaid : Prop := Claim7.holds Tryd.pinned (.plain (OpenSpec.upto posNumbersSpec)) posNumbersUptoCard

/-- THE SECOND FORM's CARD OF 'massiflaw3.PosLeaves'. -/
def posLeavesUptoCard : Claim7 := { stood := { row := posLeavesUptoRow, standIns := [], harness := (true, "f4bb98c1fe2e869d589949a6a8e0bab569e6c8d6cc27e6220f13f25c7b18553f"), looks := false }, kinds := [], alts := [], laidByText := true, laidKinds := [.data], laidTests := true, laidLooks := .later }
def PosLeavesUptoCardSaid : Prop := Claim7.holds Tryd.pinned (.plain (OpenSpec.upto posLeavesSpec)) posLeavesUptoCard

/-- THE SECOND FORM's CARD OF 'massiflaw3.PosSpots'. -/
def posSpotsUptoCard : Claim7 := { stood := { row := posSpotsUptoRow, standIns := [], harness := (true, "f4bb98c1fe2e869d589949a6a8e0bab569e6c8d6cc27e6220f13f25c7b18553f"), looks := false }, kinds := [], alts := [], laidByText := true, laidKinds := [.data], laidTests := true, laidLooks := .later }
def PosSpotsUptoCardSaid : Prop := Claim7.holds Tryd.pinned (.plain (OpenSpec.upto posSpotsSpec)) posSpotsUptoCard

/-- THE SECOND FORM's CARD OF 'massiflaw3.PosKin'. -/
def posKinUptoCard : Claim7 := { stood := { row := posKinUptoRow, standIns := [], harness := (true, "f4bb98c1fe2e869d589949a6a8e0bab569e6c8d6cc27e6220f13f25c7b18553f"), looks := false }, kinds := [], alts := [], laidByText := true, laidKinds := [.data], laidTests := true, laidLooks := .later }
def PosKinUptoCardSaid : Prop := Claim7.holds Tryd.pinned (.plain (OpenSpec.upto posKinSpec)) posKinUptoCard

/-- THE SECOND FORM's CARD OF 'massiflaw3.PosUnder'. -/
def posUnderUptoCard : Claim7 := { stood := { row := posUnderUptoRow, standIns := [], harness := (true, "f4bb98c1fe2e869d589949a6a8e0bab569e6c8d6cc27e6220f13f25c7b18553f"), looks := false }, kinds := [], alts := [], laidByText := true, laidKinds := [.data], laidTests := true, laidLooks := .later }
def PosUnderUptoCardSaid : Prop := Claim7.holds Tryd.pinned (.plain (OpenSpec.upto posUnderSpec)) posUnderUptoCard

/-- THE SECOND FORM's CARD OF 'massiflaw3.PosPeaks'. -/
def posPeaksUptoCard : Claim7 := { stood := { row := posPeaksUptoRow, standIns := [], harness := (true, "f4bb98c1fe2e869d589949a6a8e0bab569e6c8d6cc27e6220f13f25c7b18553f"), looks := false }, kinds := [], alts := [], laidByText := true, laidKinds := [.data], laidTests := true, laidLooks := .later }
def PosPeaksUptoCardSaid : Prop := Claim7.holds Tryd.pinned (.plain (OpenSpec.upto posPeaksSpec)) posPeaksUptoCard
end Rows
end Go.Proofs.YtfkgbafaeljieaaDoor
