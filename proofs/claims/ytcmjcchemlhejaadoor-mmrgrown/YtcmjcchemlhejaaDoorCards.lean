/-
  DERIVED. GIVEN WITH THE SEED: THE CARDS: each row of YtcmjcchemlhejaaDoorRows.lean that lists a variable, with what it lists TIED to the program's text (the seventh form; the later family's looks); each row that meets fmt, with fmt's text TOLD by the authors' own Lean function (tested against real Go, not proved from fmt's source: count such statements apart). THE CARD IS WHAT COUNTS. Prove the row's statement (the work); the ties are given (YtcmjcchemlhejaaDoorTie.lean); close each card by the builder's one call (the guide's Derived/Test/ToyasCard.lean, 'card_holds'). Laid BY PROGRAM, IN A SANDBOX (cutbox-door.mjs). By AI agents, Wed Nov 11 2026. No macro, syntax, notation, axiom, sorry.
-/
import Derived.Test.YtcmjcchemlhejaaDoorRows
import GoSem.ClaimSeven
namespace Go.Proofs.YtcmjcchemlhejaaDoor
namespace Rows

/-- THE TIED CARD OF 'massiflaw6.MmrForest'. -/
def mmrForestCard : Claim7 := { stood := { row := mmrForestRow, standIns := [], harness := (true, "d1c7fd96e61bbe47a8e5b0bfdc422304cc02aaadd5e40dfe883b14134e42f96b"), looks := false }, kinds := [], alts := [], laidByText := true, laidKinds := [.data, .data, .data], laidTests := true, laidLooks := .later }
def MmrForestCardSaid : Prop := Claim7.holds Tryd.pinned (.plain (OpenSpec.ofChange mmrForestSpec)) mmrForestCard

/-- THE TIED CARD OF 'massiflaw6.MmrOld'. -/
def mmrOldCard : Claim7 := { stood := { row := mmrOldRow, standIns := [], harness := (true, "d1c7fd96e61bbe47a8e5b0bfdc422304cc02aaadd5e40dfe883b14134e42f96b"), looks := false }, kinds := [], alts := [], laidByText := true, laidKinds := [.data, .data, .data], laidTests := true, laidLooks := .later }
def MmrOldCardSaid : Prop := Claim7.holds Tryd.pinned (.plain (OpenSpec.ofChange mmrOldSpec)) mmrOldCard

/-- THE TIED CARD OF 'massiflaw6.MmrInstalls'. -/
def mmrInstallsCard : Claim7 := { stood := { row := mmrInstallsRow, standIns := [], harness := (true, "d1c7fd96e61bbe47a8e5b0bfdc422304cc02aaadd5e40dfe883b14134e42f96b"), looks := false }, kinds := [], alts := [], laidByText := true, laidKinds := [.data, .data, .data], laidTests := true, laidLooks := .later }
def MmrInstallsCardSaid : Prop := Claim7.holds Tryd.pinned (.plain (OpenSpec.ofChange mmrInstallsSpec)) mmrInstallsCard

/-- THE TIED CARD OF 'massiflaw6.MmrGrown'. -/
def mmrGrownCard : Claim7 := { stood := { row := mmrGrownRow, standIns := [], harness := (true, "d1c7fd96e61bbe47a8e5b0bfdc422304cc02aaadd5e40dfe883b14134e42f96b"), looks := false }, kinds := [], alts := [], laidByText := true, laidKinds := [.data, .data, .data], laidTests := true, laidLooks := .later }
def MmrGrownCardSaid : Prop := Claim7.holds Tryd.pinned (.plain (OpenSpec.ofChange mmrGrownSpec)) mmrGrownCard

/-- THE TIED CARD OF 'massiflaw6.MmrData'. -/
def mmrDataCard : Claim7 := { stood := { row := mmrDataRow, standIns := [], harness := (true, "d1c7fd96e61bbe47a8e5b0bfdc422304cc02aaadd5e40dfe883b14134e42f96b"), looks := false }, kinds := [], alts := [], laidByText := true, laidKinds := [.data, .data, .data], laidTests := true, laidLooks := .later }
def MmrDataCardSaid : Prop := Claim7.holds Tryd.pinned (.plain (OpenSpec.ofChange mmrDataSpec)) mmrDataCard

/-- THE SECOND FORM's CARD OF 'massiflaw6.MmrForest'. -/
def mmrForestUptoCard : Claim7 := { stood := { row := mmrForestUptoRow, standIns := [], harness := (true, "d1c7fd96e61bbe47a8e5b0bfdc422304cc02aaadd5e40dfe883b14134e42f96b"), looks := false }, kinds := [], alts := [], laidByText := true, laidKinds := [.data, .data, .data], laidTests := true, laidLooks := .later }
def MmrForestUptoCardSaid : Prop := Claim7.holds Tryd.pinned (.plain (OpenSpec.upto mmrForestSpec)) mmrForestUptoCard

/-- THE SECOND FORM's CARD OF 'massiflaw6.MmrOld'. -/
def mmrOldUptoCard : Claim7 := { stood := { row := mmrOldUptoRow, standIns := [], harness := (true, "d1c7fd96e61bbe47a8e5b0bfdc422304cc02aaadd5e40dfe883b14134e42f96b"), looks := false }, kinds := [], alts := [], laidByText := true, laidKinds := [.data, .data, .data], laidTests := true, laidLooks := .later }
def MmrOldUptoCardSaid : Prop := Claim7.holds Tryd.pinned (.plain (OpenSpec.upto mmrOldSpec)) mmrOldUptoCard

/-- THE SECOND FORM's CARD OF 'massiflaw6.MmrInstalls'. -/
def mmrInstallsUptoCard : Claim7 := { stood := { row := mmrInstallsUptoRow, standIns := [], harness := (true, "d1c7fd96e61bbe47a8e5b0bfdc422304cc02aaadd5e40dfe883b14134e42f96b"), looks := false }, kinds := [], alts := [], laidByText := true, laidKinds := [.data, .data, .data], laidTests := true, laidLooks := .later }
def MmrInstallsUptoCardSaid : Prop := Claim7.holds Tryd.pinned (.plain (OpenSpec.upto mmrInstallsSpec)) mmrInstallsUptoCard

/-- THE SECOND FORM's CARD OF 'massiflaw6.MmrGrown'. -/
def mmrGrownUptoCard : Claim7 := { stood := { row := mmrGrownUptoRow, standIns := [], harness := (true, "d1c7fd96e61bbe47a8e5b0bfdc422304cc02aaadd5e40dfe883b14134e42f96b"), looks := false }, kinds := [], alts := [], laidByText := true, laidKinds := [.data, .data, .data], laidTests := true, laidLooks := .later }
def MmrGrownUptoCardSaid : Prop := Claim7.holds Tryd.pinned (.plain (OpenSpec.upto mmrGrownSpec)) mmrGrownUptoCard

/-- THE SECOND FORM's CARD OF 'massiflaw6.MmrData'. -/
def mmrDataUptoCard : Claim7 := { stood := { row := mmrDataUptoRow, standIns := [], harness := (true, "d1c7fd96e61bbe47a8e5b0bfdc422304cc02aaadd5e40dfe883b14134e42f96b"), looks := false }, kinds := [], alts := [], laidByText := true, laidKinds := [.data, .data, .data], laidTests := true, laidLooks := .later }
def MmrDataUptoCardSaid : Prop := Claim7.holds Tryd.pinned (.plain (OpenSpec.upto mmrDataSpec)) mmrDataUptoCard
end Rows
end Go.Proofs.YtcmjcchemlhejaaDoor
