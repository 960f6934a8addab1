/-
  DERIVED. GIVEN WITH THE SEED: THE CARDS: each row of YtfkgbafaeljieabDoorRows.lean that lists a variable, with what it lists TIED to the program's text (the seventh form; the later family's looks); each row that meets fmt, with fmt's text TOLD by the authors' own Lean function (tested against real Go, not proved from fmt's source: count such statements apart). THE CARD IS WHAT COUNTS. Prove the row's statement (the work); the ties are given (YtfkgbafaeljieabDoorTie.lean); close each card by the builder's one call (the guide's Derived/Test/ToyasCard.lean, 'card_holds'). Laid BY PROGRAM, IN A SANDBOX (cutbox-door.mjs). By AI agents, Wed Nov 11 2026. No macro, syntax, notation, axiom, sorry.
-/
import Derived.Test.YtfkgbafaeljieabDoorRows
import GoSem.ClaimSeven
namespace Go.Proofs.YtfkgbafaeljieabDoor
namespace Rows

/-- THE TIED CARD OF 'massiflaw3.PosForest'. -/
def posForestCard : Claim7 := { stood := { row := posForestRow, standIns := [], harness := (true, "51d2802f2540912dc5b866f6cd6b31906aadb1ca3a5e827c25fa47d9b40062d1"), looks := false }, kinds := [], alts := [], laidByText := true, laidKinds := [.data], laidTests := true, laidLooks := .later }
def PosForestCardSaid : Prop := Claim7.holds Tryd.pinned (.plain (OpenSpec.ofChange posForestSpec)) posForestCard

/-- THE TIED CARD OF 'massiflaw3.PosBack'. -/
def posBackCard : Claim7 := { stood := { row := posBackRow, standIns := [], harness := (true, "51d2802f2540912dc5b866f6cd6b31906aadb1ca3a5e827c25fa47d9b40062d1"), looks := false }, kinds := [], alts := [], laidByText := true, laidKinds := [.data], laidTests := true, laidLooks := .later }
def PosBackCardSaid : Prop := Claim7.holds Tryd.pinned (.plain (OpenSpec.ofChange posBackSpec)) posBackCard

/-- THE TIED CARD OF 'massiflaw3.PosCovers'. -/
def posCoversCard : Claim7 := { stood := { row := posCoversRow, standIns := [], harness := (true, "51d2802f2540912dc5b866f6cd6b31906aadb1ca3a5e827c25fa47d9b40062d1"), looks := false }, kinds := [], alts := [], laidByText := true, laidKinds := [.data], laidTests := true, laidLooks := .later }
def PosCoversCardSaid : Prop := Claim7.holds Tryd.pinned (.plain (OpenSpec.ofChange posCoversSpec)) posCoversCard

/-- THE TIED CARD OF 'massiflaw3.PosWays'. -/
def posWaysCard : Claim7 := { stood := { row := posWaysRow, standIns := [], harness := (true, "51d2802f2540912dc5b866f6cd6b31906aadb1ca3a5e827c25fa47d9b40062d1"), looks := false }, kinds := [], alts := [], laidByText := true, laidKinds := [.data], laidTests := true, laidLooks := .later }
def PosWaysCardSaid : Prop := Claim7.holds Tryd.pinned (.plain (OpenSpec.ofChange posWaysSpec)) posWaysCard

/-- THE SECOND FORM's CARD OF 'massiflaw3.PosForest'. -/
def posForestUptoCard : Claim7 := { stood := { row := posForestUptoRow, standIns := [], harness := (true, "51d2802f2540912dc5b866f6cd6b31906aadb1ca3a5e827c25fa47d9b40062d1"), looks := false }, kinds := [], alts := [], laidByText := true, laidKinds := [.data], laidTests := true, laidLooks := .later }
def PosForestUptoCardSaid : Prop := Claim7.holds Tryd.pinned (.plain (OpenSpec.upto posForestSpec)) posForestUptoCard

/-- THE SECOND FORM's CARD OF 'massiflaw3.PosBack'. -/
def posBackUptoCard : Claim7 := { stood := { row := posBackUptoRow, standIns := [], harness := (true, "51d2802f2540912dc5b866f6cd6b31906aadb1ca3a5e827c25fa47d9b40062d1"), looks := false }, kinds := [], alts := [], laidByText := true, laidKinds := [.data], laidTests := true, laidLooks := .later }
def PosBackUptoCardSaid : Prop := Claim7.holds Tryd.pinned (.plain (OpenSpec.upto posBackSpec)) posBackUptoCard

/-- THE SECOND FORM's CARD OF 'massiflaw3.PosCovers'. -/
def posCoversUptoCard : Claim7 := { stood := { row := posCoversUptoRow, standIns := [], harness := (true, "51d2802f2540912dc5b866f6cd6b31906aadb1ca3a5e827c25fa47d9b40062d1"), looks := false }, kinds := [], alts := [], laidByText := true, laidKinds := [.data], laidTests := true, laidLooks := .later }
def PosCoversUptoCardSaid : Prop := Claim7.holds Tryd.pinned (.plain (OpenSpec.upto posCoversSpec)) posCoversUptoCard

/-- THE SECOND FORM's CARD OF 'massiflaw3.PosWays'. -/
def posWaysUptoCard : Claim7 := { stood := { row := posWaysUptoRow, standIns := [], harness := (true, "51d2802f2540912dc5b866f6cd6b31906aadb1ca3a5e827c25fa47d9b40062d1"), looks := false }, kinds := [], alts := [], laidByText := true, laidKinds := [.data], laidTests := true, laidLooks := .later }
def PosWaysUptoCardSaid : Prop := Claim7.holds Tryd.pinned (.plain (OpenSpec.upto posWaysSpec)) posWaysUptoCard
end Rows
end Go.Proofs.YtfkgbafaeljieabDoor
