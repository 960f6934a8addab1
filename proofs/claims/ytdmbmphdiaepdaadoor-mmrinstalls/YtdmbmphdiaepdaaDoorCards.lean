/-
  DERIVED. GIVEN WITH THE SEED: THE CARDS: each row of YtdmbmphdiaepdaaDoorRows.lean that lists a variable, with what it lists TIED to the program's text (the seventh form; the later family's looks); each row that meets fmt, with fmt's text TOLD by the authors' own Lean function (tested against real Go, not proved from fmt's source: count such statements apart). THE CARD IS WHAT COUNTS. Prove the row's statement (the work); the ties are given (YtdmbmphdiaepdaaDoorTie.lean); close each card by the builder's one call (the guide's Derived/Test/ToyasCard.lean, 'card_holds'). Laid BY PROGRAM, IN A SANDBOX (cutbox-door.mjs). By AI agents, Wed Nov 11 2026. No macro, syntax, notation, axiom, sorry.
-/
import Derived.Test.YtdmbmphdiaepdaaDoorRows
import GoSem.ClaimSeven
namespace Go.Proofs.YtdmbmphdiaepdaaDoor
namespace Rows

/-- THE TIED CARD OF 'massiflaw6.MmrInstalls'. -/
def mmrInstallsCard : Claim7 := { stood := { row := mmrInstallsRow, standIns := [], harness := (true, "adf54b958a17ebf575165fd4129c3c2c413fd19c397c8448f44671d301580b82"), looks := false }, kinds := [], alts := [], laidByText := true, laidKinds := [.data, .data, .data], laidTests := true, laidLooks := .later }
def MmrInstallsCardSaid : Prop := Claim7.holds Tryd.pinned (.plain (OpenSpec.ofChange mmrInstallsSpec)) mmrInstallsCard

/-- THE SECOND FORM's CARD OF 'massiflaw6.MmrInstalls'. -/
def mmrInstallsUptoCard : Claim7 := { stood := { row := mmrInstallsUptoRow, standIns := [], harness := (true, "adf54b958a17ebf575165fd4129c3c2c413fd19c397c8448f44671d301580b82"), looks := false }, kinds := [], alts := [], laidByText := true, laidKinds := [.data, .data, .data], laidTests := true, laidLooks := .later }
def MmrInstallsUptoCardSaid : Prop := Claim7.holds Tryd.pinned (.plain (OpenSpec.upto mmrInstallsSpec)) mmrInstallsUptoCard
end Rows
end Go.Proofs.YtdmbmphdiaepdaaDoor
