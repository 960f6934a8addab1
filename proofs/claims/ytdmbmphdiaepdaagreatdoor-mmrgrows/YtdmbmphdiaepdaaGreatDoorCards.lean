/-
  DERIVED. GIVEN WITH THE SEED: THE CARDS: each row of YtdmbmphdiaepdaaGreatDoorRows.lean that lists a variable, with what it lists TIED to the program's text (the seventh form; the later family's looks); each row that meets fmt, with fmt's text TOLD by the authors' own Lean function (tested against real Go, not proved from fmt's source: count such statements apart). THE CARD IS WHAT COUNTS. Prove the row's statement (the work); the ties are given (YtdmbmphdiaepdaaGreatDoorTie.lean); close each card by the builder's one call (the guide's Derived/Test/ToyasCard.lean, 'card_holds'). Laid BY PROGRAM, IN A SANDBOX (cutbox-door.mjs). By AI agents, Wed Nov 11 2026. No macro, syntax, notation, axiom, sorry.
-/
import Derived.Test.YtdmbmphdiaepdaaGreatDoorRows
import GoSem.ClaimSeven
namespace Go.Proofs.YtdmbmphdiaepdaaGreatDoor
namespace Rows

/-- THE TIED CARD OF 'massiflaw6.MmrBags'. -/
def mmrBagsCard : Claim7 := { stood := { row := mmrBagsRow, standIns := [], harness := (true, "630e6d564d319e3ed0b35801ebac6815335ccaa3cc9b52cbada11ca8aebd4a03"), looks := false }, kinds := [], alts := [], laidByText := true, laidKinds := [.data, .data, .data], laidTests := true, laidLooks := .later }
def MmrBagsCardSaid : Prop := Claim7.holds Tryz.pinned (.plain (OpenSpec.ofChange mmrBagsSpec)) mmrBagsCard

/-- THE TIED CARD OF 'massiflaw6.MmrGrows'. -/
def mmrGrowsCard : Claim7 := { stood := { row := mmrGrowsRow, standIns := [], harness := (true, "630e6d564d319e3ed0b35801ebac6815335ccaa3cc9b52cbada11ca8aebd4a03"), looks := false }, kinds := [], alts := [], laidByText := true, laidKinds := [.data, .data, .data], laidTests := true, laidLooks := .later }
def MmrGrowsCardSaid : Prop := Claim7.holds Tryz.pinned (.plain (OpenSpec.ofChange mmrGrowsSpec)) mmrGrowsCard

/-- THE SECOND FORM's CARD OF 'massiflaw6.MmrBags'. -/
def mmrBagsUptoCard : Claim7 := { stood := { row := mmrBagsUptoRow, standIns := [], harness := (true, "630e6d564d319e3ed0b35801ebac6815335ccaa3cc9b52cbada11ca8aebd4a03"), looks := false }, kinds := [], alts := [], laidByText := true, laidKinds := [.data, .data, .data], laidTests := true, laidLooks := .later }
def MmrBagsUptoCardSaid : Prop := Claim7.holds Tryz.pinned (.plain (OpenSpec.upto mmrBagsSpec)) mmrBagsUptoCard

/-- THE SECOND FORM's CARD OF 'massiflaw6.MmrGrows'. -/
def mmrGrowsUptoCard : Claim7 := { stood := { row := mmrGrowsUptoRow, standIns := [], harness := (true, "630e6d564d319e3ed0b35801ebac6815335ccaa3cc9b52cbada11ca8aebd4a03"), looks := false }, kinds := [], alts := [], laidByText := true, laidKinds := [.data, .data, .data], laidTests := true, laidLooks := .later }
def MmrGrowsUptoCardSaid : Prop := Claim7.holds Tryz.pinned (.plain (OpenSpec.upto mmrGrowsSpec)) mmrGrowsUptoCard
end Rows
end Go.Proofs.YtdmbmphdiaepdaaGreatDoor
