/-
  DERIVED. GIVEN WITH THE SEED: THE CARDS: each row of YtadpfcpipklmbabDoorRows.lean that lists a variable, with what it lists TIED to the program's text (the seventh form; the later family's looks); each row that meets fmt, with fmt's text TOLD by the authors' own Lean function (tested against real Go, not proved from fmt's source: count such statements apart). THE CARD IS WHAT COUNTS. Prove the row's statement (the work); the ties are given (YtadpfcpipklmbabDoorTie.lean); close each card by the builder's one call (the guide's Derived/Test/ToyasCard.lean, 'card_holds'). Laid BY PROGRAM, IN A SANDBOX (cutbox-door.mjs). By AI agents, Wed Nov 11 2026. No macro, syntax, notation, axiom, sorry.
-/
import Derived.Test.YtadpfcpipklmbabDoorRows
import GoSem.ClaimSeven
namespace Go.Proofs.YtadpfcpipklmbabDoor
namespace Rows

/-- THE TIED CARD OF 'massiflaw10.ManySets'. -/
def manySetsCard : Claim7 := { stood := { row := manySetsRow, standIns := [], harness := (true, "73e94a39ccd2c848e9fe6bd3e3f3bcfc53d6ab8ab31b81e87ebbe69946e85636"), looks := true }, kinds := [], alts := [], laidByText := true, laidKinds := [.data], laidTests := true, laidLooks := .later }
def ManySetsCardSaid : Prop := Claim7.holds Tryd.pinned (.plain (OpenSpec.ofChange manySetsSpec)) manySetsCard

/-- THE TIED CARD OF 'massiflaw10.ManyOne'. -/
def manyOneCard : Claim7 := { stood := { row := manyOneRow, standIns := [], harness := (true, "73e94a39ccd2c848e9fe6bd3e3f3bcfc53d6ab8ab31b81e87ebbe69946e85636"), looks := true }, kinds := [], alts := [], laidByText := true, laidKinds := [.data], laidTests := true, laidLooks := .later }
def ManyOneCardSaid : Prop := Claim7.holds Tryd.pinned (.plain (OpenSpec.ofChange manyOneSpec)) manyOneCard

/-- THE TIED CARD OF 'massiflaw10.ManyRound'. -/
def manyRoundCard : Claim7 := { stood := { row := manyRoundRow, standIns := [], harness := (true, "73e94a39ccd2c848e9fe6bd3e3f3bcfc53d6ab8ab31b81e87ebbe69946e85636"), looks := true }, kinds := [], alts := [], laidByText := true, laidKinds := [.data], laidTests := true, laidLooks := .later }
def ManyRoundCardSaid : Prop := Claim7.holds Tryd.pinned (.plain (OpenSpec.ofChange manyRoundSpec)) manyRoundCard

/-- THE SECOND FORM's CARD OF 'massiflaw10.ManySets'. -/
def manySetsUptoCard : Claim7 := { stood := { row := manySetsUptoRow, standIns := [], harness := (true, "73e94a39ccd2c848e9fe6bd3e3f3bcfc53d6ab8ab31b81e87ebbe69946e85636"), looks := true }, kinds := [], alts := [], laidByText := true, laidKinds := [.data], laidTests := true, laidLooks := .later }
def ManySetsUptoCardSaid : Prop := Claim7.holds Tryd.pinned (.plain (OpenSpec.upto manySetsSpec)) manySetsUptoCard

/-- THE SECOND FORM's CARD OF 'massiflaw10.ManyOne'. -/
def manyOneUptoCard : Claim7 := { stood := { row := manyOneUptoRow, standIns := [], harness := (true, "73e94a39ccd2c848e9fe6bd3e3f3bcfc53d6ab8ab31b81e87ebbe69946e85636"), looks := true }, kinds := [], alts := [], laidByText := true, laidKinds := [.data], laidTests := true, laidLooks := .later }
def ManyOneUptoCardSaid : Prop := Claim7.holds Tryd.pinned (.plain (OpenSpec.upto manyOneSpec)) manyOneUptoCard

/-- THE SECOND FORM's CARD OF 'massiflaw10.ManyRound'. -/
def manyRoundUptoCard : Claim7 := { stood := { row := manyRoundUptoRow, standIns := [], harness := (true, "73e94a39ccd2c848e9fe6bd3e3f3bcfc53d6ab8ab31b81e87ebbe69946e85636"), looks := true }, kinds := [], alts := [], laidByText := true, laidKinds := [.data], laidTests := true, laidLooks := .later }
def ManyRoundUptoCardSaid : Prop := Claim7.holds Tryd.pinned (.plain (OpenSpec.upto manyRoundSpec)) manyRoundUptoCard
end Rows
end Go.Proofs.YtadpfcpipklmbabDoor
