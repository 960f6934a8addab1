/-
  DERIVED. GIVEN WITH THE SEED: THE CARDS: each row of YtnplhejopmoopaaDoorRows.lean that lists a variable, with what it lists TIED to the program's text (the seventh form; the later family's looks); each row that meets fmt, with fmt's text TOLD by the authors' own Lean function (tested against real Go, not proved from fmt's source: count such statements apart). THE CARD IS WHAT COUNTS. Prove the row's statement (the work); the ties are given (YtnplhejopmoopaaDoorTie.lean); close each card by the builder's one call (the guide's Derived/Test/ToyasCard.lean, 'card_holds'). Laid BY PROGRAM, IN A SANDBOX (cutbox-door.mjs). By AI agents, Wed Nov 11 2026. No macro, syntax, notation, axiom, sorry.
-/
import Derived.Test.YtnplhejopmoopaaDoorRows
import GoSem.ClaimSeven
namespace Go.Proofs.YtnplhejopmoopaaDoor
namespace Rows

/-- THE TIED CARD OF 'massiflaw21.PartAsks'. -/
def partAsksCard : Claim7 := { stood := { row := partAsksRow, standIns := [], harness := (true, "7b49bfa7e467ad3541255a8ca4d73f412f2989f009591ad25bf93c47176b7262"), looks := false }, kinds := [], alts := [], laidByText := true, laidKinds := [.data, .data, .data], laidTests := true, laidLooks := .later }
def PartAsksCardSaid : Prop := Claim7.holds Tryd.pinned (.plain (OpenSpec.ofChange partAsksSpec)) partAsksCard

/-- THE TIED CARD OF 'massiflaw21.PartTrees'. -/
def partTreesCard : Claim7 := { stood := { row := partTreesRow, standIns := [], harness := (true, "7b49bfa7e467ad3541255a8ca4d73f412f2989f009591ad25bf93c47176b7262"), looks := false }, kinds := [], alts := [], laidByText := true, laidKinds := [.data, .data, .data], laidTests := true, laidLooks := .later }
def PartTreesCardSaid : Prop := Claim7.holds Tryd.pinned (.plain (OpenSpec.ofChange partTreesSpec)) partTreesCard

/-- THE TIED CARD OF 'massiflaw21.PartOne'. -/
def partOneCard : Claim7 := { stood := { row := partOneRow, standIns := [], harness := (true, "7b49bfa7e467ad3541255a8ca4d73f412f2989f009591ad25bf93c47176b7262"), looks := false }, kinds := [], alts := [], laidByText := true, laidKinds := [.data, .data, .data], laidTests := true, laidLooks := .later }
def PartOneCardSaid : Prop := Claim7.holds Tryd.pinned (.plain (OpenSpec.ofChange partOneSpec)) partOneCard

/-- THE SECOND FORM's CARD OF 'massiflaw21.PartAsks'. -/
def partAsksUptoCard : Claim7 := { stood := { row := partAsksUptoRow, standIns := [], harness := (true, "7b49bfa7e467ad3541255a8ca4d73f412f2989f009591ad25bf93c47176b7262"), looks := false }, kinds := [], alts := [], laidByText := true, laidKinds := [.data, .data, .data], laidTests := true, laidLooks := .later }
def PartAsksUptoCardSaid : Prop := Claim7.holds Tryd.pinned (.plain (OpenSpec.upto partAsksSpec)) partAsksUptoCard

/-- THE SECOND FORM's CARD OF 'massiflaw21.PartTrees'. -/
def partTreesUptoCard : Claim7 := { stood := { row := partTreesUptoRow, standIns := [], harness := (true, "7b49bfa7e467ad3541255a8ca4d73f412f2989f009591ad25bf93c47176b7262"), looks := false }, kinds := [], alts := [], laidByText := true, laidKinds := [.data, .data, .data], laidTests := true, laidLooks := .later }
def PartTreesUptoCardSaid : Prop := Claim7.holds Tryd.pinned (.plain (OpenSpec.upto partTreesSpec)) partTreesUptoCard

/-- THE SECOND FORM's CARD OF 'massiflaw21.PartOne'. -/
def partOneUptoCard : Claim7 := { stood := { row := partOneUptoRow, standIns := [], harness := (true, "7b49bfa7e467ad3541255a8ca4d73f412f2989f009591ad25bf93c47176b7262"), looks := false }, kinds := [], alts := [], laidByText := true, laidKinds := [.data, .data, .data], laidTests := true, laidLooks := .later }
def PartOneUptoCardSaid : Prop := Claim7.holds Tryd.pinned (.plain (OpenSpec.upto partOneSpec)) partOneUptoCard
end Rows
end Go.Proofs.YtnplhejopmoopaaDoor
