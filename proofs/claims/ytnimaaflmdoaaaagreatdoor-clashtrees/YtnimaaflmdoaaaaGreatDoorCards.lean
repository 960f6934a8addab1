/-
  DERIVED. GIVEN WITH THE SEED: THE CARDS: each row of YtnimaaflmdoaaaaGreatDoorRows.lean that lists a variable, with what it lists TIED to the program's text (the seventh form; the later family's looks); each row that meets fmt, with fmt's text TOLD by the authors' own Lean function (tested against real Go, not proved from fmt's source: count such statements apart). THE CARD IS WHAT COUNTS. Prove the row's statement (the work); the ties are given (YtnimaaflmdoaaaaGreatDoorTie.lean); close each card by the builder's one call (the guide's Derived/Test/ToyasCard.lean, 'card_holds'). Laid BY PROGRAM, IN A SANDBOX (cutbox-door.mjs). By AI agents, Wed Nov 11 2026. No macro, syntax, notation, axiom, sorry.
-/
import Derived.Test.YtnimaaflmdoaaaaGreatDoorRows
import GoSem.ClaimSeven
namespace Go.Proofs.YtnimaaflmdoaaaaGreatDoor
namespace Rows

/-- THE TIED CARD OF 'massiflaw9.ClashMembers'. -/
def clashMembersCard : Claim7 := { stood := { row := clashMembersRow, standIns := [], harness := (true, "e5939a54456e9edc4bee96fd7de8884b43e14658f53b9fd814b3ed3f774b600b"), looks := false }, kinds := [], alts := [], laidByText := true, laidKinds := [.data, .data, .data], laidTests := true, laidLooks := .later }
def ClashMembersCardSaid : Prop := Claim7.holds Tryz.pinned (.plain (OpenSpec.ofChange clashMembersSpec)) clashMembersCard

/-- THE TIED CARD OF 'massiflaw9.ClashAcross'. -/
def clashAcrossCard : Claim7 := { stood := { row := clashAcrossRow, standIns := [], harness := (true, "e5939a54456e9edc4bee96fd7de8884b43e14658f53b9fd814b3ed3f774b600b"), looks := false }, kinds := [], alts := [], laidByText := true, laidKinds := [.data, .data, .data], laidTests := true, laidLooks := .later }
def ClashAcrossCardSaid : Prop := Claim7.holds Tryz.pinned (.plain (OpenSpec.ofChange clashAcrossSpec)) clashAcrossCard

/-- THE TIED CARD OF 'massiflaw9.ClashForks'. -/
def clashForksCard : Claim7 := { stood := { row := clashForksRow, standIns := [], harness := (true, "e5939a54456e9edc4bee96fd7de8884b43e14658f53b9fd814b3ed3f774b600b"), looks := false }, kinds := [], alts := [], laidByText := true, laidKinds := [.data, .data, .data], laidTests := true, laidLooks := .later }
def ClashForksCardSaid : Prop := Claim7.holds Tryz.pinned (.plain (OpenSpec.ofChange clashForksSpec)) clashForksCard

/-- THE TIED CARD OF 'massiflaw9.ClashTrees'. -/
def clashTreesCard : Claim7 := { stood := { row := clashTreesRow, standIns := [], harness := (true, "e5939a54456e9edc4bee96fd7de8884b43e14658f53b9fd814b3ed3f774b600b"), looks := false }, kinds := [], alts := [], laidByText := true, laidKinds := [.data, .data, .data], laidTests := true, laidLooks := .later }
def ClashTreesCardSaid : Prop := Claim7.holds Tryz.pinned (.plain (OpenSpec.ofChange clashTreesSpec)) clashTreesCard

/-- THE SECOND FORM's CARD OF 'massiflaw9.ClashMembers'. -/
def clashMembersUptoCard : Claim7 := { stood := { row := clashMembersUptoRow, standIns := [], harness := (true, "e5939a54456e9edc4bee96fd7de8884b43e14658f53b9fd814b3ed3f774b600b"), looks := false }, kinds := [], alts := [], laidByText := true, laidKinds := [.data, .data, .data], laidTests := true, laidLooks := .later }
def ClashMembersUptoCardSaid : Prop := Claim7.holds Tryz.pinned (.plain (OpenSpec.upto clashMembersSpec)) clashMembersUptoCard

/-- THE SECOND FORM's CARD OF 'massiflaw9.ClashAcross'. -/
def clashAcrossUptoCard : Claim7 := { stood := { row := clashAcrossUptoRow, standIns := [], harness := (true, "e5939a54456e9edc4bee96fd7de8884b43e14658f53b9fd814b3ed3f774b600b"), looks := false }, kinds := [], alts := [], laidByText := true, laidKinds := [.data, .data, .data], laidTests := true, laidLooks := .later }
def ClashAcrossUptoCardSaid : Prop := Claim7.holds Tryz.pinned (.plain (OpenSpec.upto clashAcrossSpec)) clashAcrossUptoCard

/-- THE SECOND FORM's CARD OF 'massiflaw9.ClashForks'. -/
def clashForksUptoCard : Claim7 := { stood := { row := clashForksUptoRow, standIns := [], harness := (true, "e5939a54456e9edc4bee96fd7de8884b43e14658f53b9fd814b3ed3f774b600b"), looks := false }, kinds := [], alts := [], laidByText := true, laidKinds := [.data, .data, .data], laidTests := true, laidLooks := .later }
def ClashForksUptoCardSaid : Prop := Claim7.holds Tryz.pinned (.plain (OpenSpec.upto clashForksSpec)) clashForksUptoCard

/-- THE SECOND FORM's CARD OF 'massiflaw9.ClashTrees'. -/
def clashTreesUptoCard : Claim7 := { stood := { row := clashTreesUptoRow, standIns := [], harness := (true, "e5939a54456e9edc4bee96fd7de8884b43e14658f53b9fd814b3ed3f774b600b"), looks := false }, kinds := [], alts := [], laidByText := true, laidKinds := [.data, .data, .data], laidTests := true, laidLooks := .later }
def ClashTreesUptoCardSaid : Prop := Claim7.holds Tryz.pinned (.plain (OpenSpec.upto clashTreesSpec)) clashTreesUptoCard
end Rows
end Go.Proofs.YtnimaaflmdoaaaaGreatDoor
