/-
  DERIVED. GIVEN WITH THE SEED: THE CARDS: each row of YtlcjknkocbdpoaaDoorRows.lean that lists a variable, with what it lists TIED to the program's text (the seventh form; the later family's looks); each row that meets fmt, with fmt's text TOLD by the authors' own Lean function (tested against real Go, not proved from fmt's source: count such statements apart). THE CARD IS WHAT COUNTS. Prove the row's statement (the work); the ties are given (YtlcjknkocbdpoaaDoorTie.lean); close each card by the builder's one call (the guide's Derived/Test/ToyasCard.lean, 'card_holds'). Laid BY PROGRAM, IN A SANDBOX (cutbox-door.mjs). By AI agents, Wed Nov 11 2026. No macro, syntax, notation, axiom, sorry.
-/
import Derived.Test.YtlcjknkocbdpoaaDoorRows
import GoSem.ClaimSeven
namespace Go.Proofs.YtlcjknkocbdpoaaDoor
namespace Rows

/-- THE TIED CARD OF 'massiflaw2.HashTexts'. -/
def hashTextsCard : Claim7 := { stood := { row := hashTextsRow, standIns := [], harness := (true, "03523fea803a89bbbd4beca511eabecbde4a9819f65e213ffb833409eaacb276"), looks := false }, kinds := [], alts := [], laidByText := true, laidKinds := [.data, .data], laidTests := true, laidLooks := .later }
def HashTextsCardSaid : Prop := Claim7.holds Tryd.pinned (.plain (OpenSpec.ofChange hashTextsSpec)) hashTextsCard

/-- THE TIED CARD OF 'massiflaw2.HashPieces'. -/
def hashPiecesCard : Claim7 := { stood := { row := hashPiecesRow, standIns := [], harness := (true, "03523fea803a89bbbd4beca511eabecbde4a9819f65e213ffb833409eaacb276"), looks := false }, kinds := [], alts := [], laidByText := true, laidKinds := [.data, .data], laidTests := true, laidLooks := .later }
def HashPiecesCardSaid : Prop := Claim7.holds Tryd.pinned (.plain (OpenSpec.ofChange hashPiecesSpec)) hashPiecesCard

/-- THE TIED CARD OF 'massiflaw2.HashDescends'. -/
def hashDescendsCard : Claim7 := { stood := { row := hashDescendsRow, standIns := [], harness := (true, "03523fea803a89bbbd4beca511eabecbde4a9819f65e213ffb833409eaacb276"), looks := false }, kinds := [], alts := [], laidByText := true, laidKinds := [.data, .data], laidTests := true, laidLooks := .later }
def HashDescendsCardSaid : Prop := Claim7.holds Tryd.pinned (.plain (OpenSpec.ofChange hashDescendsSpec)) hashDescendsCard

/-- THE TIED CARD OF 'massiflaw2.HashBlocks'. -/
def hashBlocksCard : Claim7 := { stood := { row := hashBlocksRow, standIns := [], harness := (true, "03523fea803a89bbbd4beca511eabecbde4a9819f65e213ffb833409eaacb276"), looks := false }, kinds := [], alts := [], laidByText := true, laidKinds := [.data, .data], laidTests := true, laidLooks := .later }
def HashBlocksCardSaid : Prop := Claim7.holds Tryd.pinned (.plain (OpenSpec.ofChange hashBlocksSpec)) hashBlocksCard

/-- THE TIED CARD OF 'massiflaw4.CutSpans'. -/
def cutSpansCard : Claim7 := { stood := { row := cutSpansRow, standIns := [], harness := (true, "03523fea803a89bbbd4beca511eabecbde4a9819f65e213ffb833409eaacb276"), looks := false }, kinds := [], alts := [], laidByText := true, laidKinds := [.data], laidTests := true, laidLooks := .later }
def CutSpansCardSaid : Prop := Claim7.holds Tryd.pinned (.plain (OpenSpec.ofChange cutSpansSpec)) cutSpansCard

/-- THE TIED CARD OF 'massiflaw4.CutMerges'. -/
def cutMergesCard : Claim7 := { stood := { row := cutMergesRow, standIns := [], harness := (true, "03523fea803a89bbbd4beca511eabecbde4a9819f65e213ffb833409eaacb276"), looks := false }, kinds := [], alts := [], laidByText := true, laidKinds := [.data], laidTests := true, laidLooks := .later }
def CutMergesCardSaid : Prop := Claim7.holds Tryd.pinned (.plain (OpenSpec.ofChange cutMergesSpec)) cutMergesCard

/-- THE SECOND FORM's CARD OF 'massiflaw2.HashTexts'. -/
def hashTextsUptoCard : Claim7 := { stood := { row := hashTextsUptoRow, standIns := [], harness := (true, "03523fea803a89bbbd4beca511eabecbde4a9819f65e213ffb833409eaacb276"), looks := false }, kinds := [], alts := [], laidByText := true, laidKinds := [.data, .data], laidTests := true, laidLooks := .later }
def HashTextsUptoCardSaid : Prop := Claim7.holds Tryd.pinned (.plain (OpenSpec.upto hashTextsSpec)) hashTextsUptoCard

/-- THE SECOND FORM's CARD OF 'massiflaw2.HashPieces'. -/
def hashPiecesUptoCard : Claim7 := { stood := { row := hashPiecesUptoRow, standIns := [], harness := (true, "03523fea803a89bbbd4beca511eabecbde4a9819f65e213ffb833409eaacb276"), looks := false }, kinds := [], alts := [], laidByText := true, laidKinds := [.data, .data], laidTests := true, laidLooks := .later }
def HashPiecesUptoCardSaid : Prop := Claim7.holds Tryd.pinned (.plain (OpenSpec.upto hashPiecesSpec)) hashPiecesUptoCard

/-- THE SECOND FORM's CARD OF 'massiflaw2.HashDescends'. -/
def hashDescendsUptoCard : Claim7 := { stood := { row := hashDescendsUptoRow, standIns := [], harness := (true, "03523fea803a89bbbd4beca511eabecbde4a9819f65e213ffb833409eaacb276"), looks := false }, kinds := [], alts := [], laidByText := true, laidKinds := [.data, .data], laidTests := true, laidLooks := .later }
def HashDescendsUptoCardSaid : Prop := Claim7.holds Tryd.pinned (.plain (OpenSpec.upto hashDescendsSpec)) hashDescendsUptoCard

/-- THE SECOND FORM's CARD OF 'massiflaw2.HashBlocks'. -/
def hashBlocksUptoCard : Claim7 := { stood := { row := hashBlocksUptoRow, standIns := [], harness := (true, "03523fea803a89bbbd4beca511eabecbde4a9819f65e213ffb833409eaacb276"), looks := false }, kinds := [], alts := [], laidByText := true, laidKinds := [.data, .data], laidTests := true, laidLooks := .later }
def HashBlocksUptoCardSaid : Prop := Claim7.holds Tryd.pinned (.plain (OpenSpec.upto hashBlocksSpec)) hashBlocksUptoCard

/-- THE SECOND FORM's CARD OF 'massiflaw4.CutSpans'. -/
def cutSpansUptoCard : Claim7 := { stood := { row := cutSpansUptoRow, standIns := [], harness := (true, "03523fea803a89bbbd4beca511eabecbde4a9819f65e213ffb833409eaacb276"), looks := false }, kinds := [], alts := [], laidByText := true, laidKinds := [.data], laidTests := true, laidLooks := .later }
def CutSpansUptoCardSaid : Prop := Claim7.holds Tryd.pinned (.plain (OpenSpec.upto cutSpansSpec)) cutSpansUptoCard

/-- THE SECOND FORM's CARD OF 'massiflaw4.CutMerges'. -/
def cutMergesUptoCard : Claim7 := { stood := { row := cutMergesUptoRow, standIns := [], harness := (true, "03523fea803a89bbbd4beca511eabecbde4a9819f65e213ffb833409eaacb276"), looks := false }, kinds := [], alts := [], laidByText := true, laidKinds := [.data], laidTests := true, laidLooks := .later }
def CutMergesUptoCardSaid : Prop := Claim7.holds Tryd.pinned (.plain (OpenSpec.upto cutMergesSpec)) cutMergesUptoCard
end Rows
end Go.Proofs.YtlcjknkocbdpoaaDoor
