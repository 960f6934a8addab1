/- awake answers true: the forest of seven leaves. -/
import Derived.Test.YtddmfpiflnjmjaaDoorPosOk
import Derived.Test.YtddmfpiflnjmjaaDoorPosPeaksCall
namespace Go.Proofs.YtddmfpiflnjmjaaDoor
open Go.RowKit

theorem PEAKS_seven : PEAKS 7 = [6, 9, 10] := by
  have h : HS 0 7 = [2, 1, 0] := by rw [HS_zero]; decide
  have p2 : PKP 7 2 = 6 := by
    unfold PKP PLC NODES
    simp [PC_zero]
  have p1 : PKP 7 1 = 9 := by
    unfold PKP PLC NODES
    have := PC_pow 2
    simp at this
    simp [this]
  have p0 : PKP 7 0 = 10 := by
    unfold PKP PLC NODES
    have h1 := PC_even 3
    have h2 := PC_ones 2
    simp at h1 h2
    simp [h1, h2]
  unfold PEAKS
  rw [h]
  simp [p0, p1, p2]
theorem PC_seven : PC 7 = 3 := PC_ones 3
theorem NODES_seven : NODES 7 = 11 := by
  unfold NODES
  rw [PC_seven]
theorem PLC_nine : PLC 1 2 = 9 := by
  unfold PLC NODES
  have := PC_pow 2
  simp at this
  simp [this]
/-- a list of numbers, cell by cell. -/
theorem row_at {w : World} {base g n cap : Nat} {l : List Nat} (h : w.ownsRow base 22 1 (.slice (some ⟨g, 0, none⟩) n cap) n (UCELLS l)) (i : Nat) (hi : i < l.length) : w.cell? ⟨g, i, none⟩ = some (.int .u64 (l.getD i 0 : Nat)) := by
  have hlen : l.length = n := by have := h.1; simpa [UCELLS] using this
  rw [h.cellAt i (by omega)]
  unfold UCELLS
  rw [List.getElem?_map, List.getD_eq_getElem?_getD, List.getElem?_eq_getElem hi]
  rfl
end Go.Proofs.YtddmfpiflnjmjaaDoor
