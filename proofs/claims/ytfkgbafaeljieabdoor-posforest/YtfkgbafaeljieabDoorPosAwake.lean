/- awake answers true: the forest of seven leaves. -/
import Derived.Test.YtfkgbafaeljieabDoorPosOk
import Derived.Test.YtfkgbafaeljieabDoorPosPeaksCall
namespace Go.Proofs.YtfkgbafaeljieabDoor
open Go.RowKit

theorem PEAKS_seven : PEAKS 7 = [6, 9, 10] := by
  have h : HS 0 7 = [2, 1, 0] := by rw [HS_zero]; decide
  have p2 : PKP 7 2 = 6 := by
    unfold PKP PLC NODES
    simp [PC_zero]
  have p1 : PKP 7 1 = 9 := by
    unfold PKP PLC NODES
    have := PC_pow 2
    simp at this
    simp [this]
  have p0 : PKP 7 0 = 10 := by
    unfold PKP PLC NODES
    have h1 := PC_even 3
    have h2 := PC_ones 2
    simp at h1 h2
    simp [h1, h2]
  unfold PEAKS
  rw [h]
  simp [p0, p1, p2]
theorem PC_seven : PC 7 = 3 := PC_ones 3
theorem NODES_seven : NODES 7 = 11 := by
  unfold NODES
  rw [PC_seven]
theorem PLC_nine : PLC 1 2 = 9 := by
  unfold PLC NODES
  have := PC_pow 2
  simp at this
  simp [this]
/-- a list of numbers, cell by cell. -/
theorem row_at {w : World} {base g n cap : Nat} {l : List Nat} (h : w.ownsRow base 24 1 (.slice (some ⟨g, 0, none⟩) n cap) n (UCELLS l)) (i : Nat) (hi : i < l.length) : w.cell? ⟨g, i, none⟩ = some (.int .u64 (l.getD i 0 : Nat)) := by
  have hlen : l.length = n := by have := h.1; simpa [UCELLS] using this
  rw [h.cellAt i (by omega)]
  unfold UCELLS
  rw [List.getElem?_map, List.getD_eq_getElem?_getD, List.getElem?_eq_getElem hi]
  rfl
theorem awake_ok (w : World) (hT : Tabled w) (h0 : 0 < w.heap.size) : Calls Tryd.prog 15 #[] w fun e w' => e = .returned (.bool true) ∧ Below w.heap.size w w' := by
  have c1 := nodes_ok 7 (by omega)
  have c2 := peaks_ok 7 (by omega) w hT h0
  have c3 := spot_ok 1 2 ⟨by omega, by decide⟩
  rw [NODES_seven] at c1
  rw [PC_seven, PEAKS_seven] at c2
  rw [PLC_nine] at c3
  clear hT h0
  go_enter Tryd.func15, Tryd.ntmps15
  go_wp2_with fail
  refine (c1 _).mono ?_
  rintro e w1 ⟨rfl, rfl⟩
  clear c1
  go_wp2_with fail
  refine c2.mono ?_
  rintro e w1 ⟨g, cap, rfl, hrow, hb⟩
  clear c2
  go_wp2_with fail
  refine (c3 _).mono ?_
  rintro e w2 ⟨rfl, hb2⟩
  clear c3
  have hgs : g < w1.heap.size := by
    have := row_at hrow 0 (by simp)
    exact World.block_lt_of_cell? w1 _ this
  have hc : (w2.alloc (.cells #[.int .u8 1, .int .u64 2] 26)).cell? ⟨g, 1, none⟩ = some (.int .u64 9) := ((hb2.alloc hb2.size _).cell (p := ⟨g, 1, none⟩) hgs).trans (row_at hrow 1 (by simp))
  have R : Aside (Below w.heap.size w w2) := hb.trans (hb2.mono hb.size)
  clear hb hb2 hrow hgs
  go_wp2
  go_ret
  exact ⟨rfl, R.out.alloc R.out.size _⟩
end Go.Proofs.YtfkgbafaeljieabDoor
