/- What the document's Peaks gives. -/
import Derived.Test.YtddmfpiflnjmjabDoorPosTops
namespace Go.Proofs.YtddmfpiflnjmjabDoor
open Go.RowKit

theorem TOPS_node {n : Nat} (hn : n ≤ 4611686018427387904) {j h k : Nat} (e : (TOPS 0 n)[j]? = some (h, k)) : Node h k ∧ h < 64 := by
  unfold TOPS at e
  rw [List.getElem?_map] at e
  obtain ⟨g, hg, e2⟩ := Option.map_eq_some_iff.1 e
  simp only [Prod.mk.injEq] at e2
  obtain ⟨rfl, rfl⟩ := e2
  obtain ⟨_, h1, h2⟩ := HS_set_of 0 g (by omega) (List.mem_of_getElem? hg)
  exact ⟨Node.peak hn h2, h1⟩
theorem PEAKS_TOPS (n : Nat) : PEAKS n = (TOPS 0 n).map fun x => PLC x.1 x.2 := by
  unfold PEAKS TOPS
  rw [List.map_map]
  rfl
end Go.Proofs.YtddmfpiflnjmjabDoor
