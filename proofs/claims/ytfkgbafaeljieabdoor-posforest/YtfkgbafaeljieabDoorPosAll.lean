/- What Leaves answers, at any number. -/
import Derived.Test.YtfkgbafaeljieabDoorPosOk
namespace Go.Proofs.YtfkgbafaeljieabDoor
open Go.RowKit

theorem leaves_yes (n : Nat) (hn : n ≤ 4611686018427387904) (w : World) : Calls Tryd.prog 8 #[.int .u64 ((NODES n : Nat) : Int)] w fun e w' => e = .returned (.tuple #[.int .u64 (n : Int), .bool true]) ∧ Below w.heap.size w w' := by
  rcases Nat.lt_or_ge n 4611686018427387904 with h | h
  · have hl := NODES_lt h
    rw [NODES_most] at hl
    have hi := index_leaf ((PLC 0 n : Nat) : Int) n w (.node (Node.leaf h))
    rw [PLC_leaf] at hi
    exact leaves_raw _ _ _ w (by simp; omega) hi
  · obtain rfl : n = 4611686018427387904 := by omega
    rw [NODES_most]
    exact leaves_all w
theorem leaves_no (s : Nat) (hs : ∀ n : Nat, n ≤ 4611686018427387904 → NODES n ≠ s) (w : World) : Calls Tryd.prog 8 #[.int .u64 (s : Int)] w fun e w' => e = .returned (.tuple #[.int .u64 0, .bool false]) ∧ Below w.heap.size w w' := by
  have h0 := hs _ (Nat.le_refl _)
  rw [NODES_most] at h0
  refine leaves_raw _ _ _ w (by simp; omega) ?_
  rcases Nat.lt_or_ge s 9223372036854775807 with hp | hp
  · obtain ⟨h, k, hN, rfl⟩ := Node.of hp
    rcases Nat.eq_zero_or_pos h with h1 | h1
    · subst h1
      have hk : k < 4611686018427387904 := by have := hN.2; simpa using this
      exact absurd (PLC_leaf k).symm (hs k (by omega))
    · exact index_inner _ h k w h1 (.node hN)
  · exact index_not _ 0 0 w (.out (by omega))
end Go.Proofs.YtfkgbafaeljieabDoor
