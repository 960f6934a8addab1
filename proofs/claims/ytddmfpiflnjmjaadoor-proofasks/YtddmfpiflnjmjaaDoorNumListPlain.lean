/- The places of the set bits: in order, and put together they are the number. -/
import Derived.Test.YtddmfpiflnjmjaaDoorNumListCalls
namespace Go.Proofs.YtddmfpiflnjmjaaDoor
open Go.RowKit

/-- numbers with one bit each, put together. -/
def SUMP (l : List Nat) : Nat := (l.map fun i => 2 ^ i).sum
theorem SUMP_cons (x : Nat) (l : List Nat) : SUMP (x :: l) = 2 ^ x + SUMP l := by simp [SUMP]
theorem SUMP_append (a b : List Nat) : SUMP (a ++ b) = SUMP a + SUMP b := by simp [SUMP]
theorem PL_sum : ∀ k o X, SUMP (PL k o X) = 2 ^ o * (X % 2 ^ k)
  | 0, o, X => by simp [PL, SUMP, Nat.mod_one]
  | k + 1, o, X => by
    have ih := PL_sum k (o + 1) (X / 2)
    have hm : X % 2 ^ (k + 1) = X % 2 + 2 * (X / 2 % 2 ^ k) := by rw [Nat.pow_succ, Nat.mul_comm, Nat.mod_mul]
    rw [hm, Nat.mul_add, ← Nat.mul_assoc, ← Nat.pow_succ]
    unfold PL
    split
    · rename_i h
      rw [SUMP_cons, ih, h, Nat.mul_one]
    · rename_i h
      rw [ih, show X % 2 = 0 by omega, Nat.mul_zero, Nat.zero_add]
theorem PLACES_sum {X : Nat} (hX : X < 2 ^ 64) : SUMP (PLACES X) = X := by
  unfold PLACES
  rw [PL_sum, Nat.pow_zero, Nat.one_mul, Nat.mod_eq_of_lt hX]
theorem PL_range : ∀ k o X, ∀ i ∈ PL k o X, o ≤ i ∧ i < o + k
  | 0, _, _, i, h => by simp [PL] at h
  | k + 1, o, X, i, h => by
    have ih := PL_range k (o + 1) (X / 2) i
    unfold PL at h
    split at h
    · rcases List.mem_cons.1 h with rfl | h
      · omega
      · have := ih h
        omega
    · have := ih h
      omega
theorem PL_sorted : ∀ k o X, (PL k o X).Pairwise (· < ·)
  | 0, _, _ => List.Pairwise.nil
  | k + 1, o, X => by
    have ih := PL_sorted k (o + 1) (X / 2)
    unfold PL
    split
    · refine List.Pairwise.cons (fun i hi => ?_) ih
      have := PL_range _ _ _ i hi
      omega
    · exact ih
/-- the place of bit number i. -/
def PLACE (X i : Nat) : Nat := (PLACES X).getD i 0
theorem PLACE_at {X i : Nat} (h : i < POP X) : (PLACES X)[i]? = some (PLACE X i) := by
  rw [← PLACES_length] at h
  unfold PLACE
  rw [List.getD_eq_getElem?_getD, List.getElem?_eq_getElem h]
  rfl
theorem PLACE_le {X i : Nat} (h : i < POP X) : PLACE X i ≤ 63 := by
  have := PL_range 64 0 X _ (List.mem_of_getElem? (PLACE_at h))
  omega
theorem PLACE_lt {X i : Nat} (h : i + 1 < POP X) : PLACE X i < PLACE X (i + 1) := by
  have h1 := PLACE_at (X := X) (i := i) (by omega)
  have h2 := PLACE_at h
  obtain ⟨l1, e1⟩ := List.getElem?_eq_some_iff.1 h1
  obtain ⟨l2, e2⟩ := List.getElem?_eq_some_iff.1 h2
  rw [← e1, ← e2]
  exact (List.pairwise_iff_getElem.1 (PL_sorted 64 0 X)) i (i + 1) l1 l2 (by omega)
/-- what the first i bits are, put together. -/
def PART (X i : Nat) : Nat := SUMP ((PLACES X).take i)
theorem PART_zero (X : Nat) : PART X 0 = 0 := rfl
theorem PART_succ {X i : Nat} (h : i < POP X) : PART X (i + 1) = PART X i + 2 ^ PLACE X i := by
  unfold PART
  rw [List.take_add_one, PLACE_at h, SUMP_append]
  simp [SUMP]
theorem PART_all {X : Nat} (hX : X < 2 ^ 64) : PART X (POP X) = X := by
  unfold PART
  rw [← PLACES_length, List.take_length, PLACES_sum hX]
theorem PART_lt {X : Nat} (hX : X < 2 ^ 64) (i : Nat) : PART X i < 2 ^ 64 := by
  have h := PLACES_sum hX
  rw [← List.take_append_drop i (PLACES X), SUMP_append] at h
  unfold PART
  omega
theorem POP_pos {X : Nat} (hX : X < 2 ^ 64) (h0 : X ≠ 0) : 0 < POP X := by
  rcases Nat.eq_zero_or_pos (POP X) with h | h
  · have := PART_all hX
    rw [h] at this
    exact absurd this.symm h0
  · exact h
theorem PLACE_first {X t q : Nat} (hX : X < 2 ^ 64) (e : X = 2 ^ t * (2 * q + 1)) : PLACE X 0 = t := by
  have ht := (neg_and hX e).2
  unfold PLACE PLACES
  rw [e, PL_step t 64 0 q ht, Nat.zero_add]
  rfl
theorem PART_bound {X : Nat} : ∀ i, i < POP X → PART X (i + 1) < 2 ^ (PLACE X i + 1)
  | 0, h => by
    rw [PART_succ h, PART_zero, Nat.zero_add, Nat.pow_succ]
    have := Nat.two_pow_pos (PLACE X 0)
    omega
  | i + 1, h => by
    have ih := PART_bound (X := X) i (by omega)
    have h2 := Nat.pow_le_pow_right (show 0 < 2 by decide) (show PLACE X i + 1 ≤ PLACE X (i + 1) from PLACE_lt h)
    rw [PART_succ h, Nat.pow_succ]
    omega
theorem PLACE_last {X : Nat} (hX : X < 2 ^ 64) (h0 : X ≠ 0) : LEN X = PLACE X (POP X - 1) + 1 := by
  have hp := POP_pos hX h0
  have h1 := PART_bound (X := X) (POP X - 1) (by omega)
  have h2 := PART_succ (X := X) (i := POP X - 1) (by omega)
  rw [show POP X - 1 + 1 = POP X by omega, PART_all hX] at h1 h2
  obtain ⟨l1, l2, l3⟩ := LEN_span X hX h0
  generalize PLACE X (POP X - 1) = m at h1 h2
  have h3 : 2 ^ m ≤ X := by omega
  have a : LEN X - 1 < m + 1 := (Nat.pow_lt_pow_iff_right (show 1 < 2 by decide)).1 (Nat.lt_of_le_of_lt l2 h1)
  have b : m < LEN X := (Nat.pow_lt_pow_iff_right (show 1 < 2 by decide)).1 (Nat.lt_of_le_of_lt h3 l3)
  omega
theorem places_at {w : World} {base g n cap : Nat} {X : Nat} (h : w.ownsRow base 3 1 (.slice (some ⟨g, 0, none⟩) n cap) n (ICELLS (PLACES X))) (i : Nat) (hi : i < POP X) : w.cell? ⟨g, i, none⟩ = some (.int .i64 (PLACE X i : Nat)) := by
  have hlen : (PLACES X).length = n := by have := h.1; simpa [ICELLS] using this
  rw [PLACES_length] at hlen
  rw [h.cellAt i (by omega)]
  unfold ICELLS
  rw [List.getElem?_map, PLACE_at hi]
  rfl
end Go.Proofs.YtddmfpiflnjmjaaDoor
