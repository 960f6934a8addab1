/- The lowest set bit, in plain numbers. -/
import Derived.Test.YtkmcmngdainofaaNumPop
namespace Go.Proofs.Ytkmcmngdainofaa
open Go.RowKit

theorem low_split : ∀ X : Nat, X ≠ 0 → ∃ t q, X = 2 ^ t * (2 * q + 1) := fun X => by
  induction X using Nat.strongRecOn with
  | _ X ih =>
    intro h
    by_cases ho : X % 2 = 1
    · exact ⟨0, X / 2, by omega⟩
    · obtain ⟨t, q, e⟩ := ih (X / 2) (by omega) (by omega)
      refine ⟨t + 1, q, ?_⟩
      rw [Nat.pow_succ, Nat.mul_comm (2 ^ t) 2, Nat.mul_assoc, ← e]
      omega
theorem odd_and {q s : Nat} (h : 2 * q + 1 < 2 ^ s) : (2 * q + 1) &&& (2 ^ s - (2 * q + 1)) = 1 := by
  apply Nat.eq_of_testBit_eq
  intro i
  rw [Nat.testBit_and, Nat.testBit_two_pow_sub_succ (by omega)]
  cases i with
  | zero =>
    have hs : 0 < s := by
      rcases Nat.eq_zero_or_pos s with h0 | h0
      · subst h0
        simp at h
      · exact h0
    simp [Nat.testBit_zero, hs]
  | succ i =>
    rw [Nat.testBit_succ, Nat.testBit_succ, Nat.testBit_succ, show (2 * q + 1) / 2 = q by omega, show 2 * q / 2 = q by omega]
    simp
    intro h1 _
    exact h1
theorem neg_and {X t q : Nat} (hX : X < 2 ^ 64) (e : X = 2 ^ t * (2 * q + 1)) : X &&& (2 ^ 64 - X) = 2 ^ t ∧ t < 64 := by
  have hp := Nat.two_pow_pos t
  have ht : t < 64 := by
    rcases Nat.lt_or_ge t 64 with h | h
    · exact h
    · have h1 : 2 ^ 64 ≤ 2 ^ t := Nat.pow_le_pow_right (by decide) h
      have h2 : 2 ^ t * 1 ≤ 2 ^ t * (2 * q + 1) := Nat.mul_le_mul_left _ (by omega)
      omega
  have h64 : (2 : Nat) ^ 64 = 2 ^ t * 2 ^ (64 - t) := by rw [← Nat.pow_add, show t + (64 - t) = 64 by omega]
  have hq : 2 * q + 1 < 2 ^ (64 - t) := by
    rw [e, h64] at hX
    exact Nat.lt_of_mul_lt_mul_left hX
  refine ⟨?_, ht⟩
  rw [e, h64, ← Nat.mul_sub, Nat.mul_comm, Nat.mul_comm (2 ^ t), ← Nat.shiftLeft_eq, ← Nat.shiftLeft_eq, ← Nat.shiftLeft_and_distrib, odd_and hq, Nat.shiftLeft_eq, Nat.one_mul]
end Go.Proofs.Ytkmcmngdainofaa
