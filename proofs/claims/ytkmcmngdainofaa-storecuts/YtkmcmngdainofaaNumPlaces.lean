/- The places of the set bits, in plain numbers. -/
import Derived.Test.YtkmcmngdainofaaNumPop
namespace Go.Proofs.Ytkmcmngdainofaa
open Go.RowKit

/-- the places of the set bits among the lowest k ones, o added to each. -/
def PL : Nat → Nat → Nat → List Nat
  | 0, _, _ => []
  | k + 1, o, X => if X % 2 = 1 then o :: PL k (o + 1) (X / 2) else PL k (o + 1) (X / 2)
def PLACES (X : Nat) : List Nat := PL 64 0 X
theorem PL_zero : ∀ k o, PL k o 0 = []
  | 0, _ => rfl
  | k + 1, o => by
    have := PL_zero k (o + 1)
    simpa [PL] using this
theorem PL_length : ∀ k o X, (PL k o X).length = DSUM 1 k X
  | 0, _, _ => rfl
  | k + 1, o, X => by
    have ih := PL_length k (o + 1) (X / 2)
    unfold PL DSUM
    rw [Nat.pow_one]
    split
    · rw [List.length_cons, ih]; omega
    · rw [ih]; omega
theorem PLACES_length (X : Nat) : (PLACES X).length = POP X := PL_length 64 0 X
theorem PL_step : ∀ (t k o q : Nat), t < k → PL k o (2 ^ t * (2 * q + 1)) = (o + t) :: PL k o (2 ^ (t + 1) * q)
  | 0, 0, _, _, h => by omega
  | 0, k + 1, o, q, _ => by
    have h1 : (2 ^ 0 * (2 * q + 1)) = 2 * q + 1 := by simp
    have h2 : 2 ^ (0 + 1) * q = 2 * q := by simp
    rw [h1, h2]
    unfold PL
    rw [if_pos (by omega), if_neg (by omega), show (2 * q + 1) / 2 = q by omega, show 2 * q / 2 = q by omega]
    rfl
  | t + 1, 0, _, _, h => by omega
  | t + 1, k + 1, o, q, h => by
    have ih := PL_step t k (o + 1) q (by omega)
    have h1 : 2 ^ (t + 1) * (2 * q + 1) = 2 * (2 ^ t * (2 * q + 1)) := by rw [Nat.pow_succ, Nat.mul_comm (2 ^ t) 2, Nat.mul_assoc]
    have h2 : 2 ^ (t + 1 + 1) * q = 2 * (2 ^ (t + 1) * q) := by rw [Nat.pow_succ, Nat.mul_comm (2 ^ (t + 1)) 2, Nat.mul_assoc]
    rw [h1, h2]
    generalize 2 ^ t * (2 * q + 1) = a at ih ⊢
    generalize 2 ^ (t + 1) * q = b at ih ⊢
    unfold PL
    rw [if_neg (by omega), if_neg (by omega), show 2 * a / 2 = a by omega, show 2 * b / 2 = b by omega, ih, show o + (t + 1) = o + 1 + t by omega]
theorem POP_le (X : Nat) : POP X ≤ 64 := by
  have : ∀ k X, DSUM 1 k X ≤ k := fun k => by
    induction k with
    | zero => intro X; exact Nat.le_refl _
    | succ k ih =>
      intro X
      have := ih (X / 2)
      unfold DSUM
      rw [Nat.pow_one]
      omega
  exact this 64 X
theorem odd_less (q : Nat) : (2 * q + 1) &&& (2 * q) = 2 * q := by
  apply Nat.eq_of_testBit_eq
  intro i
  rw [Nat.testBit_and]
  cases i with
  | zero => simp [Nat.testBit_zero]
  | succ i =>
    rw [Nat.testBit_succ, Nat.testBit_succ, show (2 * q + 1) / 2 = q by omega, show 2 * q / 2 = q by omega]
    simp
theorem less_and : ∀ (t q : Nat), 2 ^ t * (2 * q + 1) &&& (2 ^ t * (2 * q + 1) - 1) = 2 ^ (t + 1) * q
  | 0, q => by
    have h1 : (2 ^ 0 * (2 * q + 1)) = 2 * q + 1 := by simp
    have h2 : 2 ^ (0 + 1) * q = 2 * q := by simp
    rw [h1, h2]
    exact odd_less q
  | t + 1, q => by
    have ih := less_and t q
    have h1 : 2 ^ (t + 1) * (2 * q + 1) = 2 * (2 ^ t * (2 * q + 1)) := by rw [Nat.pow_succ, Nat.mul_comm (2 ^ t) 2, Nat.mul_assoc]
    have h2 : 2 ^ (t + 1 + 1) * q = 2 * (2 ^ (t + 1) * q) := by rw [Nat.pow_succ, Nat.mul_comm (2 ^ (t + 1)) 2, Nat.mul_assoc]
    have hp : 0 < 2 ^ t * (2 * q + 1) := Nat.mul_pos (Nat.two_pow_pos t) (by omega)
    rw [h1, h2, ← ih]
    generalize 2 ^ t * (2 * q + 1) = a at hp ⊢
    apply Nat.eq_of_testBit_eq
    intro i
    rw [Nat.testBit_and]
    cases i with
    | zero => simp [Nat.testBit_zero]
    | succ i =>
      rw [Nat.testBit_succ, Nat.testBit_succ, Nat.testBit_succ, show 2 * a / 2 = a by omega, show (2 * a - 1) / 2 = a - 1 by omega, ← Nat.testBit_and, show 2 * (a &&& (a - 1)) / 2 = a &&& (a - 1) by omega]
end Go.Proofs.Ytkmcmngdainofaa
