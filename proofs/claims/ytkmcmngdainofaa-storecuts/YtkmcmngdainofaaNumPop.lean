/- How many bits are set: sums of digits, two at a time; no Go in sight. -/
import Derived.Test.YtkmcmngdainofaaNumPlain
namespace Go.Proofs.Ytkmcmngdainofaa
open Go.RowKit

/-- the sum of the n lowest digits of w bits. -/
def DSUM (w : Nat) : Nat → Nat → Nat
  | 0, _ => 0
  | n + 1, x => x % 2 ^ w + DSUM w n (x / 2 ^ w)
/-- every second one of 2 n digits of k bits, all their bits. -/
def MSK (k : Nat) : Nat → Nat
  | 0 => 0
  | n + 1 => (2 ^ k - 1) + 2 ^ (2 * k) * MSK k n
/-- digits of k bits put together two by two. -/
def ADDF (k : Nat) : Nat → Nat → Nat
  | 0, _ => 0
  | n + 1, x => (x % 2 ^ k + x / 2 ^ k % 2 ^ k) + 2 ^ (2 * k) * ADDF k n (x / 2 ^ (2 * k))
/-- every digit is at most D. -/
def DLE (w D : Nat) : Nat → Nat → Prop
  | 0, _ => True
  | n + 1, x => x % 2 ^ w ≤ D ∧ DLE w D n (x / 2 ^ w)

theorem and_split (b q r s t : Nat) (hr : r < 2 ^ b) (hs : s < 2 ^ b) : (r + 2 ^ b * q) &&& (s + 2 ^ b * t) = (r &&& s) + 2 ^ b * (q &&& t) := by
  rw [Nat.add_comm r, Nat.add_comm s, Nat.add_comm (r &&& s)]
  apply Nat.eq_of_testBit_eq
  intro i
  have hrs : r &&& s < 2 ^ b := Nat.lt_of_le_of_lt Nat.and_le_left hr
  rw [Nat.testBit_and, Nat.testBit_two_pow_mul_add _ hr, Nat.testBit_two_pow_mul_add _ hs, Nat.testBit_two_pow_mul_add _ hrs]
  split
  · rw [Nat.testBit_and]
  · rw [Nat.testBit_and]
theorem sq_pow (k : Nat) : 2 ^ (2 * k) = 2 ^ k * 2 ^ k := by rw [Nat.two_mul, Nat.pow_add]
theorem low_lt (k : Nat) : 2 ^ k - 1 < 2 ^ (2 * k) := by
  have h1 : 2 ^ k ≤ 2 ^ (2 * k) := Nat.pow_le_pow_right (by decide) (by omega)
  have h2 := Nat.two_pow_pos k
  omega
theorem split2 (k x : Nat) : x = x % 2 ^ (2 * k) + 2 ^ (2 * k) * (x / 2 ^ (2 * k)) := (Nat.mod_add_div _ _).symm
theorem mod_mod2 (k x : Nat) : x % 2 ^ (2 * k) % 2 ^ k = x % 2 ^ k := Nat.mod_mod_of_dvd _ ⟨2 ^ k, sq_pow k⟩
theorem and_MSK (k : Nat) : ∀ (n x : Nat), x &&& MSK k (n + 1) = x % 2 ^ k + 2 ^ (2 * k) * (x / 2 ^ (2 * k) &&& MSK k n) := fun n x => by
  conv => lhs; rw [split2 k x]
  show _ &&& ((2 ^ k - 1) + 2 ^ (2 * k) * MSK k n) = _
  rw [and_split _ _ _ _ _ (Nat.mod_lt _ (Nat.two_pow_pos _)) (low_lt k), Nat.and_two_pow_sub_one_eq_mod, mod_mod2]
theorem div_div2 (k x : Nat) : x / 2 ^ k / 2 ^ (2 * k) = x / 2 ^ (2 * k) / 2 ^ k := by rw [Nat.div_div_eq_div_mul, Nat.div_div_eq_div_mul, Nat.mul_comm]
theorem ADDF_eq (k : Nat) : ∀ (n x : Nat), (x / 2 ^ k &&& MSK k n) + (x &&& MSK k n) = ADDF k n x
  | 0, x => by simp [MSK, ADDF]
  | n + 1, x => by
    rw [and_MSK, and_MSK, div_div2, ADDF, ← ADDF_eq k n (x / 2 ^ (2 * k)), Nat.mul_add]
    omega
theorem two_le_pow {k : Nat} (hk : 1 ≤ k) : 2 ≤ 2 ^ k := Nat.le_trans (by decide) (Nat.pow_le_pow_right (n := 2) (by decide) hk)
theorem pair_lt {k : Nat} (hk : 1 ≤ k) (x : Nat) : x % 2 ^ k + x / 2 ^ k % 2 ^ k < 2 ^ (2 * k) := by
  have h1 := Nat.mod_lt x (Nat.two_pow_pos k)
  have h2 := Nat.mod_lt (x / 2 ^ k) (Nat.two_pow_pos k)
  have h3 : 2 * 2 ^ k ≤ 2 ^ k * 2 ^ k := Nat.mul_le_mul_right _ (two_le_pow hk)
  rw [sq_pow]
  omega
theorem ADDF_low {k : Nat} (hk : 1 ≤ k) (n x : Nat) : ADDF k (n + 1) x % 2 ^ (2 * k) = x % 2 ^ k + x / 2 ^ k % 2 ^ k := by
  rw [ADDF, Nat.add_mul_mod_self_left, Nat.mod_eq_of_lt (pair_lt hk x)]
theorem ADDF_high {k : Nat} (hk : 1 ≤ k) (n x : Nat) : ADDF k (n + 1) x / 2 ^ (2 * k) = ADDF k n (x / 2 ^ (2 * k)) := by
  rw [ADDF, Nat.add_mul_div_left _ _ (Nat.two_pow_pos _), Nat.div_eq_of_lt (pair_lt hk x), Nat.zero_add]
theorem DSUM_ADDF {k : Nat} (hk : 1 ≤ k) : ∀ (n x : Nat), DSUM (2 * k) n (ADDF k n x) = DSUM k (2 * n) x
  | 0, x => rfl
  | n + 1, x => by
    rw [DSUM, ADDF_low hk, ADDF_high hk, DSUM_ADDF hk n, show 2 * (n + 1) = 2 * n + 1 + 1 by omega, DSUM, DSUM, Nat.div_div_eq_div_mul, ← sq_pow]
    omega
theorem DLE_ADDF {k D : Nat} (hk : 1 ≤ k) : ∀ (n x : Nat), DLE k D (2 * n) x → DLE (2 * k) (2 * D) n (ADDF k n x)
  | 0, _, _ => trivial
  | n + 1, x, h => by
    rw [show 2 * (n + 1) = 2 * n + 1 + 1 by omega] at h
    obtain ⟨h1, h2, h3⟩ := h
    refine ⟨?_, ?_⟩
    · rw [ADDF_low hk]
      omega
    · rw [ADDF_high hk]
      refine DLE_ADDF hk n _ ?_
      rw [Nat.div_div_eq_div_mul, ← sq_pow] at h3
      exact h3
theorem DLE_bits : ∀ (n x : Nat), DLE 1 1 n x
  | 0, _ => trivial
  | n + 1, _ => ⟨by omega, DLE_bits n _⟩
/-- where two neighbours never carry, the mask may come behind the sum. -/
theorem ADDF_late {k D : Nat} (hk : 1 ≤ k) (hD : 2 * D < 2 ^ k) : ∀ (n x : Nat), x < 2 ^ (2 * k * n) → DLE k D (2 * n) x → (x / 2 ^ k + x) &&& MSK k n = ADDF k n x
  | 0, x, _, _ => by simp [MSK, ADDF]
  | n + 1, x, hx, h => by
    rw [show 2 * (n + 1) = 2 * n + 1 + 1 by omega] at h
    obtain ⟨h1, h2, h3⟩ := h
    rw [Nat.div_div_eq_div_mul, ← sq_pow] at h3
    have hq : x / 2 ^ (2 * k) < 2 ^ (2 * k * n) := Nat.div_lt_of_lt_mul (by rw [← Nat.pow_add, show 2 * k + 2 * k * n = 2 * k * (n + 1) by rw [Nat.mul_add, Nat.mul_one, Nat.add_comm]]; exact hx)
    have ih := ADDF_late hk hD n (x / 2 ^ (2 * k)) hq h3
    have hq0 : x / 2 ^ (2 * k) % 2 ^ k ≤ D := by
      cases n with
      | zero =>
        have : x / 2 ^ (2 * k) = 0 := by simpa using hq
        rw [this]
        simp
      | succ n => exact h3.1
    have hp := Nat.two_pow_pos k
    have e1 : x = x % 2 ^ k + 2 ^ k * (x / 2 ^ k % 2 ^ k) + 2 ^ k * 2 ^ k * (x / 2 ^ (2 * k)) := by
      have a := (Nat.mod_add_div x (2 ^ k)).symm
      have b := (Nat.mod_add_div (x / 2 ^ k) (2 ^ k)).symm
      rw [Nat.div_div_eq_div_mul, ← sq_pow] at b
      conv => lhs; rw [a, b]
      rw [Nat.mul_add, ← Nat.mul_assoc, Nat.add_assoc]
    have e2 : x / 2 ^ k = x / 2 ^ k % 2 ^ k + 2 ^ k * (x / 2 ^ (2 * k) % 2 ^ k) + 2 ^ k * 2 ^ k * (x / 2 ^ (2 * k) / 2 ^ k) := by
      have a := (Nat.mod_add_div (x / 2 ^ k) (2 ^ k)).symm
      rw [Nat.div_div_eq_div_mul, ← sq_pow] at a
      have b := (Nat.mod_add_div (x / 2 ^ (2 * k)) (2 ^ k)).symm
      conv => lhs; rw [a, b]
      rw [Nat.mul_add, ← Nat.mul_assoc, Nat.add_assoc]
    have e3 : x / 2 ^ k + x = (x % 2 ^ k + x / 2 ^ k % 2 ^ k + 2 ^ k * (x / 2 ^ k % 2 ^ k + x / 2 ^ (2 * k) % 2 ^ k)) + 2 ^ (2 * k) * (x / 2 ^ (2 * k) / 2 ^ k + x / 2 ^ (2 * k)) := by
      conv => lhs; rw [e2]; arg 2; rw [e1]
      rw [sq_pow, Nat.mul_add, Nat.mul_add]
      omega
    have hlow : x % 2 ^ k + x / 2 ^ k % 2 ^ k + 2 ^ k * (x / 2 ^ k % 2 ^ k + x / 2 ^ (2 * k) % 2 ^ k) < 2 ^ (2 * k) := by
      have h4 : 2 ^ k * (x / 2 ^ k % 2 ^ k + x / 2 ^ (2 * k) % 2 ^ k) ≤ 2 ^ k * (2 ^ k - 1) := Nat.mul_le_mul_left _ (by omega)
      rw [Nat.mul_sub, Nat.mul_one] at h4
      have h5 : 2 ^ k ≤ 2 ^ k * 2 ^ k := Nat.le_mul_of_pos_left _ hp
      have h6 := sq_pow k
      generalize 2 ^ k * (x / 2 ^ k % 2 ^ k + x / 2 ^ (2 * k) % 2 ^ k) = y at h4
      generalize x / 2 ^ (2 * k) % 2 ^ k = z at *
      generalize 2 ^ k * 2 ^ k = u at *
      generalize 2 ^ (2 * k) = v at *
      omega
    rw [e3]
    show _ &&& ((2 ^ k - 1) + 2 ^ (2 * k) * MSK k n) = _
    rw [and_split _ _ _ _ _ hlow (low_lt k), Nat.and_two_pow_sub_one_eq_mod, ih, Nat.add_mul_mod_self_left, Nat.mod_eq_of_lt (by omega), ADDF]

/-! all together -/
def POP (X : Nat) : Nat := DSUM 1 64 X
theorem m0_eq : MSK 1 32 = 6148914691236517205 := by decide
theorem m1_eq : MSK 2 16 = 3689348814741910323 := by decide
theorem m2_eq : MSK 4 8 = 1085102592571150095 := by decide
theorem ADDF_lt {k : Nat} (hk : 1 ≤ k) : ∀ (n x : Nat), ADDF k n x < 2 ^ (2 * k * n)
  | 0, _ => by simp [ADDF]
  | n + 1, x => by
    have h1 := ADDF_lt hk n (x / 2 ^ (2 * k))
    have h2 := pair_lt hk x
    rw [ADDF, show 2 * k * (n + 1) = 2 * k * n + 2 * k by rw [Nat.mul_add, Nat.mul_one], Nat.pow_add]
    have h3 : 2 ^ (2 * k) * ADDF k n (x / 2 ^ (2 * k)) ≤ 2 ^ (2 * k) * (2 ^ (2 * k * n) - 1) := Nat.mul_le_mul_left _ (by omega)
    rw [Nat.mul_sub, Nat.mul_one, Nat.mul_comm _ (2 ^ (2 * k * n))] at h3
    have h4 : 2 ^ (2 * k) ≤ 2 ^ (2 * k * n) * 2 ^ (2 * k) := Nat.le_mul_of_pos_left _ (Nat.two_pow_pos _)
    omega
theorem div_low {a b q : Nat} (h : b < a) : (b + a * q) / a = q := by rw [Nat.add_mul_div_left _ _ (by omega), Nat.div_eq_of_lt h, Nat.zero_add]
theorem pop_s2 {d0 d1 d2 x R1 R2 R3 : Nat} (e0 : x = d0 + 256 * R1) (e1 : R1 = d1 + 256 * R2) (e2 : R2 = d2 + 256 * R3) : x + R1 = (d0 + d1 + 256 * (d1 + d2)) + 65536 * (R2 + R3) := by
  subst e0 e1 e2
  omega
theorem pop_s3 {d0 d1 d2 d3 d4 d5 d6 d7 x R1 R2 R3 R4 R5 R6 : Nat} (e0 : x = d0 + 256 * R1) (e1 : R1 = d1 + 256 * R2) (e2 : R2 = d2 + 256 * R3) (e3 : R3 = d3 + 256 * R4) (e4 : R4 = d4 + 256 * R5) (e5 : R5 = d5 + 256 * R6) (e6 : R6 = d6 + 256 * d7) :
    x + R1 + (R2 + R3) = (d0 + d1 + d2 + d3 + 256 * (d1 + d2 + d3 + d4) + 65536 * (d2 + d3 + d4 + d5) + 16777216 * (d3 + d4 + d5 + d6)) + 4294967296 * (R4 + R5 + R6 + d7) := by
  subst e0 e1 e2 e3 e4 e5 e6
  omega
theorem pop_s4 {d0 d1 d2 d3 d4 d5 d6 d7 x R1 R2 R3 R4 R5 R6 : Nat} (e0 : x = d0 + 256 * R1) (e1 : R1 = d1 + 256 * R2) (e2 : R2 = d2 + 256 * R3) (e3 : R3 = d3 + 256 * R4) (e4 : R4 = d4 + 256 * R5) (e5 : R5 = d5 + 256 * R6) (e6 : R6 = d6 + 256 * d7) :
    x + R1 + (R2 + R3) + (R4 + R5 + R6 + d7) = (d0 + (d1 + (d2 + (d3 + (d4 + (d5 + (d6 + d7))))))) + 128 * (2 * (R1 + R2 + R3 + R4 + R5 + R6 + d7)) := by
  rw [e0]
  have h : R1 + (R2 + R3) + (R4 + R5 + R6 + d7) = (d1 + 256 * R2) + ((d2 + 256 * R3) + (d3 + 256 * R4)) + ((d4 + 256 * R5) + (d5 + 256 * R6) + (d6 + 256 * d7) + d7) := by
    rw [← e1, ← e2, ← e3, ← e4, ← e5, ← e6]
  clear e0 e1 e2 e3 e4 e5 e6
  omega
theorem pop_b {d7 d6 R6 : Nat} {B : Nat} (e6 : R6 = d6 + 256 * d7) (h6 : d6 ≤ 8) (h7 : d7 ≤ B) : R6 ≤ 8 + 256 * B := by
  subst e6
  omega
theorem pop_low2 {d0 d1 d2 : Nat} (h0 : d0 ≤ 8) (h1 : d1 ≤ 8) (h2 : d2 ≤ 8) : d0 + d1 + 256 * (d1 + d2) < 65536 := by omega
theorem pop_low3 {d0 d1 d2 d3 d4 d5 d6 : Nat} (h0 : d0 ≤ 8) (h1 : d1 ≤ 8) (h2 : d2 ≤ 8) (h3 : d3 ≤ 8) (h4 : d4 ≤ 8) (h5 : d5 ≤ 8) (h6 : d6 ≤ 8) : d0 + d1 + d2 + d3 + 256 * (d1 + d2 + d3 + d4) + 65536 * (d2 + d3 + d4 + d5) + 16777216 * (d3 + d4 + d5 + d6) < 4294967296 := by omega
theorem pop_low4 {d0 d1 d2 d3 d4 d5 d6 d7 : Nat} (h0 : d0 ≤ 8) (h1 : d1 ≤ 8) (h2 : d2 ≤ 8) (h3 : d3 ≤ 8) (h4 : d4 ≤ 8) (h5 : d5 ≤ 8) (h6 : d6 ≤ 8) (h7 : d7 ≤ 8) : d0 + (d1 + (d2 + (d3 + (d4 + (d5 + (d6 + d7)))))) < 128 := by omega
theorem pop_top {x R1 R2 R3 R4 R5 R6 d7 : Nat} (h7 : d7 ≤ 8) (b6 : R6 ≤ 8 + 256 * 8) (b5 : R5 ≤ 8 + 256 * (8 + 256 * 8)) (b4 : R4 ≤ 8 + 256 * (8 + 256 * (8 + 256 * 8))) (b3 : R3 ≤ 8 + 256 * (8 + 256 * (8 + 256 * (8 + 256 * 8)))) (b2 : R2 ≤ 8 + 256 * (8 + 256 * (8 + 256 * (8 + 256 * (8 + 256 * 8))))) (b1 : R1 ≤ 8 + 256 * (8 + 256 * (8 + 256 * (8 + 256 * (8 + 256 * (8 + 256 * 8)))))) (b0 : x ≤ 8 + 256 * (8 + 256 * (8 + 256 * (8 + 256 * (8 + 256 * (8 + 256 * (8 + 256 * 8))))))) :
    x + R1 + (R2 + R3) + (R4 + R5 + R6 + d7) < 2 ^ 64 := by omega
theorem pop_horner (d0 d1 d2 d3 d4 d5 d6 d7 : Nat) (h0 : d0 ≤ 8) (h1 : d1 ≤ 8) (h2 : d2 ≤ 8) (h3 : d3 ≤ 8) (h4 : d4 ≤ 8) (h5 : d5 ≤ 8) (h6 : d6 ≤ 8) (h7 : d7 ≤ 8) (x R1 R2 R3 R4 R5 R6 : Nat)
    (e0 : x = d0 + 256 * R1) (e1 : R1 = d1 + 256 * R2) (e2 : R2 = d2 + 256 * R3) (e3 : R3 = d3 + 256 * R4) (e4 : R4 = d4 + 256 * R5) (e5 : R5 = d5 + 256 * R6) (e6 : R6 = d6 + 256 * d7) :
    (x + x / 256 + (x + x / 256) / 65536 + (x + x / 256 + (x + x / 256) / 65536) / 4294967296) % 128 = d0 + (d1 + (d2 + (d3 + (d4 + (d5 + (d6 + d7)))))) ∧ x + x / 256 + (x + x / 256) / 65536 + (x + x / 256 + (x + x / 256) / 65536) / 4294967296 < 2 ^ 64 := by
  have q1 : x / 256 = R1 := by rw [e0]; exact div_low (Nat.lt_of_le_of_lt h0 (by decide))
  have q2 : (x + R1) / 65536 = R2 + R3 := by rw [pop_s2 e0 e1 e2]; exact div_low (pop_low2 h0 h1 h2)
  have q3 : (x + R1 + (R2 + R3)) / 4294967296 = R4 + R5 + R6 + d7 := by rw [pop_s3 e0 e1 e2 e3 e4 e5 e6]; exact div_low (pop_low3 h0 h1 h2 h3 h4 h5 h6)
  rw [q1, q2, q3]
  have b6 := pop_b e6 h6 h7
  have b5 := pop_b e5 h5 b6
  have b4 := pop_b e4 h4 b5
  have b3 := pop_b e3 h3 b4
  have b2 := pop_b e2 h2 b3
  have b1 := pop_b e1 h1 b2
  have b0 := pop_b e0 h0 b1
  refine ⟨?_, pop_top h7 b6 b5 b4 b3 b2 b1 b0⟩
  rw [pop_s4 e0 e1 e2 e3 e4 e5 e6, Nat.add_mul_mod_self_left, Nat.mod_eq_of_lt (pop_low4 h0 h1 h2 h3 h4 h5 h6 h7)]
theorem pop_last {x : Nat} (hx : x < 2 ^ 64) (h : DLE 8 8 8 x) : (x + x / 256 + (x + x / 256) / 65536 + (x + x / 256 + (x + x / 256) / 65536) / 4294967296) % 128 = DSUM 8 8 x ∧ x + x / 256 + (x + x / 256) / 65536 + (x + x / 256 + (x + x / 256) / 65536) / 4294967296 < 2 ^ 64 := by
  obtain ⟨h0, h1, h2, h3, h4, h5, h6, h7, _⟩ := h
  simp only [DSUM, Nat.add_zero]
  simp only [Nat.reducePow] at *
  have l7 : x / 256 / 256 / 256 / 256 / 256 / 256 / 256 < 256 := by
    have e : x / 256 / 256 / 256 / 256 / 256 / 256 / 256 = x / 72057594037927936 := by simp only [Nat.div_div_eq_div_mul]
    rw [e]
    exact Nat.div_lt_of_lt_mul hx
  rw [Nat.mod_eq_of_lt l7] at h7 ⊢
  exact pop_horner _ _ _ _ _ _ _ _ h0 h1 h2 h3 h4 h5 h6 h7 x (x / 256) (x / 256 / 256) (x / 256 / 256 / 256) (x / 256 / 256 / 256 / 256) (x / 256 / 256 / 256 / 256 / 256) (x / 256 / 256 / 256 / 256 / 256 / 256)
    (Nat.mod_add_div _ _).symm (Nat.mod_add_div _ _).symm (Nat.mod_add_div _ _).symm (Nat.mod_add_div _ _).symm (Nat.mod_add_div _ _).symm (Nat.mod_add_div _ _).symm (Nat.mod_add_div _ _).symm
/-- what OnesCount64 works out. -/
def X1 (X : Nat) : Nat := (X / 2 &&& 6148914691236517205) + (X &&& 6148914691236517205)
def X2 (X : Nat) : Nat := (X1 X / 4 &&& 3689348814741910323) + (X1 X &&& 3689348814741910323)
def X3 (X : Nat) : Nat := (X2 X / 16 + X2 X) &&& 1085102592571150095
theorem X1_eq (X : Nat) : X1 X = ADDF 1 32 X := by
  have := ADDF_eq 1 32 X
  rw [m0_eq] at this
  exact this
theorem X2_eq (X : Nat) : X2 X = ADDF 2 16 (X1 X) := by
  have := ADDF_eq 2 16 (X1 X)
  rw [m1_eq] at this
  exact this
theorem X2_le (X : Nat) : DLE 4 4 16 (X2 X) := by
  rw [X2_eq]
  refine DLE_ADDF (k := 2) (D := 2) (by decide) 16 _ ?_
  rw [X1_eq]
  exact DLE_ADDF (k := 1) (D := 1) (by decide) 32 _ (DLE_bits 64 X)
theorem X2_lt (X : Nat) : X2 X < 2 ^ 64 := by
  rw [X2_eq]
  exact ADDF_lt (k := 2) (by decide) 16 _
theorem X3_eq (X : Nat) : X3 X = ADDF 4 8 (X2 X) := by
  have := ADDF_late (k := 4) (D := 4) (by decide) (by decide) 8 (X2 X) (X2_lt X) (X2_le X)
  rw [m2_eq] at this
  exact this
theorem X3_le (X : Nat) : DLE 8 8 8 (X3 X) := by
  rw [X3_eq]
  exact DLE_ADDF (k := 4) (D := 4) (by decide) 8 _ (X2_le X)
theorem X3_lt (X : Nat) : X3 X < 2 ^ 64 := by
  rw [X3_eq]
  exact ADDF_lt (k := 4) (by decide) 8 _
theorem X3_sum (X : Nat) : DSUM 8 8 (X3 X) = POP X := by
  rw [X3_eq]
  have a := DSUM_ADDF (k := 4) (by decide) 8 (X2 X)
  have b := DSUM_ADDF (k := 2) (by decide) 16 (X1 X)
  have c := DSUM_ADDF (k := 1) (by decide) 32 X
  rw [← X2_eq] at b
  rw [← X1_eq] at c
  exact a.trans (b.trans c)
end Go.Proofs.Ytkmcmngdainofaa
