/- Texts of StoreBacks, one behind the other: NumPlain, NumCalls, NumPop, NumBitCalls, HashPlain, NumSlice, HashWordCalls, HashArr, HashSchedule, HashJoined, HashStep, HashHasher. -/
import Derived.WalkKit
import Derived.WalkLawsBesides
import Derived.OpenShut
import Derived.Test.YtkhpaldbdpfpiaaProg
import Derived.Laws.BitsAllLaws
import Derived.Deep.LoopGhost
import Derived.Deep.OwnRows
import Derived.Deep.QuietTactic
import Derived.BigQuiet
import Derived.Deep.WholeRow
import Derived.Laws.ResultCell
import Derived.Laws.Rows
import Derived.Laws.Tables
import Derived.Deep.RegionHeld3
import Derived.Deep.RegionWith
import Derived.Lib.SliceRun
import Derived.Deep.MidRow
import Derived.Maps.AppendAt
/- Plain facts on numbers of 64 bits and their bits; no Go in sight. -/
namespace Go.Proofs.Ytkhpaldbdpfpiaa
open Go.RowKit

/-! bit by bit -/
/-! what the walk writes -/
theorem wf_u64 {x : Int} (h : (Lit.int .u64 x).wf = true) : 0 ≤ x ∧ x < 2 ^ 64 := by
  have := bounds_u64 h
  omega
theorem wrapU (z : Int) : IntKind.u64.wrap z = z % 2 ^ 64 := by rw [IntKind.wrap_u64]; rfl
theorem and_eq {a b : Nat} (ha : a < 2 ^ 64) (hb : b < 2 ^ 64) : bits .and .u64 (a : Int) (b : Int) = ((a &&& b : Nat) : Int) := bits_and_u64_nat a b ha hb
theorem or_eq {a b : Nat} (ha : a < 2 ^ 64) (hb : b < 2 ^ 64) : bits .or .u64 (a : Int) (b : Int) = ((a ||| b : Nat) : Int) := bits_or_u64_nat a b ha hb
theorem ofInt_toNat (n : Int) : (BitVec.ofInt 64 n).toNat = (n % 2 ^ 64).toNat := by simp [BitVec.toNat_ofInt]
theorem and127 (n : Int) : bits .and .i64 n 127 = n % 128 := by
  show IntKind.i64.wrap ((BitVec.ofInt 64 n &&& BitVec.ofInt 64 127).toNat : Int) = _
  have h7 : (BitVec.ofInt 64 127).toNat = 127 := by decide
  rw [BitVec.toNat_and, ofInt_toNat, h7, nat_mask7, IntKind.wrap_i64]
  omega

/-! shifts in two parts -/
/-! fields -/
end Go.Proofs.Ytkhpaldbdpfpiaa

/- What the small functions of package num answer, call by call, and that awake answers true. -/
namespace Go.Proofs.Ytkhpaldbdpfpiaa
open Go.RowKit

end Go.Proofs.Ytkhpaldbdpfpiaa

/- How many bits are set: sums of digits, two at a time; no Go in sight. -/
namespace Go.Proofs.Ytkhpaldbdpfpiaa
open Go.RowKit

/-- the sum of the n lowest digits of w bits. -/
def DSUM (w : Nat) : Nat → Nat → Nat
  | 0, _ => 0
  | n + 1, x => x % 2 ^ w + DSUM w n (x / 2 ^ w)
/-- every second one of 2 n digits of k bits, all their bits. -/
def MSK (k : Nat) : Nat → Nat
  | 0 => 0
  | n + 1 => (2 ^ k - 1) + 2 ^ (2 * k) * MSK k n
/-- digits of k bits put together two by two. -/
def ADDF (k : Nat) : Nat → Nat → Nat
  | 0, _ => 0
  | n + 1, x => (x % 2 ^ k + x / 2 ^ k % 2 ^ k) + 2 ^ (2 * k) * ADDF k n (x / 2 ^ (2 * k))
/-- every digit is at most D. -/
def DLE (w D : Nat) : Nat → Nat → Prop
  | 0, _ => True
  | n + 1, x => x % 2 ^ w ≤ D ∧ DLE w D n (x / 2 ^ w)

theorem and_split (b q r s t : Nat) (hr : r < 2 ^ b) (hs : s < 2 ^ b) : (r + 2 ^ b * q) &&& (s + 2 ^ b * t) = (r &&& s) + 2 ^ b * (q &&& t) := by
  rw [Nat.add_comm r, Nat.add_comm s, Nat.add_comm (r &&& s)]
  apply Nat.eq_of_testBit_eq
  intro i
  have hrs : r &&& s < 2 ^ b := Nat.lt_of_le_of_lt Nat.and_le_left hr
  rw [Nat.testBit_and, Nat.testBit_two_pow_mul_add _ hr, Nat.testBit_two_pow_mul_add _ hs, Nat.testBit_two_pow_mul_add _ hrs]
  split
  · rw [Nat.testBit_and]
  · rw [Nat.testBit_and]
theorem sq_pow (k : Nat) : 2 ^ (2 * k) = 2 ^ k * 2 ^ k := by rw [Nat.two_mul, Nat.pow_add]
theorem low_lt (k : Nat) : 2 ^ k - 1 < 2 ^ (2 * k) := by
  have h1 : 2 ^ k ≤ 2 ^ (2 * k) := Nat.pow_le_pow_right (by decide) (by omega)
  have h2 := Nat.two_pow_pos k
  omega
theorem split2 (k x : Nat) : x = x % 2 ^ (2 * k) + 2 ^ (2 * k) * (x / 2 ^ (2 * k)) := (Nat.mod_add_div _ _).symm
theorem mod_mod2 (k x : Nat) : x % 2 ^ (2 * k) % 2 ^ k = x % 2 ^ k := Nat.mod_mod_of_dvd _ ⟨2 ^ k, sq_pow k⟩
theorem and_MSK (k : Nat) : ∀ (n x : Nat), x &&& MSK k (n + 1) = x % 2 ^ k + 2 ^ (2 * k) * (x / 2 ^ (2 * k) &&& MSK k n) := fun n x => by
  conv => lhs; rw [split2 k x]
  show _ &&& ((2 ^ k - 1) + 2 ^ (2 * k) * MSK k n) = _
  rw [and_split _ _ _ _ _ (Nat.mod_lt _ (Nat.two_pow_pos _)) (low_lt k), Nat.and_two_pow_sub_one_eq_mod, mod_mod2]
theorem div_div2 (k x : Nat) : x / 2 ^ k / 2 ^ (2 * k) = x / 2 ^ (2 * k) / 2 ^ k := by rw [Nat.div_div_eq_div_mul, Nat.div_div_eq_div_mul, Nat.mul_comm]
theorem ADDF_eq (k : Nat) : ∀ (n x : Nat), (x / 2 ^ k &&& MSK k n) + (x &&& MSK k n) = ADDF k n x
  | 0, x => by simp [MSK, ADDF]
  | n + 1, x => by
    rw [and_MSK, and_MSK, div_div2, ADDF, ← ADDF_eq k n (x / 2 ^ (2 * k)), Nat.mul_add]
    omega
theorem two_le_pow {k : Nat} (hk : 1 ≤ k) : 2 ≤ 2 ^ k := Nat.le_trans (by decide) (Nat.pow_le_pow_right (n := 2) (by decide) hk)
theorem pair_lt {k : Nat} (hk : 1 ≤ k) (x : Nat) : x % 2 ^ k + x / 2 ^ k % 2 ^ k < 2 ^ (2 * k) := by
  have h1 := Nat.mod_lt x (Nat.two_pow_pos k)
  have h2 := Nat.mod_lt (x / 2 ^ k) (Nat.two_pow_pos k)
  have h3 : 2 * 2 ^ k ≤ 2 ^ k * 2 ^ k := Nat.mul_le_mul_right _ (two_le_pow hk)
  rw [sq_pow]
  omega
theorem ADDF_low {k : Nat} (hk : 1 ≤ k) (n x : Nat) : ADDF k (n + 1) x % 2 ^ (2 * k) = x % 2 ^ k + x / 2 ^ k % 2 ^ k := by
  rw [ADDF, Nat.add_mul_mod_self_left, Nat.mod_eq_of_lt (pair_lt hk x)]
theorem ADDF_high {k : Nat} (hk : 1 ≤ k) (n x : Nat) : ADDF k (n + 1) x / 2 ^ (2 * k) = ADDF k n (x / 2 ^ (2 * k)) := by
  rw [ADDF, Nat.add_mul_div_left _ _ (Nat.two_pow_pos _), Nat.div_eq_of_lt (pair_lt hk x), Nat.zero_add]
theorem DSUM_ADDF {k : Nat} (hk : 1 ≤ k) : ∀ (n x : Nat), DSUM (2 * k) n (ADDF k n x) = DSUM k (2 * n) x
  | 0, x => rfl
  | n + 1, x => by
    rw [DSUM, ADDF_low hk, ADDF_high hk, DSUM_ADDF hk n, show 2 * (n + 1) = 2 * n + 1 + 1 by omega, DSUM, DSUM, Nat.div_div_eq_div_mul, ← sq_pow]
    omega
theorem DLE_ADDF {k D : Nat} (hk : 1 ≤ k) : ∀ (n x : Nat), DLE k D (2 * n) x → DLE (2 * k) (2 * D) n (ADDF k n x)
  | 0, _, _ => trivial
  | n + 1, x, h => by
    rw [show 2 * (n + 1) = 2 * n + 1 + 1 by omega] at h
    obtain ⟨h1, h2, h3⟩ := h
    refine ⟨?_, ?_⟩
    · rw [ADDF_low hk]
      omega
    · rw [ADDF_high hk]
      refine DLE_ADDF hk n _ ?_
      rw [Nat.div_div_eq_div_mul, ← sq_pow] at h3
      exact h3
theorem DLE_bits : ∀ (n x : Nat), DLE 1 1 n x
  | 0, _ => trivial
  | n + 1, _ => ⟨by omega, DLE_bits n _⟩
/-- where two neighbours never carry, the mask may come behind the sum. -/
theorem ADDF_late {k D : Nat} (hk : 1 ≤ k) (hD : 2 * D < 2 ^ k) : ∀ (n x : Nat), x < 2 ^ (2 * k * n) → DLE k D (2 * n) x → (x / 2 ^ k + x) &&& MSK k n = ADDF k n x
  | 0, x, _, _ => by simp [MSK, ADDF]
  | n + 1, x, hx, h => by
    rw [show 2 * (n + 1) = 2 * n + 1 + 1 by omega] at h
    obtain ⟨h1, h2, h3⟩ := h
    rw [Nat.div_div_eq_div_mul, ← sq_pow] at h3
    have hq : x / 2 ^ (2 * k) < 2 ^ (2 * k * n) := Nat.div_lt_of_lt_mul (by rw [← Nat.pow_add, show 2 * k + 2 * k * n = 2 * k * (n + 1) by rw [Nat.mul_add, Nat.mul_one, Nat.add_comm]]; exact hx)
    have ih := ADDF_late hk hD n (x / 2 ^ (2 * k)) hq h3
    have hq0 : x / 2 ^ (2 * k) % 2 ^ k ≤ D := by
      cases n with
      | zero =>
        have : x / 2 ^ (2 * k) = 0 := by simpa using hq
        rw [this]
        simp
      | succ n => exact h3.1
    have hp := Nat.two_pow_pos k
    have e1 : x = x % 2 ^ k + 2 ^ k * (x / 2 ^ k % 2 ^ k) + 2 ^ k * 2 ^ k * (x / 2 ^ (2 * k)) := by
      have a := (Nat.mod_add_div x (2 ^ k)).symm
      have b := (Nat.mod_add_div (x / 2 ^ k) (2 ^ k)).symm
      rw [Nat.div_div_eq_div_mul, ← sq_pow] at b
      conv => lhs; rw [a, b]
      rw [Nat.mul_add, ← Nat.mul_assoc, Nat.add_assoc]
    have e2 : x / 2 ^ k = x / 2 ^ k % 2 ^ k + 2 ^ k * (x / 2 ^ (2 * k) % 2 ^ k) + 2 ^ k * 2 ^ k * (x / 2 ^ (2 * k) / 2 ^ k) := by
      have a := (Nat.mod_add_div (x / 2 ^ k) (2 ^ k)).symm
      rw [Nat.div_div_eq_div_mul, ← sq_pow] at a
      have b := (Nat.mod_add_div (x / 2 ^ (2 * k)) (2 ^ k)).symm
      conv => lhs; rw [a, b]
      rw [Nat.mul_add, ← Nat.mul_assoc, Nat.add_assoc]
    have e3 : x / 2 ^ k + x = (x % 2 ^ k + x / 2 ^ k % 2 ^ k + 2 ^ k * (x / 2 ^ k % 2 ^ k + x / 2 ^ (2 * k) % 2 ^ k)) + 2 ^ (2 * k) * (x / 2 ^ (2 * k) / 2 ^ k + x / 2 ^ (2 * k)) := by
      conv => lhs; rw [e2]; arg 2; rw [e1]
      rw [sq_pow, Nat.mul_add, Nat.mul_add]
      omega
    have hlow : x % 2 ^ k + x / 2 ^ k % 2 ^ k + 2 ^ k * (x / 2 ^ k % 2 ^ k + x / 2 ^ (2 * k) % 2 ^ k) < 2 ^ (2 * k) := by
      have h4 : 2 ^ k * (x / 2 ^ k % 2 ^ k + x / 2 ^ (2 * k) % 2 ^ k) ≤ 2 ^ k * (2 ^ k - 1) := Nat.mul_le_mul_left _ (by omega)
      rw [Nat.mul_sub, Nat.mul_one] at h4
      have h5 : 2 ^ k ≤ 2 ^ k * 2 ^ k := Nat.le_mul_of_pos_left _ hp
      have h6 := sq_pow k
      generalize 2 ^ k * (x / 2 ^ k % 2 ^ k + x / 2 ^ (2 * k) % 2 ^ k) = y at h4
      generalize x / 2 ^ (2 * k) % 2 ^ k = z at *
      generalize 2 ^ k * 2 ^ k = u at *
      generalize 2 ^ (2 * k) = v at *
      omega
    rw [e3]
    show _ &&& ((2 ^ k - 1) + 2 ^ (2 * k) * MSK k n) = _
    rw [and_split _ _ _ _ _ hlow (low_lt k), Nat.and_two_pow_sub_one_eq_mod, ih, Nat.add_mul_mod_self_left, Nat.mod_eq_of_lt (by omega), ADDF]

/-! all together -/
def POP (X : Nat) : Nat := DSUM 1 64 X
theorem m0_eq : MSK 1 32 = 6148914691236517205 := by decide
theorem m1_eq : MSK 2 16 = 3689348814741910323 := by decide
theorem m2_eq : MSK 4 8 = 1085102592571150095 := by decide
theorem ADDF_lt {k : Nat} (hk : 1 ≤ k) : ∀ (n x : Nat), ADDF k n x < 2 ^ (2 * k * n)
  | 0, _ => by simp [ADDF]
  | n + 1, x => by
    have h1 := ADDF_lt hk n (x / 2 ^ (2 * k))
    have h2 := pair_lt hk x
    rw [ADDF, show 2 * k * (n + 1) = 2 * k * n + 2 * k by rw [Nat.mul_add, Nat.mul_one], Nat.pow_add]
    have h3 : 2 ^ (2 * k) * ADDF k n (x / 2 ^ (2 * k)) ≤ 2 ^ (2 * k) * (2 ^ (2 * k * n) - 1) := Nat.mul_le_mul_left _ (by omega)
    rw [Nat.mul_sub, Nat.mul_one, Nat.mul_comm _ (2 ^ (2 * k * n))] at h3
    have h4 : 2 ^ (2 * k) ≤ 2 ^ (2 * k * n) * 2 ^ (2 * k) := Nat.le_mul_of_pos_left _ (Nat.two_pow_pos _)
    omega
theorem div_low {a b q : Nat} (h : b < a) : (b + a * q) / a = q := by rw [Nat.add_mul_div_left _ _ (by omega), Nat.div_eq_of_lt h, Nat.zero_add]
theorem pop_s2 {d0 d1 d2 x R1 R2 R3 : Nat} (e0 : x = d0 + 256 * R1) (e1 : R1 = d1 + 256 * R2) (e2 : R2 = d2 + 256 * R3) : x + R1 = (d0 + d1 + 256 * (d1 + d2)) + 65536 * (R2 + R3) := by
  subst e0 e1 e2
  omega
theorem pop_s3 {d0 d1 d2 d3 d4 d5 d6 d7 x R1 R2 R3 R4 R5 R6 : Nat} (e0 : x = d0 + 256 * R1) (e1 : R1 = d1 + 256 * R2) (e2 : R2 = d2 + 256 * R3) (e3 : R3 = d3 + 256 * R4) (e4 : R4 = d4 + 256 * R5) (e5 : R5 = d5 + 256 * R6) (e6 : R6 = d6 + 256 * d7) :
    x + R1 + (R2 + R3) = (d0 + d1 + d2 + d3 + 256 * (d1 + d2 + d3 + d4) + 65536 * (d2 + d3 + d4 + d5) + 16777216 * (d3 + d4 + d5 + d6)) + 4294967296 * (R4 + R5 + R6 + d7) := by
  subst e0 e1 e2 e3 e4 e5 e6
  omega
theorem pop_s4 {d0 d1 d2 d3 d4 d5 d6 d7 x R1 R2 R3 R4 R5 R6 : Nat} (e0 : x = d0 + 256 * R1) (e1 : R1 = d1 + 256 * R2) (e2 : R2 = d2 + 256 * R3) (e3 : R3 = d3 + 256 * R4) (e4 : R4 = d4 + 256 * R5) (e5 : R5 = d5 + 256 * R6) (e6 : R6 = d6 + 256 * d7) :
    x + R1 + (R2 + R3) + (R4 + R5 + R6 + d7) = (d0 + (d1 + (d2 + (d3 + (d4 + (d5 + (d6 + d7))))))) + 128 * (2 * (R1 + R2 + R3 + R4 + R5 + R6 + d7)) := by
  rw [e0]
  have h : R1 + (R2 + R3) + (R4 + R5 + R6 + d7) = (d1 + 256 * R2) + ((d2 + 256 * R3) + (d3 + 256 * R4)) + ((d4 + 256 * R5) + (d5 + 256 * R6) + (d6 + 256 * d7) + d7) := by
    rw [← e1, ← e2, ← e3, ← e4, ← e5, ← e6]
  clear e0 e1 e2 e3 e4 e5 e6
  omega
theorem pop_b {d7 d6 R6 : Nat} {B : Nat} (e6 : R6 = d6 + 256 * d7) (h6 : d6 ≤ 8) (h7 : d7 ≤ B) : R6 ≤ 8 + 256 * B := by
  subst e6
  omega
theorem pop_low2 {d0 d1 d2 : Nat} (h0 : d0 ≤ 8) (h1 : d1 ≤ 8) (h2 : d2 ≤ 8) : d0 + d1 + 256 * (d1 + d2) < 65536 := by omega
theorem pop_low3 {d0 d1 d2 d3 d4 d5 d6 : Nat} (h0 : d0 ≤ 8) (h1 : d1 ≤ 8) (h2 : d2 ≤ 8) (h3 : d3 ≤ 8) (h4 : d4 ≤ 8) (h5 : d5 ≤ 8) (h6 : d6 ≤ 8) : d0 + d1 + d2 + d3 + 256 * (d1 + d2 + d3 + d4) + 65536 * (d2 + d3 + d4 + d5) + 16777216 * (d3 + d4 + d5 + d6) < 4294967296 := by omega
theorem pop_low4 {d0 d1 d2 d3 d4 d5 d6 d7 : Nat} (h0 : d0 ≤ 8) (h1 : d1 ≤ 8) (h2 : d2 ≤ 8) (h3 : d3 ≤ 8) (h4 : d4 ≤ 8) (h5 : d5 ≤ 8) (h6 : d6 ≤ 8) (h7 : d7 ≤ 8) : d0 + (d1 + (d2 + (d3 + (d4 + (d5 + (d6 + d7)))))) < 128 := by omega
theorem pop_top {x R1 R2 R3 R4 R5 R6 d7 : Nat} (h7 : d7 ≤ 8) (b6 : R6 ≤ 8 + 256 * 8) (b5 : R5 ≤ 8 + 256 * (8 + 256 * 8)) (b4 : R4 ≤ 8 + 256 * (8 + 256 * (8 + 256 * 8))) (b3 : R3 ≤ 8 + 256 * (8 + 256 * (8 + 256 * (8 + 256 * 8)))) (b2 : R2 ≤ 8 + 256 * (8 + 256 * (8 + 256 * (8 + 256 * (8 + 256 * 8))))) (b1 : R1 ≤ 8 + 256 * (8 + 256 * (8 + 256 * (8 + 256 * (8 + 256 * (8 + 256 * 8)))))) (b0 : x ≤ 8 + 256 * (8 + 256 * (8 + 256 * (8 + 256 * (8 + 256 * (8 + 256 * (8 + 256 * 8))))))) :
    x + R1 + (R2 + R3) + (R4 + R5 + R6 + d7) < 2 ^ 64 := by omega
theorem pop_horner (d0 d1 d2 d3 d4 d5 d6 d7 : Nat) (h0 : d0 ≤ 8) (h1 : d1 ≤ 8) (h2 : d2 ≤ 8) (h3 : d3 ≤ 8) (h4 : d4 ≤ 8) (h5 : d5 ≤ 8) (h6 : d6 ≤ 8) (h7 : d7 ≤ 8) (x R1 R2 R3 R4 R5 R6 : Nat)
    (e0 : x = d0 + 256 * R1) (e1 : R1 = d1 + 256 * R2) (e2 : R2 = d2 + 256 * R3) (e3 : R3 = d3 + 256 * R4) (e4 : R4 = d4 + 256 * R5) (e5 : R5 = d5 + 256 * R6) (e6 : R6 = d6 + 256 * d7) :
    (x + x / 256 + (x + x / 256) / 65536 + (x + x / 256 + (x + x / 256) / 65536) / 4294967296) % 128 = d0 + (d1 + (d2 + (d3 + (d4 + (d5 + (d6 + d7)))))) ∧ x + x / 256 + (x + x / 256) / 65536 + (x + x / 256 + (x + x / 256) / 65536) / 4294967296 < 2 ^ 64 := by
  have q1 : x / 256 = R1 := by rw [e0]; exact div_low (Nat.lt_of_le_of_lt h0 (by decide))
  have q2 : (x + R1) / 65536 = R2 + R3 := by rw [pop_s2 e0 e1 e2]; exact div_low (pop_low2 h0 h1 h2)
  have q3 : (x + R1 + (R2 + R3)) / 4294967296 = R4 + R5 + R6 + d7 := by rw [pop_s3 e0 e1 e2 e3 e4 e5 e6]; exact div_low (pop_low3 h0 h1 h2 h3 h4 h5 h6)
  rw [q1, q2, q3]
  have b6 := pop_b e6 h6 h7
  have b5 := pop_b e5 h5 b6
  have b4 := pop_b e4 h4 b5
  have b3 := pop_b e3 h3 b4
  have b2 := pop_b e2 h2 b3
  have b1 := pop_b e1 h1 b2
  have b0 := pop_b e0 h0 b1
  refine ⟨?_, pop_top h7 b6 b5 b4 b3 b2 b1 b0⟩
  rw [pop_s4 e0 e1 e2 e3 e4 e5 e6, Nat.add_mul_mod_self_left, Nat.mod_eq_of_lt (pop_low4 h0 h1 h2 h3 h4 h5 h6 h7)]
theorem pop_last {x : Nat} (hx : x < 2 ^ 64) (h : DLE 8 8 8 x) : (x + x / 256 + (x + x / 256) / 65536 + (x + x / 256 + (x + x / 256) / 65536) / 4294967296) % 128 = DSUM 8 8 x ∧ x + x / 256 + (x + x / 256) / 65536 + (x + x / 256 + (x + x / 256) / 65536) / 4294967296 < 2 ^ 64 := by
  obtain ⟨h0, h1, h2, h3, h4, h5, h6, h7, _⟩ := h
  simp only [DSUM, Nat.add_zero]
  simp only [Nat.reducePow] at *
  have l7 : x / 256 / 256 / 256 / 256 / 256 / 256 / 256 < 256 := by
    have e : x / 256 / 256 / 256 / 256 / 256 / 256 / 256 = x / 72057594037927936 := by simp only [Nat.div_div_eq_div_mul]
    rw [e]
    exact Nat.div_lt_of_lt_mul hx
  rw [Nat.mod_eq_of_lt l7] at h7 ⊢
  exact pop_horner _ _ _ _ _ _ _ _ h0 h1 h2 h3 h4 h5 h6 h7 x (x / 256) (x / 256 / 256) (x / 256 / 256 / 256) (x / 256 / 256 / 256 / 256) (x / 256 / 256 / 256 / 256 / 256) (x / 256 / 256 / 256 / 256 / 256 / 256)
    (Nat.mod_add_div _ _).symm (Nat.mod_add_div _ _).symm (Nat.mod_add_div _ _).symm (Nat.mod_add_div _ _).symm (Nat.mod_add_div _ _).symm (Nat.mod_add_div _ _).symm (Nat.mod_add_div _ _).symm
/-- what OnesCount64 works out. -/
def X1 (X : Nat) : Nat := (X / 2 &&& 6148914691236517205) + (X &&& 6148914691236517205)
def X2 (X : Nat) : Nat := (X1 X / 4 &&& 3689348814741910323) + (X1 X &&& 3689348814741910323)
def X3 (X : Nat) : Nat := (X2 X / 16 + X2 X) &&& 1085102592571150095
theorem X1_eq (X : Nat) : X1 X = ADDF 1 32 X := by
  have := ADDF_eq 1 32 X
  rw [m0_eq] at this
  exact this
theorem X2_eq (X : Nat) : X2 X = ADDF 2 16 (X1 X) := by
  have := ADDF_eq 2 16 (X1 X)
  rw [m1_eq] at this
  exact this
theorem X2_le (X : Nat) : DLE 4 4 16 (X2 X) := by
  rw [X2_eq]
  refine DLE_ADDF (k := 2) (D := 2) (by decide) 16 _ ?_
  rw [X1_eq]
  exact DLE_ADDF (k := 1) (D := 1) (by decide) 32 _ (DLE_bits 64 X)
theorem X2_lt (X : Nat) : X2 X < 2 ^ 64 := by
  rw [X2_eq]
  exact ADDF_lt (k := 2) (by decide) 16 _
theorem X3_eq (X : Nat) : X3 X = ADDF 4 8 (X2 X) := by
  have := ADDF_late (k := 4) (D := 4) (by decide) (by decide) 8 (X2 X) (X2_lt X) (X2_le X)
  rw [m2_eq] at this
  exact this
theorem X3_le (X : Nat) : DLE 8 8 8 (X3 X) := by
  rw [X3_eq]
  exact DLE_ADDF (k := 4) (D := 4) (by decide) 8 _ (X2_le X)
theorem X3_lt (X : Nat) : X3 X < 2 ^ 64 := by
  rw [X3_eq]
  exact ADDF_lt (k := 4) (by decide) 8 _
theorem X3_sum (X : Nat) : DSUM 8 8 (X3 X) = POP X := by
  rw [X3_eq]
  have a := DSUM_ADDF (k := 4) (by decide) 8 (X2 X)
  have b := DSUM_ADDF (k := 2) (by decide) 16 (X1 X)
  have c := DSUM_ADDF (k := 1) (by decide) 32 X
  rw [← X2_eq] at b
  rw [← X1_eq] at c
  exact a.trans (b.trans c)
end Go.Proofs.Ytkhpaldbdpfpiaa

/- What OnesCount64, TrailingZeros64 and Len64, and num's Ones, Low and High answer. -/
namespace Go.Proofs.Ytkhpaldbdpfpiaa
open Go.RowKit

theorem ones_raw (x x1 x2 x3 x4 x5 x6 r : Int) (w : World)
    (e1 : IntKind.u64.wrap (bits .and .u64 (x / 2) 6148914691236517205 + bits .and .u64 x 6148914691236517205) = x1)
    (e2 : IntKind.u64.wrap (bits .and .u64 (x1 / 4) 3689348814741910323 + bits .and .u64 x1 3689348814741910323) = x2)
    (e3 : bits .and .u64 (IntKind.u64.wrap (x2 / 16 + x2)) 1085102592571150095 = x3)
    (e4 : IntKind.u64.wrap (x3 + x3 / 256) = x4) (e5 : IntKind.u64.wrap (x4 + x4 / 65536) = x5) (e6 : IntKind.u64.wrap (x5 + x5 / 4294967296) = x6)
    (e7 : bits .and .i64 (wrap64 x6) 127 = r) :
    Calls Try.prog 36 #[.int .u64 x] w fun e w' => e = .returned (.int .i64 r) ∧ w = w' := by
  go_enter Try.func36, Try.ntmps36
  go_wp2
  go_ret
  exact ⟨rfl, rfl⟩
theorem wrap_nat {a : Nat} {A : Int} (e : A = (a : Int)) (h : a < 2 ^ 64) : IntKind.u64.wrap A = (a : Int) := by rw [wrapU, e]; omega
theorem and_lit {a c : Nat} {A C : Int} (eA : A = (a : Int)) (eC : C = (c : Int)) (ha : a < 2 ^ 64) (hc : c < 2 ^ 64) : bits .and .u64 A C = ((a &&& c : Nat) : Int) := by
  subst eA eC
  exact and_eq ha hc
theorem DLE_top {w D : Nat} : ∀ (n x : Nat), DLE w D (n + 1) x → x / 2 ^ (w * n) % 2 ^ w ≤ D
  | 0, x, h => by simpa using h.1
  | n + 1, x, h => by
    have := DLE_top n (x / 2 ^ w) h.2
    rw [Nat.div_div_eq_div_mul, ← Nat.pow_add, show w + w * n = w * (n + 1) by rw [Nat.mul_add, Nat.mul_one, Nat.add_comm]] at this
    exact this
theorem last127 (y p : Nat) (h : y % 128 = p) : bits .and .i64 (wrap64 (y : Int)) 127 = (p : Int) := by
  rw [and127]
  unfold wrap64
  omega
theorem onescount_ok (X : Nat) (hX : X < 2 ^ 64) (w : World) : Calls Try.prog 36 #[.int .u64 (X : Int)] w fun e w' => e = .returned (.int .i64 ((POP X : Nat) : Int)) ∧ w = w' := by
  have h1 : X1 X < 2 ^ 64 := by rw [X1_eq]; exact ADDF_lt (k := 1) (by decide) 32 _
  have h2 := X2_lt X
  have h3 := X3_lt X
  have h16 : X2 X / 16 + X2 X < 2 ^ 64 := by
    have ht := DLE_top 15 (X2 X) (X2_le X)
    simp only [Nat.reducePow, Nat.reduceMul] at ht h2 ⊢
    generalize X2 X = y at *
    omega
  have hl := pop_last h3 (X3_le X)
  rw [X3_sum] at hl
  have hlt := hl.2
  have hle4 : X3 X + X3 X / 256 < 2 ^ 64 := Nat.lt_of_le_of_lt (by generalize X3 X + X3 X / 256 = y; omega) hlt
  have hle5 : X3 X + X3 X / 256 + (X3 X + X3 X / 256) / 65536 < 2 ^ 64 := Nat.lt_of_le_of_lt (by generalize X3 X + X3 X / 256 + (X3 X + X3 X / 256) / 65536 = y; omega) hlt
  refine ones_raw X (X1 X : Nat) (X2 X : Nat) (X3 X : Nat) (X3 X + X3 X / 256 : Nat) (X3 X + X3 X / 256 + (X3 X + X3 X / 256) / 65536 : Nat) (X3 X + X3 X / 256 + (X3 X + X3 X / 256) / 65536 + (X3 X + X3 X / 256 + (X3 X + X3 X / 256) / 65536) / 4294967296 : Nat) _ w ?_ ?_ ?_ ?_ ?_ ?_ ?_
  · have a1 : bits .and .u64 ((X : Int) / 2) 6148914691236517205 = ((X / 2 &&& 6148914691236517205 : Nat) : Int) := and_lit (by simp) rfl (by omega) (by decide)
    have a2 : bits .and .u64 (X : Int) 6148914691236517205 = ((X &&& 6148914691236517205 : Nat) : Int) := and_lit rfl rfl hX (by decide)
    rw [a1, a2]
    exact wrap_nat (by unfold X1; rw [Int.natCast_add]) h1
  · have a1 : bits .and .u64 (((X1 X : Nat) : Int) / 4) 3689348814741910323 = ((X1 X / 4 &&& 3689348814741910323 : Nat) : Int) := and_lit (by simp) rfl (by omega) (by decide)
    have a2 : bits .and .u64 ((X1 X : Nat) : Int) 3689348814741910323 = ((X1 X &&& 3689348814741910323 : Nat) : Int) := and_lit rfl rfl h1 (by decide)
    rw [a1, a2]
    exact wrap_nat (by unfold X2; rw [Int.natCast_add]) h2
  · have a0 : IntKind.u64.wrap (((X2 X : Nat) : Int) / 16 + ((X2 X : Nat) : Int)) = ((X2 X / 16 + X2 X : Nat) : Int) := wrap_nat (by simp) h16
    rw [a0]
    exact and_lit rfl rfl h16 (by decide)
  · exact wrap_nat (by simp) hle4
  · exact wrap_nat (by simp) hle5
  · exact wrap_nat (by simp) hlt
  · exact last127 _ _ hl.1
end Go.Proofs.Ytkhpaldbdpfpiaa

/- One step of the hash, plainly: words of 32 bits as numbers; no Go in sight. -/
namespace Go.Proofs.Ytkhpaldbdpfpiaa
open Go.RowKit

/-- x turned right by n bits. -/
def ROTR (n x : Nat) : Nat := x / 2 ^ n + x % 2 ^ n * 2 ^ (32 - n)
def MIX (i j k x : Nat) : Nat := ROTR i x ^^^ ROTR j x ^^^ ROTR k x
def CHO (x y z : Nat) : Nat := (x &&& y) ^^^ ((4294967295 - x) &&& z)
def MAJ (x y z : Nat) : Nat := (x &&& y) ^^^ (x &&& z) ^^^ (y &&& z)
/-- the round constants. -/
def KLIST : List Nat := [1116352408, 1899447441, 3049323471, 3921009573, 961987163, 1508970993, 2453635748, 2870763221, 3624381080, 310598401, 607225278, 1426881987, 1925078388, 2162078206, 2614888103, 3248222580, 3835390401, 4022224774, 264347078, 604807628, 770255983, 1249150122, 1555081692, 1996064986, 2554220882, 2821834349, 2952996808, 3210313671, 3336571891, 3584528711, 113926993, 338241895, 666307205, 773529912, 1294757372, 1396182291, 1695183700, 1986661051, 2177026350, 2456956037, 2730485921, 2820302411, 3259730800, 3345764771, 3516065817, 3600352804, 4094571909, 275423344, 430227734, 506948616, 659060556, 883997877, 958139571, 1322822218, 1537002063, 1747873779, 1955562222, 2024104815, 2227730452, 2361852424, 2428436474, 2756734187, 3204031479, 3329325298]
def KC (t : Nat) : Nat := KLIST.getD t 0
/-- eight words. -/
structure ST where
  a : Nat
  b : Nat
  c : Nat
  d : Nat
  e : Nat
  f : Nat
  g : Nat
  h : Nat
def T1 (k x : Nat) (s : ST) : Nat := (s.h + MIX 6 11 25 s.e + CHO s.e s.f s.g + k + x) % 4294967296
def T2 (s : ST) : Nat := (MIX 2 13 22 s.a + MAJ s.a s.b s.c) % 4294967296
/-- the i-th of eight words. -/
def ST.at (s : ST) : Nat → Nat
  | 0 => s.a
  | 1 => s.b
  | 2 => s.c
  | 3 => s.d
  | 4 => s.e
  | 5 => s.f
  | 6 => s.g
  | 7 => s.h
  | _ => 0
end Go.Proofs.Ytkhpaldbdpfpiaa

/- Slices of bytes: rows of cells by a function; what a slice reads as. -/
namespace Go.Proofs.Ytkhpaldbdpfpiaa
open Go.RowKit

theorem info_u8 : (Try.prog.info? 5).map (fun i => (i.zero, i.size, i.bytes)) = some (some (.int .u8 0), 1, 1) := by kernel_rfl
/-- a slice that came in: nil, or a row of cells, each a byte. -/
def IsRow (k : IntKind) (w : World) (a : Option Addr) (len cap : Nat) (zs : List Int) : Prop :=
  (a = none ∧ len = 0 ∧ cap = 0 ∧ zs = []) ∨
  ∃ x, a = some x ∧ len ≤ cap ∧ cap ≤ maxLen ∧ zs.length = cap ∧ (∀ i, i < zs.length → w.cell? (x.add i) = some (.int k (zs.getD i 0))) ∧ ∀ n ∈ zs, (Lit.int k n).wf = true

/-- a slice of n bytes reads as l. -/
def Bytes (w : World) (a : Option Addr) (n : Nat) (l : List Int) : Prop :=
  l.length = n ∧ (0 < n → ∃ b off, a = some ⟨b, off, none⟩ ∧ b < w.heap.size ∧ ∀ i, i < n → w.cell? ⟨b, off + i, none⟩ = some (.int .u8 (l.getD i 0))) ∧ ∀ x ∈ l, 0 ≤ x ∧ x ≤ 255
theorem Bytes.below {w w' : World} {a : Option Addr} {n : Nat} {l : List Int} (h : Bytes w a n l) (hb : Below w.heap.size w w') : Bytes w' a n l :=
  ⟨h.1, fun hn => by
    obtain ⟨b, off, e, hl, hc⟩ := h.2.1 hn
    exact ⟨b, off, e, Nat.lt_of_lt_of_le hl hb.size, fun i hi => (hb.cell (by exact hl)).trans (hc i hi)⟩, h.2.2⟩
theorem Bytes.get {w : World} {a : Option Addr} {n : Nat} {l : List Int} (h : Bytes w a n l) (i : Nat) : 0 ≤ l.getD i 0 ∧ l.getD i 0 ≤ 255 := by
  by_cases hi : i < l.length
  · rw [List.getD_eq_getElem?_getD, List.getElem?_eq_getElem hi]
    exact h.2.2 _ (List.getElem_mem hi)
  · rw [List.getD_eq_getElem?_getD, List.getElem?_eq_none (by omega)]
    simp
theorem addr_add (b off i : Nat) : (⟨b, off, none⟩ : Addr).add i = ⟨b, off + i, none⟩ := by unfold Addr.add; split <;> simp_all
theorem IsRow.bytes {w : World} {a : Option Addr} {n c : Nat} {zs : List Int} (h : IsRow .u8 w a n c zs) : Bytes w a n (zs.take n) := by
  rcases h with ⟨rfl, rfl, rfl, rfl⟩ | ⟨x, rfl, hl, _, hz, hcell, hwf⟩
  · exact ⟨rfl, fun h => by omega, fun x hx => by simp at hx⟩
  · refine ⟨by simp [hz, hl], fun hn => ?_, fun y hy => ?_⟩
    · obtain ⟨b, off, spot⟩ := x
      have hc := hcell 0 (by omega)
      have hspot : spot = none := by simpa [Addr.add] using World.cell?_spot hc
      subst hspot
      refine ⟨b, off, rfl, block_lt_of_cell (by simpa [Addr.add] using hc), fun i hi => ?_⟩
      have := hcell i (by omega)
      rw [addr_add] at this
      rw [this]
      congr 2
      simp [List.getD_eq_getElem?_getD, hi]
    · have := bounds_u8 (hwf y (List.mem_of_mem_take hy))
      exact this

end Go.Proofs.Ytkhpaldbdpfpiaa

/- What the small functions of package hash on words answer. -/
namespace Go.Proofs.Ytkhpaldbdpfpiaa
open Go.RowKit

end Go.Proofs.Ytkhpaldbdpfpiaa

/- Arrays of small numbers by a function; blocks of one's own in a world that is a variable. -/
namespace Go.Proofs.Ytkhpaldbdpfpiaa
open Go.RowKit

/-- n cells, each a number of the kind k. -/
def UARR (k : IntKind) (n : Nat) (f : Nat → Nat) : Array Value := ((List.range n).map fun i => Value.int k ((f i : Nat) : Int)).toArray
theorem UARR_size (k : IntKind) (n : Nat) (f : Nat → Nat) : (UARR k n f).size = n := by simp [UARR]
theorem UARR_get (k : IntKind) (n : Nat) (f : Nat → Nat) (i : Nat) (h : i < n) : (UARR k n f)[i]? = some (.int k ((f i : Nat) : Int)) := by simp [UARR, h]
theorem UARR_ext {k : IntKind} {n : Nat} {f g : Nat → Nat} (h : ∀ i, i < n → f i = g i) : UARR k n f = UARR k n g := by
  unfold UARR
  congr 1
  apply List.map_congr_left
  intro i hi
  rw [h i (by simpa using hi)]
theorem UARR_set (k : IntKind) (n : Nat) (f : Nat → Nat) (i : Nat) (v : Nat) : (UARR k n f).setIfInBounds i (.int k (v : Int)) = UARR k n fun j => if j = i then v else f j := by
  apply Array.ext_getElem?
  intro j
  by_cases hj : j < n
  · rw [UARR_get _ _ _ j hj, Array.getElem?_setIfInBounds]
    by_cases h : i = j
    · subst h
      simp [UARR_size, hj]
    · have h' : ¬ j = i := fun e => h e.symm
      simp [h, h', UARR_get _ _ _ j hj]
  · rw [Array.getElem?_eq_none (by simp [UARR_size]; omega), Array.getElem?_eq_none (by simp [UARR_size]; omega)]
theorem UARR_one (k : IntKind) (n : Nat) (f : Nat → Nat) : (UARR k n f).all (·.oneCell') = true := by
  apply Array.all_eq_true_iff_forall_mem.2
  intro v hv
  simp [UARR] at hv
  obtain ⟨i, _, rfl⟩ := hv
  rfl
theorem info_hash : (Try.prog.info? 32).map (·.size) = some 32 := by kernel_rfl
theorem info_HASH (f : Nat → Nat) : (Try.prog.info? 32).map (·.size) = some (UARR .u8 32 f).size := by rw [UARR_size]; exact info_hash
/-- the block g holds the cells c. -/
def Has (w : World) (g : Nat) (c : Array Value) (t : TypeId) : Prop := w.heap[g]? = some (.cells c t)
theorem Has.cell {w : World} {g : Nat} {c : Array Value} {t : TypeId} (h : Has w g c t) (i : Nat) : w.cell? ⟨g, i, none⟩ = c[i]? := cell_of_row w g i c t _ h
theorem Has.lt {w : World} {g : Nat} {c : Array Value} {t : TypeId} (h : Has w g c t) : g < w.heap.size := (Array.getElem?_eq_some_iff.1 h).1
theorem Has.frozen {w : World} {g : Nat} {c : Array Value} {t : TypeId} (h : Has w g c t) (i : Nat) : w.frozen? ⟨g, i, none⟩ = false := by
  have e : w.heap[g]? = some (.cells c t) := h
  simp [World.frozen?, e]
theorem Has.set {w : World} {g : Nat} {c : Array Value} {t : TypeId} (h : Has w g c t) (i : Nat) (v : Value) : Has (w.setCell ⟨g, i, none⟩ v) g (c.setIfInBounds i v) t := by
  have e : w.heap[g]? = some (.cells c t) := h
  unfold Has
  rw [setCell_eq_setRow w g i c t _ v e, setRow_heap w g c _ t _ e]
theorem Has.other {w : World} {g : Nat} {c : Array Value} {t : TypeId} (h : Has w g c t) {a : Addr} (ha : g ≠ a.block) (v : Value) : Has (w.setCell a v) g c t := by
  have e : w.heap[g]? = some (.cells c t) := h
  unfold Has
  rw [Below.heap_setCell w a v g ha, e]
theorem Has.below {B : Nat} {w w' : World} {g : Nat} {c : Array Value} {t : TypeId} (h : Has w g c t) (hb : Below B w w') (hg : g < B) : Has w' g c t := (hb.block g hg).trans h
theorem Has.keep {w w' : World} {g : Nat} {c : Array Value} {t : TypeId} (h : Has w g c t) (hb : Below w.heap.size w w') : Has w' g c t := h.below hb h.lt
theorem Has.alloc {w : World} {g : Nat} {c : Array Value} {t : TypeId} (h : Has w g c t) (o : Obj) : Has (w.alloc o) g c t := by
  have e : w.heap[g]? = some (.cells c t) := h
  unfold Has
  rw [Below.heap_alloc w o g h.lt, e]
theorem Has.new (w : World) (c : Array Value) (t : TypeId) : Has (w.alloc (.cells c t)) w.heap.size c t := heap_alloc_new w _
theorem Has.at (w : World) (c : Array Value) (t : TypeId) {g : Nat} (hg : g = w.heap.size) : Has (w.alloc (.cells c t)) g c t := by subst hg; exact Has.new w c t
theorem Has.row {w : World} {g : Nat} {c : Array Value} {t : TypeId} (h : Has w g c t) (c' : Array Value) : Has (w.setRow g c') g c' t := setRow_heap w g c c' t _ h
theorem set_off {w : World} {b i j : Nat} (h : i ≠ j) (v : Value) : (w.setCell ⟨b, i, none⟩ v).cell? ⟨b, j, none⟩ = w.cell? ⟨b, j, none⟩ := World.cell?_setCell_other w _ _ v (fun e => h (congrArg Addr.off e))
theorem below_row {B g : Nat} {w0 w : World} (hb : Below B w0 w) (hBg : B ≤ g) (cs : Array Value) : Below B w0 (w.setRow g cs) :=
  ⟨hb.os, hb.tape, hb.output, by have := hb.size; simpa [World.setRow] using this, fun k hk => by rw [setRow_other w g k cs (by omega)]; exact hb.block k hk⟩

end Go.Proofs.Ytkhpaldbdpfpiaa

/- What schedule of package hash answers. -/
namespace Go.Proofs.Ytkhpaldbdpfpiaa
open Go.RowKit

end Go.Proofs.Ytkhpaldbdpfpiaa

/- What joined and narrow of package hash answer. -/
namespace Go.Proofs.Ytkhpaldbdpfpiaa
open Go.RowKit

/-- cells that are written one behind the other. -/
theorem Has.cells {k : IntKind} {n g : Nat} {t : TypeId} : ∀ (vs : List Nat) (o : Nat) (f : Nat → Nat) (w : World), Has w g (UARR k n f) t →
    Has (w.setCells g o (vs.map fun v => Value.int k ((v : Nat) : Int))) g (UARR k n fun j => if o ≤ j ∧ j < o + vs.length then vs.getD (j - o) 0 else f j) t
  | [], o, f, w, h => by
    have e : (UARR k n fun j => if o ≤ j ∧ j < o + ([] : List Nat).length then ([] : List Nat).getD (j - o) 0 else f j) = UARR k n f := UARR_ext fun j _ => if_neg (by rw [List.length_nil]; omega)
    rw [e]
    exact h
  | v :: vs, o, f, w, h => by
    have h1 := Has.cells vs (o + 1) _ _ (UARR_set k n f o v ▸ h.set o (.int k (v : Int)))
    have e : (UARR k n fun j => if o + 1 ≤ j ∧ j < o + 1 + vs.length then vs.getD (j - (o + 1)) 0 else if j = o then v else f j) = UARR k n fun j => if o ≤ j ∧ j < o + (v :: vs).length then (v :: vs).getD (j - o) 0 else f j := UARR_ext fun j _ => by
      rw [List.length_cons]
      by_cases e : j = o
      · subst e
        rw [if_neg (by omega), if_pos rfl, if_pos (by omega), Nat.sub_self]
        rfl
      · rw [if_neg e]
        by_cases e2 : o + 1 ≤ j ∧ j < o + 1 + vs.length
        · rw [if_pos e2, if_pos (by omega)]
          obtain ⟨q, hq⟩ : ∃ q, j - o = q + 1 := ⟨j - o - 1, by omega⟩
          rw [hq, show j - (o + 1) = q by omega]
          rfl
        · rw [if_neg e2, if_neg (by omega)]
    rw [e] at h1
    exact h1
theorem below_cells {B b : Nat} {w0 : World} (hB : B ≤ b) : ∀ (vs : List Value) (o : Nat) (w : World), Below B w0 w → Below B w0 (w.setCells b o vs)
  | [], _, _, h => h
  | _ :: vs, o, _, h => below_cells hB vs (o + 1) _ (h.setCell (by exact hB) _)
end Go.Proofs.Ytkhpaldbdpfpiaa

/- What Compress of package hash answers: one step of the hash. -/
namespace Go.Proofs.Ytkhpaldbdpfpiaa
open Go.RowKit

def BEGIN : List Nat := [1779033703, 3144134277, 1013904242, 2773480762, 1359893119, 2600822924, 528734635, 1541459225]
/-- the two tables of package hash lie there. -/
def Tabled (w : World) : Prop := (∀ i, i < 64 → w.cell? ⟨0, i, none⟩ = some (.int .u32 (KC i : Nat))) ∧ (∀ i, i < 8 → w.cell? ⟨0, i, none⟩ = some (.int .u32 (BEGIN.getD i 0 : Nat))) ∧ 0 < w.heap.size
theorem Tabled.below {w w' : World} (h : Tabled w) (hb : Below w.heap.size w w') : Tabled w' :=
  ⟨fun i hi => (hb.cell (by show 0 < w.heap.size; have := h.2.2; omega)).trans (h.1 i hi), fun i hi => (hb.cell (by show 0 < w.heap.size; have := h.2.2; omega)).trans (h.2.1 i hi), Nat.lt_of_lt_of_le h.2.2 hb.size⟩
end Go.Proofs.Ytkhpaldbdpfpiaa

/- The cells of a Hasher, and what it is of a text. -/
namespace Go.Proofs.Ytkhpaldbdpfpiaa
open Go.RowKit

/-- n cells as a list. -/
def ULIST (k : IntKind) (n : Nat) (f : Nat → Nat) : List Value := (List.range n).map fun i => Value.int k ((f i : Nat) : Int)
theorem UARR_list (k : IntKind) (n : Nat) (f : Nat → Nat) : UARR k n f = (ULIST k n f).toArray := rfl
theorem ULIST_length (k : IntKind) (n : Nat) (f : Nat → Nat) : (ULIST k n f).length = n := by simp [ULIST]
theorem ULIST_get (k : IntKind) (n : Nat) (f : Nat → Nat) (i : Nat) (h : i < n) : (ULIST k n f)[i]? = some (.int k (f i : Nat)) := by simp [ULIST, h]
theorem ULIST_one (k : IntKind) (n : Nat) (f : Nat → Nat) : ∀ v ∈ ULIST k n f, v.oneCell' = true := fun v hv => by
  simp [ULIST] at hv
  obtain ⟨i, _, rfl⟩ := hv
  rfl
/-! texts and states -/
/-- bytes. -/
def Small8 (l : List Nat) : Prop := ∀ x ∈ l, x < 256
theorem Small8.get {l : List Nat} (h : Small8 l) (i : Nat) : l.getD i 0 < 256 := by
  by_cases hi : i < l.length
  · rw [List.getD_eq_getElem?_getD, List.getElem?_eq_getElem hi]
    exact h _ (List.getElem_mem hi)
  · rw [List.getD_eq_getElem?_getD, List.getElem?_eq_none (by omega)]
    decide
/-- a slice of n bytes reads as l. -/
def Text (w : World) (a : Option Addr) (n : Nat) (l : List Nat) : Prop :=
  l.length = n ∧ (0 < n → ∃ b off, a = some ⟨b, off, none⟩ ∧ b < w.heap.size ∧ ∀ i, i < n → w.cell? ⟨b, off + i, none⟩ = some (.int .u8 ((l.getD i 0 : Nat) : Int))) ∧ Small8 l
theorem Text.keep {w w' : World} {a : Option Addr} {n : Nat} {l : List Nat} (h : Text w a n l) (hb : ∀ b off, a = some ⟨b, off, none⟩ → b < w.heap.size → w'.heap[b]? = w.heap[b]? ∧ b < w'.heap.size) : Text w' a n l :=
  ⟨h.1, fun hn => by
    obtain ⟨b, off, e, hl, hc⟩ := h.2.1 hn
    obtain ⟨h1, h2⟩ := hb b off e hl
    exact ⟨b, off, e, h2, fun i hi => (World.cell?_of_block (w := w) (by exact h1)).trans (hc i hi)⟩, h.2.2⟩
theorem Text.below {w w' : World} {a : Option Addr} {n : Nat} {l : List Nat} (h : Text w a n l) (hb : Below w.heap.size w w') : Text w' a n l :=
  h.keep fun b _ _ hl => ⟨hb.block b hl, Nat.lt_of_lt_of_le hl hb.size⟩
theorem Text.grown {w w' : World} {a : Option Addr} {n g : Nat} {l : List Nat} (h : Text w a n l) (hg : w.grownBy w' (some g)) (hs : ∀ x, a = some x → x.block ≠ g) : Text w' a n l :=
  h.keep fun b off e hl => ⟨hg.block b hl (fun e2 => hs _ e (by simpa using e2)), Nat.lt_of_lt_of_le hl hg.size⟩
end Go.Proofs.Ytkhpaldbdpfpiaa
