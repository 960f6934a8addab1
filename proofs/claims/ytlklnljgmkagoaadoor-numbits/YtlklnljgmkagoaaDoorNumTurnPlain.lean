/- Plain facts on turned numbers, on bits and bytes the other way round; no Go in sight. -/
import Derived.Test.YtlklnljgmkagoaaDoorNumPlain
namespace Go.Proofs.YtlklnljgmkagoaaDoor
open Go.RowKit

/-- bits that lie k places apart change places. -/
def SW (k m x : Nat) : Nat := ((x / 2 ^ k) &&& m) ||| ((x &&& m) * 2 ^ k % 2 ^ 64)
def SW32 (x : Nat) : Nat := (x / 2 ^ 32) ||| (x * 2 ^ 32 % 2 ^ 64)
def REVB (x : Nat) : Nat := SW32 (SW 16 281470681808895 (SW 8 71777214294589695 x))
def REV (x : Nat) : Nat := REVB (SW 4 1085102592571150095 (SW 2 3689348814741910323 (SW 1 6148914691236517205 x)))
def TURN (x : Nat) (n : Int) : Nat := (x * 2 ^ (n % 64).toNat % 2 ^ 64) ||| (x / 2 ^ (64 - (n % 64).toNat))

theorem eq_of_bits {x y : Nat} (hx : x < 2 ^ 64) (hy : y < 2 ^ 64) (h : ∀ i, i < 64 → x.testBit i = y.testBit i) : x = y := by
  apply Nat.eq_of_testBit_eq; intro i
  by_cases hi : i < 64
  · exact h i hi
  · rw [bit_high hx (by omega), bit_high hy (by omega)]
theorem div_lt {x : Nat} (hx : x < 2 ^ 64) (k : Nat) : x / 2 ^ k < 2 ^ 64 := Nat.lt_of_le_of_lt (Nat.div_le_self _ _) hx
theorem mod_lt64 (x : Nat) : x % 2 ^ 64 < 2 ^ 64 := Nat.mod_lt _ (by decide)
theorem SW_lt {k m x : Nat} (hx : x < 2 ^ 64) : SW k m x < 2 ^ 64 := Nat.or_lt_two_pow (Nat.lt_of_le_of_lt Nat.and_le_left (div_lt hx _)) (mod_lt64 _)
theorem SW32_lt {x : Nat} (hx : x < 2 ^ 64) : SW32 x < 2 ^ 64 := Nat.or_lt_two_pow (div_lt hx _) (mod_lt64 _)
theorem REVB_lt {x : Nat} (hx : x < 2 ^ 64) : REVB x < 2 ^ 64 := SW32_lt (SW_lt (SW_lt hx))
theorem REV_lt {x : Nat} (hx : x < 2 ^ 64) : REV x < 2 ^ 64 := REVB_lt (SW_lt (SW_lt (SW_lt hx)))
theorem TURN_lt {x : Nat} (hx : x < 2 ^ 64) (n : Int) : TURN x n < 2 ^ 64 := Nat.or_lt_two_pow (mod_lt64 _) (div_lt hx _)

theorem bit_SW {k m x : Nat} (hm : ∀ i, i < 64 → m.testBit i = decide (i / k % 2 = 0)) (hk : ∀ i, i < 64 → (i / k % 2 = 0 → i ^^^ k = i + k) ∧ (i / k % 2 ≠ 0 → k ≤ i ∧ i ^^^ k = i - k ∧ (i - k) / k % 2 = 0)) (hk2 : ∀ i, i < 64 → k ≤ i → i / k % 2 = 0 → (i - k) / k % 2 ≠ 0)
    {i : Nat} (hi : i < 64) : (SW k m x).testBit i = x.testBit (i ^^^ k) := by
  unfold SW
  rw [Nat.testBit_or, Nat.testBit_and, ← Nat.shiftRight_eq_div_pow, Nat.testBit_shiftRight, ← Nat.shiftLeft_eq, Nat.testBit_mod_two_pow, Nat.testBit_shiftLeft, Nat.testBit_and, hm i hi]
  by_cases h : i / k % 2 = 0
  · rw [(hk i hi).1 h]
    by_cases hki : k ≤ i
    · have := hk2 i hi hki h
      have hm' := hm (i - k) (by omega)
      simp [h, this, hm', Nat.add_comm]
    · simp [h, hki, Nat.add_comm]
  · obtain ⟨h1, h2, h3⟩ := (hk i hi).2 h
    have hm' := hm (i - k) (by omega)
    rw [h2]
    simp [h, h1, h3, hm', hi]
theorem bit_SW1 {x i : Nat} (hi : i < 64) : (SW 1 6148914691236517205 x).testBit i = x.testBit (i ^^^ 1) := bit_SW (by decide) (by decide) (by decide) hi
theorem bit_SW2 {x i : Nat} (hi : i < 64) : (SW 2 3689348814741910323 x).testBit i = x.testBit (i ^^^ 2) := bit_SW (by decide) (by decide) (by decide) hi
theorem bit_SW4 {x i : Nat} (hi : i < 64) : (SW 4 1085102592571150095 x).testBit i = x.testBit (i ^^^ 4) := bit_SW (by decide) (by decide) (by decide) hi
theorem bit_SW8 {x i : Nat} (hi : i < 64) : (SW 8 71777214294589695 x).testBit i = x.testBit (i ^^^ 8) := bit_SW (by decide) (by decide) (by decide) hi
theorem bit_SW16 {x i : Nat} (hi : i < 64) : (SW 16 281470681808895 x).testBit i = x.testBit (i ^^^ 16) := bit_SW (by decide) (by decide) (by decide) hi
theorem bit_SW32 {x i : Nat} (hx : x < 2 ^ 64) (hi : i < 64) : (SW32 x).testBit i = x.testBit (i ^^^ 32) := by
  unfold SW32
  rw [Nat.testBit_or, ← Nat.shiftRight_eq_div_pow, Nat.testBit_shiftRight, ← Nat.shiftLeft_eq, Nat.testBit_mod_two_pow, Nat.testBit_shiftLeft]
  have hk : ∀ i, i < 64 → (i < 32 → i ^^^ 32 = i + 32) ∧ (32 ≤ i → i ^^^ 32 = i - 32) := by decide
  by_cases h : i < 32
  · rw [(hk i hi).1 h]
    simp [show ¬ 32 ≤ i by omega, Nat.add_comm]
  · rw [(hk i hi).2 (by omega), bit_high hx (by omega)]
    simp [show 32 ≤ i by omega, hi]
theorem xor_lt64 : ∀ k, k < 64 → ∀ i, i < 64 → i ^^^ k < 64 := fun _ hk _ hi => Nat.xor_lt_two_pow (n := 6) hi hk
theorem bit_REVB {x i : Nat} (hx : x < 2 ^ 64) (hi : i < 64) : (REVB x).testBit i = x.testBit (i ^^^ 56) := by
  unfold REVB
  have h1 : i ^^^ 32 < 64 := xor_lt64 _ (by decide) i hi
  have h2 : i ^^^ 32 ^^^ 16 < 64 := xor_lt64 _ (by decide) _ h1
  rw [bit_SW32 (SW_lt (SW_lt hx)) hi, bit_SW16 h1, bit_SW8 h2, Nat.xor_assoc, Nat.xor_assoc]; rfl
theorem bit_REV {x i : Nat} (hx : x < 2 ^ 64) (hi : i < 64) : (REV x).testBit i = x.testBit (63 - i) := by
  unfold REV
  have h1 : i ^^^ 56 < 64 := xor_lt64 _ (by decide) i hi
  have h2 : i ^^^ 56 ^^^ 4 < 64 := xor_lt64 _ (by decide) _ h1
  have h3 : i ^^^ 56 ^^^ 4 ^^^ 2 < 64 := xor_lt64 _ (by decide) _ h2
  have h63 : ∀ i, i < 64 → i ^^^ 63 = 63 - i := by decide
  rw [bit_REVB (SW_lt (SW_lt (SW_lt hx))) hi, bit_SW4 h1, bit_SW2 h2, bit_SW1 h3, Nat.xor_assoc, Nat.xor_assoc, Nat.xor_assoc, ← h63 i hi]; rfl
theorem REV_REV {x : Nat} (hx : x < 2 ^ 64) : REV (REV x) = x :=
  eq_of_bits (REV_lt (REV_lt hx)) hx fun i hi => by rw [bit_REV (REV_lt hx) hi, bit_REV hx (by omega), show 63 - (63 - i) = i by omega]
theorem REVB_REVB {x : Nat} (hx : x < 2 ^ 64) : REVB (REVB x) = x :=
  eq_of_bits (REVB_lt (REVB_lt hx)) hx fun i hi => by rw [bit_REVB (REVB_lt hx) hi, bit_REVB hx (xor_lt64 _ (by decide) i hi), Nat.xor_assoc, Nat.xor_self, Nat.xor_zero]
theorem bit_TURN {x : Nat} (hx : x < 2 ^ 64) (n : Int) {i : Nat} (hi : i < 64) : (TURN x n).testBit i = x.testBit (((i : Int) - n) % 64).toNat := by
  unfold TURN
  have hu : 0 ≤ n % 64 ∧ n % 64 < 64 := by omega
  rw [Nat.testBit_or, ← Nat.shiftRight_eq_div_pow, Nat.testBit_shiftRight, ← Nat.shiftLeft_eq, Nat.testBit_mod_two_pow, Nat.testBit_shiftLeft]
  by_cases h : (n % 64).toNat ≤ i
  · rw [show (((i : Int) - n) % 64).toNat = i - (n % 64).toNat by omega, bit_high hx (show 64 ≤ 64 - (n % 64).toNat + i by omega)]
    simp [h, hi]
  · rw [show (((i : Int) - n) % 64).toNat = 64 - (n % 64).toNat + i by omega]
    simp [h]
theorem TURN_TURN {x : Nat} (hx : x < 2 ^ 64) (n m : Int) : TURN (TURN x n) m = TURN x (n + m) :=
  eq_of_bits (TURN_lt (TURN_lt hx _) _) (TURN_lt hx _) fun i hi => by
    rw [bit_TURN (TURN_lt hx _) _ hi, bit_TURN hx _ (by omega), bit_TURN hx _ hi]
    congr 1; omega
theorem TURN_back {x : Nat} (hx : x < 2 ^ 64) (n : Int) : TURN (TURN x n) (-n) = x :=
  eq_of_bits (TURN_lt (TURN_lt hx _) _) hx fun i hi => by
    rw [bit_TURN (TURN_lt hx _) _ hi, bit_TURN hx _ (by omega)]
    congr 1; omega

/-! what the walk writes -/
theorem sw_raw_eq {x : Nat} (hx : x < 2 ^ 64) {m : Nat} (hm : m < 2 ^ 64) (k : Nat) {M P : Int} (hM : M = (m : Int)) (hP : P = ((2 ^ k : Nat) : Int)) :
    bits .or .u64 (bits .and .u64 ((x : Int) / P) M) (IntKind.u64.wrap (bits .and .u64 (x : Int) M * P)) = ((SW k m x : Nat) : Int) := by
  subst hM hP
  rw [and_eq hx hm, show (x : Int) / ((2 ^ k : Nat) : Int) = ((x / 2 ^ k : Nat) : Int) by simp, and_eq (div_lt hx k) hm, wrapU,
    show ((x &&& m : Nat) : Int) * ((2 ^ k : Nat) : Int) % 2 ^ 64 = (((x &&& m) * 2 ^ k % 2 ^ 64 : Nat) : Int) by simp,
    or_eq (Nat.lt_of_le_of_lt Nat.and_le_left (div_lt hx _)) (mod_lt64 _)]
  rfl
theorem sw32_raw_eq {x : Nat} (hx : x < 2 ^ 64) : bits .or .u64 ((x : Int) / 4294967296) (IntKind.u64.wrap ((x : Int) * 4294967296)) = ((SW32 x : Nat) : Int) := by
  rw [show (x : Int) / 4294967296 = ((x / 2 ^ 32 : Nat) : Int) by simp, wrapU, show (x : Int) * 4294967296 % 2 ^ 64 = ((x * 2 ^ 32 % 2 ^ 64 : Nat) : Int) by simp, or_eq (div_lt hx _) (mod_lt64 _)]
  rfl
theorem turn_up (n : Int) : (IntKind.u64.wrap n).tmod 64 = n % 64 := by
  rw [wrapU, Int.tmod_eq_emod_of_nonneg (by omega)]; omega
end Go.Proofs.YtlklnljgmkagoaaDoor
