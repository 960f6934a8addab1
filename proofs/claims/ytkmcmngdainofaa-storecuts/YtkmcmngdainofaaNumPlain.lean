/- Plain facts on numbers of 64 bits and their bits; no Go in sight. -/
import Derived.WalkKit
import Derived.WalkLawsBesides
import Derived.OpenShut
namespace Go.Proofs.Ytkmcmngdainofaa
open Go.RowKit

/-- x times 2^n, rounded down, modulo 2^64. -/
def SHL (x : Nat) (n : Int) : Nat := if n < 0 then x / 2 ^ (-n).toNat else x * 2 ^ n.toNat % 2 ^ 64
/-- x times 2^-n, rounded down, modulo 2^64. -/
def SHR (x : Nat) (n : Int) : Nat := if n < 0 then x * 2 ^ (-n).toNat % 2 ^ 64 else x / 2 ^ n.toNat
/-- the lowest n bits. -/
def MASK (n : Int) : Nat := 2 ^ min n.toNat 64 - 1
/-- the bits of a that b hasn't. -/
def ANDNOT (a b : Nat) : Nat := a &&& (2 ^ 64 - 1 - b)
def FIELD (x : Nat) (at' n : Int) : Nat := SHR x at' &&& MASK n
def LAY (x : Nat) (at' n : Int) (y : Nat) : Nat := ANDNOT x (SHL (MASK n) at') ||| (SHL y at' &&& SHL (MASK n) at')

theorem SHL_lt {x : Nat} (hx : x < 2 ^ 64) (n : Int) : SHL x n < 2 ^ 64 := by
  unfold SHL
  split
  · exact Nat.lt_of_le_of_lt (Nat.div_le_self _ _) hx
  · exact Nat.mod_lt _ (by decide)
theorem SHR_lt {x : Nat} (hx : x < 2 ^ 64) (n : Int) : SHR x n < 2 ^ 64 := by
  unfold SHR
  split
  · exact Nat.mod_lt _ (by decide)
  · exact Nat.lt_of_le_of_lt (Nat.div_le_self _ _) hx
theorem MASK_lt (n : Int) : MASK n < 2 ^ 64 := by
  unfold MASK
  have h1 : 2 ^ min n.toNat 64 ≤ 2 ^ 64 := Nat.pow_le_pow_right (by decide) (Nat.min_le_right _ _)
  have h2 : 0 < 2 ^ min n.toNat 64 := Nat.two_pow_pos _
  omega
theorem ANDNOT_lt {a : Nat} (ha : a < 2 ^ 64) (b : Nat) : ANDNOT a b < 2 ^ 64 := Nat.lt_of_le_of_lt Nat.and_le_left ha
theorem FIELD_lt {x : Nat} (hx : x < 2 ^ 64) (a n : Int) : FIELD x a n < 2 ^ 64 := Nat.lt_of_le_of_lt Nat.and_le_left (SHR_lt hx _)
theorem LAY_lt {x y : Nat} (hx : x < 2 ^ 64) (hy : y < 2 ^ 64) (a n : Int) : LAY x a n y < 2 ^ 64 :=
  Nat.or_lt_two_pow (ANDNOT_lt hx _) (Nat.lt_of_le_of_lt Nat.and_le_left (SHL_lt hy _))

/-! bit by bit -/
theorem bit_high {x i : Nat} (hx : x < 2 ^ 64) (hi : 64 ≤ i) : x.testBit i = false :=
  Nat.testBit_lt_two_pow (Nat.lt_of_lt_of_le hx (Nat.pow_le_pow_right (by decide) hi))
theorem bit_SHL {x : Nat} (n : Int) (i : Nat) : (SHL x n).testBit i = if n < 0 then x.testBit (i + (-n).toNat) else (decide (i < 64) && (decide (n.toNat ≤ i) && x.testBit (i - n.toNat))) := by
  unfold SHL
  split
  · rw [← Nat.shiftRight_eq_div_pow, Nat.testBit_shiftRight, Nat.add_comm]
  · rw [← Nat.shiftLeft_eq, Nat.testBit_mod_two_pow, Nat.testBit_shiftLeft]
theorem bit_SHR {x : Nat} (n : Int) (i : Nat) : (SHR x n).testBit i = if n < 0 then (decide (i < 64) && (decide ((-n).toNat ≤ i) && x.testBit (i - (-n).toNat))) else x.testBit (i + n.toNat) := by
  unfold SHR
  split
  · rw [← Nat.shiftLeft_eq, Nat.testBit_mod_two_pow, Nat.testBit_shiftLeft]
  · rw [← Nat.shiftRight_eq_div_pow, Nat.testBit_shiftRight, Nat.add_comm]
theorem bit_SHL_pos {x : Nat} {n : Int} (h : 0 ≤ n) (i : Nat) : (SHL x n).testBit i = (decide (i < 64) && (decide (n.toNat ≤ i) && x.testBit (i - n.toNat))) := by
  rw [bit_SHL, if_neg (by omega)]
theorem bit_SHR_pos {x : Nat} {n : Int} (h : 0 ≤ n) (i : Nat) : (SHR x n).testBit i = x.testBit (i + n.toNat) := by
  rw [bit_SHR, if_neg (by omega)]
theorem bit_MASK (n : Int) (i : Nat) : (MASK n).testBit i = (decide (i < 64) && decide ((i : Int) < n)) := by
  unfold MASK
  rw [Nat.testBit_two_pow_sub_one]
  by_cases h1 : i < 64 <;> by_cases h2 : (i : Int) < n <;> simp [h1, h2] <;> omega
theorem bit_ANDNOT {a b : Nat} (hb : b < 2 ^ 64) (i : Nat) : (ANDNOT a b).testBit i = (a.testBit i && (decide (i < 64) && !b.testBit i)) := by
  unfold ANDNOT
  rw [Nat.testBit_and, show 2 ^ 64 - 1 - b = 2 ^ 64 - (b + 1) by omega, Nat.testBit_two_pow_sub_succ hb]
theorem bit_ANDNOT' {a b : Nat} (ha : a < 2 ^ 64) (hb : b < 2 ^ 64) (i : Nat) : (ANDNOT a b).testBit i = (a.testBit i && !b.testBit i) := by
  rw [bit_ANDNOT hb]
  by_cases h : i < 64
  · simp [h]
  · simp [bit_high ha (by omega : 64 ≤ i)]

/-! what the walk writes -/
theorem wf_u64 {x : Int} (h : (Lit.int .u64 x).wf = true) : 0 ≤ x ∧ x < 2 ^ 64 := by
  have := bounds_u64 h
  omega
theorem wf_i64 {x : Int} (h : (Lit.int .i64 x).wf = true) : -(2 ^ 63) ≤ x ∧ x < 2 ^ 63 := by
  have := bounds_i64 h
  omega
theorem pow_big {x k : Nat} (hx : x < 2 ^ 64) (h : 64 ≤ k) : x / 2 ^ k = 0 :=
  Nat.div_eq_of_lt (Nat.lt_of_lt_of_le hx (Nat.pow_le_pow_right (by decide) h))
theorem div_min {x : Nat} (hx : x < 2 ^ 64) (k : Nat) : x / 2 ^ min k 64 = x / 2 ^ k := by
  by_cases h : k ≤ 64
  · rw [Nat.min_eq_left h]
  · rw [Nat.min_eq_right (by omega), pow_big hx (Nat.le_refl _), pow_big hx (by omega)]
theorem mul_min (x k : Nat) : x * 2 ^ min k 64 % 2 ^ 64 = x * 2 ^ k % 2 ^ 64 := by
  by_cases h : k ≤ 64
  · rw [Nat.min_eq_left h]
  · rw [Nat.min_eq_right (by omega), show k = 64 + (k - 64) by omega, Nat.pow_add, Nat.mul_mod_left, ← Nat.mul_assoc, Nat.mul_right_comm, Nat.mul_mod_left]
theorem wrapU (z : Int) : IntKind.u64.wrap z = z % 2 ^ 64 := by rw [IntKind.wrap_u64]; rfl
theorem against_eq (n : Int) (h0 : -(2 ^ 63) ≤ n) (h : n < 0) : (IntKind.u64.wrap (-IntKind.u64.wrap n)).toNat = (-n).toNat := by
  rw [wrapU, wrapU]; omega
theorem up_eq (n : Int) (h0 : n < 2 ^ 63) (h : ¬ n < 0) : (IntKind.u64.wrap n).toNat = n.toNat := by
  rw [wrapU]; omega
theorem div_cast (X k : Nat) : (X : Int) / 2 ^ k = ((X / 2 ^ k : Nat) : Int) := by simp
theorem mul_cast (X k : Nat) : IntKind.u64.wrap ((X : Int) * 2 ^ k) = ((X * 2 ^ k % 2 ^ 64 : Nat) : Int) := by rw [wrapU]; simp
theorem shl_raw_eq {X : Nat} (hX : X < 2 ^ 64) {n : Int} (h0 : -(2 ^ 63) ≤ n) (h1 : n < 2 ^ 63) :
    (if n < 0 then (X : Int) / 2 ^ min (IntKind.u64.wrap (-IntKind.u64.wrap n)).toNat 64 else IntKind.u64.wrap ((X : Int) * 2 ^ min (IntKind.u64.wrap n).toNat 64)) = ((SHL X n : Nat) : Int) := by
  unfold SHL
  split
  · rename_i h
    rw [against_eq n h0 h, div_cast, div_min hX]
  · rename_i h
    rw [up_eq n h1 h, mul_cast, mul_min]
theorem shr_raw_eq {X : Nat} (hX : X < 2 ^ 64) {n : Int} (h0 : -(2 ^ 63) ≤ n) (h1 : n < 2 ^ 63) :
    (if n < 0 then IntKind.u64.wrap ((X : Int) * 2 ^ min (IntKind.u64.wrap (-IntKind.u64.wrap n)).toNat 64) else (X : Int) / 2 ^ min (IntKind.u64.wrap n).toNat 64) = ((SHR X n : Nat) : Int) := by
  unfold SHR
  split
  · rename_i h
    rw [against_eq n h0 h, mul_cast, mul_min]
  · rename_i h
    rw [up_eq n h1 h, div_cast, div_min hX]
theorem mask_raw_eq {n : Int} (h1 : n < 2 ^ 63) :
    (if n ≤ 0 then 0 else IntKind.u64.wrap (IntKind.u64.wrap (1 * 2 ^ min (IntKind.u64.wrap n).toNat 64) - 1)) = ((MASK n : Nat) : Int) := by
  unfold MASK
  split
  · rename_i h
    rw [show n.toNat = 0 by omega]; rfl
  · rename_i h
    rw [up_eq n h1 (by omega)]
    have e : (1 : Int) * 2 ^ min n.toNat 64 = ((2 ^ min n.toNat 64 : Nat) : Int) := by simp
    rw [e, wrapU, wrapU]
    have h1 : 2 ^ min n.toNat 64 ≤ 2 ^ 64 := Nat.pow_le_pow_right (by decide) (Nat.min_le_right _ _)
    have h2 : 0 < 2 ^ min n.toNat 64 := Nat.two_pow_pos _
    generalize 2 ^ min n.toNat 64 = p at *
    omega
theorem and_eq {a b : Nat} (ha : a < 2 ^ 64) (hb : b < 2 ^ 64) : bits .and .u64 (a : Int) (b : Int) = ((a &&& b : Nat) : Int) := bits_and_u64_nat a b ha hb
theorem or_eq {a b : Nat} (ha : a < 2 ^ 64) (hb : b < 2 ^ 64) : bits .or .u64 (a : Int) (b : Int) = ((a ||| b : Nat) : Int) := bits_or_u64_nat a b ha hb
theorem andnot_eq {a b : Nat} (ha : a < 2 ^ 64) (hb : b < 2 ^ 64) : bits .andNot .u64 (a : Int) (b : Int) = ((ANDNOT a b : Nat) : Int) := u64_andNot_nat a b ha hb
theorem ofInt_toNat (n : Int) : (BitVec.ofInt 64 n).toNat = (n % 2 ^ 64).toNat := by simp [BitVec.toNat_ofInt]
theorem and127 (n : Int) : bits .and .i64 n 127 = n % 128 := by
  show IntKind.i64.wrap ((BitVec.ofInt 64 n &&& BitVec.ofInt 64 127).toNat : Int) = _
  have h7 : (BitVec.ofInt 64 127).toNat = 127 := by decide
  rw [BitVec.toNat_and, ofInt_toNat, h7, nat_mask7, IntKind.wrap_i64]
  omega

/-! shifts in two parts -/
theorem SHL_SHL {X : Nat} {N M : Int} (hN : 0 ≤ N) (hM : 0 ≤ M) : SHL (SHL X N) M = SHL X (N + M) := by
  apply Nat.eq_of_testBit_eq; intro i
  rw [bit_SHL_pos hM, bit_SHL_pos hN, bit_SHL_pos (by omega)]
  by_cases h1 : i < 64 <;> by_cases h2 : M.toNat ≤ i <;> by_cases h3 : (N + M).toNat ≤ i
  · have a : N.toNat ≤ i - M.toNat := by omega
    have b : i - M.toNat < 64 := by omega
    have c : i - M.toNat - N.toNat = i - (N + M).toNat := by omega
    simp [h1, h2, h3, a, b, c]
  · have a : ¬ N.toNat ≤ i - M.toNat := by omega
    simp [h2, h3, a]
  · omega
  · simp [h2, h3]
  · simp [h1]
  · simp [h1]
  · simp [h1]
  · simp [h1]
theorem SHR_SHR {X : Nat} {N M : Int} (hN : 0 ≤ N) (hM : 0 ≤ M) : SHR (SHR X N) M = SHR X (N + M) := by
  apply Nat.eq_of_testBit_eq; intro i
  rw [bit_SHR_pos hM, bit_SHR_pos hN, bit_SHR_pos (by omega)]
  congr 1; omega
theorem SHL_SHR {X : Nat} (hX : X < 2 ^ 64) {N : Int} (hN : 0 ≤ N) : SHL (SHR X N) N = ANDNOT X (MASK N) := by
  apply Nat.eq_of_testBit_eq; intro i
  rw [bit_SHL_pos hN, bit_SHR_pos hN, bit_ANDNOT' hX (MASK_lt _), bit_MASK]
  by_cases h1 : i < 64
  · by_cases h2 : (i : Int) < N
    · have a : ¬ N.toNat ≤ i := by omega
      simp [h1, h2, a]
    · have a : N.toNat ≤ i := by omega
      have c : i - N.toNat + N.toNat = i := by omega
      simp [h1, h2, a, c]
  · simp [h1, bit_high hX (by omega : 64 ≤ i)]
theorem SHR_neg (X : Nat) {N : Int} (hX : X < 2 ^ 64) (hN : 0 ≤ N) : SHR X (-N) = SHL X N := by
  unfold SHR SHL
  by_cases h : N = 0
  · subst h
    rw [if_neg (by omega), if_neg (by omega)]
    simp
    exact (Nat.mod_eq_of_lt hX).symm
  · rw [if_pos (by omega), if_neg (by omega), Int.neg_neg]

/-! fields -/
theorem bit_LAY_pos {X Y : Nat} (hX : X < 2 ^ 64) {a n : Int} (ha : 0 ≤ a) (i : Nat) :
    (LAY X a n Y).testBit i = if a.toNat ≤ i ∧ i < 64 ∧ ((i - a.toNat : Nat) : Int) < n then Y.testBit (i - a.toNat) else X.testBit i := by
  unfold LAY
  rw [Nat.testBit_or, Nat.testBit_and, bit_ANDNOT' hX (SHL_lt (MASK_lt _) _), bit_SHL_pos ha, bit_SHL_pos ha, bit_MASK]
  by_cases h1 : a.toNat ≤ i
  · by_cases h2 : i < 64
    · have h2' : i - a.toNat < 64 := by omega
      by_cases h3 : ((i - a.toNat : Nat) : Int) < n
      · simp [h1, h2, h2', h3]
      · simp [h1, h2, h2', h3]
    · simp [h1, h2]
  · simp [h1]
theorem bit_FIELD_pos {X : Nat} {a n : Int} (ha : 0 ≤ a) (i : Nat) : (FIELD X a n).testBit i = (X.testBit (i + a.toNat) && (decide (i < 64) && decide ((i : Int) < n))) := by
  unfold FIELD
  rw [Nat.testBit_and, bit_SHR_pos ha, bit_MASK]
theorem FIELD_LAY {X Y : Nat} (hX : X < 2 ^ 64) {a n : Int} (ha : 0 ≤ a) (hn : n ≤ 64 - a) : FIELD (LAY X a n Y) a n = Y &&& MASK n := by
  apply Nat.eq_of_testBit_eq; intro i
  rw [bit_FIELD_pos ha, bit_LAY_pos hX ha, Nat.testBit_and, bit_MASK]
  by_cases h : (i : Int) < n
  · rw [if_pos ⟨by omega, by omega, by omega⟩, show i + a.toNat - a.toNat = i by omega]
  · simp [h]
theorem LAY_LAY {X Y : Nat} (hX : X < 2 ^ 64) (hY : Y < 2 ^ 64) {a n : Int} (ha : 0 ≤ a) : LAY (LAY X a n Y) a n (FIELD X a n) = X := by
  apply Nat.eq_of_testBit_eq; intro i
  rw [bit_LAY_pos (LAY_lt hX hY _ _) ha, bit_FIELD_pos ha, bit_LAY_pos hX ha]
  by_cases h : a.toNat ≤ i ∧ i < 64 ∧ ((i - a.toNat : Nat) : Int) < n
  · rw [if_pos h, show i - a.toNat + a.toNat = i by omega]
    have h1 : i - a.toNat < 64 := by omega
    simp [h1, h.2.2]
  · rw [if_neg h, if_neg h]
end Go.Proofs.Ytkmcmngdainofaa
