/- Texts of ManyBytes, one behind the other: NumPlain, NumCalls, NumSlice, NumByteCalls, NumAppend. -/
import Derived.WalkKit
import Derived.WalkLawsBesides
import Derived.OpenShut
import Derived.Test.YtmpaifkjlhodpaaDoorProg
import Derived.Deep.LoopGhost
import Derived.Deep.OwnRows
import Derived.Deep.QuietTactic
import Derived.BigQuiet
import Derived.Deep.AppendLies
import Derived.Laws.AppendOwnNone
/- Plain facts on numbers of 64 bits and their bits; no Go in sight. -/
namespace Go.Proofs.YtmpaifkjlhodpaaDoor
open Go.RowKit

/-- x times 2^n, rounded down, modulo 2^64. -/
def SHL (x : Nat) (n : Int) : Nat := if n < 0 then x / 2 ^ (-n).toNat else x * 2 ^ n.toNat % 2 ^ 64
/-- x times 2^-n, rounded down, modulo 2^64. -/
def SHR (x : Nat) (n : Int) : Nat := if n < 0 then x * 2 ^ (-n).toNat % 2 ^ 64 else x / 2 ^ n.toNat
/-- the lowest n bits. -/
def MASK (n : Int) : Nat := 2 ^ min n.toNat 64 - 1
/-- the bits of a that b hasn't. -/
def ANDNOT (a b : Nat) : Nat := a &&& (2 ^ 64 - 1 - b)
def FIELD (x : Nat) (at' n : Int) : Nat := SHR x at' &&& MASK n
def LAY (x : Nat) (at' n : Int) (y : Nat) : Nat := ANDNOT x (SHL (MASK n) at') ||| (SHL y at' &&& SHL (MASK n) at')

theorem SHL_lt {x : Nat} (hx : x < 2 ^ 64) (n : Int) : SHL x n < 2 ^ 64 := by
  unfold SHL
  split
  · exact Nat.lt_of_le_of_lt (Nat.div_le_self _ _) hx
  · exact Nat.mod_lt _ (by decide)
theorem SHR_lt {x : Nat} (hx : x < 2 ^ 64) (n : Int) : SHR x n < 2 ^ 64 := by
  unfold SHR
  split
  · exact Nat.mod_lt _ (by decide)
  · exact Nat.lt_of_le_of_lt (Nat.div_le_self _ _) hx
theorem MASK_lt (n : Int) : MASK n < 2 ^ 64 := by
  unfold MASK
  have h1 : 2 ^ min n.toNat 64 ≤ 2 ^ 64 := Nat.pow_le_pow_right (by decide) (Nat.min_le_right _ _)
  have h2 : 0 < 2 ^ min n.toNat 64 := Nat.two_pow_pos _
  omega
theorem ANDNOT_lt {a : Nat} (ha : a < 2 ^ 64) (b : Nat) : ANDNOT a b < 2 ^ 64 := Nat.lt_of_le_of_lt Nat.and_le_left ha
theorem FIELD_lt {x : Nat} (hx : x < 2 ^ 64) (a n : Int) : FIELD x a n < 2 ^ 64 := Nat.lt_of_le_of_lt Nat.and_le_left (SHR_lt hx _)
theorem LAY_lt {x y : Nat} (hx : x < 2 ^ 64) (hy : y < 2 ^ 64) (a n : Int) : LAY x a n y < 2 ^ 64 :=
  Nat.or_lt_two_pow (ANDNOT_lt hx _) (Nat.lt_of_le_of_lt Nat.and_le_left (SHL_lt hy _))

/-! bit by bit -/
theorem bit_high {x i : Nat} (hx : x < 2 ^ 64) (hi : 64 ≤ i) : x.testBit i = false :=
  Nat.testBit_lt_two_pow (Nat.lt_of_lt_of_le hx (Nat.pow_le_pow_right (by decide) hi))
theorem bit_SHL {x : Nat} (n : Int) (i : Nat) : (SHL x n).testBit i = if n < 0 then x.testBit (i + (-n).toNat) else (decide (i < 64) && (decide (n.toNat ≤ i) && x.testBit (i - n.toNat))) := by
  unfold SHL
  split
  · rw [← Nat.shiftRight_eq_div_pow, Nat.testBit_shiftRight, Nat.add_comm]
  · rw [← Nat.shiftLeft_eq, Nat.testBit_mod_two_pow, Nat.testBit_shiftLeft]
theorem bit_SHR {x : Nat} (n : Int) (i : Nat) : (SHR x n).testBit i = if n < 0 then (decide (i < 64) && (decide ((-n).toNat ≤ i) && x.testBit (i - (-n).toNat))) else x.testBit (i + n.toNat) := by
  unfold SHR
  split
  · rw [← Nat.shiftLeft_eq, Nat.testBit_mod_two_pow, Nat.testBit_shiftLeft]
  · rw [← Nat.shiftRight_eq_div_pow, Nat.testBit_shiftRight, Nat.add_comm]
theorem bit_SHL_pos {x : Nat} {n : Int} (h : 0 ≤ n) (i : Nat) : (SHL x n).testBit i = (decide (i < 64) && (decide (n.toNat ≤ i) && x.testBit (i - n.toNat))) := by
  rw [bit_SHL, if_neg (by omega)]
theorem bit_SHR_pos {x : Nat} {n : Int} (h : 0 ≤ n) (i : Nat) : (SHR x n).testBit i = x.testBit (i + n.toNat) := by
  rw [bit_SHR, if_neg (by omega)]
theorem bit_MASK (n : Int) (i : Nat) : (MASK n).testBit i = (decide (i < 64) && decide ((i : Int) < n)) := by
  unfold MASK
  rw [Nat.testBit_two_pow_sub_one]
  by_cases h1 : i < 64 <;> by_cases h2 : (i : Int) < n <;> simp [h1, h2] <;> omega
theorem bit_ANDNOT {a b : Nat} (hb : b < 2 ^ 64) (i : Nat) : (ANDNOT a b).testBit i = (a.testBit i && (decide (i < 64) && !b.testBit i)) := by
  unfold ANDNOT
  rw [Nat.testBit_and, show 2 ^ 64 - 1 - b = 2 ^ 64 - (b + 1) by omega, Nat.testBit_two_pow_sub_succ hb]
theorem bit_ANDNOT' {a b : Nat} (ha : a < 2 ^ 64) (hb : b < 2 ^ 64) (i : Nat) : (ANDNOT a b).testBit i = (a.testBit i && !b.testBit i) := by
  rw [bit_ANDNOT hb]
  by_cases h : i < 64
  · simp [h]
  · simp [bit_high ha (by omega : 64 ≤ i)]

/-! what the walk writes -/
theorem wf_u64 {x : Int} (h : (Lit.int .u64 x).wf = true) : 0 ≤ x ∧ x < 2 ^ 64 := by
  have := bounds_u64 h
  omega
theorem wf_i64 {x : Int} (h : (Lit.int .i64 x).wf = true) : -(2 ^ 63) ≤ x ∧ x < 2 ^ 63 := by
  have := bounds_i64 h
  omega
theorem pow_big {x k : Nat} (hx : x < 2 ^ 64) (h : 64 ≤ k) : x / 2 ^ k = 0 :=
  Nat.div_eq_of_lt (Nat.lt_of_lt_of_le hx (Nat.pow_le_pow_right (by decide) h))
theorem div_min {x : Nat} (hx : x < 2 ^ 64) (k : Nat) : x / 2 ^ min k 64 = x / 2 ^ k := by
  by_cases h : k ≤ 64
  · rw [Nat.min_eq_left h]
  · rw [Nat.min_eq_right (by omega), pow_big hx (Nat.le_refl _), pow_big hx (by omega)]
theorem mul_min (x k : Nat) : x * 2 ^ min k 64 % 2 ^ 64 = x * 2 ^ k % 2 ^ 64 := by
  by_cases h : k ≤ 64
  · rw [Nat.min_eq_left h]
  · rw [Nat.min_eq_right (by omega), show k = 64 + (k - 64) by omega, Nat.pow_add, Nat.mul_mod_left, ← Nat.mul_assoc, Nat.mul_right_comm, Nat.mul_mod_left]
theorem wrapU (z : Int) : IntKind.u64.wrap z = z % 2 ^ 64 := by rw [IntKind.wrap_u64]; rfl
theorem against_eq (n : Int) (h0 : -(2 ^ 63) ≤ n) (h : n < 0) : (IntKind.u64.wrap (-IntKind.u64.wrap n)).toNat = (-n).toNat := by
  rw [wrapU, wrapU]; omega
theorem up_eq (n : Int) (h0 : n < 2 ^ 63) (h : ¬ n < 0) : (IntKind.u64.wrap n).toNat = n.toNat := by
  rw [wrapU]; omega
theorem div_cast (X k : Nat) : (X : Int) / 2 ^ k = ((X / 2 ^ k : Nat) : Int) := by simp
theorem mul_cast (X k : Nat) : IntKind.u64.wrap ((X : Int) * 2 ^ k) = ((X * 2 ^ k % 2 ^ 64 : Nat) : Int) := by rw [wrapU]; simp
theorem shl_raw_eq {X : Nat} (hX : X < 2 ^ 64) {n : Int} (h0 : -(2 ^ 63) ≤ n) (h1 : n < 2 ^ 63) :
    (if n < 0 then (X : Int) / 2 ^ min (IntKind.u64.wrap (-IntKind.u64.wrap n)).toNat 64 else IntKind.u64.wrap ((X : Int) * 2 ^ min (IntKind.u64.wrap n).toNat 64)) = ((SHL X n : Nat) : Int) := by
  unfold SHL
  split
  · rename_i h
    rw [against_eq n h0 h, div_cast, div_min hX]
  · rename_i h
    rw [up_eq n h1 h, mul_cast, mul_min]
theorem shr_raw_eq {X : Nat} (hX : X < 2 ^ 64) {n : Int} (h0 : -(2 ^ 63) ≤ n) (h1 : n < 2 ^ 63) :
    (if n < 0 then IntKind.u64.wrap ((X : Int) * 2 ^ min (IntKind.u64.wrap (-IntKind.u64.wrap n)).toNat 64) else (X : Int) / 2 ^ min (IntKind.u64.wrap n).toNat 64) = ((SHR X n : Nat) : Int) := by
  unfold SHR
  split
  · rename_i h
    rw [against_eq n h0 h, mul_cast, mul_min]
  · rename_i h
    rw [up_eq n h1 h, div_cast, div_min hX]
theorem mask_raw_eq {n : Int} (h1 : n < 2 ^ 63) :
    (if n ≤ 0 then 0 else IntKind.u64.wrap (IntKind.u64.wrap (1 * 2 ^ min (IntKind.u64.wrap n).toNat 64) - 1)) = ((MASK n : Nat) : Int) := by
  unfold MASK
  split
  · rename_i h
    rw [show n.toNat = 0 by omega]; rfl
  · rename_i h
    rw [up_eq n h1 (by omega)]
    have e : (1 : Int) * 2 ^ min n.toNat 64 = ((2 ^ min n.toNat 64 : Nat) : Int) := by simp
    rw [e, wrapU, wrapU]
    have h1 : 2 ^ min n.toNat 64 ≤ 2 ^ 64 := Nat.pow_le_pow_right (by decide) (Nat.min_le_right _ _)
    have h2 : 0 < 2 ^ min n.toNat 64 := Nat.two_pow_pos _
    generalize 2 ^ min n.toNat 64 = p at *
    omega
theorem and_eq {a b : Nat} (ha : a < 2 ^ 64) (hb : b < 2 ^ 64) : bits .and .u64 (a : Int) (b : Int) = ((a &&& b : Nat) : Int) := bits_and_u64_nat a b ha hb
theorem or_eq {a b : Nat} (ha : a < 2 ^ 64) (hb : b < 2 ^ 64) : bits .or .u64 (a : Int) (b : Int) = ((a ||| b : Nat) : Int) := bits_or_u64_nat a b ha hb
theorem andnot_eq {a b : Nat} (ha : a < 2 ^ 64) (hb : b < 2 ^ 64) : bits .andNot .u64 (a : Int) (b : Int) = ((ANDNOT a b : Nat) : Int) := u64_andNot_nat a b ha hb
theorem ofInt_toNat (n : Int) : (BitVec.ofInt 64 n).toNat = (n % 2 ^ 64).toNat := by simp [BitVec.toNat_ofInt]
theorem and127 (n : Int) : bits .and .i64 n 127 = n % 128 := by
  show IntKind.i64.wrap ((BitVec.ofInt 64 n &&& BitVec.ofInt 64 127).toNat : Int) = _
  have h7 : (BitVec.ofInt 64 127).toNat = 127 := by decide
  rw [BitVec.toNat_and, ofInt_toNat, h7, nat_mask7, IntKind.wrap_i64]
  omega

/-! shifts in two parts -/
theorem SHL_SHL {X : Nat} {N M : Int} (hN : 0 ≤ N) (hM : 0 ≤ M) : SHL (SHL X N) M = SHL X (N + M) := by
  apply Nat.eq_of_testBit_eq; intro i
  rw [bit_SHL_pos hM, bit_SHL_pos hN, bit_SHL_pos (by omega)]
  by_cases h1 : i < 64 <;> by_cases h2 : M.toNat ≤ i <;> by_cases h3 : (N + M).toNat ≤ i
  · have a : N.toNat ≤ i - M.toNat := by omega
    have b : i - M.toNat < 64 := by omega
    have c : i - M.toNat - N.toNat = i - (N + M).toNat := by omega
    simp [h1, h2, h3, a, b, c]
  · have a : ¬ N.toNat ≤ i - M.toNat := by omega
    simp [h2, h3, a]
  · omega
  · simp [h2, h3]
  · simp [h1]
  · simp [h1]
  · simp [h1]
  · simp [h1]
theorem SHR_SHR {X : Nat} {N M : Int} (hN : 0 ≤ N) (hM : 0 ≤ M) : SHR (SHR X N) M = SHR X (N + M) := by
  apply Nat.eq_of_testBit_eq; intro i
  rw [bit_SHR_pos hM, bit_SHR_pos hN, bit_SHR_pos (by omega)]
  congr 1; omega
theorem SHL_SHR {X : Nat} (hX : X < 2 ^ 64) {N : Int} (hN : 0 ≤ N) : SHL (SHR X N) N = ANDNOT X (MASK N) := by
  apply Nat.eq_of_testBit_eq; intro i
  rw [bit_SHL_pos hN, bit_SHR_pos hN, bit_ANDNOT' hX (MASK_lt _), bit_MASK]
  by_cases h1 : i < 64
  · by_cases h2 : (i : Int) < N
    · have a : ¬ N.toNat ≤ i := by omega
      simp [h1, h2, a]
    · have a : N.toNat ≤ i := by omega
      have c : i - N.toNat + N.toNat = i := by omega
      simp [h1, h2, a, c]
  · simp [h1, bit_high hX (by omega : 64 ≤ i)]
theorem SHR_neg (X : Nat) {N : Int} (hX : X < 2 ^ 64) (hN : 0 ≤ N) : SHR X (-N) = SHL X N := by
  unfold SHR SHL
  by_cases h : N = 0
  · subst h
    rw [if_neg (by omega), if_neg (by omega)]
    simp
    exact (Nat.mod_eq_of_lt hX).symm
  · rw [if_pos (by omega), if_neg (by omega), Int.neg_neg]

/-! fields -/
theorem bit_LAY_pos {X Y : Nat} (hX : X < 2 ^ 64) {a n : Int} (ha : 0 ≤ a) (i : Nat) :
    (LAY X a n Y).testBit i = if a.toNat ≤ i ∧ i < 64 ∧ ((i - a.toNat : Nat) : Int) < n then Y.testBit (i - a.toNat) else X.testBit i := by
  unfold LAY
  rw [Nat.testBit_or, Nat.testBit_and, bit_ANDNOT' hX (SHL_lt (MASK_lt _) _), bit_SHL_pos ha, bit_SHL_pos ha, bit_MASK]
  by_cases h1 : a.toNat ≤ i
  · by_cases h2 : i < 64
    · have h2' : i - a.toNat < 64 := by omega
      by_cases h3 : ((i - a.toNat : Nat) : Int) < n
      · simp [h1, h2, h2', h3]
      · simp [h1, h2, h2', h3]
    · simp [h1, h2]
  · simp [h1]
theorem bit_FIELD_pos {X : Nat} {a n : Int} (ha : 0 ≤ a) (i : Nat) : (FIELD X a n).testBit i = (X.testBit (i + a.toNat) && (decide (i < 64) && decide ((i : Int) < n))) := by
  unfold FIELD
  rw [Nat.testBit_and, bit_SHR_pos ha, bit_MASK]
theorem FIELD_LAY {X Y : Nat} (hX : X < 2 ^ 64) {a n : Int} (ha : 0 ≤ a) (hn : n ≤ 64 - a) : FIELD (LAY X a n Y) a n = Y &&& MASK n := by
  apply Nat.eq_of_testBit_eq; intro i
  rw [bit_FIELD_pos ha, bit_LAY_pos hX ha, Nat.testBit_and, bit_MASK]
  by_cases h : (i : Int) < n
  · rw [if_pos ⟨by omega, by omega, by omega⟩, show i + a.toNat - a.toNat = i by omega]
  · simp [h]
theorem LAY_LAY {X Y : Nat} (hX : X < 2 ^ 64) (hY : Y < 2 ^ 64) {a n : Int} (ha : 0 ≤ a) : LAY (LAY X a n Y) a n (FIELD X a n) = X := by
  apply Nat.eq_of_testBit_eq; intro i
  rw [bit_LAY_pos (LAY_lt hX hY _ _) ha, bit_FIELD_pos ha, bit_LAY_pos hX ha]
  by_cases h : a.toNat ≤ i ∧ i < 64 ∧ ((i - a.toNat : Nat) : Int) < n
  · rw [if_pos h, show i - a.toNat + a.toNat = i by omega]
    have h1 : i - a.toNat < 64 := by omega
    simp [h1, h.2.2]
  · rw [if_neg h, if_neg h]
end Go.Proofs.YtmpaifkjlhodpaaDoor

/- What the small functions of package num answer, call by call, and that awake answers true. -/
namespace Go.Proofs.YtmpaifkjlhodpaaDoor
open Go.RowKit

theorem shl_raw (x n : Int) (w : World) : Calls Tryd.prog 77 #[.int .u64 x, .int .i64 n] w fun e w' => e = .returned (.int .u64 (if n < 0 then x / 2 ^ min (IntKind.u64.wrap (-IntKind.u64.wrap n)).toNat 64 else IntKind.u64.wrap (x * 2 ^ min (IntKind.u64.wrap n).toNat 64))) ∧ w = w' := by
  by_cases h : n < 0
  · rw [if_pos h]
    go_enter Tryd.func77, Tryd.ntmps77
    go_wp2
    go_ret
    exact ⟨rfl, rfl⟩
  · rw [if_neg h]
    go_enter Tryd.func77, Tryd.ntmps77
    go_wp2
    go_ret
    exact ⟨rfl, rfl⟩
theorem shr_raw (x n : Int) (w : World) : Calls Tryd.prog 78 #[.int .u64 x, .int .i64 n] w fun e w' => e = .returned (.int .u64 (if n < 0 then IntKind.u64.wrap (x * 2 ^ min (IntKind.u64.wrap (-IntKind.u64.wrap n)).toNat 64) else x / 2 ^ min (IntKind.u64.wrap n).toNat 64)) ∧ w = w' := by
  by_cases h : n < 0
  · rw [if_pos h]
    go_enter Tryd.func78, Tryd.ntmps78
    go_wp2
    go_ret
    exact ⟨rfl, rfl⟩
  · rw [if_neg h]
    go_enter Tryd.func78, Tryd.ntmps78
    go_wp2
    go_ret
    exact ⟨rfl, rfl⟩
theorem mask_raw (n : Int) (w : World) : Calls Tryd.prog 67 #[.int .i64 n] w fun e w' => e = .returned (.int .u64 (if n ≤ 0 then 0 else IntKind.u64.wrap (IntKind.u64.wrap (1 * 2 ^ min (IntKind.u64.wrap n).toNat 64) - 1))) ∧ w = w' := by
  by_cases h : n ≤ 0
  · rw [if_pos h]
    go_enter Tryd.func67, Tryd.ntmps67
    go_wp2
    go_ret
    exact ⟨rfl, rfl⟩
  · rw [if_neg h]
    go_enter Tryd.func67, Tryd.ntmps67
    go_wp2
    go_ret
    exact ⟨rfl, rfl⟩

theorem shl_ok (X : Nat) (n : Int) (hX : X < 2 ^ 64) (h0 : -(2 ^ 63) ≤ n) (h1 : n < 2 ^ 63) (w : World) : Calls Tryd.prog 77 #[.int .u64 (X : Int), .int .i64 n] w fun e w' => e = .returned (.int .u64 ((SHL X n : Nat) : Int)) ∧ w = w' :=
  (shl_raw X n w).mono fun e w' h => by rw [shl_raw_eq hX h0 h1] at h; exact h
theorem shr_ok (X : Nat) (n : Int) (hX : X < 2 ^ 64) (h0 : -(2 ^ 63) ≤ n) (h1 : n < 2 ^ 63) (w : World) : Calls Tryd.prog 78 #[.int .u64 (X : Int), .int .i64 n] w fun e w' => e = .returned (.int .u64 ((SHR X n : Nat) : Int)) ∧ w = w' :=
  (shr_raw X n w).mono fun e w' h => by rw [shr_raw_eq hX h0 h1] at h; exact h
theorem mask_ok (n : Int) (h1 : n < 2 ^ 63) (w : World) : Calls Tryd.prog 67 #[.int .i64 n] w fun e w' => e = .returned (.int .u64 ((MASK n : Nat) : Int)) ∧ w = w' :=
  (mask_raw n w).mono fun e w' h => by rw [mask_raw_eq h1] at h; exact h

end Go.Proofs.YtmpaifkjlhodpaaDoor

/- Slices of bytes: rows of cells by a function; what a slice reads as. -/
namespace Go.Proofs.YtmpaifkjlhodpaaDoor
open Go.RowKit

/-- n cells, each a byte. -/
def BARR (n : Nat) (f : Nat → Int) : Array Value := ((List.range n).map fun i => Value.int .u8 (f i)).toArray
theorem BARR_size (n : Nat) (f : Nat → Int) : (BARR n f).size = n := by simp [BARR]
theorem BARR_get (n : Nat) (f : Nat → Int) (i : Nat) (h : i < n) : (BARR n f)[i]? = some (.int .u8 (f i)) := by simp [BARR, h]
theorem BARR_ext {n : Nat} {f g : Nat → Int} (h : ∀ i, i < n → f i = g i) : BARR n f = BARR n g := by
  unfold BARR
  congr 1
  apply List.map_congr_left
  intro i hi
  rw [h i (by simpa using hi)]
theorem BARR_set (n : Nat) (f : Nat → Int) (i : Nat) (v : Int) : (BARR n f).setIfInBounds i (.int .u8 v) = BARR n fun j => if j = i then v else f j := by
  apply Array.ext_getElem?
  intro j
  by_cases hj : j < n
  · rw [BARR_get _ _ j hj, Array.getElem?_setIfInBounds]
    by_cases h : i = j
    · subst h
      simp [BARR_size, hj]
    · have h' : ¬ j = i := fun e => h e.symm
      simp [h, h', BARR_get _ _ j hj]
  · rw [Array.getElem?_eq_none (by simp [BARR_size]; omega), Array.getElem?_eq_none (by simp [BARR_size]; omega)]
theorem BARR_made (n : Nat) : madeCells #[Value.int .u8 0] n = BARR n fun _ => 0 := by
  apply Array.ext_getElem?
  intro j
  by_cases hj : j < n
  · rw [BARR_get _ _ j hj]
    simp [madeCells, hj, Nat.mod_one]
  · rw [Array.getElem?_eq_none (by simp [madeCells]; omega), Array.getElem?_eq_none (by simp [BARR_size]; omega)]
theorem info_u8 : (Tryd.prog.info? 5).map (fun i => (i.zero, i.size, i.bytes)) = some (some (.int .u8 0), 1, 1) := by kernel_rfl
theorem make_bytes (n : Nat) (hn : n ≤ 1000000) (w : World) : (Instr.makeSlice 35 (.int .i64 (n : Int)) (.int .i64 (n : Int))).run Tryd.prog w = .ok (.slice (some ⟨w.heap.size, 0, none⟩) n n) (w.alloc (.cells (BARR n fun _ => 0) 5)) := by
  rw [run_make_row' 35 5 (.int .u8 0) 1 Tryd.underlying35 info_u8 rfl .i64 .i64 n (by omega) (by omega) w, BARR_made]

/-- a slice that came in: nil, or a row of cells, each a byte. -/
def IsRow (k : IntKind) (w : World) (a : Option Addr) (len cap : Nat) (zs : List Int) : Prop :=
  (a = none ∧ len = 0 ∧ cap = 0 ∧ zs = []) ∨
  ∃ x, a = some x ∧ len ≤ cap ∧ cap ≤ maxLen ∧ zs.length = cap ∧ (∀ i, i < zs.length → w.cell? (x.add i) = some (.int k (zs.getD i 0))) ∧ ∀ n ∈ zs, (Lit.int k n).wf = true

/-- a slice of n bytes reads as l. -/
def Bytes (w : World) (a : Option Addr) (n : Nat) (l : List Int) : Prop :=
  l.length = n ∧ (0 < n → ∃ b off, a = some ⟨b, off, none⟩ ∧ b < w.heap.size ∧ ∀ i, i < n → w.cell? ⟨b, off + i, none⟩ = some (.int .u8 (l.getD i 0))) ∧ ∀ x ∈ l, 0 ≤ x ∧ x ≤ 255
theorem Bytes.below {w w' : World} {a : Option Addr} {n : Nat} {l : List Int} (h : Bytes w a n l) (hb : Below w.heap.size w w') : Bytes w' a n l :=
  ⟨h.1, fun hn => by
    obtain ⟨b, off, e, hl, hc⟩ := h.2.1 hn
    exact ⟨b, off, e, Nat.lt_of_lt_of_le hl hb.size, fun i hi => (hb.cell (by exact hl)).trans (hc i hi)⟩, h.2.2⟩
theorem Bytes.get {w : World} {a : Option Addr} {n : Nat} {l : List Int} (h : Bytes w a n l) (i : Nat) : 0 ≤ l.getD i 0 ∧ l.getD i 0 ≤ 255 := by
  by_cases hi : i < l.length
  · rw [List.getD_eq_getElem?_getD, List.getElem?_eq_getElem hi]
    exact h.2.2 _ (List.getElem_mem hi)
  · rw [List.getD_eq_getElem?_getD, List.getElem?_eq_none (by omega)]
    simp
theorem addr_add (b off i : Nat) : (⟨b, off, none⟩ : Addr).add i = ⟨b, off + i, none⟩ := by unfold Addr.add; split <;> simp_all
theorem IsRow.bytes {w : World} {a : Option Addr} {n c : Nat} {zs : List Int} (h : IsRow .u8 w a n c zs) : Bytes w a n (zs.take n) := by
  rcases h with ⟨rfl, rfl, rfl, rfl⟩ | ⟨x, rfl, hl, _, hz, hcell, hwf⟩
  · exact ⟨rfl, fun h => by omega, fun x hx => by simp at hx⟩
  · refine ⟨by simp [hz, hl], fun hn => ?_, fun y hy => ?_⟩
    · obtain ⟨b, off, spot⟩ := x
      have hc := hcell 0 (by omega)
      have hspot : spot = none := by simpa [Addr.add] using World.cell?_spot hc
      subst hspot
      refine ⟨b, off, rfl, block_lt_of_cell (by simpa [Addr.add] using hc), fun i hi => ?_⟩
      have := hcell i (by omega)
      rw [addr_add] at this
      rw [this]
      congr 2
      simp [List.getD_eq_getElem?_getD, hi]
    · have := bounds_u8 (hwf y (List.mem_of_mem_take hy))
      exact this

/-- the number that bytes are, the highest first. -/
def BIGV (l : List Int) : Int := l.foldl (fun acc x => acc * 256 + x) 0
theorem BIGV_snoc (l : List Int) (x : Int) : BIGV (l ++ [x]) = BIGV l * 256 + x := by simp [BIGV]
theorem foldl_bounds : ∀ (l : List Int) (acc : Int) (k : Nat), 0 ≤ acc → acc < 256 ^ k → (∀ x ∈ l, 0 ≤ x ∧ x ≤ 255) → 0 ≤ l.foldl (fun acc x => acc * 256 + x) acc ∧ l.foldl (fun acc x => acc * 256 + x) acc < 256 ^ (k + l.length)
  | [], acc, k, h0, h1, _ => by simpa using ⟨h0, h1⟩
  | x :: l, acc, k, h0, h1, hl => by
    have hx := hl x (by simp)
    have hp : (256 : Int) ^ (k + 1) = 256 ^ k * 256 := Int.pow_succ 256 k
    have := foldl_bounds l (acc * 256 + x) (k + 1) (by omega) (by omega) (fun y hy => hl y (by simp [hy]))
    rw [List.length_cons, show k + (l.length + 1) = k + 1 + l.length by omega]
    exact this
theorem BIGV_bounds (l : List Int) (hl : ∀ x ∈ l, 0 ≤ x ∧ x ≤ 255) : 0 ≤ BIGV l ∧ BIGV l < 256 ^ l.length := by
  have := foldl_bounds l 0 0 (by decide) (by decide) hl
  simpa [BIGV] using this
end Go.Proofs.YtmpaifkjlhodpaaDoor

/- What FromBig and Big of package num and the law's same answer. -/
namespace Go.Proofs.YtmpaifkjlhodpaaDoor
open Go.RowKit

theorem or_byte {x c : Int} (h0 : 0 ≤ x) (h1 : x < 2 ^ 56) (c0 : 0 ≤ c) (c1 : c ≤ 255) : bits .or .u64 (IntKind.u64.wrap (x * 256)) (IntKind.u64.wrap c) = x * 256 + c := by
  obtain ⟨X, rfl⟩ : ∃ X : Nat, x = (X : Int) := ⟨x.toNat, by omega⟩
  obtain ⟨C, rfl⟩ : ∃ C : Nat, c = (C : Int) := ⟨c.toNat, by omega⟩
  have e1 : IntKind.u64.wrap ((X : Int) * 256) = ((X * 256 : Nat) : Int) := by rw [wrapU]; omega
  have e2 : IntKind.u64.wrap (C : Int) = (C : Int) := by rw [wrapU]; omega
  rw [e1, e2, or_eq (by omega) (by omega), nat_join 8 (X * 256) C (by omega) (by omega)]
  simp

theorem take_next (l : List Int) (k : Nat) (hk : k < l.length) : l.take (k + 1) = l.take k ++ [l.getD k 0] := by
  rw [List.take_add_one, List.getElem?_eq_getElem hk]
  simp [List.getD_eq_getElem?_getD, hk]
theorem frombig_step {w : World} {a : Option Addr} {n k : Nat} {l : List Int} {x v : Int} (hB : Bytes w a n l) (hn : n ≤ 8) (hk : k < n) (hx : x = BIGV (l.take k)) (hv : l.getD k 0 = v) :
    bits .or .u64 (IntKind.u64.wrap (x * 256)) (IntKind.u64.wrap v) = BIGV (l.take (k + 1)) := by
  have hb := BIGV_bounds (l.take k) (fun y hy => hB.2.2 y (List.mem_of_mem_take hy))
  have hl : (l.take k).length = k := by rw [List.length_take, hB.1]; omega
  rw [hl] at hb
  have hp : (256 : Int) ^ k ≤ 72057594037927936 := by
    have h7 := Nat.pow_le_pow_right (n := 256) (by decide) (show k ≤ 7 by omega)
    have e : ((256 ^ k : Nat) : Int) = 256 ^ k := by rw [Int.natCast_pow]; rfl
    omega
  have hg := hB.get k
  rw [hv] at hg
  rw [hx, or_byte hb.1 (by omega) hg.1 hg.2, take_next l k (by rw [hB.1]; exact hk), BIGV_snoc, hv]
/-- an array that is filled from 0 on. -/
theorem bfill_put {F f : Nat → Int} {i : Nat} {v : Int} (A : ∀ j, f j = if j < i then F j else 0) (hv : v = F i) : ∀ j, (if j = i then v else f j) = if j < i + 1 then F j else 0 := fun j => by
  by_cases e : j = i
  · subst e
    simp [hv]
  · rw [if_neg e, A j]
    by_cases e2 : j < i
    · rw [if_pos e2, if_pos (by omega)]
    · rw [if_neg e2, if_neg (by omega)]
/-- the i-th of n bytes of x, the highest first. -/
def BYTE (X n : Nat) : Nat → Int := fun i => ((X / 2 ^ (8 * (n - 1 - i)) % 256 : Nat) : Int)
end Go.Proofs.YtmpaifkjlhodpaaDoor

/- append of bytes onto a row of the call's own. -/
namespace Go.Proofs.YtmpaifkjlhodpaaDoor
open Go.RowKit

/-- bytes as cells. -/
def CELLS (l : List Int) : List Value := l.map (Value.int .u8)
theorem CELLS_append (a b : List Int) : CELLS (a ++ b) = CELLS a ++ CELLS b := by simp [CELLS]
theorem CELLS_get (l : List Int) (i : Nat) (h : i < l.length) : (CELLS l)[i]? = some (.int .u8 (l.getD i 0)) := by
  simp [CELLS, h, List.getD_eq_getElem?_getD]
theorem CELLS_one (l : List Int) : ∀ u ∈ CELLS l, u.oneCell' = true := fun u hu => by
  simp [CELLS] at hu
  obtain ⟨x, _, rfl⟩ := hu
  rfl
theorem info_parts_u8 : ∃ i, Tryd.prog.info? 5 = some i ∧ i.zero = some (.int .u8 0) ∧ i.size = 1 ∧ i.bytes = 1 := by
  obtain ⟨i, hi, h⟩ := Option.map_eq_some_iff.1 info_u8
  simp only [Prod.mk.injEq] at h
  exact ⟨i, hi, h.1, h.2.1, h.2.2⟩

theorem app_u8 {ops : Array Oper} {rest : List Oper} {o : Oper} {a : Act} {Q : Exit → Act → World → Prop} (w : World) (hgd : o.guard = none) (s x : Operand)
    (ho : o.op = .call { callee := .builtin .append, args := #[s, x], argTypes := #[35, 35] })
    (base : Nat) (v : Value) (n : Nat) (xs : List Int) (hs : a.eval s = v) (hown : w.ownsRow base 5 1 v n (CELLS xs))
    (b off m c : Nat) (l : List Int) (hx : a.eval x = .slice (some ⟨b, off, none⟩) m c) (hB : Bytes w (some ⟨b, off, none⟩) m l)
    (hm : 0 < m) (hb : n + m ≤ 140737488355328) (hbase : base ≤ w.heap.size)
    (h : ∀ g cap w', w'.ownsRow base 5 1 (.slice (some ⟨g, 0, none⟩) (n + m) cap) (n + m) (CELLS (xs ++ l)) → w.grownBy w' v.ownBlock → g < w'.heap.size → wpList Tryd.prog ops Q rest (a.put o.dst (.slice (some ⟨g, 0, none⟩) (n + m) cap)) w') : wpList Tryd.prog ops Q (o :: rest) a w := by
  obtain ⟨i, hi, hz, hs1, hby⟩ := info_parts_u8
  obtain ⟨b', off', e, _, hc⟩ := hB.2.1 hm
  simp only [Option.some.injEq, Addr.mk.injEq] at e
  obtain ⟨rfl, rfl, _⟩ := e
  refine wpList_append_lies w hgd s x 35 ho base 5 i (.int .u8 0) 1 1 Tryd.underlying35 hi hz hs1 hby rfl (by decide) v n (CELLS xs) hs hown ⟨b, off, none⟩ m c (CELLS l) hx (by simp [CELLS, hB.1]) ?_ (CELLS_one l) hm (by simp only [maxLen]; omega) (by omega) hbase w.heap.size rfl ?_
  · intro j u hj
    have hjl : j < l.length := by
      have := (List.getElem?_eq_some_iff.1 hj).1
      simpa [CELLS] using this
    rw [CELLS_get l j hjl] at hj
    rw [addr_add, hc j (by rw [← hB.1]; exact hjl)]
    exact hj
  · intro g cap w' h1 h2 _ h4
    rw [← CELLS_append] at h1
    exact h g cap w' h1 h2 h4

theorem grown_refl (w : World) (row : Option Nat) : w.grownBy w row := ⟨rfl, rfl, rfl, Nat.le_refl _, fun _ _ _ => rfl⟩
/-- nothing is appended. -/
theorem app_zero {ops : Array Oper} {rest : List Oper} {o : Oper} {a : Act} {Q : Exit → Act → World → Prop} (w : World) (hgd : o.guard = none) (s x : Operand)
    (ho : o.op = .call { callee := .builtin .append, args := #[s, x], argTypes := #[35, 35] })
    (base : Nat) (v : Value) (n : Nat) (xs : List Int) (hs : a.eval s = v) (hown : w.ownsRow base 5 1 v n (CELLS xs))
    (ao : Option Addr) (c : Nat) (hx : a.eval x = .slice ao 0 c) (hc : ao = none → c = 0) (hn : n ≤ 140737488355328) (hbase : base ≤ w.heap.size)
    (h : ∀ a' c' w', w'.ownsRow base 5 1 (.slice a' n c') n (CELLS xs) → w.grownBy w' v.ownBlock → wpList Tryd.prog ops Q rest (a.put o.dst (.slice a' n c')) w') : wpList Tryd.prog ops Q (o :: rest) a w := by
  obtain ⟨i, hi, hz, hs1, hby⟩ := info_parts_u8
  have form : ∀ (v' : Value) (w' : World), w'.ownsRow base 5 1 v' n (CELLS xs) → ∃ a' c', v' = .slice a' n c' := fun v' w' h => by
    rcases h.2 with ⟨rfl, rfl⟩ | ⟨g, cap, cur, rfl, _⟩
    · exact ⟨none, 0, rfl⟩
    · exact ⟨_, cap, rfl⟩
  cases ao with
  | none =>
    obtain rfl := hc rfl
    refine wpList_append_own_none hgd s x 35 ho base 5 i 1 Tryd.underlying35 hi v n (CELLS xs) hs hown hx ?_
    obtain ⟨a', c', rfl⟩ := form v w hown
    exact h a' c' w hown (grown_refl _ _)
  | some ad =>
    refine wpList_append_own w hgd s x 35 ho base 5 i (.int .u8 0) 1 1 Tryd.underlying35 hi hz hs1 hby rfl (by decide) v n (CELLS xs) hs hown ad 0 c [] hx rfl (fun j u hj => by simp at hj) (fun u hu => by simp at hu) (by simp only [maxLen]; omega) (by omega) hbase ?_
    intro v' w' h1 h2 _
    simp only [Nat.add_zero, List.append_nil] at h1
    obtain ⟨a', c', rfl⟩ := form v' w' h1
    exact h a' c' w' h1 h2

/-- what is owned reads so. -/
theorem own_bytes {w : World} {base g n cap : Nat} {l : List Int} (h : w.ownsRow base 5 1 (.slice (some ⟨g, 0, none⟩) n cap) n (CELLS l)) (hg : g < w.heap.size) (hl : ∀ x ∈ l, 0 ≤ x ∧ x ≤ 255) : Bytes w (some ⟨g, 0, none⟩) n l := by
  have hlen : l.length = n := by have := h.1; simpa [CELLS] using this
  refine ⟨hlen, fun _ => ⟨g, 0, rfl, hg, fun i hi => ?_⟩, hl⟩
  rw [Nat.zero_add, h.cellAt i (by omega), CELLS_get l i (by omega)]
theorem own_empty (w : World) (base : Nat) (hb : base ≤ w.heap.size) : (w.alloc (.cells #[] 5)).ownsRow base 5 1 (.slice (some ⟨w.heap.size, 0, none⟩) 0 0) 0 (CELLS []) :=
  World.ownsRow_lit w #[] 0 hb (by simp [maxLen]) rfl
theorem row_bytes (w : World) (n : Nat) (f : Nat → Int) (l : List Int) (hl : l.length = n) (hf : ∀ i, i < n → f i = l.getD i 0) (hr : ∀ x ∈ l, 0 ≤ x ∧ x ≤ 255) : Bytes (w.alloc (.cells (BARR n f) 5)) (some ⟨w.heap.size, 0, none⟩) n l := by
  refine ⟨hl, fun _ => ⟨w.heap.size, 0, rfl, by simp, fun i hi => ?_⟩, hr⟩
  rw [Nat.zero_add, World.cell?_alloc_at _ _ _ _ rfl, BARR_get n f i hi, hf i hi]

theorem own_bytes_any {w : World} {base n c : Nat} {a : Option Addr} {l : List Int} (h : w.ownsRow base 5 1 (.slice a n c) n (CELLS l)) (hl : ∀ x ∈ l, 0 ≤ x ∧ x ≤ 255) : Bytes w a n l ∧ n ≤ c := by
  rcases h.2 with ⟨hv, hn⟩ | ⟨g, cap, cur, hv, _, hg, hc, _⟩
  · simp only [Value.slice.injEq] at hv
    obtain ⟨rfl, rfl, rfl⟩ := hv
    have : l = [] := by have := h.1; simpa [CELLS] using this
    subst this
    exact ⟨⟨rfl, fun h => by omega, fun x hx => by simp at hx⟩, Nat.le_refl _⟩
  · simp only [Value.slice.injEq] at hv
    obtain ⟨rfl, _, rfl⟩ := hv
    exact ⟨own_bytes h (Array.getElem?_eq_some_iff.1 hg).1 hl, hc⟩
/-- bytes are appended, or none. -/
theorem app_any {ops : Array Oper} {rest : List Oper} {o : Oper} {a : Act} {Q : Exit → Act → World → Prop} (w : World) (hgd : o.guard = none) (s x : Operand)
    (ho : o.op = .call { callee := .builtin .append, args := #[s, x], argTypes := #[35, 35] })
    (base : Nat) (v : Value) (n : Nat) (xs : List Int) (hs : a.eval s = v) (hown : w.ownsRow base 5 1 v n (CELLS xs))
    (ao : Option Addr) (m c : Nat) (l : List Int) (hx : a.eval x = .slice ao m c) (hB : Bytes w ao m l) (hc : ao = none → c = 0)
    (N : Nat) (L : List Int) (hN : n + m = N) (hL : xs ++ l = L) (hb : N ≤ 140737488355328) (hbase : base ≤ w.heap.size)
    (h : ∀ a' c' w', w'.ownsRow base 5 1 (.slice a' N c') N (CELLS L) → w.grownBy w' v.ownBlock → wpList Tryd.prog ops Q rest (a.put o.dst (.slice a' N c')) w') : wpList Tryd.prog ops Q (o :: rest) a w := by
  subst hN hL
  rcases Nat.eq_zero_or_pos m with hm | hm
  · subst hm
    have hl : l = [] := by have := hB.1; simpa using this
    subst hl
    refine app_zero w hgd s x ho base v n xs hs hown ao c hx hc (by omega) hbase ?_
    simpa using h
  · obtain ⟨b, off, rfl, _, _⟩ := hB.2.1 hm
    refine app_u8 w hgd s x ho base v n xs hs hown b off m c l hx hB hm hb hbase ?_
    intro g cap w' h1 h2 _
    exact h _ cap w' h1 h2

/-! bytes and their number -/
theorem foldl_split : ∀ (l : List Int) (acc : Int), l.foldl (fun acc x => acc * 256 + x) acc = acc * 256 ^ l.length + BIGV l
  | [], acc => by simp [BIGV]
  | x :: l, acc => by
    rw [List.foldl_cons, foldl_split l, List.length_cons, Int.pow_succ]
    have : BIGV (x :: l) = x * 256 ^ l.length + BIGV l := by
      show List.foldl (fun acc x => acc * 256 + x) (0 * 256 + x) l = _
      rw [foldl_split l]
      simp
    rw [this, Int.add_mul, Int.mul_assoc, Int.mul_comm 256, Int.add_assoc]
theorem BIGV_append (a b : List Int) : BIGV (a ++ b) = BIGV a * 256 ^ b.length + BIGV b := by
  show List.foldl _ 0 (a ++ b) = _
  rw [List.foldl_append, foldl_split b]
  rfl
theorem BIGV_byte (l : List Int) (hl : ∀ x ∈ l, 0 ≤ x ∧ x ≤ 255) (X : Nat) (hX : BIGV l = (X : Int)) (i : Nat) (hi : i < l.length) : BYTE X l.length i = l.getD i 0 := by
  have hs : l = l.take (i + 1) ++ l.drop (i + 1) := (List.take_append_drop (i + 1) l).symm
  have h1 := BIGV_append (l.take (i + 1)) (l.drop (i + 1))
  rw [← hs, take_next l i hi, BIGV_snoc] at h1
  have hd := BIGV_bounds (l.drop (i + 1)) (fun x hx => hl x (List.mem_of_mem_drop hx))
  have ht := BIGV_bounds (l.take i) (fun x hx => hl x (List.mem_of_mem_take hx))
  have hx := hl (l.getD i 0) (by
    rw [List.getD_eq_getElem?_getD, List.getElem?_eq_getElem hi]
    exact List.getElem_mem hi)
  rw [List.length_drop, show l.length - (i + 1) = l.length - 1 - i by omega] at h1 hd
  have hp : (256 : Int) ^ (l.length - 1 - i) = ((2 ^ (8 * (l.length - 1 - i)) : Nat) : Int) := by
    rw [Nat.pow_mul]
    simp
  rw [hp] at h1 hd
  unfold BYTE
  generalize 2 ^ (8 * (l.length - 1 - i)) = p at h1 hd
  generalize l.getD i 0 = y at h1 hx
  generalize BIGV (l.drop (i + 1)) = z at h1 hd
  generalize BIGV (l.take i) = t at h1 ht
  rw [hX] at h1
  have hp0 : (0 : Int) < (p : Int) := by omega
  have hq : ((X / p : Nat) : Int) = t * 256 + y := by
    rw [Int.natCast_ediv, h1, Int.add_comm, Int.add_mul_ediv_right _ _ (by omega), Int.ediv_eq_zero_of_lt hd.1 hd.2, Int.zero_add]
  omega
theorem BIGV_fits (l : List Int) (hl : ∀ x ∈ l, 0 ≤ x ∧ x ≤ 255) (X : Nat) (hX : BIGV l = (X : Int)) : X / 2 ^ (8 * l.length) = 0 := by
  have h := (BIGV_bounds l hl).2
  have hp : (256 : Int) ^ l.length = ((2 ^ (8 * l.length) : Nat) : Int) := by
    rw [Nat.pow_mul]
    simp
  rw [hp, hX] at h
  exact Nat.div_eq_of_lt (by omega)
end Go.Proofs.YtmpaifkjlhodpaaDoor
