/- Texts of PartOne, one behind the other: PosHas, NumPlain, NumPop, PosPlain. -/
import Derived.Test.YtnplhejopmoopaaDoorProg
import Derived.WalkKit
import Derived.WalkLawsBesides
import Derived.Deep.WholeRow
import Derived.Deep.LoopGhost
import Derived.Laws.ResultCell
import Derived.Laws.Rows
import Derived.Laws.Tables
import Derived.OpenShut
/- Blocks of one's own in a world that is a variable. -/
namespace Go.Proofs.YtnplhejopmoopaaDoor
open Go.RowKit

/-- the block g holds the cells c. -/
def Has (w : World) (g : Nat) (c : Array Value) (t : TypeId) : Prop := w.heap[g]? = some (.cells c t)
theorem Has.cell {w : World} {g : Nat} {c : Array Value} {t : TypeId} (h : Has w g c t) (i : Nat) : w.cell? ⟨g, i, none⟩ = c[i]? := cell_of_row w g i c t _ h
theorem Has.lt {w : World} {g : Nat} {c : Array Value} {t : TypeId} (h : Has w g c t) : g < w.heap.size := (Array.getElem?_eq_some_iff.1 h).1
theorem Has.frozen {w : World} {g : Nat} {c : Array Value} {t : TypeId} (h : Has w g c t) (i : Nat) : w.frozen? ⟨g, i, none⟩ = false := by
  have e : w.heap[g]? = some (.cells c t) := h
  simp [World.frozen?, e]
theorem Has.set {w : World} {g : Nat} {c : Array Value} {t : TypeId} (h : Has w g c t) (i : Nat) (v : Value) : Has (w.setCell ⟨g, i, none⟩ v) g (c.setIfInBounds i v) t := by
  have e : w.heap[g]? = some (.cells c t) := h
  unfold Has
  rw [setCell_eq_setRow w g i c t _ v e, setRow_heap w g c _ t _ e]
theorem Has.other {w : World} {g : Nat} {c : Array Value} {t : TypeId} (h : Has w g c t) {a : Addr} (ha : g ≠ a.block) (v : Value) : Has (w.setCell a v) g c t := by
  have e : w.heap[g]? = some (.cells c t) := h
  unfold Has
  rw [Below.heap_setCell w a v g ha, e]
theorem Has.below {B : Nat} {w w' : World} {g : Nat} {c : Array Value} {t : TypeId} (h : Has w g c t) (hb : Below B w w') (hg : g < B) : Has w' g c t := (hb.block g hg).trans h
theorem Has.keep {w w' : World} {g : Nat} {c : Array Value} {t : TypeId} (h : Has w g c t) (hb : Below w.heap.size w w') : Has w' g c t := h.below hb h.lt
theorem Has.alloc {w : World} {g : Nat} {c : Array Value} {t : TypeId} (h : Has w g c t) (o : Obj) : Has (w.alloc o) g c t := by
  have e : w.heap[g]? = some (.cells c t) := h
  unfold Has
  rw [Below.heap_alloc w o g h.lt, e]
theorem Has.new (w : World) (c : Array Value) (t : TypeId) : Has (w.alloc (.cells c t)) w.heap.size c t := heap_alloc_new w _
theorem Has.at (w : World) (c : Array Value) (t : TypeId) {g : Nat} (hg : g = w.heap.size) : Has (w.alloc (.cells c t)) g c t := by subst hg; exact Has.new w c t
theorem Has.row {w : World} {g : Nat} {c : Array Value} {t : TypeId} (h : Has w g c t) (c' : Array Value) : Has (w.setRow g c') g c' t := setRow_heap w g c c' t _ h
theorem Has.row_other {w : World} {g k : Nat} {c : Array Value} {t : TypeId} (h : Has w g c t) (hk : g ≠ k) (c' : Array Value) : Has (w.setRow k c') g c t := by
  have e : w.heap[g]? = some (.cells c t) := h
  unfold Has
  rw [setRow_other w k g c' hk, e]
theorem Has.drewN {w : World} {g : Nat} {c : Array Value} {t : TypeId} (h : Has w g c t) (n : Nat) : Has (w.drewN n) g c t := h
theorem set_off {w : World} {b i j : Nat} (h : i ≠ j) (v : Value) : (w.setCell ⟨b, i, none⟩ v).cell? ⟨b, j, none⟩ = w.cell? ⟨b, j, none⟩ := World.cell?_setCell_other w _ _ v (fun e => h (congrArg Addr.off e))
theorem below_row {B g : Nat} {w0 w : World} (hb : Below B w0 w) (hBg : B ≤ g) (cs : Array Value) : Below B w0 (w.setRow g cs) :=
  ⟨hb.os, hb.tape, hb.output, by have := hb.size; simpa [World.setRow] using this, fun k hk => by rw [setRow_other w g k cs (by omega)]; exact hb.block k hk⟩
end Go.Proofs.YtnplhejopmoopaaDoor

/- Plain facts on numbers of 64 bits and their bits; no Go in sight. -/
namespace Go.Proofs.YtnplhejopmoopaaDoor
open Go.RowKit

/-- x times 2^-n, rounded down, modulo 2^64. -/
def SHR (x : Nat) (n : Int) : Nat := if n < 0 then x * 2 ^ (-n).toNat % 2 ^ 64 else x / 2 ^ n.toNat
/-- the lowest n bits. -/
def MASK (n : Int) : Nat := 2 ^ min n.toNat 64 - 1
/-! bit by bit -/
/-! what the walk writes -/
theorem pow_big {x k : Nat} (hx : x < 2 ^ 64) (h : 64 ≤ k) : x / 2 ^ k = 0 :=
  Nat.div_eq_of_lt (Nat.lt_of_lt_of_le hx (Nat.pow_le_pow_right (by decide) h))
theorem div_min {x : Nat} (hx : x < 2 ^ 64) (k : Nat) : x / 2 ^ min k 64 = x / 2 ^ k := by
  by_cases h : k ≤ 64
  · rw [Nat.min_eq_left h]
  · rw [Nat.min_eq_right (by omega), pow_big hx (Nat.le_refl _), pow_big hx (by omega)]
theorem mul_min (x k : Nat) : x * 2 ^ min k 64 % 2 ^ 64 = x * 2 ^ k % 2 ^ 64 := by
  by_cases h : k ≤ 64
  · rw [Nat.min_eq_left h]
  · rw [Nat.min_eq_right (by omega), show k = 64 + (k - 64) by omega, Nat.pow_add, Nat.mul_mod_left, ← Nat.mul_assoc, Nat.mul_right_comm, Nat.mul_mod_left]
theorem wrapU (z : Int) : IntKind.u64.wrap z = z % 2 ^ 64 := by rw [IntKind.wrap_u64]; rfl
theorem against_eq (n : Int) (h0 : -(2 ^ 63) ≤ n) (h : n < 0) : (IntKind.u64.wrap (-IntKind.u64.wrap n)).toNat = (-n).toNat := by
  rw [wrapU, wrapU]; omega
theorem up_eq (n : Int) (h0 : n < 2 ^ 63) (h : ¬ n < 0) : (IntKind.u64.wrap n).toNat = n.toNat := by
  rw [wrapU]; omega
theorem div_cast (X k : Nat) : (X : Int) / 2 ^ k = ((X / 2 ^ k : Nat) : Int) := by simp
theorem mul_cast (X k : Nat) : IntKind.u64.wrap ((X : Int) * 2 ^ k) = ((X * 2 ^ k % 2 ^ 64 : Nat) : Int) := by rw [wrapU]; simp
theorem shr_raw_eq {X : Nat} (hX : X < 2 ^ 64) {n : Int} (h0 : -(2 ^ 63) ≤ n) (h1 : n < 2 ^ 63) :
    (if n < 0 then IntKind.u64.wrap ((X : Int) * 2 ^ min (IntKind.u64.wrap (-IntKind.u64.wrap n)).toNat 64) else (X : Int) / 2 ^ min (IntKind.u64.wrap n).toNat 64) = ((SHR X n : Nat) : Int) := by
  unfold SHR
  split
  · rename_i h
    rw [against_eq n h0 h, mul_cast, mul_min]
  · rename_i h
    rw [up_eq n h1 h, div_cast, div_min hX]
theorem mask_raw_eq {n : Int} (h1 : n < 2 ^ 63) :
    (if n ≤ 0 then 0 else IntKind.u64.wrap (IntKind.u64.wrap (1 * 2 ^ min (IntKind.u64.wrap n).toNat 64) - 1)) = ((MASK n : Nat) : Int) := by
  unfold MASK
  split
  · rename_i h
    rw [show n.toNat = 0 by omega]; rfl
  · rename_i h
    rw [up_eq n h1 (by omega)]
    have e : (1 : Int) * 2 ^ min n.toNat 64 = ((2 ^ min n.toNat 64 : Nat) : Int) := by simp
    rw [e, wrapU, wrapU]
    have h1 : 2 ^ min n.toNat 64 ≤ 2 ^ 64 := Nat.pow_le_pow_right (by decide) (Nat.min_le_right _ _)
    have h2 : 0 < 2 ^ min n.toNat 64 := Nat.two_pow_pos _
    generalize 2 ^ min n.toNat 64 = p at *
    omega
theorem and_eq {a b : Nat} (ha : a < 2 ^ 64) (hb : b < 2 ^ 64) : bits .and .u64 (a : Int) (b : Int) = ((a &&& b : Nat) : Int) := bits_and_u64_nat a b ha hb
theorem or_eq {a b : Nat} (ha : a < 2 ^ 64) (hb : b < 2 ^ 64) : bits .or .u64 (a : Int) (b : Int) = ((a ||| b : Nat) : Int) := bits_or_u64_nat a b ha hb
theorem ofInt_toNat (n : Int) : (BitVec.ofInt 64 n).toNat = (n % 2 ^ 64).toNat := by simp [BitVec.toNat_ofInt]
theorem and127 (n : Int) : bits .and .i64 n 127 = n % 128 := by
  show IntKind.i64.wrap ((BitVec.ofInt 64 n &&& BitVec.ofInt 64 127).toNat : Int) = _
  have h7 : (BitVec.ofInt 64 127).toNat = 127 := by decide
  rw [BitVec.toNat_and, ofInt_toNat, h7, nat_mask7, IntKind.wrap_i64]
  omega

/-! shifts in two parts -/
/-! fields -/
end Go.Proofs.YtnplhejopmoopaaDoor

/- How many bits are set: sums of digits, two at a time; no Go in sight. -/
namespace Go.Proofs.YtnplhejopmoopaaDoor
open Go.RowKit

/-- the sum of the n lowest digits of w bits. -/
def DSUM (w : Nat) : Nat → Nat → Nat
  | 0, _ => 0
  | n + 1, x => x % 2 ^ w + DSUM w n (x / 2 ^ w)
/-- every second one of 2 n digits of k bits, all their bits. -/
def MSK (k : Nat) : Nat → Nat
  | 0 => 0
  | n + 1 => (2 ^ k - 1) + 2 ^ (2 * k) * MSK k n
/-- digits of k bits put together two by two. -/
def ADDF (k : Nat) : Nat → Nat → Nat
  | 0, _ => 0
  | n + 1, x => (x % 2 ^ k + x / 2 ^ k % 2 ^ k) + 2 ^ (2 * k) * ADDF k n (x / 2 ^ (2 * k))
/-- every digit is at most D. -/
def DLE (w D : Nat) : Nat → Nat → Prop
  | 0, _ => True
  | n + 1, x => x % 2 ^ w ≤ D ∧ DLE w D n (x / 2 ^ w)

theorem and_split (b q r s t : Nat) (hr : r < 2 ^ b) (hs : s < 2 ^ b) : (r + 2 ^ b * q) &&& (s + 2 ^ b * t) = (r &&& s) + 2 ^ b * (q &&& t) := by
  rw [Nat.add_comm r, Nat.add_comm s, Nat.add_comm (r &&& s)]
  apply Nat.eq_of_testBit_eq
  intro i
  have hrs : r &&& s < 2 ^ b := Nat.lt_of_le_of_lt Nat.and_le_left hr
  rw [Nat.testBit_and, Nat.testBit_two_pow_mul_add _ hr, Nat.testBit_two_pow_mul_add _ hs, Nat.testBit_two_pow_mul_add _ hrs]
  split
  · rw [Nat.testBit_and]
  · rw [Nat.testBit_and]
theorem sq_pow (k : Nat) : 2 ^ (2 * k) = 2 ^ k * 2 ^ k := by rw [Nat.two_mul, Nat.pow_add]
theorem low_lt (k : Nat) : 2 ^ k - 1 < 2 ^ (2 * k) := by
  have h1 : 2 ^ k ≤ 2 ^ (2 * k) := Nat.pow_le_pow_right (by decide) (by omega)
  have h2 := Nat.two_pow_pos k
  omega
theorem split2 (k x : Nat) : x = x % 2 ^ (2 * k) + 2 ^ (2 * k) * (x / 2 ^ (2 * k)) := (Nat.mod_add_div _ _).symm
theorem mod_mod2 (k x : Nat) : x % 2 ^ (2 * k) % 2 ^ k = x % 2 ^ k := Nat.mod_mod_of_dvd _ ⟨2 ^ k, sq_pow k⟩
theorem and_MSK (k : Nat) : ∀ (n x : Nat), x &&& MSK k (n + 1) = x % 2 ^ k + 2 ^ (2 * k) * (x / 2 ^ (2 * k) &&& MSK k n) := fun n x => by
  conv => lhs; rw [split2 k x]
  show _ &&& ((2 ^ k - 1) + 2 ^ (2 * k) * MSK k n) = _
  rw [and_split _ _ _ _ _ (Nat.mod_lt _ (Nat.two_pow_pos _)) (low_lt k), Nat.and_two_pow_sub_one_eq_mod, mod_mod2]
theorem div_div2 (k x : Nat) : x / 2 ^ k / 2 ^ (2 * k) = x / 2 ^ (2 * k) / 2 ^ k := by rw [Nat.div_div_eq_div_mul, Nat.div_div_eq_div_mul, Nat.mul_comm]
theorem ADDF_eq (k : Nat) : ∀ (n x : Nat), (x / 2 ^ k &&& MSK k n) + (x &&& MSK k n) = ADDF k n x
  | 0, x => by simp [MSK, ADDF]
  | n + 1, x => by
    rw [and_MSK, and_MSK, div_div2, ADDF, ← ADDF_eq k n (x / 2 ^ (2 * k)), Nat.mul_add]
    omega
theorem two_le_pow {k : Nat} (hk : 1 ≤ k) : 2 ≤ 2 ^ k := Nat.le_trans (by decide) (Nat.pow_le_pow_right (n := 2) (by decide) hk)
theorem pair_lt {k : Nat} (hk : 1 ≤ k) (x : Nat) : x % 2 ^ k + x / 2 ^ k % 2 ^ k < 2 ^ (2 * k) := by
  have h1 := Nat.mod_lt x (Nat.two_pow_pos k)
  have h2 := Nat.mod_lt (x / 2 ^ k) (Nat.two_pow_pos k)
  have h3 : 2 * 2 ^ k ≤ 2 ^ k * 2 ^ k := Nat.mul_le_mul_right _ (two_le_pow hk)
  rw [sq_pow]
  omega
theorem ADDF_low {k : Nat} (hk : 1 ≤ k) (n x : Nat) : ADDF k (n + 1) x % 2 ^ (2 * k) = x % 2 ^ k + x / 2 ^ k % 2 ^ k := by
  rw [ADDF, Nat.add_mul_mod_self_left, Nat.mod_eq_of_lt (pair_lt hk x)]
theorem ADDF_high {k : Nat} (hk : 1 ≤ k) (n x : Nat) : ADDF k (n + 1) x / 2 ^ (2 * k) = ADDF k n (x / 2 ^ (2 * k)) := by
  rw [ADDF, Nat.add_mul_div_left _ _ (Nat.two_pow_pos _), Nat.div_eq_of_lt (pair_lt hk x), Nat.zero_add]
theorem DSUM_ADDF {k : Nat} (hk : 1 ≤ k) : ∀ (n x : Nat), DSUM (2 * k) n (ADDF k n x) = DSUM k (2 * n) x
  | 0, x => rfl
  | n + 1, x => by
    rw [DSUM, ADDF_low hk, ADDF_high hk, DSUM_ADDF hk n, show 2 * (n + 1) = 2 * n + 1 + 1 by omega, DSUM, DSUM, Nat.div_div_eq_div_mul, ← sq_pow]
    omega
theorem DLE_ADDF {k D : Nat} (hk : 1 ≤ k) : ∀ (n x : Nat), DLE k D (2 * n) x → DLE (2 * k) (2 * D) n (ADDF k n x)
  | 0, _, _ => trivial
  | n + 1, x, h => by
    rw [show 2 * (n + 1) = 2 * n + 1 + 1 by omega] at h
    obtain ⟨h1, h2, h3⟩ := h
    refine ⟨?_, ?_⟩
    · rw [ADDF_low hk]
      omega
    · rw [ADDF_high hk]
      refine DLE_ADDF hk n _ ?_
      rw [Nat.div_div_eq_div_mul, ← sq_pow] at h3
      exact h3
theorem DLE_bits : ∀ (n x : Nat), DLE 1 1 n x
  | 0, _ => trivial
  | n + 1, _ => ⟨by omega, DLE_bits n _⟩
/-- where two neighbours never carry, the mask may come behind the sum. -/
theorem ADDF_late {k D : Nat} (hk : 1 ≤ k) (hD : 2 * D < 2 ^ k) : ∀ (n x : Nat), x < 2 ^ (2 * k * n) → DLE k D (2 * n) x → (x / 2 ^ k + x) &&& MSK k n = ADDF k n x
  | 0, x, _, _ => by simp [MSK, ADDF]
  | n + 1, x, hx, h => by
    rw [show 2 * (n + 1) = 2 * n + 1 + 1 by omega] at h
    obtain ⟨h1, h2, h3⟩ := h
    rw [Nat.div_div_eq_div_mul, ← sq_pow] at h3
    have hq : x / 2 ^ (2 * k) < 2 ^ (2 * k * n) := Nat.div_lt_of_lt_mul (by rw [← Nat.pow_add, show 2 * k + 2 * k * n = 2 * k * (n + 1) by rw [Nat.mul_add, Nat.mul_one, Nat.add_comm]]; exact hx)
    have ih := ADDF_late hk hD n (x / 2 ^ (2 * k)) hq h3
    have hq0 : x / 2 ^ (2 * k) % 2 ^ k ≤ D := by
      cases n with
      | zero =>
        have : x / 2 ^ (2 * k) = 0 := by simpa using hq
        rw [this]
        simp
      | succ n => exact h3.1
    have hp := Nat.two_pow_pos k
    have e1 : x = x % 2 ^ k + 2 ^ k * (x / 2 ^ k % 2 ^ k) + 2 ^ k * 2 ^ k * (x / 2 ^ (2 * k)) := by
      have a := (Nat.mod_add_div x (2 ^ k)).symm
      have b := (Nat.mod_add_div (x / 2 ^ k) (2 ^ k)).symm
      rw [Nat.div_div_eq_div_mul, ← sq_pow] at b
      conv => lhs; rw [a, b]
      rw [Nat.mul_add, ← Nat.mul_assoc, Nat.add_assoc]
    have e2 : x / 2 ^ k = x / 2 ^ k % 2 ^ k + 2 ^ k * (x / 2 ^ (2 * k) % 2 ^ k) + 2 ^ k * 2 ^ k * (x / 2 ^ (2 * k) / 2 ^ k) := by
      have a := (Nat.mod_add_div (x / 2 ^ k) (2 ^ k)).symm
      rw [Nat.div_div_eq_div_mul, ← sq_pow] at a
      have b := (Nat.mod_add_div (x / 2 ^ (2 * k)) (2 ^ k)).symm
      conv => lhs; rw [a, b]
      rw [Nat.mul_add, ← Nat.mul_assoc, Nat.add_assoc]
    have e3 : x / 2 ^ k + x = (x % 2 ^ k + x / 2 ^ k % 2 ^ k + 2 ^ k * (x / 2 ^ k % 2 ^ k + x / 2 ^ (2 * k) % 2 ^ k)) + 2 ^ (2 * k) * (x / 2 ^ (2 * k) / 2 ^ k + x / 2 ^ (2 * k)) := by
      conv => lhs; rw [e2]; arg 2; rw [e1]
      rw [sq_pow, Nat.mul_add, Nat.mul_add]
      omega
    have hlow : x % 2 ^ k + x / 2 ^ k % 2 ^ k + 2 ^ k * (x / 2 ^ k % 2 ^ k + x / 2 ^ (2 * k) % 2 ^ k) < 2 ^ (2 * k) := by
      have h4 : 2 ^ k * (x / 2 ^ k % 2 ^ k + x / 2 ^ (2 * k) % 2 ^ k) ≤ 2 ^ k * (2 ^ k - 1) := Nat.mul_le_mul_left _ (by omega)
      rw [Nat.mul_sub, Nat.mul_one] at h4
      have h5 : 2 ^ k ≤ 2 ^ k * 2 ^ k := Nat.le_mul_of_pos_left _ hp
      have h6 := sq_pow k
      generalize 2 ^ k * (x / 2 ^ k % 2 ^ k + x / 2 ^ (2 * k) % 2 ^ k) = y at h4
      generalize x / 2 ^ (2 * k) % 2 ^ k = z at *
      generalize 2 ^ k * 2 ^ k = u at *
      generalize 2 ^ (2 * k) = v at *
      omega
    rw [e3]
    show _ &&& ((2 ^ k - 1) + 2 ^ (2 * k) * MSK k n) = _
    rw [and_split _ _ _ _ _ hlow (low_lt k), Nat.and_two_pow_sub_one_eq_mod, ih, Nat.add_mul_mod_self_left, Nat.mod_eq_of_lt (by omega), ADDF]

/-! all together -/
def POP (X : Nat) : Nat := DSUM 1 64 X
theorem m0_eq : MSK 1 32 = 6148914691236517205 := by decide
theorem m1_eq : MSK 2 16 = 3689348814741910323 := by decide
theorem m2_eq : MSK 4 8 = 1085102592571150095 := by decide
theorem ADDF_lt {k : Nat} (hk : 1 ≤ k) : ∀ (n x : Nat), ADDF k n x < 2 ^ (2 * k * n)
  | 0, _ => by simp [ADDF]
  | n + 1, x => by
    have h1 := ADDF_lt hk n (x / 2 ^ (2 * k))
    have h2 := pair_lt hk x
    rw [ADDF, show 2 * k * (n + 1) = 2 * k * n + 2 * k by rw [Nat.mul_add, Nat.mul_one], Nat.pow_add]
    have h3 : 2 ^ (2 * k) * ADDF k n (x / 2 ^ (2 * k)) ≤ 2 ^ (2 * k) * (2 ^ (2 * k * n) - 1) := Nat.mul_le_mul_left _ (by omega)
    rw [Nat.mul_sub, Nat.mul_one, Nat.mul_comm _ (2 ^ (2 * k * n))] at h3
    have h4 : 2 ^ (2 * k) ≤ 2 ^ (2 * k * n) * 2 ^ (2 * k) := Nat.le_mul_of_pos_left _ (Nat.two_pow_pos _)
    omega
theorem div_low {a b q : Nat} (h : b < a) : (b + a * q) / a = q := by rw [Nat.add_mul_div_left _ _ (by omega), Nat.div_eq_of_lt h, Nat.zero_add]
theorem pop_s2 {d0 d1 d2 x R1 R2 R3 : Nat} (e0 : x = d0 + 256 * R1) (e1 : R1 = d1 + 256 * R2) (e2 : R2 = d2 + 256 * R3) : x + R1 = (d0 + d1 + 256 * (d1 + d2)) + 65536 * (R2 + R3) := by
  subst e0 e1 e2
  omega
theorem pop_s3 {d0 d1 d2 d3 d4 d5 d6 d7 x R1 R2 R3 R4 R5 R6 : Nat} (e0 : x = d0 + 256 * R1) (e1 : R1 = d1 + 256 * R2) (e2 : R2 = d2 + 256 * R3) (e3 : R3 = d3 + 256 * R4) (e4 : R4 = d4 + 256 * R5) (e5 : R5 = d5 + 256 * R6) (e6 : R6 = d6 + 256 * d7) :
    x + R1 + (R2 + R3) = (d0 + d1 + d2 + d3 + 256 * (d1 + d2 + d3 + d4) + 65536 * (d2 + d3 + d4 + d5) + 16777216 * (d3 + d4 + d5 + d6)) + 4294967296 * (R4 + R5 + R6 + d7) := by
  subst e0 e1 e2 e3 e4 e5 e6
  omega
theorem pop_s4 {d0 d1 d2 d3 d4 d5 d6 d7 x R1 R2 R3 R4 R5 R6 : Nat} (e0 : x = d0 + 256 * R1) (e1 : R1 = d1 + 256 * R2) (e2 : R2 = d2 + 256 * R3) (e3 : R3 = d3 + 256 * R4) (e4 : R4 = d4 + 256 * R5) (e5 : R5 = d5 + 256 * R6) (e6 : R6 = d6 + 256 * d7) :
    x + R1 + (R2 + R3) + (R4 + R5 + R6 + d7) = (d0 + (d1 + (d2 + (d3 + (d4 + (d5 + (d6 + d7))))))) + 128 * (2 * (R1 + R2 + R3 + R4 + R5 + R6 + d7)) := by
  rw [e0]
  have h : R1 + (R2 + R3) + (R4 + R5 + R6 + d7) = (d1 + 256 * R2) + ((d2 + 256 * R3) + (d3 + 256 * R4)) + ((d4 + 256 * R5) + (d5 + 256 * R6) + (d6 + 256 * d7) + d7) := by
    rw [← e1, ← e2, ← e3, ← e4, ← e5, ← e6]
  clear e0 e1 e2 e3 e4 e5 e6
  omega
theorem pop_b {d7 d6 R6 : Nat} {B : Nat} (e6 : R6 = d6 + 256 * d7) (h6 : d6 ≤ 8) (h7 : d7 ≤ B) : R6 ≤ 8 + 256 * B := by
  subst e6
  omega
theorem pop_low2 {d0 d1 d2 : Nat} (h0 : d0 ≤ 8) (h1 : d1 ≤ 8) (h2 : d2 ≤ 8) : d0 + d1 + 256 * (d1 + d2) < 65536 := by omega
theorem pop_low3 {d0 d1 d2 d3 d4 d5 d6 : Nat} (h0 : d0 ≤ 8) (h1 : d1 ≤ 8) (h2 : d2 ≤ 8) (h3 : d3 ≤ 8) (h4 : d4 ≤ 8) (h5 : d5 ≤ 8) (h6 : d6 ≤ 8) : d0 + d1 + d2 + d3 + 256 * (d1 + d2 + d3 + d4) + 65536 * (d2 + d3 + d4 + d5) + 16777216 * (d3 + d4 + d5 + d6) < 4294967296 := by omega
theorem pop_low4 {d0 d1 d2 d3 d4 d5 d6 d7 : Nat} (h0 : d0 ≤ 8) (h1 : d1 ≤ 8) (h2 : d2 ≤ 8) (h3 : d3 ≤ 8) (h4 : d4 ≤ 8) (h5 : d5 ≤ 8) (h6 : d6 ≤ 8) (h7 : d7 ≤ 8) : d0 + (d1 + (d2 + (d3 + (d4 + (d5 + (d6 + d7)))))) < 128 := by omega
theorem pop_top {x R1 R2 R3 R4 R5 R6 d7 : Nat} (h7 : d7 ≤ 8) (b6 : R6 ≤ 8 + 256 * 8) (b5 : R5 ≤ 8 + 256 * (8 + 256 * 8)) (b4 : R4 ≤ 8 + 256 * (8 + 256 * (8 + 256 * 8))) (b3 : R3 ≤ 8 + 256 * (8 + 256 * (8 + 256 * (8 + 256 * 8)))) (b2 : R2 ≤ 8 + 256 * (8 + 256 * (8 + 256 * (8 + 256 * (8 + 256 * 8))))) (b1 : R1 ≤ 8 + 256 * (8 + 256 * (8 + 256 * (8 + 256 * (8 + 256 * (8 + 256 * 8)))))) (b0 : x ≤ 8 + 256 * (8 + 256 * (8 + 256 * (8 + 256 * (8 + 256 * (8 + 256 * (8 + 256 * 8))))))) :
    x + R1 + (R2 + R3) + (R4 + R5 + R6 + d7) < 2 ^ 64 := by omega
theorem pop_horner (d0 d1 d2 d3 d4 d5 d6 d7 : Nat) (h0 : d0 ≤ 8) (h1 : d1 ≤ 8) (h2 : d2 ≤ 8) (h3 : d3 ≤ 8) (h4 : d4 ≤ 8) (h5 : d5 ≤ 8) (h6 : d6 ≤ 8) (h7 : d7 ≤ 8) (x R1 R2 R3 R4 R5 R6 : Nat)
    (e0 : x = d0 + 256 * R1) (e1 : R1 = d1 + 256 * R2) (e2 : R2 = d2 + 256 * R3) (e3 : R3 = d3 + 256 * R4) (e4 : R4 = d4 + 256 * R5) (e5 : R5 = d5 + 256 * R6) (e6 : R6 = d6 + 256 * d7) :
    (x + x / 256 + (x + x / 256) / 65536 + (x + x / 256 + (x + x / 256) / 65536) / 4294967296) % 128 = d0 + (d1 + (d2 + (d3 + (d4 + (d5 + (d6 + d7)))))) ∧ x + x / 256 + (x + x / 256) / 65536 + (x + x / 256 + (x + x / 256) / 65536) / 4294967296 < 2 ^ 64 := by
  have q1 : x / 256 = R1 := by rw [e0]; exact div_low (Nat.lt_of_le_of_lt h0 (by decide))
  have q2 : (x + R1) / 65536 = R2 + R3 := by rw [pop_s2 e0 e1 e2]; exact div_low (pop_low2 h0 h1 h2)
  have q3 : (x + R1 + (R2 + R3)) / 4294967296 = R4 + R5 + R6 + d7 := by rw [pop_s3 e0 e1 e2 e3 e4 e5 e6]; exact div_low (pop_low3 h0 h1 h2 h3 h4 h5 h6)
  rw [q1, q2, q3]
  have b6 := pop_b e6 h6 h7
  have b5 := pop_b e5 h5 b6
  have b4 := pop_b e4 h4 b5
  have b3 := pop_b e3 h3 b4
  have b2 := pop_b e2 h2 b3
  have b1 := pop_b e1 h1 b2
  have b0 := pop_b e0 h0 b1
  refine ⟨?_, pop_top h7 b6 b5 b4 b3 b2 b1 b0⟩
  rw [pop_s4 e0 e1 e2 e3 e4 e5 e6, Nat.add_mul_mod_self_left, Nat.mod_eq_of_lt (pop_low4 h0 h1 h2 h3 h4 h5 h6 h7)]
theorem pop_last {x : Nat} (hx : x < 2 ^ 64) (h : DLE 8 8 8 x) : (x + x / 256 + (x + x / 256) / 65536 + (x + x / 256 + (x + x / 256) / 65536) / 4294967296) % 128 = DSUM 8 8 x ∧ x + x / 256 + (x + x / 256) / 65536 + (x + x / 256 + (x + x / 256) / 65536) / 4294967296 < 2 ^ 64 := by
  obtain ⟨h0, h1, h2, h3, h4, h5, h6, h7, _⟩ := h
  simp only [DSUM, Nat.add_zero]
  simp only [Nat.reducePow] at *
  have l7 : x / 256 / 256 / 256 / 256 / 256 / 256 / 256 < 256 := by
    have e : x / 256 / 256 / 256 / 256 / 256 / 256 / 256 = x / 72057594037927936 := by simp only [Nat.div_div_eq_div_mul]
    rw [e]
    exact Nat.div_lt_of_lt_mul hx
  rw [Nat.mod_eq_of_lt l7] at h7 ⊢
  exact pop_horner _ _ _ _ _ _ _ _ h0 h1 h2 h3 h4 h5 h6 h7 x (x / 256) (x / 256 / 256) (x / 256 / 256 / 256) (x / 256 / 256 / 256 / 256) (x / 256 / 256 / 256 / 256 / 256) (x / 256 / 256 / 256 / 256 / 256 / 256)
    (Nat.mod_add_div _ _).symm (Nat.mod_add_div _ _).symm (Nat.mod_add_div _ _).symm (Nat.mod_add_div _ _).symm (Nat.mod_add_div _ _).symm (Nat.mod_add_div _ _).symm (Nat.mod_add_div _ _).symm
/-- what OnesCount64 works out. -/
def X1 (X : Nat) : Nat := (X / 2 &&& 6148914691236517205) + (X &&& 6148914691236517205)
def X2 (X : Nat) : Nat := (X1 X / 4 &&& 3689348814741910323) + (X1 X &&& 3689348814741910323)
def X3 (X : Nat) : Nat := (X2 X / 16 + X2 X) &&& 1085102592571150095
theorem X1_eq (X : Nat) : X1 X = ADDF 1 32 X := by
  have := ADDF_eq 1 32 X
  rw [m0_eq] at this
  exact this
theorem X2_eq (X : Nat) : X2 X = ADDF 2 16 (X1 X) := by
  have := ADDF_eq 2 16 (X1 X)
  rw [m1_eq] at this
  exact this
theorem X2_le (X : Nat) : DLE 4 4 16 (X2 X) := by
  rw [X2_eq]
  refine DLE_ADDF (k := 2) (D := 2) (by decide) 16 _ ?_
  rw [X1_eq]
  exact DLE_ADDF (k := 1) (D := 1) (by decide) 32 _ (DLE_bits 64 X)
theorem X2_lt (X : Nat) : X2 X < 2 ^ 64 := by
  rw [X2_eq]
  exact ADDF_lt (k := 2) (by decide) 16 _
theorem X3_eq (X : Nat) : X3 X = ADDF 4 8 (X2 X) := by
  have := ADDF_late (k := 4) (D := 4) (by decide) (by decide) 8 (X2 X) (X2_lt X) (X2_le X)
  rw [m2_eq] at this
  exact this
theorem X3_le (X : Nat) : DLE 8 8 8 (X3 X) := by
  rw [X3_eq]
  exact DLE_ADDF (k := 4) (D := 4) (by decide) 8 _ (X2_le X)
theorem X3_lt (X : Nat) : X3 X < 2 ^ 64 := by
  rw [X3_eq]
  exact ADDF_lt (k := 4) (by decide) 8 _
theorem X3_sum (X : Nat) : DSUM 8 8 (X3 X) = POP X := by
  rw [X3_eq]
  have a := DSUM_ADDF (k := 4) (by decide) 8 (X2 X)
  have b := DSUM_ADDF (k := 2) (by decide) 16 (X1 X)
  have c := DSUM_ADDF (k := 1) (by decide) 32 X
  rw [← X2_eq] at b
  rw [← X1_eq] at c
  exact a.trans (b.trans c)
end Go.Proofs.YtnplhejopmoopaaDoor

/- Places of the nodes of a forest, in plain numbers: how many bits are set, how many nodes there are, where the node of a height and an index stands. -/
namespace Go.Proofs.YtnplhejopmoopaaDoor

/-- how many bits of a number are set, with so many steps at most. -/
def PCF : Nat → Nat → Nat
  | 0, _ => 0
  | f + 1, n => n % 2 + PCF f (n / 2)
/-- how many bits of a number are set. -/
def PC (n : Nat) : Nat := PCF n n
theorem PCF_zero : ∀ f, PCF f 0 = 0
  | 0 => rfl
  | f + 1 => by
    show 0 % 2 + PCF f (0 / 2) = 0
    rw [show 0 / 2 = 0 from rfl, PCF_zero f]
theorem PCF_more : ∀ f g n, n ≤ f → n ≤ g → PCF f n = PCF g n
  | 0, g, n, h, _ => by
    have h0 : n = 0 := by omega
    subst h0
    rw [PCF_zero, PCF_zero]
  | f + 1, 0, n, _, h => by
    have h0 : n = 0 := by omega
    subst h0
    rw [PCF_zero, PCF_zero]
  | f + 1, g + 1, n, h1, h2 => by
    show n % 2 + PCF f (n / 2) = n % 2 + PCF g (n / 2)
    rw [PCF_more f g (n / 2) (by omega) (by omega)]
theorem PC_zero : PC 0 = 0 := rfl
theorem PC_step (n : Nat) : PC n = n % 2 + PC (n / 2) := by
  show PCF n n = n % 2 + PCF (n / 2) (n / 2)
  rw [PCF_more n (n + 1) n (Nat.le_refl n) (Nat.le_succ n)]
  show n % 2 + PCF n (n / 2) = n % 2 + PCF (n / 2) (n / 2)
  rw [PCF_more n (n / 2) (n / 2) (by omega) (Nat.le_refl _)]
theorem PC_even (m : Nat) : PC (2 * m) = PC m := by
  rw [PC_step, show 2 * m % 2 = 0 by omega, show 2 * m / 2 = m by omega, Nat.zero_add]
theorem PC_odd (m : Nat) : PC (2 * m + 1) = PC m + 1 := by
  rw [PC_step, show (2 * m + 1) % 2 = 1 by omega, show (2 * m + 1) / 2 = m by omega, Nat.add_comm]
theorem PC_one : PC 1 = 1 := by rw [show (1 : Nat) = 2 * 0 + 1 from rfl, PC_odd, PC_zero]
theorem PC_le (n : Nat) : PC n ≤ n := by
  induction n using Nat.strongRecOn with
  | _ n ih =>
    by_cases h : n = 0
    · subst h
      rw [PC_zero]
      omega
    · have := ih (n / 2) (by omega)
      rw [PC_step]
      omega
theorem PC_add (h : Nat) : ∀ k r, r < 2 ^ h → PC (k * 2 ^ h + r) = PC k + PC r := by
  induction h with
  | zero =>
    intro k r hr
    have : r = 0 := by simpa using hr
    subst this
    rw [PC_zero]
    simp
  | succ h ih =>
    intro k r hr
    rw [Nat.pow_succ] at hr
    have e : k * 2 ^ (h + 1) + r = 2 * (k * 2 ^ h + r / 2) + r % 2 := by
      rw [Nat.pow_succ, ← Nat.mul_assoc]
      omega
    have hr2 : r / 2 < 2 ^ h := by omega
    rcases Nat.mod_two_eq_zero_or_one r with h0 | h0
    · rw [e, h0, Nat.add_zero, PC_even, ih _ _ hr2, PC_step r, h0]
      omega
    · rw [e, h0, PC_odd, ih _ _ hr2, PC_step r, h0]
      omega
theorem PC_shift (h k : Nat) : PC (k * 2 ^ h) = PC k := by
  have := PC_add h k 0 (Nat.two_pow_pos h)
  rw [PC_zero] at this
  exact this
theorem PC_pow (h : Nat) : PC (2 ^ h) = 1 := by
  have := PC_shift h 1
  rw [Nat.one_mul, PC_one] at this
  exact this
theorem PC_ones : ∀ h, PC (2 ^ h - 1) = h
  | 0 => PC_zero
  | h + 1 => by
    have hp := Nat.two_pow_pos h
    rw [show 2 ^ (h + 1) - 1 = 2 * (2 ^ h - 1) + 1 by rw [Nat.pow_succ]; omega, PC_odd, PC_ones h]
theorem PC_succ (n : Nat) : PC (n + 1) ≤ PC n + 1 := by
  induction n using Nat.strongRecOn with
  | _ n ih =>
    rcases Nat.mod_two_eq_zero_or_one n with h | h
    · rw [PC_step (n + 1), PC_step n, show (n + 1) / 2 = n / 2 by omega]
      omega
    · have := ih (n / 2) (by omega)
      rw [PC_step (n + 1), PC_step n, show (n + 1) / 2 = n / 2 + 1 by omega]
      omega
theorem PC_lt_pow (h : Nat) : ∀ n, n < 2 ^ h → PC n ≤ h := by
  induction h with
  | zero =>
    intro n hn
    have : n = 0 := by simpa using hn
    subst this
    rw [PC_zero]
    omega
  | succ h ih =>
    intro n hn
    rw [Nat.pow_succ] at hn
    have := ih (n / 2) (by omega)
    rw [PC_step]
    omega
theorem DSUM_PC : ∀ k X, X < 2 ^ k → DSUM 1 k X = PC X
  | 0, X, h => by
    have : X = 0 := by simpa using h
    subst this
    rw [PC_zero]
    rfl
  | k + 1, X, h => by
    rw [Nat.pow_succ] at h
    rw [PC_step, ← DSUM_PC k (X / 2) (by omega)]
    simp [DSUM]
theorem POP_PC {X : Nat} (h : X < 2 ^ 64) : POP X = PC X := DSUM_PC 64 X h

/-- how many nodes a forest of n leaves has. -/
def NODES (n : Nat) : Nat := 2 * n - PC n
theorem NODES_add (n : Nat) : NODES n + PC n = 2 * n := by
  have := PC_le n
  unfold NODES
  omega
theorem NODES_zero : NODES 0 = 0 := by unfold NODES; rw [PC_zero]
theorem NODES_lt {n m : Nat} (h : n < m) : NODES n < NODES m := by
  induction m with
  | zero => omega
  | succ m ih =>
    have h1 := NODES_add m
    have h2 := NODES_add (m + 1)
    have h3 := PC_succ m
    rcases Nat.lt_or_ge n m with h4 | h4
    · have := ih h4
      omega
    · obtain rfl : n = m := by omega
      omega
theorem NODES_le {n m : Nat} (h : n ≤ m) : NODES n ≤ NODES m := by
  rcases Nat.lt_or_ge n m with h1 | h1
  · exact Nat.le_of_lt (NODES_lt h1)
  · obtain rfl : n = m := by omega
    exact Nat.le_refl _
theorem NODES_bound {n h : Nat} (hn : n < 2 ^ h) : NODES n < 2 ^ (h + 1) := by
  have := NODES_add n
  rw [Nat.pow_succ]
  omega

/-- how many nodes a node of height h has under it, with itself. -/
def TREE (h : Nat) : Nat := 2 ^ (h + 1) - 1
/-- the place of the node of height h and index k. -/
def PLC (h k : Nat) : Nat := NODES (k * 2 ^ h) + (2 ^ (h + 1) - 2)
theorem two_le (h : Nat) : 2 ≤ 2 ^ (h + 1) := by
  have := Nat.two_pow_pos h
  rw [Nat.pow_succ]
  omega
theorem PLC_eq (h k : Nat) : PLC h k + 2 + PC k = 2 ^ (h + 1) * (k + 1) := by
  have h1 := NODES_add (k * 2 ^ h)
  have h2 := two_le h
  rw [PC_shift] at h1
  unfold PLC
  rw [Nat.mul_add, Nat.mul_one, show 2 ^ (h + 1) * k = 2 * (k * 2 ^ h) by rw [Nat.pow_succ, Nat.mul_comm (2 ^ h) 2, Nat.mul_assoc, Nat.mul_comm k]]
  omega
theorem PLC_leaf (k : Nat) : PLC 0 k = NODES k := by
  unfold PLC
  simp
theorem last_lt (h k : Nat) : 1 ≤ (k + 1) * 2 ^ h := Nat.mul_pos (by omega) (Nat.two_pow_pos h)
theorem PLC_last (h k : Nat) : NODES ((k + 1) * 2 ^ h - 1) + h = PLC h k := by
  have hp := Nat.two_pow_pos h
  have e : (k + 1) * 2 ^ h - 1 = k * 2 ^ h + (2 ^ h - 1) := by
    rw [Nat.add_mul, Nat.one_mul]
    omega
  have h1 := NODES_add (k * 2 ^ h + (2 ^ h - 1))
  rw [PC_add h k _ (by omega), PC_ones] at h1
  have h2 := PLC_eq h k
  rw [e]
  rw [Nat.mul_add, Nat.mul_one, show 2 ^ (h + 1) * k = 2 * (k * 2 ^ h) by rw [Nat.pow_succ, Nat.mul_comm (2 ^ h) 2, Nat.mul_assoc, Nat.mul_comm k], Nat.pow_succ] at h2
  omega
/-- a left kid and its parent. -/
theorem PLC_up_left (h m : Nat) : PLC (h + 1) m = PLC h (2 * m) + 2 ^ (h + 1) := by
  have h1 := PLC_eq (h + 1) m
  have h2 := PLC_eq h (2 * m)
  rw [PC_even] at h2
  have e : 2 ^ (h + 1 + 1) * (m + 1) = 2 ^ (h + 1) * (2 * m + 1) + 2 ^ (h + 1) := by
    rw [Nat.pow_succ 2 (h + 1)]
    generalize 2 ^ (h + 1) = x
    rw [Nat.mul_assoc, ← Nat.mul_succ]
    congr 1
  omega
/-- a right kid and its parent. -/
theorem PLC_up_right (h m : Nat) : PLC (h + 1) m = PLC h (2 * m + 1) + 1 := by
  have h1 := PLC_eq (h + 1) m
  have h2 := PLC_eq h (2 * m + 1)
  rw [PC_odd] at h2
  have e : 2 ^ (h + 1 + 1) * (m + 1) = 2 ^ (h + 1) * (2 * m + 1 + 1) := by
    rw [Nat.pow_succ 2 (h + 1)]
    generalize 2 ^ (h + 1) = x
    rw [Nat.mul_assoc]
    congr 1
  omega
/-- two siblings. -/
theorem PLC_sib (h m : Nat) : PLC h (2 * m + 1) = PLC h (2 * m) + TREE h := by
  have h1 := PLC_up_left h m
  have h2 := PLC_up_right h m
  have h3 := two_le h
  unfold TREE
  omega
/-- what comes further right by a whole tree. -/
theorem PLC_over {h H k : Nat} (hh : h ≤ H) (hk : k < 2 ^ (H - h)) : PLC h (2 ^ (H - h) + k) = TREE H + PLC h k := by
  have h1 := PLC_eq h (2 ^ (H - h) + k)
  have h2 := PLC_eq h k
  have h3 := PC_add (H - h) 1 k hk
  rw [Nat.one_mul, PC_one] at h3
  have e : 2 ^ (h + 1) * (2 ^ (H - h) + k + 1) = 2 ^ (H + 1) + 2 ^ (h + 1) * (k + 1) := by
    rw [Nat.add_assoc, Nat.mul_add, ← Nat.pow_add, show h + 1 + (H - h) = H + 1 by omega]
  have h4 := two_le H
  unfold TREE
  omega
theorem PLC_in {h H k : Nat} (hh : h ≤ H) (hk : k < 2 ^ (H - h)) : PLC h k + 2 ≤ 2 ^ (H + 1) := by
  have h1 := PLC_eq h k
  have e : 2 ^ (h + 1) * (k + 1) ≤ 2 ^ (h + 1) * 2 ^ (H - h) := Nat.mul_le_mul_left _ hk
  rw [← Nat.pow_add, show h + 1 + (H - h) = H + 1 by omega] at e
  omega
/-- what stands at a place of the tree of height H. -/
theorem PLC_inj (H : Nat) : ∀ h k h' k', h ≤ H → k < 2 ^ (H - h) → h' ≤ H → k' < 2 ^ (H - h') → PLC h k = PLC h' k' → h = h' ∧ k = k' := by
  induction H with
  | zero =>
    intro h k h' k' a b c d _
    obtain rfl : h = 0 := by omega
    obtain rfl : h' = 0 := by omega
    simp at b d
    omega
  | succ H ih =>
    have top : ∀ h k, h ≤ H + 1 → k < 2 ^ (H + 1 - h) → (h = H + 1 ∧ k = 0 ∧ PLC h k + 2 = 2 ^ (H + 2)) ∨ (h ≤ H ∧ k < 2 ^ (H - h) ∧ PLC h k + 2 ≤ 2 ^ (H + 1)) ∨ (h ≤ H ∧ ∃ q, k = 2 ^ (H - h) + q ∧ q < 2 ^ (H - h) ∧ PLC h k = TREE H + PLC h q ∧ PLC h q + 2 ≤ 2 ^ (H + 1)) := by
      intro h k a b
      rcases Nat.lt_or_ge H h with h1 | h1
      · obtain rfl : h = H + 1 := by omega
        have hk : k = 0 := by simpa using b
        subst hk
        have := PLC_eq (H + 1) 0
        rw [PC_zero] at this
        exact .inl ⟨rfl, rfl, by simpa using this⟩
      · rcases Nat.lt_or_ge k (2 ^ (H - h)) with h2 | h2
        · exact .inr (.inl ⟨h1, h2, PLC_in h1 h2⟩)
        · have hq : k - 2 ^ (H - h) < 2 ^ (H - h) := by
            rw [show H + 1 - h = H - h + 1 by omega, Nat.pow_succ] at b
            omega
          refine .inr (.inr ⟨h1, k - 2 ^ (H - h), by omega, hq, ?_, PLC_in h1 hq⟩)
          have := PLC_over h1 hq
          rw [show 2 ^ (H - h) + (k - 2 ^ (H - h)) = k by omega] at this
          exact this
    have hp := two_le H
    have hpp : 2 ^ (H + 2) = 2 * 2 ^ (H + 1) := by rw [Nat.pow_succ 2 (H + 1), Nat.mul_comm]
    intro h k h' k' a b c d e
    unfold TREE at top
    rcases top h k a b with ⟨r1, r2, r3⟩ | ⟨r1, r2, r3⟩ | ⟨r1, q, r2, r3, r4, r5⟩ <;> rcases top h' k' c d with ⟨s1, s2, s3⟩ | ⟨s1, s2, s3⟩ | ⟨s1, q', s2, s3, s4, s5⟩
    · omega
    · omega
    · omega
    · omega
    · exact ih h k h' k' r1 r2 s1 s2 e
    · omega
    · omega
    · omega
    · obtain ⟨rfl, rfl⟩ := ih h q h' q' r1 r3 s1 s3 (by omega)
      exact ⟨rfl, by omega⟩
/-- the node (h, k) is one of the forest of all leaves. -/
def Node (h k : Nat) : Prop := h ≤ 62 ∧ k < 2 ^ (62 - h)
theorem Node.one {h k h' k' : Nat} (a : Node h k) (b : Node h' k') (e : PLC h k = PLC h' k') : h = h' ∧ k = k' := PLC_inj 62 h k h' k' a.1 a.2 b.1 b.2 e
theorem Node.lt {h k : Nat} (a : Node h k) : PLC h k < 9223372036854775807 := by
  have := PLC_in a.1 a.2
  omega
theorem Node.index_lt {h k : Nat} (a : Node h k) : k < 2 ^ 62 := Nat.lt_of_lt_of_le a.2 (Nat.pow_le_pow_right (by decide) (by omega))
theorem Node.span {h k : Nat} (a : Node h k) : (k + 1) * 2 ^ h ≤ 2 ^ 62 := by
  have : (k + 1) * 2 ^ h ≤ 2 ^ (62 - h) * 2 ^ h := Nat.mul_le_mul_right _ a.2
  rw [← Nat.pow_add, Nat.sub_add_cancel a.1] at this
  exact this
theorem NODES_most : NODES 4611686018427387904 = 9223372036854775807 := by
  have h := NODES_add (2 ^ 62)
  rw [PC_pow] at h
  have e : (4611686018427387904 : Nat) = 2 ^ 62 := by decide
  rw [e]
  omega
end Go.Proofs.YtnplhejopmoopaaDoor
