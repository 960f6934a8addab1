/- One step of the hash, plainly: words of 32 bits as numbers; no Go in sight. -/
import Derived.WalkKit
import Derived.WalkLawsBesides
import Derived.OpenShut
import Derived.Laws.BitsAllLaws
namespace Go.Proofs.Ytkmcmngdainofaa
open Go.RowKit

/-- x turned right by n bits. -/
def ROTR (n x : Nat) : Nat := x / 2 ^ n + x % 2 ^ n * 2 ^ (32 - n)
theorem ROTR_lt {n x : Nat} (hn : n ≤ 32) (hx : x < 2 ^ 32) : ROTR n x < 2 ^ 32 := by
  unfold ROTR
  have h1 : (2 : Nat) ^ 32 = 2 ^ n * 2 ^ (32 - n) := by rw [← Nat.pow_add]; congr 1; omega
  have h2 : x / 2 ^ n < 2 ^ (32 - n) := by
    apply Nat.div_lt_of_lt_mul
    rw [← h1]; exact hx
  have h3 : x % 2 ^ n + 1 ≤ 2 ^ n := Nat.mod_lt _ (Nat.two_pow_pos n)
  have h4 := Nat.mul_le_mul_right (2 ^ (32 - n)) h3
  rw [Nat.add_mul, Nat.one_mul, ← h1] at h4
  omega
theorem rot_or {n x : Nat} (hn : n ≤ 32) (hx : x < 2 ^ 32) : x * 2 ^ (32 - n) % 2 ^ 32 ||| x / 2 ^ n = ROTR n x := by
  have h1 : (2 : Nat) ^ 32 = 2 ^ n * 2 ^ (32 - n) := by rw [← Nat.pow_add]; congr 1; omega
  have h2 : x / 2 ^ n < 2 ^ (32 - n) := by
    apply Nat.div_lt_of_lt_mul
    rw [← h1]; exact hx
  have h3 : x * 2 ^ (32 - n) % 2 ^ 32 = x % 2 ^ n * 2 ^ (32 - n) := by
    rw [h1, Nat.mul_mod_mul_right]
  rw [h3, nat_join (32 - n) _ _ (Nat.mul_mod_left _ _) h2]
  unfold ROTR
  omega
def MIX (i j k x : Nat) : Nat := ROTR i x ^^^ ROTR j x ^^^ ROTR k x
def SPILL (i j k x : Nat) : Nat := ROTR i x ^^^ ROTR j x ^^^ x / 2 ^ k
def CHO (x y z : Nat) : Nat := (x &&& y) ^^^ ((4294967295 - x) &&& z)
def MAJ (x y z : Nat) : Nat := (x &&& y) ^^^ (x &&& z) ^^^ (y &&& z)
theorem MIX_lt {i j k x : Nat} (hi : i ≤ 32) (hj : j ≤ 32) (hk : k ≤ 32) (hx : x < 2 ^ 32) : MIX i j k x < 2 ^ 32 := Nat.xor_lt_two_pow (Nat.xor_lt_two_pow (ROTR_lt hi hx) (ROTR_lt hj hx)) (ROTR_lt hk hx)
theorem SPILL_lt {i j k x : Nat} (hi : i ≤ 32) (hj : j ≤ 32) (hx : x < 2 ^ 32) : SPILL i j k x < 2 ^ 32 := Nat.xor_lt_two_pow (Nat.xor_lt_two_pow (ROTR_lt hi hx) (ROTR_lt hj hx)) (Nat.lt_of_le_of_lt (Nat.div_le_self _ _) hx)
theorem CHO_lt {x y z : Nat} (hx : x < 2 ^ 32) (hz : z < 2 ^ 32) : CHO x y z < 2 ^ 32 := Nat.xor_lt_two_pow (Nat.lt_of_le_of_lt Nat.and_le_left hx) (Nat.lt_of_le_of_lt Nat.and_le_right hz)
theorem MAJ_lt {x y z : Nat} (hx : x < 2 ^ 32) (hy : y < 2 ^ 32) : MAJ x y z < 2 ^ 32 := Nat.xor_lt_two_pow (Nat.xor_lt_two_pow (Nat.lt_of_le_of_lt Nat.and_le_left hx) (Nat.lt_of_le_of_lt Nat.and_le_left hx)) (Nat.lt_of_le_of_lt Nat.and_le_left hy)

/-- the word in the four bytes from o on, the highest first. -/
def WORDAT (s : Nat → Nat) (o : Nat) : Nat := s o * 16777216 + s (o + 1) * 65536 + s (o + 2) * 256 + s (o + 3)
theorem WORDAT_lt {s : Nat → Nat} (o : Nat) (h : ∀ i, s i < 256) : WORDAT s o < 2 ^ 32 := by
  have h0 := h o; have h1 := h (o + 1); have h2 := h (o + 2); have h3 := h (o + 3)
  unfold WORDAT
  omega
/-- the words of a block, and the k that follow first. -/
def SCHL (b : Nat → Nat) : Nat → Nat → Nat
  | 0, t => if t < 16 then WORDAT b (4 * t) else 0
  | k + 1, t => if t = 16 + k then (SPILL 17 19 10 (SCHL b k (14 + k)) + SCHL b k (9 + k) + SPILL 7 18 3 (SCHL b k (1 + k)) + SCHL b k k) % 4294967296 else SCHL b k t
def SCH (b : Nat → Nat) : Nat → Nat := SCHL b 48
theorem SCHL_lt {b : Nat → Nat} (h : ∀ i, b i < 256) : ∀ k t, SCHL b k t < 2 ^ 32
  | 0, t => by
    unfold SCHL
    split
    · exact WORDAT_lt _ h
    · decide
  | k + 1, t => by
    unfold SCHL
    split
    · exact Nat.mod_lt _ (by decide)
    · exact SCHL_lt h k t
theorem SCHL_stays (b : Nat → Nat) (k : Nat) : ∀ m t, t < 16 + k → SCHL b (k + m) t = SCHL b k t
  | 0, _, _ => rfl
  | m + 1, t, h => by
    show SCHL b (k + m + 1) t = _
    rw [SCHL, if_neg (by omega)]
    exact SCHL_stays b k m t h
theorem SCH_first (b : Nat → Nat) (t : Nat) (h : t < 16) : SCH b t = WORDAT b (4 * t) := by
  have := SCHL_stays b 0 48 t (by omega)
  rw [Nat.zero_add] at this
  show SCHL b 48 t = _
  rw [this, SCHL, if_pos h]
theorem SCH_next (b : Nat → Nat) (k : Nat) (h : k < 48) : SCH b (16 + k) = (SPILL 17 19 10 (SCH b (14 + k)) + SCH b (9 + k) + SPILL 7 18 3 (SCH b (1 + k)) + SCH b k) % 4294967296 := by
  have e : ∀ t, t < 16 + k → SCH b t = SCHL b k t := fun t ht => by
    have := SCHL_stays b k (48 - k) t ht
    rw [show k + (48 - k) = 48 by omega] at this
    exact this
  have e1 : SCH b (16 + k) = SCHL b (k + 1) (16 + k) := by
    have := SCHL_stays b (k + 1) (48 - (k + 1)) (16 + k) (by omega)
    rw [show k + 1 + (48 - (k + 1)) = 48 by omega] at this
    exact this
  rw [e1, SCHL, if_pos rfl, e _ (by omega), e _ (by omega), e _ (by omega), e _ (by omega)]

/-- the round constants. -/
def KLIST : List Nat := [1116352408, 1899447441, 3049323471, 3921009573, 961987163, 1508970993, 2453635748, 2870763221, 3624381080, 310598401, 607225278, 1426881987, 1925078388, 2162078206, 2614888103, 3248222580, 3835390401, 4022224774, 264347078, 604807628, 770255983, 1249150122, 1555081692, 1996064986, 2554220882, 2821834349, 2952996808, 3210313671, 3336571891, 3584528711, 113926993, 338241895, 666307205, 773529912, 1294757372, 1396182291, 1695183700, 1986661051, 2177026350, 2456956037, 2730485921, 2820302411, 3259730800, 3345764771, 3516065817, 3600352804, 4094571909, 275423344, 430227734, 506948616, 659060556, 883997877, 958139571, 1322822218, 1537002063, 1747873779, 1955562222, 2024104815, 2227730452, 2361852424, 2428436474, 2756734187, 3204031479, 3329325298]
def KC (t : Nat) : Nat := KLIST.getD t 0
theorem KC_lt (t : Nat) : KC t < 2 ^ 32 := by
  by_cases h : t < 64
  · have : ∀ i, i < 64 → KC i < 2 ^ 32 := by decide
    exact this t h
  · have : KLIST.length = 64 := rfl
    unfold KC
    rw [List.getD_eq_getElem?_getD, List.getElem?_eq_none (by omega)]
    decide
/-- eight words. -/
structure ST where
  a : Nat
  b : Nat
  c : Nat
  d : Nat
  e : Nat
  f : Nat
  g : Nat
  h : Nat
def T1 (k x : Nat) (s : ST) : Nat := (s.h + MIX 6 11 25 s.e + CHO s.e s.f s.g + k + x) % 4294967296
def T2 (s : ST) : Nat := (MIX 2 13 22 s.a + MAJ s.a s.b s.c) % 4294967296
def RND (k x : Nat) (s : ST) : ST := { a := (T1 k x s + T2 s) % 4294967296, b := s.a, c := s.b, d := s.c, e := (s.d + T1 k x s) % 4294967296, f := s.e, g := s.f, h := s.g }
def Small (s : ST) : Prop := s.a < 2 ^ 32 ∧ s.b < 2 ^ 32 ∧ s.c < 2 ^ 32 ∧ s.d < 2 ^ 32 ∧ s.e < 2 ^ 32 ∧ s.f < 2 ^ 32 ∧ s.g < 2 ^ 32 ∧ s.h < 2 ^ 32
theorem Small.rnd {s : ST} (h : Small s) (k x : Nat) : Small (RND k x s) := by
  obtain ⟨h1, h2, h3, h4, h5, h6, h7, h8⟩ := h
  exact ⟨Nat.mod_lt _ (by decide), h1, h2, h3, Nat.mod_lt _ (by decide), h5, h6, h7⟩
def RUN (x : Nat → Nat) (s : ST) : Nat → ST
  | 0 => s
  | t + 1 => RND (KC t) (x t) (RUN x s t)
theorem RUN_small (x : Nat → Nat) {s : ST} (h : Small s) : ∀ t, Small (RUN x s t)
  | 0 => h
  | t + 1 => (RUN_small x h t).rnd _ _
/-- the words of a state. -/
def STOF (s : Nat → Nat) : ST := { a := WORDAT s 0, b := WORDAT s 4, c := WORDAT s 8, d := WORDAT s 12, e := WORDAT s 16, f := WORDAT s 20, g := WORDAT s 24, h := WORDAT s 28 }
theorem STOF_small {s : Nat → Nat} (h : ∀ i, s i < 256) : Small (STOF s) :=
  ⟨WORDAT_lt _ h, WORDAT_lt _ h, WORDAT_lt _ h, WORDAT_lt _ h, WORDAT_lt _ h, WORDAT_lt _ h, WORDAT_lt _ h, WORDAT_lt _ h⟩
/-- the i-th of eight words. -/
def ST.at (s : ST) : Nat → Nat
  | 0 => s.a
  | 1 => s.b
  | 2 => s.c
  | 3 => s.d
  | 4 => s.e
  | 5 => s.f
  | 6 => s.g
  | 7 => s.h
  | _ => 0
/-- the words behind one step. -/
def OUTW (s b : Nat → Nat) (i : Nat) : Nat := (WORDAT s (4 * i) + (RUN (SCH b) (STOF s) 64).at i) % 4294967296
/-- the i-th byte of words, of each the highest first. -/
def BYTEW (x : Nat → Nat) (i : Nat) : Nat := x (i / 4) / 2 ^ (24 - 8 * (i % 4)) % 256
def WID (w : Int) : Nat := (min (max w 1) 32).toNat
def NARROW (w : Int) (s : Nat → Nat) (i : Nat) : Nat := if i < WID w then s i else 0
/-- one step of the hash. -/
def COMP (w : Int) (s b : Nat → Nat) : Nat → Nat := NARROW w (BYTEW (OUTW s b))
theorem BYTEW_lt (x : Nat → Nat) (i : Nat) : BYTEW x i < 256 := Nat.mod_lt _ (by decide)
theorem NARROW_lt {w : Int} {s : Nat → Nat} (h : ∀ i, s i < 256) (i : Nat) : NARROW w s i < 256 := by
  unfold NARROW
  split
  · exact h i
  · decide
theorem COMP_lt (w : Int) (s b : Nat → Nat) (i : Nat) : COMP w s b i < 256 := NARROW_lt (BYTEW_lt _) i
theorem WID_bounds (w : Int) : 1 ≤ WID w ∧ WID w ≤ 32 := by unfold WID; omega
end Go.Proofs.Ytkmcmngdainofaa
