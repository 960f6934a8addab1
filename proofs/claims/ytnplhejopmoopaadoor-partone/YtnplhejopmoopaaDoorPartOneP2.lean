/- Texts of PartOne, one behind the other: HashPlain, NumSlice, HashWordCalls, HashArr. -/
import Derived.WalkKit
import Derived.WalkLawsBesides
import Derived.OpenShut
import Derived.Laws.BitsAllLaws
import Derived.Test.YtnplhejopmoopaaDoorProg
import Derived.Deep.LoopGhost
import Derived.Deep.OwnRows
import Derived.Deep.QuietTactic
import Derived.BigQuiet
import Derived.Deep.WholeRow
import Derived.Laws.ResultCell
import Derived.Laws.Rows
import Derived.Laws.Tables
import Derived.Test.YtnplhejopmoopaaDoorPartOneP1
/- One step of the hash, plainly: words of 32 bits as numbers; no Go in sight. -/
namespace Go.Proofs.YtnplhejopmoopaaDoor.HX
open Go.RowKit

/-- x turned right by n bits. -/
def ROTR (n x : Nat) : Nat := x / 2 ^ n + x % 2 ^ n * 2 ^ (32 - n)
theorem ROTR_lt {n x : Nat} (hn : n ≤ 32) (hx : x < 2 ^ 32) : ROTR n x < 2 ^ 32 := by
  unfold ROTR
  have h1 : (2 : Nat) ^ 32 = 2 ^ n * 2 ^ (32 - n) := by rw [← Nat.pow_add]; congr 1; omega
  have h2 : x / 2 ^ n < 2 ^ (32 - n) := by
    apply Nat.div_lt_of_lt_mul
    rw [← h1]; exact hx
  have h3 : x % 2 ^ n + 1 ≤ 2 ^ n := Nat.mod_lt _ (Nat.two_pow_pos n)
  have h4 := Nat.mul_le_mul_right (2 ^ (32 - n)) h3
  rw [Nat.add_mul, Nat.one_mul, ← h1] at h4
  omega
theorem rot_or {n x : Nat} (hn : n ≤ 32) (hx : x < 2 ^ 32) : x * 2 ^ (32 - n) % 2 ^ 32 ||| x / 2 ^ n = ROTR n x := by
  have h1 : (2 : Nat) ^ 32 = 2 ^ n * 2 ^ (32 - n) := by rw [← Nat.pow_add]; congr 1; omega
  have h2 : x / 2 ^ n < 2 ^ (32 - n) := by
    apply Nat.div_lt_of_lt_mul
    rw [← h1]; exact hx
  have h3 : x * 2 ^ (32 - n) % 2 ^ 32 = x % 2 ^ n * 2 ^ (32 - n) := by
    rw [h1, Nat.mul_mod_mul_right]
  rw [h3, nat_join (32 - n) _ _ (Nat.mul_mod_left _ _) h2]
  unfold ROTR
  omega
def MIX (i j k x : Nat) : Nat := ROTR i x ^^^ ROTR j x ^^^ ROTR k x
def SPILL (i j k x : Nat) : Nat := ROTR i x ^^^ ROTR j x ^^^ x / 2 ^ k
def CHO (x y z : Nat) : Nat := (x &&& y) ^^^ ((4294967295 - x) &&& z)
def MAJ (x y z : Nat) : Nat := (x &&& y) ^^^ (x &&& z) ^^^ (y &&& z)
/-- the word in the four bytes from o on, the highest first. -/
def WORDAT (s : Nat → Nat) (o : Nat) : Nat := s o * 16777216 + s (o + 1) * 65536 + s (o + 2) * 256 + s (o + 3)
theorem WORDAT_lt {s : Nat → Nat} (o : Nat) (h : ∀ i, s i < 256) : WORDAT s o < 2 ^ 32 := by
  have h0 := h o; have h1 := h (o + 1); have h2 := h (o + 2); have h3 := h (o + 3)
  unfold WORDAT
  omega
/-- the words of a block, and the k that follow first. -/
def SCHL (b : Nat → Nat) : Nat → Nat → Nat
  | 0, t => if t < 16 then WORDAT b (4 * t) else 0
  | k + 1, t => if t = 16 + k then (SPILL 17 19 10 (SCHL b k (14 + k)) + SCHL b k (9 + k) + SPILL 7 18 3 (SCHL b k (1 + k)) + SCHL b k k) % 4294967296 else SCHL b k t
def SCH (b : Nat → Nat) : Nat → Nat := SCHL b 48
theorem SCHL_lt {b : Nat → Nat} (h : ∀ i, b i < 256) : ∀ k t, SCHL b k t < 2 ^ 32
  | 0, t => by
    unfold SCHL
    split
    · exact WORDAT_lt _ h
    · decide
  | k + 1, t => by
    unfold SCHL
    split
    · exact Nat.mod_lt _ (by decide)
    · exact SCHL_lt h k t
theorem SCHL_stays (b : Nat → Nat) (k : Nat) : ∀ m t, t < 16 + k → SCHL b (k + m) t = SCHL b k t
  | 0, _, _ => rfl
  | m + 1, t, h => by
    show SCHL b (k + m + 1) t = _
    rw [SCHL, if_neg (by omega)]
    exact SCHL_stays b k m t h
theorem SCH_first (b : Nat → Nat) (t : Nat) (h : t < 16) : SCH b t = WORDAT b (4 * t) := by
  have := SCHL_stays b 0 48 t (by omega)
  rw [Nat.zero_add] at this
  show SCHL b 48 t = _
  rw [this, SCHL, if_pos h]
theorem SCH_next (b : Nat → Nat) (k : Nat) (h : k < 48) : SCH b (16 + k) = (SPILL 17 19 10 (SCH b (14 + k)) + SCH b (9 + k) + SPILL 7 18 3 (SCH b (1 + k)) + SCH b k) % 4294967296 := by
  have e : ∀ t, t < 16 + k → SCH b t = SCHL b k t := fun t ht => by
    have := SCHL_stays b k (48 - k) t ht
    rw [show k + (48 - k) = 48 by omega] at this
    exact this
  have e1 : SCH b (16 + k) = SCHL b (k + 1) (16 + k) := by
    have := SCHL_stays b (k + 1) (48 - (k + 1)) (16 + k) (by omega)
    rw [show k + 1 + (48 - (k + 1)) = 48 by omega] at this
    exact this
  rw [e1, SCHL, if_pos rfl, e _ (by omega), e _ (by omega), e _ (by omega), e _ (by omega)]

/-- the round constants. -/
def KLIST : List Nat := [1116352408, 1899447441, 3049323471, 3921009573, 961987163, 1508970993, 2453635748, 2870763221, 3624381080, 310598401, 607225278, 1426881987, 1925078388, 2162078206, 2614888103, 3248222580, 3835390401, 4022224774, 264347078, 604807628, 770255983, 1249150122, 1555081692, 1996064986, 2554220882, 2821834349, 2952996808, 3210313671, 3336571891, 3584528711, 113926993, 338241895, 666307205, 773529912, 1294757372, 1396182291, 1695183700, 1986661051, 2177026350, 2456956037, 2730485921, 2820302411, 3259730800, 3345764771, 3516065817, 3600352804, 4094571909, 275423344, 430227734, 506948616, 659060556, 883997877, 958139571, 1322822218, 1537002063, 1747873779, 1955562222, 2024104815, 2227730452, 2361852424, 2428436474, 2756734187, 3204031479, 3329325298]
def KC (t : Nat) : Nat := KLIST.getD t 0
/-- eight words. -/
structure ST where
  a : Nat
  b : Nat
  c : Nat
  d : Nat
  e : Nat
  f : Nat
  g : Nat
  h : Nat
def T1 (k x : Nat) (s : ST) : Nat := (s.h + MIX 6 11 25 s.e + CHO s.e s.f s.g + k + x) % 4294967296
def T2 (s : ST) : Nat := (MIX 2 13 22 s.a + MAJ s.a s.b s.c) % 4294967296
def RND (k x : Nat) (s : ST) : ST := { a := (T1 k x s + T2 s) % 4294967296, b := s.a, c := s.b, d := s.c, e := (s.d + T1 k x s) % 4294967296, f := s.e, g := s.f, h := s.g }
def Small (s : ST) : Prop := s.a < 2 ^ 32 ∧ s.b < 2 ^ 32 ∧ s.c < 2 ^ 32 ∧ s.d < 2 ^ 32 ∧ s.e < 2 ^ 32 ∧ s.f < 2 ^ 32 ∧ s.g < 2 ^ 32 ∧ s.h < 2 ^ 32
theorem Small.rnd {s : ST} (h : Small s) (k x : Nat) : Small (RND k x s) := by
  obtain ⟨h1, h2, h3, h4, h5, h6, h7, h8⟩ := h
  exact ⟨Nat.mod_lt _ (by decide), h1, h2, h3, Nat.mod_lt _ (by decide), h5, h6, h7⟩
def RUN (x : Nat → Nat) (s : ST) : Nat → ST
  | 0 => s
  | t + 1 => RND (KC t) (x t) (RUN x s t)
theorem RUN_small (x : Nat → Nat) {s : ST} (h : Small s) : ∀ t, Small (RUN x s t)
  | 0 => h
  | t + 1 => (RUN_small x h t).rnd _ _
/-- the words of a state. -/
def STOF (s : Nat → Nat) : ST := { a := WORDAT s 0, b := WORDAT s 4, c := WORDAT s 8, d := WORDAT s 12, e := WORDAT s 16, f := WORDAT s 20, g := WORDAT s 24, h := WORDAT s 28 }
theorem STOF_small {s : Nat → Nat} (h : ∀ i, s i < 256) : Small (STOF s) :=
  ⟨WORDAT_lt _ h, WORDAT_lt _ h, WORDAT_lt _ h, WORDAT_lt _ h, WORDAT_lt _ h, WORDAT_lt _ h, WORDAT_lt _ h, WORDAT_lt _ h⟩
/-- the i-th of eight words. -/
def ST.at (s : ST) : Nat → Nat
  | 0 => s.a
  | 1 => s.b
  | 2 => s.c
  | 3 => s.d
  | 4 => s.e
  | 5 => s.f
  | 6 => s.g
  | 7 => s.h
  | _ => 0
/-- the words behind one step. -/
def OUTW (s b : Nat → Nat) (i : Nat) : Nat := (WORDAT s (4 * i) + (RUN (SCH b) (STOF s) 64).at i) % 4294967296
/-- the i-th byte of words, of each the highest first. -/
def BYTEW (x : Nat → Nat) (i : Nat) : Nat := x (i / 4) / 2 ^ (24 - 8 * (i % 4)) % 256
def WID (w : Int) : Nat := (min (max w 1) 32).toNat
def NARROW (w : Int) (s : Nat → Nat) (i : Nat) : Nat := if i < WID w then s i else 0
/-- one step of the hash. -/
def COMP (w : Int) (s b : Nat → Nat) : Nat → Nat := NARROW w (BYTEW (OUTW s b))
theorem BYTEW_lt (x : Nat → Nat) (i : Nat) : BYTEW x i < 256 := Nat.mod_lt _ (by decide)
theorem NARROW_lt {w : Int} {s : Nat → Nat} (h : ∀ i, s i < 256) (i : Nat) : NARROW w s i < 256 := by
  unfold NARROW
  split
  · exact h i
  · decide
theorem COMP_lt (w : Int) (s b : Nat → Nat) (i : Nat) : COMP w s b i < 256 := NARROW_lt (BYTEW_lt _) i
end Go.Proofs.YtnplhejopmoopaaDoor.HX

/- Slices of bytes: rows of cells by a function; what a slice reads as. -/
namespace Go.Proofs.YtnplhejopmoopaaDoor
open Go.RowKit

/-- n cells, each a byte. -/
def BARR (n : Nat) (f : Nat → Int) : Array Value := ((List.range n).map fun i => Value.int .u8 (f i)).toArray
theorem BARR_size (n : Nat) (f : Nat → Int) : (BARR n f).size = n := by simp [BARR]
theorem BARR_get (n : Nat) (f : Nat → Int) (i : Nat) (h : i < n) : (BARR n f)[i]? = some (.int .u8 (f i)) := by simp [BARR, h]
theorem BARR_ext {n : Nat} {f g : Nat → Int} (h : ∀ i, i < n → f i = g i) : BARR n f = BARR n g := by
  unfold BARR
  congr 1
  apply List.map_congr_left
  intro i hi
  rw [h i (by simpa using hi)]
theorem BARR_set (n : Nat) (f : Nat → Int) (i : Nat) (v : Int) : (BARR n f).setIfInBounds i (.int .u8 v) = BARR n fun j => if j = i then v else f j := by
  apply Array.ext_getElem?
  intro j
  by_cases hj : j < n
  · rw [BARR_get _ _ j hj, Array.getElem?_setIfInBounds]
    by_cases h : i = j
    · subst h
      simp [BARR_size, hj]
    · have h' : ¬ j = i := fun e => h e.symm
      simp [h, h', BARR_get _ _ j hj]
  · rw [Array.getElem?_eq_none (by simp [BARR_size]; omega), Array.getElem?_eq_none (by simp [BARR_size]; omega)]
theorem BARR_made (n : Nat) : madeCells #[Value.int .u8 0] n = BARR n fun _ => 0 := by
  apply Array.ext_getElem?
  intro j
  by_cases hj : j < n
  · rw [BARR_get _ _ j hj]
    simp [madeCells, hj, Nat.mod_one]
  · rw [Array.getElem?_eq_none (by simp [madeCells]; omega), Array.getElem?_eq_none (by simp [BARR_size]; omega)]
theorem info_u8 : (Tryd.prog.info? 5).map (fun i => (i.zero, i.size, i.bytes)) = some (some (.int .u8 0), 1, 1) := by kernel_rfl
theorem make_bytes (n : Nat) (hn : n ≤ 1000000) (w : World) : (Instr.makeSlice 104 (.int .i64 (n : Int)) (.int .i64 (n : Int))).run Tryd.prog w = .ok (.slice (some ⟨w.heap.size, 0, none⟩) n n) (w.alloc (.cells (BARR n fun _ => 0) 5)) := by
  rw [run_make_row' 104 5 (.int .u8 0) 1 Tryd.underlying104 info_u8 rfl .i64 .i64 n (by omega) (by omega) w, BARR_made]

/-- a slice that came in: nil, or a row of cells, each a byte. -/
def IsRow (k : IntKind) (w : World) (a : Option Addr) (len cap : Nat) (zs : List Int) : Prop :=
  (a = none ∧ len = 0 ∧ cap = 0 ∧ zs = []) ∨
  ∃ x, a = some x ∧ len ≤ cap ∧ cap ≤ maxLen ∧ zs.length = cap ∧ (∀ i, i < zs.length → w.cell? (x.add i) = some (.int k (zs.getD i 0))) ∧ ∀ n ∈ zs, (Lit.int k n).wf = true

/-- a slice of n bytes reads as l. -/
def Bytes (w : World) (a : Option Addr) (n : Nat) (l : List Int) : Prop :=
  l.length = n ∧ (0 < n → ∃ b off, a = some ⟨b, off, none⟩ ∧ b < w.heap.size ∧ ∀ i, i < n → w.cell? ⟨b, off + i, none⟩ = some (.int .u8 (l.getD i 0))) ∧ ∀ x ∈ l, 0 ≤ x ∧ x ≤ 255
theorem Bytes.below {w w' : World} {a : Option Addr} {n : Nat} {l : List Int} (h : Bytes w a n l) (hb : Below w.heap.size w w') : Bytes w' a n l :=
  ⟨h.1, fun hn => by
    obtain ⟨b, off, e, hl, hc⟩ := h.2.1 hn
    exact ⟨b, off, e, Nat.lt_of_lt_of_le hl hb.size, fun i hi => (hb.cell (by exact hl)).trans (hc i hi)⟩, h.2.2⟩
theorem Bytes.get {w : World} {a : Option Addr} {n : Nat} {l : List Int} (h : Bytes w a n l) (i : Nat) : 0 ≤ l.getD i 0 ∧ l.getD i 0 ≤ 255 := by
  by_cases hi : i < l.length
  · rw [List.getD_eq_getElem?_getD, List.getElem?_eq_getElem hi]
    exact h.2.2 _ (List.getElem_mem hi)
  · rw [List.getD_eq_getElem?_getD, List.getElem?_eq_none (by omega)]
    simp
theorem addr_add (b off i : Nat) : (⟨b, off, none⟩ : Addr).add i = ⟨b, off + i, none⟩ := by unfold Addr.add; split <;> simp_all
theorem IsRow.bytes {w : World} {a : Option Addr} {n c : Nat} {zs : List Int} (h : IsRow .u8 w a n c zs) : Bytes w a n (zs.take n) := by
  rcases h with ⟨rfl, rfl, rfl, rfl⟩ | ⟨x, rfl, hl, _, hz, hcell, hwf⟩
  · exact ⟨rfl, fun h => by omega, fun x hx => by simp at hx⟩
  · refine ⟨by simp [hz, hl], fun hn => ?_, fun y hy => ?_⟩
    · obtain ⟨b, off, spot⟩ := x
      have hc := hcell 0 (by omega)
      have hspot : spot = none := by simpa [Addr.add] using World.cell?_spot hc
      subst hspot
      refine ⟨b, off, rfl, block_lt_of_cell (by simpa [Addr.add] using hc), fun i hi => ?_⟩
      have := hcell i (by omega)
      rw [addr_add] at this
      rw [this]
      congr 2
      simp [List.getD_eq_getElem?_getD, hi]
    · have := bounds_u8 (hwf y (List.mem_of_mem_take hy))
      exact this

end Go.Proofs.YtnplhejopmoopaaDoor

/- What the small functions of package hash on words answer. -/
namespace Go.Proofs.YtnplhejopmoopaaDoor.HX
open Go.RowKit

theorem wrap32U (z : Int) : IntKind.u32.wrap z = z % 2 ^ 32 := by rw [IntKind.wrap_u32]; rfl
theorem xor32 {a b : Nat} (ha : a < 2 ^ 32) (hb : b < 2 ^ 32) : bits .xor .u32 (a : Int) (b : Int) = ((a ^^^ b : Nat) : Int) := u32_xor_nat a b ha hb
theorem and32 {a b : Nat} (ha : a < 2 ^ 32) (hb : b < 2 ^ 32) : bits .and .u32 (a : Int) (b : Int) = ((a &&& b : Nat) : Int) := u32_and_nat a b ha hb
theorem or32 {a b : Nat} (ha : a < 2 ^ 32) (hb : b < 2 ^ 32) : bits .or .u32 (a : Int) (b : Int) = ((a ||| b : Nat) : Int) := u32_or_nat a b ha hb

theorem rotl_raw (x n s a b r : Int) (w : World) (hs : bits .and .u64 (IntKind.u64.wrap n) 31 = s) (h0 : 0 ≤ s) (h1 : 0 ≤ IntKind.u64.wrap (32 - s)) (ha : IntKind.u32.wrap (x * 2 ^ min s.toNat 32) = a) (hb : x / 2 ^ min (IntKind.u64.wrap (32 - s)).toNat 32 = b) (hr : bits .or .u32 a b = r) :
    Calls Tryd.prog 106 #[.int .u32 x, .int .i64 n] w fun e w' => e = .returned (.int .u32 r) ∧ w = w' := by
  go_enter Tryd.func106, Tryd.ntmps106
  go_wp2
  go_ret
  exact ⟨rfl, rfl⟩
theorem and31 (n : Nat) (h1 : 1 ≤ n) (h2 : n < 32) : bits .and .u64 (IntKind.u64.wrap (wrap64 (-(n : Int)))) 31 = ((32 - n : Nat) : Int) := by
  have e : IntKind.u64.wrap (wrap64 (-(n : Int))) = ((18446744073709551616 - n : Nat) : Int) := by
    rw [wrapU]
    unfold wrap64
    omega
  have f : (31 : Int) = ((31 : Nat) : Int) := rfl
  rw [e, f, and_eq (by omega) (by decide)]
  congr 1
  have : (31 : Nat) = 2 ^ 5 - 1 := rfl
  rw [this, Nat.and_two_pow_sub_one_eq_mod]
  omega
theorem rotl_ok (X n : Nat) (hX : X < 2 ^ 32) (h1 : 1 ≤ n) (h2 : n < 32) (w : World) : Calls Tryd.prog 106 #[.int .u32 (X : Int), .int .i64 (wrap64 (-(n : Int)))] w fun e w' => e = .returned (.int .u32 ((ROTR n X : Nat) : Int)) ∧ w = w' := by
  have e : IntKind.u64.wrap (32 - ((32 - n : Nat) : Int)) = (n : Int) := by rw [wrapU]; omega
  refine rotl_raw X _ ((32 - n : Nat) : Int) ((X * 2 ^ (32 - n) % 2 ^ 32 : Nat) : Int) ((X / 2 ^ n : Nat) : Int) _ w (and31 n h1 h2) (by omega) (by rw [e]; omega) ?_ ?_ ?_
  · rw [Int.toNat_natCast, show min (32 - n) 32 = 32 - n by omega, wrap32U]
    simp
  · rw [e, Int.toNat_natCast, show min n 32 = n by omega, div_cast]
  · rw [or32 (Nat.mod_lt _ (by decide)) (Nat.lt_of_le_of_lt (Nat.div_le_self _ _) hX), rot_or (by omega) hX]
theorem right_raw (x n r : Int) (w : World) (c : ∀ w, Calls Tryd.prog 106 #[.int .u32 x, .int .i64 (wrap64 (-n))] w fun e w' => e = .returned (.int .u32 r) ∧ w = w') :
    Calls Tryd.prog 102 #[.int .u32 x, .int .i64 n] w fun e w' => e = .returned (.int .u32 r) ∧ w = w' := by
  go_enter Tryd.func102, Tryd.ntmps102
  go_wp2_with fail
  refine (c _).mono ?_
  rintro e w' ⟨rfl, rfl⟩
  go_wp2
  go_ret
  exact ⟨rfl, rfl⟩
theorem right_ok (X n : Nat) (hX : X < 2 ^ 32) (h1 : 1 ≤ n) (h2 : n < 32) (w : World) : Calls Tryd.prog 102 #[.int .u32 (X : Int), .int .i64 (n : Int)] w fun e w' => e = .returned (.int .u32 ((ROTR n X : Nat) : Int)) ∧ w = w' :=
  right_raw X n _ w (fun w => rotl_ok X n hX h1 h2 w)
theorem mix_raw (x i j k a b c p r : Int) (w : World) (e1 : bits .xor .u32 a b = p) (e2 : bits .xor .u32 p c = r)
    (ca : ∀ w, Calls Tryd.prog 102 #[.int .u32 x, .int .i64 i] w fun e w' => e = .returned (.int .u32 a) ∧ w = w')
    (cb : ∀ w, Calls Tryd.prog 102 #[.int .u32 x, .int .i64 j] w fun e w' => e = .returned (.int .u32 b) ∧ w = w')
    (cc : ∀ w, Calls Tryd.prog 102 #[.int .u32 x, .int .i64 k] w fun e w' => e = .returned (.int .u32 c) ∧ w = w') :
    Calls Tryd.prog 93 #[.int .u32 x, .int .i64 i, .int .i64 j, .int .i64 k] w fun e w' => e = .returned (.int .u32 r) ∧ w = w' := by
  go_enter Tryd.func93, Tryd.ntmps93
  go_wp2_with fail
  refine (ca _).mono ?_
  rintro e w' ⟨rfl, rfl⟩
  clear ca
  go_wp2_with fail
  refine (cb _).mono ?_
  rintro e w' ⟨rfl, rfl⟩
  clear cb
  go_wp2_with fail
  refine (cc _).mono ?_
  rintro e w' ⟨rfl, rfl⟩
  clear cc
  go_wp2
  go_ret
  exact ⟨rfl, rfl⟩
theorem mix_ok (X i j k : Nat) (hX : X < 2 ^ 32) (hi : 1 ≤ i ∧ i < 32) (hj : 1 ≤ j ∧ j < 32) (hk : 1 ≤ k ∧ k < 32) (w : World) : Calls Tryd.prog 93 #[.int .u32 (X : Int), .int .i64 (i : Int), .int .i64 (j : Int), .int .i64 (k : Int)] w fun e w' => e = .returned (.int .u32 ((MIX i j k X : Nat) : Int)) ∧ w = w' :=
  mix_raw X i j k _ _ _ _ _ w (xor32 (ROTR_lt (by omega) hX) (ROTR_lt (by omega) hX)) (xor32 (Nat.xor_lt_two_pow (ROTR_lt (by omega) hX) (ROTR_lt (by omega) hX)) (ROTR_lt (by omega) hX)) (fun w => right_ok X i hX hi.1 hi.2 w) (fun w => right_ok X j hX hj.1 hj.2 w) (fun w => right_ok X k hX hk.1 hk.2 w)
theorem ones_xor {X : Nat} (hX : X < 2 ^ 32) : 4294967295 ^^^ X = 4294967295 - X := by
  apply Nat.eq_of_testBit_eq
  intro i
  have e : (4294967295 : Nat) = 2 ^ 32 - 1 := rfl
  have e2 : 4294967295 - X = 2 ^ 32 - (X + 1) := by omega
  rw [e2, Nat.testBit_two_pow_sub_succ hX, Nat.testBit_xor, e, Nat.testBit_two_pow_sub_one]
  by_cases h : i < 32
  · simp [h]
  · have : X.testBit i = false := Nat.testBit_lt_two_pow (Nat.lt_of_lt_of_le hX (Nat.pow_le_pow_right (by decide) (by omega)))
    simp [h, this]
theorem not32 {X : Nat} (hX : X < 2 ^ 32) : bits .xor .u32 IntKind.u32.max (X : Int) = ((4294967295 - X : Nat) : Int) := by
  rw [← ones_xor hX]
  exact xor32 (a := 4294967295) (by decide) hX
theorem choose_raw (x y z p q s r : Int) (w : World) (e1 : bits .and .u32 x y = p) (e2 : bits .xor .u32 IntKind.u32.max x = q) (e3 : bits .and .u32 q z = s) (e4 : bits .xor .u32 p s = r) :
    Calls Tryd.prog 94 #[.int .u32 x, .int .u32 y, .int .u32 z] w fun e w' => e = .returned (.int .u32 r) ∧ w = w' := by
  go_enter Tryd.func94, Tryd.ntmps94
  go_wp2
  go_ret
  exact ⟨rfl, rfl⟩
theorem choose_ok (X Y Z : Nat) (hX : X < 2 ^ 32) (hY : Y < 2 ^ 32) (hZ : Z < 2 ^ 32) (w : World) : Calls Tryd.prog 94 #[.int .u32 (X : Int), .int .u32 (Y : Int), .int .u32 (Z : Int)] w fun e w' => e = .returned (.int .u32 ((CHO X Y Z : Nat) : Int)) ∧ w = w' :=
  choose_raw X Y Z _ ((4294967295 - X : Nat) : Int) _ _ w (and32 hX hY) (not32 hX) (and32 (by omega) hZ) (xor32 (Nat.lt_of_le_of_lt Nat.and_le_left hX) (Nat.lt_of_le_of_lt Nat.and_le_right hZ))
theorem majority_raw (x y z p q s t r : Int) (w : World) (e1 : bits .and .u32 x y = p) (e2 : bits .and .u32 x z = q) (e3 : bits .xor .u32 p q = s) (e4 : bits .and .u32 y z = t) (e5 : bits .xor .u32 s t = r) :
    Calls Tryd.prog 95 #[.int .u32 x, .int .u32 y, .int .u32 z] w fun e w' => e = .returned (.int .u32 r) ∧ w = w' := by
  go_enter Tryd.func95, Tryd.ntmps95
  go_wp2
  go_ret
  exact ⟨rfl, rfl⟩
theorem majority_ok (X Y Z : Nat) (hX : X < 2 ^ 32) (hY : Y < 2 ^ 32) (hZ : Z < 2 ^ 32) (w : World) : Calls Tryd.prog 95 #[.int .u32 (X : Int), .int .u32 (Y : Int), .int .u32 (Z : Int)] w fun e w' => e = .returned (.int .u32 ((MAJ X Y Z : Nat) : Int)) ∧ w = w' :=
  majority_raw X Y Z _ _ _ _ _ w (and32 hX hY) (and32 hX hZ) (xor32 (Nat.lt_of_le_of_lt Nat.and_le_left hX) (Nat.lt_of_le_of_lt Nat.and_le_left hX)) (and32 hY hZ) (xor32 (Nat.xor_lt_two_pow (Nat.lt_of_le_of_lt Nat.and_le_left hX) (Nat.lt_of_le_of_lt Nat.and_le_left hX)) (Nat.lt_of_le_of_lt Nat.and_le_left hY))
/-- a callee that leaves the world as it was, in a region that only reads. -/
theorem quiet_eq {P : Program} {f : FuncId} {args : Array Value} {w : World} {n : Nat} {v : Value}
    (h : Calls P f args (w.drewN n) fun e w' => e = .returned v ∧ w.drewN n = w') : Calls P f args (w.drewN n) fun e w'' => e = .returned v ∧ ∃ m, w'' = w.drewN m :=
  h.mono fun _ _ ⟨he, hm⟩ => ⟨he, n, hm.symm⟩
theorem spill_raw (x i j k c p r : Int) (R : Int → Int) (w : World) (hi : 1 ≤ i ∧ i < 32) (hj : 1 ≤ j ∧ j < 32) (hk : 0 ≤ k) (e1 : bits .xor .u32 (R i) (R j) = p) (e2 : bits .xor .u32 p c = r) (e3 : x / 2 ^ min k.toNat 32 = c)
    (ca : ∀ n : Int, 1 ≤ n ∧ n < 32 → ∀ w, Calls Tryd.prog 102 #[.int .u32 x, .int .i64 n] w fun e w' => e = .returned (.int .u32 (R n)) ∧ w = w') :
    Calls Tryd.prog 101 #[.int .u32 x, .int .i64 i, .int .i64 j, .int .i64 k] w fun e w' => e = .returned (.int .u32 r) ∧ ∃ m, w' = w.drewN m := by
  go_enter Tryd.func101, Tryd.ntmps101
  go_wp2
  go_quiet ((go_at_call 102; exact quiet_eq (ca _ (by assumption) _)))
  go_wp2
  go_ret
  exact ⟨rfl, _, rfl⟩
theorem spill_ok (X i j k : Nat) (hX : X < 2 ^ 32) (hi : 1 ≤ i ∧ i < 32) (hj : 1 ≤ j ∧ j < 32) (hk : k < 32) (w : World) : Calls Tryd.prog 101 #[.int .u32 (X : Int), .int .i64 (i : Int), .int .i64 (j : Int), .int .i64 (k : Int)] w fun e w' => e = .returned (.int .u32 ((SPILL i j k X : Nat) : Int)) ∧ ∃ m, w' = w.drewN m := by
  refine spill_raw X i j k ((X / 2 ^ k : Nat) : Int) ((ROTR i X ^^^ ROTR j X : Nat) : Int) _ (fun n => ((ROTR n.toNat X : Nat) : Int)) w (by omega) (by omega) (by omega) ?_ ?_ ?_ ?_
  · simp only [Int.toNat_natCast]
    exact xor32 (ROTR_lt (by omega) hX) (ROTR_lt (by omega) hX)
  · exact xor32 (Nat.xor_lt_two_pow (ROTR_lt (by omega) hX) (ROTR_lt (by omega) hX)) (Nat.lt_of_le_of_lt (Nat.div_le_self _ _) hX)
  · rw [Int.toNat_natCast, show min k 32 = k by omega, div_cast]
  · intro n hn w
    obtain ⟨N, rfl⟩ : ∃ N : Nat, n = (N : Int) := ⟨n.toNat, by omega⟩
    exact right_ok X N hX (by omega) (by omega) w
theorem word_raw (b o n c : Nat) (v0 v1 v2 v3 x0 x1 x2 y1 y2 r : Int) (w : World) (hn : 4 ≤ n) (c0 : w.cell? ⟨b, o, none⟩ = some (.int .u8 v0)) (c1 : w.cell? ⟨b, o + 1, none⟩ = some (.int .u8 v1)) (c2 : w.cell? ⟨b, o + 2, none⟩ = some (.int .u8 v2)) (c3 : w.cell? ⟨b, o + 3, none⟩ = some (.int .u8 v3))
    (e0 : v0 % 4294967296 * 16777216 % 4294967296 = x0) (e1 : v1 % 4294967296 * 65536 % 4294967296 = x1) (e2 : v2 % 4294967296 * 256 % 4294967296 = x2) (f1 : bits .or .u32 x0 x1 = y1) (f2 : bits .or .u32 y1 x2 = y2) (f3 : bits .or .u32 y2 (v3 % 4294967296) = r) :
    Calls Tryd.prog 100 #[.slice (some ⟨b, o, none⟩) n c] w fun e w' => e = .returned (.int .u32 r) ∧ ∃ m, w' = w.drewN m := by
  have h0 : (0 : Int) < (n : Int) := by omega
  have h1 : (1 : Int) < (n : Int) := by omega
  have h2 : (2 : Int) < (n : Int) := by omega
  have h3 : (3 : Int) < (n : Int) := by omega
  clear hn
  go_enter Tryd.func100, Tryd.ntmps100
  go_wp2
  go_quiet (fail)
  go_wp2
  go_ret
  exact ⟨rfl, _, rfl⟩
theorem or_up {a b k : Nat} (ha : a % 2 ^ k = 0) (hb : b < 2 ^ k) (h1 : a < 2 ^ 32) (h2 : b < 2 ^ 32) : bits .or .u32 (a : Int) (b : Int) = ((a + b : Nat) : Int) := by
  rw [or32 h1 h2, nat_join k a b ha hb]
theorem word_ok (b o n c : Nat) (s : Nat → Nat) (h : ∀ i, s i < 256) (i : Nat) (w : World) (hn : 4 ≤ n) (hc : ∀ j, j < 4 → w.cell? ⟨b, o + j, none⟩ = some (.int .u8 (s (i + j) : Int))) :
    Calls Tryd.prog 100 #[.slice (some ⟨b, o, none⟩) n c] w fun e w' => e = .returned (.int .u32 ((WORDAT s i : Nat) : Int)) ∧ ∃ m, w' = w.drewN m := by
  have h0 := h i; have h1 := h (i + 1); have h2 := h (i + 2); have h3 := h (i + 3)
  have w3 : ((s (i + 3) : Nat) : Int) % 4294967296 = ((s (i + 3) : Nat) : Int) := by omega
  refine word_raw b o n c (s i : Nat) (s (i + 1) : Nat) (s (i + 2) : Nat) (s (i + 3) : Nat) ((s i * 16777216 : Nat) : Int) ((s (i + 1) * 65536 : Nat) : Int) ((s (i + 2) * 256 : Nat) : Int) _ _ _ w hn (hc 0 (by omega)) (hc 1 (by omega)) (hc 2 (by omega)) (hc 3 (by omega)) ?_ ?_ ?_ (or_up (k := 24) ?_ ?_ ?_ ?_) (or_up (k := 16) ?_ ?_ ?_ ?_) (by rw [w3]; exact or_up (k := 8) (by omega) (by omega) (by omega) (by omega))
  all_goals omega
end Go.Proofs.YtnplhejopmoopaaDoor.HX

/- Arrays of small numbers by a function; blocks of one's own in a world that is a variable. -/
namespace Go.Proofs.YtnplhejopmoopaaDoor.HX
open Go.RowKit

/-- n cells, each a number of the kind k. -/
def UARR (k : IntKind) (n : Nat) (f : Nat → Nat) : Array Value := ((List.range n).map fun i => Value.int k ((f i : Nat) : Int)).toArray
theorem UARR_size (k : IntKind) (n : Nat) (f : Nat → Nat) : (UARR k n f).size = n := by simp [UARR]
theorem UARR_get (k : IntKind) (n : Nat) (f : Nat → Nat) (i : Nat) (h : i < n) : (UARR k n f)[i]? = some (.int k ((f i : Nat) : Int)) := by simp [UARR, h]
theorem UARR_ext {k : IntKind} {n : Nat} {f g : Nat → Nat} (h : ∀ i, i < n → f i = g i) : UARR k n f = UARR k n g := by
  unfold UARR
  congr 1
  apply List.map_congr_left
  intro i hi
  rw [h i (by simpa using hi)]
theorem UARR_set (k : IntKind) (n : Nat) (f : Nat → Nat) (i : Nat) (v : Nat) : (UARR k n f).setIfInBounds i (.int k (v : Int)) = UARR k n fun j => if j = i then v else f j := by
  apply Array.ext_getElem?
  intro j
  by_cases hj : j < n
  · rw [UARR_get _ _ _ j hj, Array.getElem?_setIfInBounds]
    by_cases h : i = j
    · subst h
      simp [UARR_size, hj]
    · have h' : ¬ j = i := fun e => h e.symm
      simp [h, h', UARR_get _ _ _ j hj]
  · rw [Array.getElem?_eq_none (by simp [UARR_size]; omega), Array.getElem?_eq_none (by simp [UARR_size]; omega)]
theorem UARR_one (k : IntKind) (n : Nat) (f : Nat → Nat) : (UARR k n f).all (·.oneCell') = true := by
  apply Array.all_eq_true_iff_forall_mem.2
  intro v hv
  simp [UARR] at hv
  obtain ⟨i, _, rfl⟩ := hv
  rfl
theorem info_hash : (Tryd.prog.info? 27).map (·.size) = some 32 := by kernel_rfl
theorem info_block : (Tryd.prog.info? 127).map (·.size) = some 64 := by kernel_rfl
theorem info_w8 : (Tryd.prog.info? 145).map (·.size) = some 8 := by kernel_rfl
theorem info_w64 : (Tryd.prog.info? 147).map (·.size) = some 64 := by kernel_rfl
theorem info_HASH (f : Nat → Nat) : (Tryd.prog.info? 27).map (·.size) = some (UARR .u8 32 f).size := by rw [UARR_size]; exact info_hash
theorem info_BLOCK (f : Nat → Nat) : (Tryd.prog.info? 127).map (·.size) = some (UARR .u8 64 f).size := by rw [UARR_size]; exact info_block
theorem info_W8 (f : Nat → Nat) : (Tryd.prog.info? 145).map (·.size) = some (UARR .u32 8 f).size := by rw [UARR_size]; exact info_w8
theorem info_W64 (f : Nat → Nat) : (Tryd.prog.info? 147).map (·.size) = some (UARR .u32 64 f).size := by rw [UARR_size]; exact info_w64

/-- the block g holds the cells c. -/
def Has (w : World) (g : Nat) (c : Array Value) (t : TypeId) : Prop := w.heap[g]? = some (.cells c t)
theorem Has.cell {w : World} {g : Nat} {c : Array Value} {t : TypeId} (h : Has w g c t) (i : Nat) : w.cell? ⟨g, i, none⟩ = c[i]? := cell_of_row w g i c t _ h
theorem Has.lt {w : World} {g : Nat} {c : Array Value} {t : TypeId} (h : Has w g c t) : g < w.heap.size := (Array.getElem?_eq_some_iff.1 h).1
theorem Has.frozen {w : World} {g : Nat} {c : Array Value} {t : TypeId} (h : Has w g c t) (i : Nat) : w.frozen? ⟨g, i, none⟩ = false := by
  have e : w.heap[g]? = some (.cells c t) := h
  simp [World.frozen?, e]
theorem Has.set {w : World} {g : Nat} {c : Array Value} {t : TypeId} (h : Has w g c t) (i : Nat) (v : Value) : Has (w.setCell ⟨g, i, none⟩ v) g (c.setIfInBounds i v) t := by
  have e : w.heap[g]? = some (.cells c t) := h
  unfold Has
  rw [setCell_eq_setRow w g i c t _ v e, setRow_heap w g c _ t _ e]
theorem Has.other {w : World} {g : Nat} {c : Array Value} {t : TypeId} (h : Has w g c t) {a : Addr} (ha : g ≠ a.block) (v : Value) : Has (w.setCell a v) g c t := by
  have e : w.heap[g]? = some (.cells c t) := h
  unfold Has
  rw [Below.heap_setCell w a v g ha, e]
theorem Has.below {B : Nat} {w w' : World} {g : Nat} {c : Array Value} {t : TypeId} (h : Has w g c t) (hb : Below B w w') (hg : g < B) : Has w' g c t := (hb.block g hg).trans h
theorem Has.keep {w w' : World} {g : Nat} {c : Array Value} {t : TypeId} (h : Has w g c t) (hb : Below w.heap.size w w') : Has w' g c t := h.below hb h.lt
theorem Has.alloc {w : World} {g : Nat} {c : Array Value} {t : TypeId} (h : Has w g c t) (o : Obj) : Has (w.alloc o) g c t := by
  have e : w.heap[g]? = some (.cells c t) := h
  unfold Has
  rw [Below.heap_alloc w o g h.lt, e]
theorem Has.new (w : World) (c : Array Value) (t : TypeId) : Has (w.alloc (.cells c t)) w.heap.size c t := heap_alloc_new w _
theorem Has.at (w : World) (c : Array Value) (t : TypeId) {g : Nat} (hg : g = w.heap.size) : Has (w.alloc (.cells c t)) g c t := by subst hg; exact Has.new w c t
theorem Has.row {w : World} {g : Nat} {c : Array Value} {t : TypeId} (h : Has w g c t) (c' : Array Value) : Has (w.setRow g c') g c' t := setRow_heap w g c c' t _ h
theorem Has.row_other {w : World} {g k : Nat} {c : Array Value} {t : TypeId} (h : Has w g c t) (hk : g ≠ k) (c' : Array Value) : Has (w.setRow k c') g c t := by
  have e : w.heap[g]? = some (.cells c t) := h
  unfold Has
  rw [setRow_other w k g c' hk, e]
theorem Has.drewN {w : World} {g : Nat} {c : Array Value} {t : TypeId} (h : Has w g c t) (n : Nat) : Has (w.drewN n) g c t := h
theorem set_off {w : World} {b i j : Nat} (h : i ≠ j) (v : Value) : (w.setCell ⟨b, i, none⟩ v).cell? ⟨b, j, none⟩ = w.cell? ⟨b, j, none⟩ := World.cell?_setCell_other w _ _ v (fun e => h (congrArg Addr.off e))
theorem below_row {B g : Nat} {w0 w : World} (hb : Below B w0 w) (hBg : B ≤ g) (cs : Array Value) : Below B w0 (w.setRow g cs) :=
  ⟨hb.os, hb.tape, hb.output, by have := hb.size; simpa [World.setRow] using this, fun k hk => by rw [setRow_other w g k cs (by omega)]; exact hb.block k hk⟩

/-- what stands in an array from a place on, as a slice. -/
theorem slice_hash (b i : Nat) (h : i < 32) (l : Int) (hl : l = (i : Int)) (w : World) : (Instr.sliceAt 27 (.pointer (some ⟨b, 0, none⟩)) (some (.int .i64 l)) none none).run Tryd.prog w = .ok (.slice (some ⟨b, i, none⟩) (32 - i) (32 - i)) w := by
  subst hl
  have hn : Tryd.prog.arrayLen 27 = 32 := by kernel_rfl
  rw [run_sliceAt_array_l w 27 ⟨b, 0, none⟩ (by kernel_rfl) .i64 (i : Int) (by omega) (by rw [hn]; omega), hn]
  have he : Tryd.prog.elem 27 = 5 := by kernel_rfl
  obtain ⟨i8, hi, h8⟩ := Option.map_eq_some_iff.1 info_u8
  simp only [Prod.mk.injEq] at h8
  rw [he]
  simp [sizeOf, typeInfo, hi, h8.2.1, slicedAt]
  rw [if_neg (by omega)]
  simp [Addr.add]
  omega
theorem slice_block (b i : Nat) (h : i < 64) (l : Int) (hl : l = (i : Int)) (w : World) : (Instr.sliceAt 127 (.pointer (some ⟨b, 0, none⟩)) (some (.int .i64 l)) none none).run Tryd.prog w = .ok (.slice (some ⟨b, i, none⟩) (64 - i) (64 - i)) w := by
  subst hl
  have hn : Tryd.prog.arrayLen 127 = 64 := by kernel_rfl
  rw [run_sliceAt_array_l w 127 ⟨b, 0, none⟩ (by kernel_rfl) .i64 (i : Int) (by omega) (by rw [hn]; omega), hn]
  have he : Tryd.prog.elem 127 = 5 := by kernel_rfl
  obtain ⟨i8, hi, h8⟩ := Option.map_eq_some_iff.1 info_u8
  simp only [Prod.mk.injEq] at h8
  rw [he]
  simp [sizeOf, typeInfo, hi, h8.2.1, slicedAt]
  rw [if_neg (by omega)]
  simp [Addr.add]
  omega
/-- an array that is filled from 0 on. -/
theorem ufill {k : IntKind} {n i : Nat} {F f : Nat → Nat} (hf : ∀ j, f j = if j < i then F j else 0) (v : Nat) (hv : v = F i) : (UARR k n f).setIfInBounds i (.int k (v : Int)) = UARR k n fun j => if j < i + 1 then F j else 0 := by
  rw [UARR_set]
  apply UARR_ext
  intro j _
  by_cases e : j = i
  · subst e
    simp [hv]
  · rw [if_neg e, hf j]
    by_cases e2 : j < i
    · rw [if_pos e2, if_pos (by omega)]
    · rw [if_neg e2, if_neg (by omega)]
theorem words_ok (s : Nat → Nat) (h : ∀ i, s i < 256) (w : World) : Calls Tryd.prog 91 #[.agg (UARR .u8 32 s)] w fun e w' => e = .returned (.agg (UARR .u32 8 fun i => WORDAT s (4 * i))) ∧ Below w.heap.size w w' := by
  have hz : (#[.int .u32 0, .int .u32 0, .int .u32 0, .int .u32 0, .int .u32 0, .int .u32 0, .int .u32 0, .int .u32 0] : Array Value) = UARR .u32 8 fun _ => 0 := rfl
  have H : Aside (∀ i, s i < 256) := h
  clear h
  go_enter Tryd.func91, Tryd.ntmps91
  go_wp2
  go_loopg [5] 8 (fun g s5 wx => ∃ i : Nat, i + g = 8 ∧ s5 = .int .i64 i ∧ Aside (Below w.heap.size w wx ∧ Has wx w.heap.size (UARR .u8 32 s) 27 ∧ Has wx (w.heap.size + 1) (UARR .u32 8 fun _ => 0) 145 ∧ Has wx (w.heap.size + 2) (UARR .u32 8 fun j => if j < i then WORDAT s (4 * j) else 0) 145))
  case atStart =>
    refine ⟨0, by omega, rfl, ?_⟩
    have e : (UARR .u32 8 fun j => if j < 0 then WORDAT s (4 * j) else 0) = UARR .u32 8 fun _ => 0 := UARR_ext fun j _ => if_neg (by omega)
    rw [e]
    exact ⟨(((Below.refl _ _).alloc (Nat.le_refl _) _).alloc (by simp) _).alloc (by simp; omega) _, ((Has.new w _ _).alloc _).alloc _, (Has.at _ _ _ (by simp)).alloc _, Has.at _ _ _ (by simp)⟩
  case round =>
    obtain ⟨i, hig, rfl, A⟩ := hrel
    cases gk with
    | zero =>
      obtain rfl : i = 8 := by omega
      obtain ⟨hb, h0, h1, h2⟩ := A.out
      go_wp2_with (first
        | (refine wpList_load_row rfl 145 _ rfl _ rfl _ _ (0, 0) _ h2 Tryd.underlying145 rfl (info_W8 _) ?_)
        | (refine wpList_store_row rfl 145 _ _ rfl _ _ rfl rfl _ _ h1 (info_W8 _) (by rw [UARR_size, UARR_size]) (UARR_one _ _ _) ?_))
      have e : (UARR .u32 8 fun j => if j < 8 then WORDAT s (4 * j) else 0) = UARR .u32 8 fun i => WORDAT s (4 * i) := UARR_ext fun j hj => by rw [if_pos hj]
      rw [e]
      refine bodyPost_ret (v := .agg (UARR .u32 8 fun i => WORDAT s (4 * i))) ?_ rfl ⟨rfl, below_row hb (by omega) _⟩
      exact results_cell_row rfl _ _ (w.heap.size + 1) 145 _ (0, 0) _ rfl (h1.row _) Tryd.underlying145 rfl (info_W8 _)
    | succ g =>
      obtain ⟨hb, h0, h1, h2⟩ := A.out
      have hi : (i : Int) < 8 := by omega
      have hsl := slice_hash w.heap.size (4 * i) (by omega) (4 * (i : Int)) (by omega)
      have hw := word_ok w.heap.size (4 * i) (32 - 4 * i) (32 - 4 * i) s H.out (4 * i) wr (by omega) (fun j hj => by rw [h0.cell, UARR_get _ _ _ _ (by omega)])
      have hc : wr.cell? ⟨w.heap.size + 1 + 1, i, none⟩ = some (.int .u32 0) := by rw [h2.cell, UARR_get _ _ _ _ (by omega), if_neg (by omega)]; rfl
      have hf : wr.frozen? ⟨w.heap.size + 1 + 1, i, none⟩ = false := h2.frozen i
      generalize hv : WORDAT s (4 * i) = v at hw
      have R : Aside (Below w.heap.size w wr ∧ Has wr w.heap.size (UARR .u8 32 s) 27 ∧ Has wr (w.heap.size + 1) (UARR .u32 8 fun _ => 0) 145 ∧ Has wr (w.heap.size + 2) (UARR .u32 8 fun j => if j < i then WORDAT s (4 * j) else 0) 145 ∧ WORDAT s (4 * i) = v) := ⟨hb, h0, h1, h2, hv⟩
      clear hb h0 h1 h2 hv A
      go_wp2_with fail
      refine hw.mono ?_
      rintro e w' ⟨rfl, m, rfl⟩
      clear hw
      go_wp2
      go_roundg g
      case measure => omega
      case rel =>
        obtain ⟨hb, h0, h1, h2, hv⟩ := R.out
        refine ⟨i + 1, by omega, by go_num, ?_⟩
        rw [← ufill (F := fun j => WORDAT s (4 * j)) (fun j => rfl) v hv.symm]
        exact ⟨(below_drewN hb m).setCell (by show _ ≤ w.heap.size + 1 + 1; omega) _, (h0.drewN m).other (by show w.heap.size ≠ w.heap.size + 1 + 1; omega) _, (h1.drewN m).other (by show w.heap.size + 1 ≠ w.heap.size + 1 + 1; omega) _, (h2.drewN m).set i _⟩
end Go.Proofs.YtnplhejopmoopaaDoor.HX
