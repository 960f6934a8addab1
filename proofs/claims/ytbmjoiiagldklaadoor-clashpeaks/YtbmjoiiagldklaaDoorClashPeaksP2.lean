/- Texts of ClashPeaks, one behind the other: PosPlain, NumBitCalls, NumLowPlain, NumLowCalls. -/
import Derived.Deep.LoopGhost
import Derived.Test.YtbmjoiiagldklaaDoorClashPeaksP1
/- Places of the nodes of a forest, in plain numbers: how many bits are set, how many nodes there are, where the node of a height and an index stands. -/
namespace Go.Proofs.YtbmjoiiagldklaaDoor

/-- how many bits of a number are set, with so many steps at most. -/
def PCF : Nat → Nat → Nat
  | 0, _ => 0
  | f + 1, n => n % 2 + PCF f (n / 2)
/-- how many bits of a number are set. -/
def PC (n : Nat) : Nat := PCF n n
theorem PCF_zero : ∀ f, PCF f 0 = 0
  | 0 => rfl
  | f + 1 => by
    show 0 % 2 + PCF f (0 / 2) = 0
    rw [show 0 / 2 = 0 from rfl, PCF_zero f]
theorem PCF_more : ∀ f g n, n ≤ f → n ≤ g → PCF f n = PCF g n
  | 0, g, n, h, _ => by
    have h0 : n = 0 := by omega
    subst h0
    rw [PCF_zero, PCF_zero]
  | f + 1, 0, n, _, h => by
    have h0 : n = 0 := by omega
    subst h0
    rw [PCF_zero, PCF_zero]
  | f + 1, g + 1, n, h1, h2 => by
    show n % 2 + PCF f (n / 2) = n % 2 + PCF g (n / 2)
    rw [PCF_more f g (n / 2) (by omega) (by omega)]
theorem PC_zero : PC 0 = 0 := rfl
theorem PC_step (n : Nat) : PC n = n % 2 + PC (n / 2) := by
  show PCF n n = n % 2 + PCF (n / 2) (n / 2)
  rw [PCF_more n (n + 1) n (Nat.le_refl n) (Nat.le_succ n)]
  show n % 2 + PCF n (n / 2) = n % 2 + PCF (n / 2) (n / 2)
  rw [PCF_more n (n / 2) (n / 2) (by omega) (Nat.le_refl _)]
theorem PC_even (m : Nat) : PC (2 * m) = PC m := by
  rw [PC_step, show 2 * m % 2 = 0 by omega, show 2 * m / 2 = m by omega, Nat.zero_add]
theorem PC_odd (m : Nat) : PC (2 * m + 1) = PC m + 1 := by
  rw [PC_step, show (2 * m + 1) % 2 = 1 by omega, show (2 * m + 1) / 2 = m by omega, Nat.add_comm]
theorem PC_one : PC 1 = 1 := by rw [show (1 : Nat) = 2 * 0 + 1 from rfl, PC_odd, PC_zero]
theorem PC_le (n : Nat) : PC n ≤ n := by
  induction n using Nat.strongRecOn with
  | _ n ih =>
    by_cases h : n = 0
    · subst h
      rw [PC_zero]
      omega
    · have := ih (n / 2) (by omega)
      rw [PC_step]
      omega
theorem PC_add (h : Nat) : ∀ k r, r < 2 ^ h → PC (k * 2 ^ h + r) = PC k + PC r := by
  induction h with
  | zero =>
    intro k r hr
    have : r = 0 := by simpa using hr
    subst this
    rw [PC_zero]
    simp
  | succ h ih =>
    intro k r hr
    rw [Nat.pow_succ] at hr
    have e : k * 2 ^ (h + 1) + r = 2 * (k * 2 ^ h + r / 2) + r % 2 := by
      rw [Nat.pow_succ, ← Nat.mul_assoc]
      omega
    have hr2 : r / 2 < 2 ^ h := by omega
    rcases Nat.mod_two_eq_zero_or_one r with h0 | h0
    · rw [e, h0, Nat.add_zero, PC_even, ih _ _ hr2, PC_step r, h0]
      omega
    · rw [e, h0, PC_odd, ih _ _ hr2, PC_step r, h0]
      omega
theorem PC_shift (h k : Nat) : PC (k * 2 ^ h) = PC k := by
  have := PC_add h k 0 (Nat.two_pow_pos h)
  rw [PC_zero] at this
  exact this
theorem PC_lt_pow (h : Nat) : ∀ n, n < 2 ^ h → PC n ≤ h := by
  induction h with
  | zero =>
    intro n hn
    have : n = 0 := by simpa using hn
    subst this
    rw [PC_zero]
    omega
  | succ h ih =>
    intro n hn
    rw [Nat.pow_succ] at hn
    have := ih (n / 2) (by omega)
    rw [PC_step]
    omega
theorem DSUM_PC : ∀ k X, X < 2 ^ k → DSUM 1 k X = PC X
  | 0, X, h => by
    have : X = 0 := by simpa using h
    subst this
    rw [PC_zero]
    rfl
  | k + 1, X, h => by
    rw [Nat.pow_succ] at h
    rw [PC_step, ← DSUM_PC k (X / 2) (by omega)]
    simp [DSUM]
theorem POP_PC {X : Nat} (h : X < 2 ^ 64) : POP X = PC X := DSUM_PC 64 X h

/-- how many nodes a forest of n leaves has. -/
def NODES (n : Nat) : Nat := 2 * n - PC n
theorem NODES_add (n : Nat) : NODES n + PC n = 2 * n := by
  have := PC_le n
  unfold NODES
  omega
theorem NODES_zero : NODES 0 = 0 := by unfold NODES; rw [PC_zero]
/-- how many nodes a node of height h has under it, with itself. -/
def TREE (h : Nat) : Nat := 2 ^ (h + 1) - 1
/-- the place of the node of height h and index k. -/
def PLC (h k : Nat) : Nat := NODES (k * 2 ^ h) + (2 ^ (h + 1) - 2)
theorem two_le (h : Nat) : 2 ≤ 2 ^ (h + 1) := by
  have := Nat.two_pow_pos h
  rw [Nat.pow_succ]
  omega
theorem PLC_eq (h k : Nat) : PLC h k + 2 + PC k = 2 ^ (h + 1) * (k + 1) := by
  have h1 := NODES_add (k * 2 ^ h)
  have h2 := two_le h
  rw [PC_shift] at h1
  unfold PLC
  rw [Nat.mul_add, Nat.mul_one, show 2 ^ (h + 1) * k = 2 * (k * 2 ^ h) by rw [Nat.pow_succ, Nat.mul_comm (2 ^ h) 2, Nat.mul_assoc, Nat.mul_comm k]]
  omega
/-- what comes further right by a whole tree. -/
theorem PLC_over {h H k : Nat} (hh : h ≤ H) (hk : k < 2 ^ (H - h)) : PLC h (2 ^ (H - h) + k) = TREE H + PLC h k := by
  have h1 := PLC_eq h (2 ^ (H - h) + k)
  have h2 := PLC_eq h k
  have h3 := PC_add (H - h) 1 k hk
  rw [Nat.one_mul, PC_one] at h3
  have e : 2 ^ (h + 1) * (2 ^ (H - h) + k + 1) = 2 ^ (H + 1) + 2 ^ (h + 1) * (k + 1) := by
    rw [Nat.add_assoc, Nat.mul_add, ← Nat.pow_add, show h + 1 + (H - h) = H + 1 by omega]
  have h4 := two_le H
  unfold TREE
  omega
theorem PLC_in {h H k : Nat} (hh : h ≤ H) (hk : k < 2 ^ (H - h)) : PLC h k + 2 ≤ 2 ^ (H + 1) := by
  have h1 := PLC_eq h k
  have e : 2 ^ (h + 1) * (k + 1) ≤ 2 ^ (h + 1) * 2 ^ (H - h) := Nat.mul_le_mul_left _ hk
  rw [← Nat.pow_add, show h + 1 + (H - h) = H + 1 by omega] at e
  omega
/-- what stands at a place of the tree of height H. -/
theorem PLC_inj (H : Nat) : ∀ h k h' k', h ≤ H → k < 2 ^ (H - h) → h' ≤ H → k' < 2 ^ (H - h') → PLC h k = PLC h' k' → h = h' ∧ k = k' := by
  induction H with
  | zero =>
    intro h k h' k' a b c d _
    obtain rfl : h = 0 := by omega
    obtain rfl : h' = 0 := by omega
    simp at b d
    omega
  | succ H ih =>
    have top : ∀ h k, h ≤ H + 1 → k < 2 ^ (H + 1 - h) → (h = H + 1 ∧ k = 0 ∧ PLC h k + 2 = 2 ^ (H + 2)) ∨ (h ≤ H ∧ k < 2 ^ (H - h) ∧ PLC h k + 2 ≤ 2 ^ (H + 1)) ∨ (h ≤ H ∧ ∃ q, k = 2 ^ (H - h) + q ∧ q < 2 ^ (H - h) ∧ PLC h k = TREE H + PLC h q ∧ PLC h q + 2 ≤ 2 ^ (H + 1)) := by
      intro h k a b
      rcases Nat.lt_or_ge H h with h1 | h1
      · obtain rfl : h = H + 1 := by omega
        have hk : k = 0 := by simpa using b
        subst hk
        have := PLC_eq (H + 1) 0
        rw [PC_zero] at this
        exact .inl ⟨rfl, rfl, by simpa using this⟩
      · rcases Nat.lt_or_ge k (2 ^ (H - h)) with h2 | h2
        · exact .inr (.inl ⟨h1, h2, PLC_in h1 h2⟩)
        · have hq : k - 2 ^ (H - h) < 2 ^ (H - h) := by
            rw [show H + 1 - h = H - h + 1 by omega, Nat.pow_succ] at b
            omega
          refine .inr (.inr ⟨h1, k - 2 ^ (H - h), by omega, hq, ?_, PLC_in h1 hq⟩)
          have := PLC_over h1 hq
          rw [show 2 ^ (H - h) + (k - 2 ^ (H - h)) = k by omega] at this
          exact this
    have hp := two_le H
    have hpp : 2 ^ (H + 2) = 2 * 2 ^ (H + 1) := by rw [Nat.pow_succ 2 (H + 1), Nat.mul_comm]
    intro h k h' k' a b c d e
    unfold TREE at top
    rcases top h k a b with ⟨r1, r2, r3⟩ | ⟨r1, r2, r3⟩ | ⟨r1, q, r2, r3, r4, r5⟩ <;> rcases top h' k' c d with ⟨s1, s2, s3⟩ | ⟨s1, s2, s3⟩ | ⟨s1, q', s2, s3, s4, s5⟩
    · omega
    · omega
    · omega
    · omega
    · exact ih h k h' k' r1 r2 s1 s2 e
    · omega
    · omega
    · omega
    · obtain ⟨rfl, rfl⟩ := ih h q h' q' r1 r3 s1 s3 (by omega)
      exact ⟨rfl, by omega⟩
/-- the node (h, k) is one of the forest of all leaves. -/
def Node (h k : Nat) : Prop := h ≤ 62 ∧ k < 2 ^ (62 - h)
theorem Node.one {h k h' k' : Nat} (a : Node h k) (b : Node h' k') (e : PLC h k = PLC h' k') : h = h' ∧ k = k' := PLC_inj 62 h k h' k' a.1 a.2 b.1 b.2 e
theorem Node.lt {h k : Nat} (a : Node h k) : PLC h k < 9223372036854775807 := by
  have := PLC_in a.1 a.2
  omega
theorem Node.index_lt {h k : Nat} (a : Node h k) : k < 2 ^ 62 := Nat.lt_of_lt_of_le a.2 (Nat.pow_le_pow_right (by decide) (by omega))
theorem Node.span {h k : Nat} (a : Node h k) : (k + 1) * 2 ^ h ≤ 2 ^ 62 := by
  have : (k + 1) * 2 ^ h ≤ 2 ^ (62 - h) * 2 ^ h := Nat.mul_le_mul_right _ a.2
  rw [← Nat.pow_add, Nat.sub_add_cancel a.1] at this
  exact this
end Go.Proofs.YtbmjoiiagldklaaDoor

/- What OnesCount64, TrailingZeros64 and Len64, and num's Ones, Low and High answer. -/
namespace Go.Proofs.YtbmjoiiagldklaaDoor
open Go.RowKit

theorem ones_raw (x x1 x2 x3 x4 x5 x6 r : Int) (w : World)
    (e1 : IntKind.u64.wrap (bits .and .u64 (x / 2) 6148914691236517205 + bits .and .u64 x 6148914691236517205) = x1)
    (e2 : IntKind.u64.wrap (bits .and .u64 (x1 / 4) 3689348814741910323 + bits .and .u64 x1 3689348814741910323) = x2)
    (e3 : bits .and .u64 (IntKind.u64.wrap (x2 / 16 + x2)) 1085102592571150095 = x3)
    (e4 : IntKind.u64.wrap (x3 + x3 / 256) = x4) (e5 : IntKind.u64.wrap (x4 + x4 / 65536) = x5) (e6 : IntKind.u64.wrap (x5 + x5 / 4294967296) = x6)
    (e7 : bits .and .i64 (wrap64 x6) 127 = r) :
    Calls Tryd.prog 45 #[.int .u64 x] w fun e w' => e = .returned (.int .i64 r) ∧ w = w' := by
  go_enter Tryd.func45, Tryd.ntmps45
  go_wp2
  go_ret
  exact ⟨rfl, rfl⟩
theorem wrap_nat {a : Nat} {A : Int} (e : A = (a : Int)) (h : a < 2 ^ 64) : IntKind.u64.wrap A = (a : Int) := by rw [wrapU, e]; omega
theorem and_lit {a c : Nat} {A C : Int} (eA : A = (a : Int)) (eC : C = (c : Int)) (ha : a < 2 ^ 64) (hc : c < 2 ^ 64) : bits .and .u64 A C = ((a &&& c : Nat) : Int) := by
  subst eA eC
  exact and_eq ha hc
theorem DLE_top {w D : Nat} : ∀ (n x : Nat), DLE w D (n + 1) x → x / 2 ^ (w * n) % 2 ^ w ≤ D
  | 0, x, h => by simpa using h.1
  | n + 1, x, h => by
    have := DLE_top n (x / 2 ^ w) h.2
    rw [Nat.div_div_eq_div_mul, ← Nat.pow_add, show w + w * n = w * (n + 1) by rw [Nat.mul_add, Nat.mul_one, Nat.add_comm]] at this
    exact this
theorem last127 (y p : Nat) (h : y % 128 = p) : bits .and .i64 (wrap64 (y : Int)) 127 = (p : Int) := by
  rw [and127]
  unfold wrap64
  omega
theorem onescount_ok (X : Nat) (hX : X < 2 ^ 64) (w : World) : Calls Tryd.prog 45 #[.int .u64 (X : Int)] w fun e w' => e = .returned (.int .i64 ((POP X : Nat) : Int)) ∧ w = w' := by
  have h1 : X1 X < 2 ^ 64 := by rw [X1_eq]; exact ADDF_lt (k := 1) (by decide) 32 _
  have h2 := X2_lt X
  have h3 := X3_lt X
  have h16 : X2 X / 16 + X2 X < 2 ^ 64 := by
    have ht := DLE_top 15 (X2 X) (X2_le X)
    simp only [Nat.reducePow, Nat.reduceMul] at ht h2 ⊢
    generalize X2 X = y at *
    omega
  have hl := pop_last h3 (X3_le X)
  rw [X3_sum] at hl
  have hlt := hl.2
  have hle4 : X3 X + X3 X / 256 < 2 ^ 64 := Nat.lt_of_le_of_lt (by generalize X3 X + X3 X / 256 = y; omega) hlt
  have hle5 : X3 X + X3 X / 256 + (X3 X + X3 X / 256) / 65536 < 2 ^ 64 := Nat.lt_of_le_of_lt (by generalize X3 X + X3 X / 256 + (X3 X + X3 X / 256) / 65536 = y; omega) hlt
  refine ones_raw X (X1 X : Nat) (X2 X : Nat) (X3 X : Nat) (X3 X + X3 X / 256 : Nat) (X3 X + X3 X / 256 + (X3 X + X3 X / 256) / 65536 : Nat) (X3 X + X3 X / 256 + (X3 X + X3 X / 256) / 65536 + (X3 X + X3 X / 256 + (X3 X + X3 X / 256) / 65536) / 4294967296 : Nat) _ w ?_ ?_ ?_ ?_ ?_ ?_ ?_
  · have a1 : bits .and .u64 ((X : Int) / 2) 6148914691236517205 = ((X / 2 &&& 6148914691236517205 : Nat) : Int) := and_lit (by simp) rfl (by omega) (by decide)
    have a2 : bits .and .u64 (X : Int) 6148914691236517205 = ((X &&& 6148914691236517205 : Nat) : Int) := and_lit rfl rfl hX (by decide)
    rw [a1, a2]
    exact wrap_nat (by unfold X1; rw [Int.natCast_add]) h1
  · have a1 : bits .and .u64 (((X1 X : Nat) : Int) / 4) 3689348814741910323 = ((X1 X / 4 &&& 3689348814741910323 : Nat) : Int) := and_lit (by simp) rfl (by omega) (by decide)
    have a2 : bits .and .u64 ((X1 X : Nat) : Int) 3689348814741910323 = ((X1 X &&& 3689348814741910323 : Nat) : Int) := and_lit rfl rfl h1 (by decide)
    rw [a1, a2]
    exact wrap_nat (by unfold X2; rw [Int.natCast_add]) h2
  · have a0 : IntKind.u64.wrap (((X2 X : Nat) : Int) / 16 + ((X2 X : Nat) : Int)) = ((X2 X / 16 + X2 X : Nat) : Int) := wrap_nat (by simp) h16
    rw [a0]
    exact and_lit rfl rfl h16 (by decide)
  · exact wrap_nat (by simp) hle4
  · exact wrap_nat (by simp) hle5
  · exact wrap_nat (by simp) hlt
  · exact last127 _ _ hl.1
end Go.Proofs.YtbmjoiiagldklaaDoor

/- The lowest set bit, in plain numbers. -/
namespace Go.Proofs.YtbmjoiiagldklaaDoor
open Go.RowKit

end Go.Proofs.YtbmjoiiagldklaaDoor

/- What TrailingZeros64 and num's Low answer, where the table of math/bits lies as its text lays it. -/
namespace Go.Proofs.YtbmjoiiagldklaaDoor
open Go.RowKit

/-- the table by which the lowest set bit is found. -/
def TAB : List Nat := [0, 1, 56, 2, 57, 49, 28, 3, 61, 58, 42, 50, 38, 29, 17, 4, 62, 47, 59, 36, 45, 43, 51, 22, 53, 39, 33, 30, 24, 18, 12, 5, 63, 55, 48, 27, 60, 41, 37, 16, 46, 35, 44, 21, 52, 32, 23, 11, 54, 26, 40, 15, 34, 20, 31, 10, 25, 14, 19, 9, 13, 8, 7, 6]
/-- the table lies in the first block. -/
def Tabled (w : World) : Prop := ∀ i, i < 64 → w.cell? ⟨2, i, none⟩ = some (.int .u8 ((TAB.getD i 0 : Nat) : Int))
end Go.Proofs.YtbmjoiiagldklaaDoor
