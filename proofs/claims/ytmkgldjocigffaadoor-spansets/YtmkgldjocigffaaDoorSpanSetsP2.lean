/- Texts of SpanSets, one behind the other: PosPlain, NumBitCalls, NumLowPlain, NumLowCalls, NumHighCalls, NumPlaces. -/
import Derived.Deep.LoopGhost
import Derived.Test.YtmkgldjocigffaaDoorSpanSetsP1
/- Places of the nodes of a forest, in plain numbers: how many bits are set, how many nodes there are, where the node of a height and an index stands. -/
namespace Go.Proofs.YtmkgldjocigffaaDoor

/-- how many bits of a number are set, with so many steps at most. -/
def PCF : Nat → Nat → Nat
  | 0, _ => 0
  | f + 1, n => n % 2 + PCF f (n / 2)
/-- how many bits of a number are set. -/
def PC (n : Nat) : Nat := PCF n n
theorem PCF_zero : ∀ f, PCF f 0 = 0
  | 0 => rfl
  | f + 1 => by
    show 0 % 2 + PCF f (0 / 2) = 0
    rw [show 0 / 2 = 0 from rfl, PCF_zero f]
theorem PCF_more : ∀ f g n, n ≤ f → n ≤ g → PCF f n = PCF g n
  | 0, g, n, h, _ => by
    have h0 : n = 0 := by omega
    subst h0
    rw [PCF_zero, PCF_zero]
  | f + 1, 0, n, _, h => by
    have h0 : n = 0 := by omega
    subst h0
    rw [PCF_zero, PCF_zero]
  | f + 1, g + 1, n, h1, h2 => by
    show n % 2 + PCF f (n / 2) = n % 2 + PCF g (n / 2)
    rw [PCF_more f g (n / 2) (by omega) (by omega)]
theorem PC_zero : PC 0 = 0 := rfl
theorem PC_step (n : Nat) : PC n = n % 2 + PC (n / 2) := by
  show PCF n n = n % 2 + PCF (n / 2) (n / 2)
  rw [PCF_more n (n + 1) n (Nat.le_refl n) (Nat.le_succ n)]
  show n % 2 + PCF n (n / 2) = n % 2 + PCF (n / 2) (n / 2)
  rw [PCF_more n (n / 2) (n / 2) (by omega) (Nat.le_refl _)]
theorem PC_even (m : Nat) : PC (2 * m) = PC m := by
  rw [PC_step, show 2 * m % 2 = 0 by omega, show 2 * m / 2 = m by omega, Nat.zero_add]
theorem PC_odd (m : Nat) : PC (2 * m + 1) = PC m + 1 := by
  rw [PC_step, show (2 * m + 1) % 2 = 1 by omega, show (2 * m + 1) / 2 = m by omega, Nat.add_comm]
theorem PC_one : PC 1 = 1 := by rw [show (1 : Nat) = 2 * 0 + 1 from rfl, PC_odd, PC_zero]
theorem PC_le (n : Nat) : PC n ≤ n := by
  induction n using Nat.strongRecOn with
  | _ n ih =>
    by_cases h : n = 0
    · subst h
      rw [PC_zero]
      omega
    · have := ih (n / 2) (by omega)
      rw [PC_step]
      omega
theorem PC_add (h : Nat) : ∀ k r, r < 2 ^ h → PC (k * 2 ^ h + r) = PC k + PC r := by
  induction h with
  | zero =>
    intro k r hr
    have : r = 0 := by simpa using hr
    subst this
    rw [PC_zero]
    simp
  | succ h ih =>
    intro k r hr
    rw [Nat.pow_succ] at hr
    have e : k * 2 ^ (h + 1) + r = 2 * (k * 2 ^ h + r / 2) + r % 2 := by
      rw [Nat.pow_succ, ← Nat.mul_assoc]
      omega
    have hr2 : r / 2 < 2 ^ h := by omega
    rcases Nat.mod_two_eq_zero_or_one r with h0 | h0
    · rw [e, h0, Nat.add_zero, PC_even, ih _ _ hr2, PC_step r, h0]
      omega
    · rw [e, h0, PC_odd, ih _ _ hr2, PC_step r, h0]
      omega
theorem PC_shift (h k : Nat) : PC (k * 2 ^ h) = PC k := by
  have := PC_add h k 0 (Nat.two_pow_pos h)
  rw [PC_zero] at this
  exact this
theorem PC_pow (h : Nat) : PC (2 ^ h) = 1 := by
  have := PC_shift h 1
  rw [Nat.one_mul, PC_one] at this
  exact this
theorem PC_ones : ∀ h, PC (2 ^ h - 1) = h
  | 0 => PC_zero
  | h + 1 => by
    have hp := Nat.two_pow_pos h
    rw [show 2 ^ (h + 1) - 1 = 2 * (2 ^ h - 1) + 1 by rw [Nat.pow_succ]; omega, PC_odd, PC_ones h]
theorem PC_succ (n : Nat) : PC (n + 1) ≤ PC n + 1 := by
  induction n using Nat.strongRecOn with
  | _ n ih =>
    rcases Nat.mod_two_eq_zero_or_one n with h | h
    · rw [PC_step (n + 1), PC_step n, show (n + 1) / 2 = n / 2 by omega]
      omega
    · have := ih (n / 2) (by omega)
      rw [PC_step (n + 1), PC_step n, show (n + 1) / 2 = n / 2 + 1 by omega]
      omega
theorem PC_lt_pow (h : Nat) : ∀ n, n < 2 ^ h → PC n ≤ h := by
  induction h with
  | zero =>
    intro n hn
    have : n = 0 := by simpa using hn
    subst this
    rw [PC_zero]
    omega
  | succ h ih =>
    intro n hn
    rw [Nat.pow_succ] at hn
    have := ih (n / 2) (by omega)
    rw [PC_step]
    omega
theorem DSUM_PC : ∀ k X, X < 2 ^ k → DSUM 1 k X = PC X
  | 0, X, h => by
    have : X = 0 := by simpa using h
    subst this
    rw [PC_zero]
    rfl
  | k + 1, X, h => by
    rw [Nat.pow_succ] at h
    rw [PC_step, ← DSUM_PC k (X / 2) (by omega)]
    simp [DSUM]
theorem POP_PC {X : Nat} (h : X < 2 ^ 64) : POP X = PC X := DSUM_PC 64 X h

/-- how many nodes a forest of n leaves has. -/
def NODES (n : Nat) : Nat := 2 * n - PC n
theorem NODES_add (n : Nat) : NODES n + PC n = 2 * n := by
  have := PC_le n
  unfold NODES
  omega
theorem NODES_zero : NODES 0 = 0 := by unfold NODES; rw [PC_zero]
theorem NODES_lt {n m : Nat} (h : n < m) : NODES n < NODES m := by
  induction m with
  | zero => omega
  | succ m ih =>
    have h1 := NODES_add m
    have h2 := NODES_add (m + 1)
    have h3 := PC_succ m
    rcases Nat.lt_or_ge n m with h4 | h4
    · have := ih h4
      omega
    · obtain rfl : n = m := by omega
      omega
theorem NODES_le {n m : Nat} (h : n ≤ m) : NODES n ≤ NODES m := by
  rcases Nat.lt_or_ge n m with h1 | h1
  · exact Nat.le_of_lt (NODES_lt h1)
  · obtain rfl : n = m := by omega
    exact Nat.le_refl _
/-- how many nodes a node of height h has under it, with itself. -/
def TREE (h : Nat) : Nat := 2 ^ (h + 1) - 1
/-- the place of the node of height h and index k. -/
def PLC (h k : Nat) : Nat := NODES (k * 2 ^ h) + (2 ^ (h + 1) - 2)
theorem two_le (h : Nat) : 2 ≤ 2 ^ (h + 1) := by
  have := Nat.two_pow_pos h
  rw [Nat.pow_succ]
  omega
theorem PLC_eq (h k : Nat) : PLC h k + 2 + PC k = 2 ^ (h + 1) * (k + 1) := by
  have h1 := NODES_add (k * 2 ^ h)
  have h2 := two_le h
  rw [PC_shift] at h1
  unfold PLC
  rw [Nat.mul_add, Nat.mul_one, show 2 ^ (h + 1) * k = 2 * (k * 2 ^ h) by rw [Nat.pow_succ, Nat.mul_comm (2 ^ h) 2, Nat.mul_assoc, Nat.mul_comm k]]
  omega
theorem PLC_last (h k : Nat) : NODES ((k + 1) * 2 ^ h - 1) + h = PLC h k := by
  have hp := Nat.two_pow_pos h
  have e : (k + 1) * 2 ^ h - 1 = k * 2 ^ h + (2 ^ h - 1) := by
    rw [Nat.add_mul, Nat.one_mul]
    omega
  have h1 := NODES_add (k * 2 ^ h + (2 ^ h - 1))
  rw [PC_add h k _ (by omega), PC_ones] at h1
  have h2 := PLC_eq h k
  rw [e]
  rw [Nat.mul_add, Nat.mul_one, show 2 ^ (h + 1) * k = 2 * (k * 2 ^ h) by rw [Nat.pow_succ, Nat.mul_comm (2 ^ h) 2, Nat.mul_assoc, Nat.mul_comm k], Nat.pow_succ] at h2
  omega
/-- a left kid and its parent. -/
theorem PLC_up_left (h m : Nat) : PLC (h + 1) m = PLC h (2 * m) + 2 ^ (h + 1) := by
  have h1 := PLC_eq (h + 1) m
  have h2 := PLC_eq h (2 * m)
  rw [PC_even] at h2
  have e : 2 ^ (h + 1 + 1) * (m + 1) = 2 ^ (h + 1) * (2 * m + 1) + 2 ^ (h + 1) := by
    rw [Nat.pow_succ 2 (h + 1)]
    generalize 2 ^ (h + 1) = x
    rw [Nat.mul_assoc, ← Nat.mul_succ]
    congr 1
  omega
/-- a right kid and its parent. -/
theorem PLC_up_right (h m : Nat) : PLC (h + 1) m = PLC h (2 * m + 1) + 1 := by
  have h1 := PLC_eq (h + 1) m
  have h2 := PLC_eq h (2 * m + 1)
  rw [PC_odd] at h2
  have e : 2 ^ (h + 1 + 1) * (m + 1) = 2 ^ (h + 1) * (2 * m + 1 + 1) := by
    rw [Nat.pow_succ 2 (h + 1)]
    generalize 2 ^ (h + 1) = x
    rw [Nat.mul_assoc]
    congr 1
  omega
/-- two siblings. -/
theorem PLC_sib (h m : Nat) : PLC h (2 * m + 1) = PLC h (2 * m) + TREE h := by
  have h1 := PLC_up_left h m
  have h2 := PLC_up_right h m
  have h3 := two_le h
  unfold TREE
  omega
/-- what comes further right by a whole tree. -/
theorem PLC_over {h H k : Nat} (hh : h ≤ H) (hk : k < 2 ^ (H - h)) : PLC h (2 ^ (H - h) + k) = TREE H + PLC h k := by
  have h1 := PLC_eq h (2 ^ (H - h) + k)
  have h2 := PLC_eq h k
  have h3 := PC_add (H - h) 1 k hk
  rw [Nat.one_mul, PC_one] at h3
  have e : 2 ^ (h + 1) * (2 ^ (H - h) + k + 1) = 2 ^ (H + 1) + 2 ^ (h + 1) * (k + 1) := by
    rw [Nat.add_assoc, Nat.mul_add, ← Nat.pow_add, show h + 1 + (H - h) = H + 1 by omega]
  have h4 := two_le H
  unfold TREE
  omega
theorem PLC_in {h H k : Nat} (hh : h ≤ H) (hk : k < 2 ^ (H - h)) : PLC h k + 2 ≤ 2 ^ (H + 1) := by
  have h1 := PLC_eq h k
  have e : 2 ^ (h + 1) * (k + 1) ≤ 2 ^ (h + 1) * 2 ^ (H - h) := Nat.mul_le_mul_left _ hk
  rw [← Nat.pow_add, show h + 1 + (H - h) = H + 1 by omega] at e
  omega
/-- what stands at a place of the tree of height H. -/
theorem PLC_inj (H : Nat) : ∀ h k h' k', h ≤ H → k < 2 ^ (H - h) → h' ≤ H → k' < 2 ^ (H - h') → PLC h k = PLC h' k' → h = h' ∧ k = k' := by
  induction H with
  | zero =>
    intro h k h' k' a b c d _
    obtain rfl : h = 0 := by omega
    obtain rfl : h' = 0 := by omega
    simp at b d
    omega
  | succ H ih =>
    have top : ∀ h k, h ≤ H + 1 → k < 2 ^ (H + 1 - h) → (h = H + 1 ∧ k = 0 ∧ PLC h k + 2 = 2 ^ (H + 2)) ∨ (h ≤ H ∧ k < 2 ^ (H - h) ∧ PLC h k + 2 ≤ 2 ^ (H + 1)) ∨ (h ≤ H ∧ ∃ q, k = 2 ^ (H - h) + q ∧ q < 2 ^ (H - h) ∧ PLC h k = TREE H + PLC h q ∧ PLC h q + 2 ≤ 2 ^ (H + 1)) := by
      intro h k a b
      rcases Nat.lt_or_ge H h with h1 | h1
      · obtain rfl : h = H + 1 := by omega
        have hk : k = 0 := by simpa using b
        subst hk
        have := PLC_eq (H + 1) 0
        rw [PC_zero] at this
        exact .inl ⟨rfl, rfl, by simpa using this⟩
      · rcases Nat.lt_or_ge k (2 ^ (H - h)) with h2 | h2
        · exact .inr (.inl ⟨h1, h2, PLC_in h1 h2⟩)
        · have hq : k - 2 ^ (H - h) < 2 ^ (H - h) := by
            rw [show H + 1 - h = H - h + 1 by omega, Nat.pow_succ] at b
            omega
          refine .inr (.inr ⟨h1, k - 2 ^ (H - h), by omega, hq, ?_, PLC_in h1 hq⟩)
          have := PLC_over h1 hq
          rw [show 2 ^ (H - h) + (k - 2 ^ (H - h)) = k by omega] at this
          exact this
    have hp := two_le H
    have hpp : 2 ^ (H + 2) = 2 * 2 ^ (H + 1) := by rw [Nat.pow_succ 2 (H + 1), Nat.mul_comm]
    intro h k h' k' a b c d e
    unfold TREE at top
    rcases top h k a b with ⟨r1, r2, r3⟩ | ⟨r1, r2, r3⟩ | ⟨r1, q, r2, r3, r4, r5⟩ <;> rcases top h' k' c d with ⟨s1, s2, s3⟩ | ⟨s1, s2, s3⟩ | ⟨s1, q', s2, s3, s4, s5⟩
    · omega
    · omega
    · omega
    · omega
    · exact ih h k h' k' r1 r2 s1 s2 e
    · omega
    · omega
    · omega
    · obtain ⟨rfl, rfl⟩ := ih h q h' q' r1 r3 s1 s3 (by omega)
      exact ⟨rfl, by omega⟩
/-- the node (h, k) is one of the forest of all leaves. -/
def Node (h k : Nat) : Prop := h ≤ 62 ∧ k < 2 ^ (62 - h)
theorem Node.one {h k h' k' : Nat} (a : Node h k) (b : Node h' k') (e : PLC h k = PLC h' k') : h = h' ∧ k = k' := PLC_inj 62 h k h' k' a.1 a.2 b.1 b.2 e
theorem Node.lt {h k : Nat} (a : Node h k) : PLC h k < 9223372036854775807 := by
  have := PLC_in a.1 a.2
  omega
theorem Node.index_lt {h k : Nat} (a : Node h k) : k < 2 ^ 62 := Nat.lt_of_lt_of_le a.2 (Nat.pow_le_pow_right (by decide) (by omega))
theorem Node.span {h k : Nat} (a : Node h k) : (k + 1) * 2 ^ h ≤ 2 ^ 62 := by
  have : (k + 1) * 2 ^ h ≤ 2 ^ (62 - h) * 2 ^ h := Nat.mul_le_mul_right _ a.2
  rw [← Nat.pow_add, Nat.sub_add_cancel a.1] at this
  exact this
theorem NODES_most : NODES 4611686018427387904 = 9223372036854775807 := by
  have h := NODES_add (2 ^ 62)
  rw [PC_pow] at h
  have e : (4611686018427387904 : Nat) = 2 ^ 62 := by decide
  rw [e]
  omega
end Go.Proofs.YtmkgldjocigffaaDoor

/- What OnesCount64, TrailingZeros64 and Len64, and num's Ones, Low and High answer. -/
namespace Go.Proofs.YtmkgldjocigffaaDoor
open Go.RowKit

theorem ones_raw (x x1 x2 x3 x4 x5 x6 r : Int) (w : World)
    (e1 : IntKind.u64.wrap (bits .and .u64 (x / 2) 6148914691236517205 + bits .and .u64 x 6148914691236517205) = x1)
    (e2 : IntKind.u64.wrap (bits .and .u64 (x1 / 4) 3689348814741910323 + bits .and .u64 x1 3689348814741910323) = x2)
    (e3 : bits .and .u64 (IntKind.u64.wrap (x2 / 16 + x2)) 1085102592571150095 = x3)
    (e4 : IntKind.u64.wrap (x3 + x3 / 256) = x4) (e5 : IntKind.u64.wrap (x4 + x4 / 65536) = x5) (e6 : IntKind.u64.wrap (x5 + x5 / 4294967296) = x6)
    (e7 : bits .and .i64 (wrap64 x6) 127 = r) :
    Calls Tryd.prog 66 #[.int .u64 x] w fun e w' => e = .returned (.int .i64 r) ∧ w = w' := by
  go_enter Tryd.func66, Tryd.ntmps66
  go_wp2
  go_ret
  exact ⟨rfl, rfl⟩
theorem wrap_nat {a : Nat} {A : Int} (e : A = (a : Int)) (h : a < 2 ^ 64) : IntKind.u64.wrap A = (a : Int) := by rw [wrapU, e]; omega
theorem and_lit {a c : Nat} {A C : Int} (eA : A = (a : Int)) (eC : C = (c : Int)) (ha : a < 2 ^ 64) (hc : c < 2 ^ 64) : bits .and .u64 A C = ((a &&& c : Nat) : Int) := by
  subst eA eC
  exact and_eq ha hc
theorem DLE_top {w D : Nat} : ∀ (n x : Nat), DLE w D (n + 1) x → x / 2 ^ (w * n) % 2 ^ w ≤ D
  | 0, x, h => by simpa using h.1
  | n + 1, x, h => by
    have := DLE_top n (x / 2 ^ w) h.2
    rw [Nat.div_div_eq_div_mul, ← Nat.pow_add, show w + w * n = w * (n + 1) by rw [Nat.mul_add, Nat.mul_one, Nat.add_comm]] at this
    exact this
theorem last127 (y p : Nat) (h : y % 128 = p) : bits .and .i64 (wrap64 (y : Int)) 127 = (p : Int) := by
  rw [and127]
  unfold wrap64
  omega
theorem onescount_ok (X : Nat) (hX : X < 2 ^ 64) (w : World) : Calls Tryd.prog 66 #[.int .u64 (X : Int)] w fun e w' => e = .returned (.int .i64 ((POP X : Nat) : Int)) ∧ w = w' := by
  have h1 : X1 X < 2 ^ 64 := by rw [X1_eq]; exact ADDF_lt (k := 1) (by decide) 32 _
  have h2 := X2_lt X
  have h3 := X3_lt X
  have h16 : X2 X / 16 + X2 X < 2 ^ 64 := by
    have ht := DLE_top 15 (X2 X) (X2_le X)
    simp only [Nat.reducePow, Nat.reduceMul] at ht h2 ⊢
    generalize X2 X = y at *
    omega
  have hl := pop_last h3 (X3_le X)
  rw [X3_sum] at hl
  have hlt := hl.2
  have hle4 : X3 X + X3 X / 256 < 2 ^ 64 := Nat.lt_of_le_of_lt (by generalize X3 X + X3 X / 256 = y; omega) hlt
  have hle5 : X3 X + X3 X / 256 + (X3 X + X3 X / 256) / 65536 < 2 ^ 64 := Nat.lt_of_le_of_lt (by generalize X3 X + X3 X / 256 + (X3 X + X3 X / 256) / 65536 = y; omega) hlt
  refine ones_raw X (X1 X : Nat) (X2 X : Nat) (X3 X : Nat) (X3 X + X3 X / 256 : Nat) (X3 X + X3 X / 256 + (X3 X + X3 X / 256) / 65536 : Nat) (X3 X + X3 X / 256 + (X3 X + X3 X / 256) / 65536 + (X3 X + X3 X / 256 + (X3 X + X3 X / 256) / 65536) / 4294967296 : Nat) _ w ?_ ?_ ?_ ?_ ?_ ?_ ?_
  · have a1 : bits .and .u64 ((X : Int) / 2) 6148914691236517205 = ((X / 2 &&& 6148914691236517205 : Nat) : Int) := and_lit (by simp) rfl (by omega) (by decide)
    have a2 : bits .and .u64 (X : Int) 6148914691236517205 = ((X &&& 6148914691236517205 : Nat) : Int) := and_lit rfl rfl hX (by decide)
    rw [a1, a2]
    exact wrap_nat (by unfold X1; rw [Int.natCast_add]) h1
  · have a1 : bits .and .u64 (((X1 X : Nat) : Int) / 4) 3689348814741910323 = ((X1 X / 4 &&& 3689348814741910323 : Nat) : Int) := and_lit (by simp) rfl (by omega) (by decide)
    have a2 : bits .and .u64 ((X1 X : Nat) : Int) 3689348814741910323 = ((X1 X &&& 3689348814741910323 : Nat) : Int) := and_lit rfl rfl h1 (by decide)
    rw [a1, a2]
    exact wrap_nat (by unfold X2; rw [Int.natCast_add]) h2
  · have a0 : IntKind.u64.wrap (((X2 X : Nat) : Int) / 16 + ((X2 X : Nat) : Int)) = ((X2 X / 16 + X2 X : Nat) : Int) := wrap_nat (by simp) h16
    rw [a0]
    exact and_lit rfl rfl h16 (by decide)
  · exact wrap_nat (by simp) hle4
  · exact wrap_nat (by simp) hle5
  · exact wrap_nat (by simp) hlt
  · exact last127 _ _ hl.1
theorem ones_one_raw (x r : Int) (w : World) (c : ∀ w, Calls Tryd.prog 66 #[.int .u64 x] w fun e w' => e = .returned (.int .i64 r) ∧ w = w') :
    Calls Tryd.prog 52 #[.int .u64 x] w fun e w' => e = .returned (.int .i64 r) ∧ w = w' := by
  go_enter Tryd.func52, Tryd.ntmps52
  go_wp2_with fail
  refine (c _).mono ?_
  rintro e w' ⟨rfl, rfl⟩
  go_wp2
  go_ret
  exact ⟨rfl, rfl⟩
theorem ones_ok (X : Nat) (hX : X < 2 ^ 64) (w : World) : Calls Tryd.prog 52 #[.int .u64 (X : Int)] w fun e w' => e = .returned (.int .i64 ((POP X : Nat) : Int)) ∧ w = w' :=
  ones_one_raw X _ w (fun w => onescount_ok X hX w)
end Go.Proofs.YtmkgldjocigffaaDoor

/- The lowest set bit, in plain numbers. -/
namespace Go.Proofs.YtmkgldjocigffaaDoor
open Go.RowKit

theorem low_split : ∀ X : Nat, X ≠ 0 → ∃ t q, X = 2 ^ t * (2 * q + 1) := fun X => by
  induction X using Nat.strongRecOn with
  | _ X ih =>
    intro h
    by_cases ho : X % 2 = 1
    · exact ⟨0, X / 2, by omega⟩
    · obtain ⟨t, q, e⟩ := ih (X / 2) (by omega) (by omega)
      refine ⟨t + 1, q, ?_⟩
      rw [Nat.pow_succ, Nat.mul_comm (2 ^ t) 2, Nat.mul_assoc, ← e]
      omega
theorem odd_and {q s : Nat} (h : 2 * q + 1 < 2 ^ s) : (2 * q + 1) &&& (2 ^ s - (2 * q + 1)) = 1 := by
  apply Nat.eq_of_testBit_eq
  intro i
  rw [Nat.testBit_and, Nat.testBit_two_pow_sub_succ (by omega)]
  cases i with
  | zero =>
    have hs : 0 < s := by
      rcases Nat.eq_zero_or_pos s with h0 | h0
      · subst h0
        simp at h
      · exact h0
    simp [Nat.testBit_zero, hs]
  | succ i =>
    rw [Nat.testBit_succ, Nat.testBit_succ, Nat.testBit_succ, show (2 * q + 1) / 2 = q by omega, show 2 * q / 2 = q by omega]
    simp
    intro h1 _
    exact h1
theorem neg_and {X t q : Nat} (hX : X < 2 ^ 64) (e : X = 2 ^ t * (2 * q + 1)) : X &&& (2 ^ 64 - X) = 2 ^ t ∧ t < 64 := by
  have hp := Nat.two_pow_pos t
  have ht : t < 64 := by
    rcases Nat.lt_or_ge t 64 with h | h
    · exact h
    · have h1 : 2 ^ 64 ≤ 2 ^ t := Nat.pow_le_pow_right (by decide) h
      have h2 : 2 ^ t * 1 ≤ 2 ^ t * (2 * q + 1) := Nat.mul_le_mul_left _ (by omega)
      omega
  have h64 : (2 : Nat) ^ 64 = 2 ^ t * 2 ^ (64 - t) := by rw [← Nat.pow_add, show t + (64 - t) = 64 by omega]
  have hq : 2 * q + 1 < 2 ^ (64 - t) := by
    rw [e, h64] at hX
    exact Nat.lt_of_mul_lt_mul_left hX
  refine ⟨?_, ht⟩
  rw [e, h64, ← Nat.mul_sub, Nat.mul_comm, Nat.mul_comm (2 ^ t), ← Nat.shiftLeft_eq, ← Nat.shiftLeft_eq, ← Nat.shiftLeft_and_distrib, odd_and hq, Nat.shiftLeft_eq, Nat.one_mul]
end Go.Proofs.YtmkgldjocigffaaDoor

/- What TrailingZeros64 and num's Low answer, where the table of math/bits lies as its text lays it. -/
namespace Go.Proofs.YtmkgldjocigffaaDoor
open Go.RowKit

/-- the table by which the lowest set bit is found. -/
def TAB : List Nat := [0, 1, 56, 2, 57, 49, 28, 3, 61, 58, 42, 50, 38, 29, 17, 4, 62, 47, 59, 36, 45, 43, 51, 22, 53, 39, 33, 30, 24, 18, 12, 5, 63, 55, 48, 27, 60, 41, 37, 16, 46, 35, 44, 21, 52, 32, 23, 11, 54, 26, 40, 15, 34, 20, 31, 10, 25, 14, 19, 9, 13, 8, 7, 6]
/-- the table lies in the first block. -/
def Tabled (w : World) : Prop := ∀ i, i < 64 → w.cell? ⟨0, i, none⟩ = some (.int .u8 ((TAB.getD i 0 : Nat) : Int))
theorem TAB_hit : ∀ t, t < 64 → TAB.getD (2 ^ t * 285870213051353865 % 2 ^ 64 / 2 ^ 58) 0 = t := by decide
theorem tz_raw (x b p i t : Int) (w : World) (h0 : (x == 0) = false) (e1 : bits .and .u64 x (IntKind.u64.wrap (-x)) = b) (e2 : IntKind.u64.wrap (b * 285870213051353865) = p) (hi : p / 288230376151711744 = i) (hi1 : 0 ≤ i) (hi2 : i < 64)
    (hc : w.cell? ⟨0, i.toNat, none⟩ = some (.int .u8 t)) (ht : Aside (wrap64 t = t)) : Calls Tryd.prog 78 #[.int .u64 x] w fun e w' => e = .returned (.int .i64 t) ∧ w = w' := by
  go_enter Tryd.func78, Tryd.ntmps78
  go_wp2
  go_ret
  refine ⟨?_, rfl⟩
  rw [show (Value.int .i64 t) = .int .i64 (wrap64 t) by rw [ht.out]]
  rfl
theorem tz_ok (X t q : Nat) (hX : X < 2 ^ 64) (e : X = 2 ^ t * (2 * q + 1)) (w : World) (hT : Tabled w) : Calls Tryd.prog 78 #[.int .u64 (X : Int)] w fun e w' => e = .returned (.int .i64 (t : Int)) ∧ w = w' := by
  obtain ⟨ha, ht⟩ := neg_and hX e
  have hX0 : 0 < X := by
    rw [e]
    exact Nat.mul_pos (Nat.two_pow_pos t) (by omega)
  have hm : IntKind.u64.wrap (-(X : Int)) = ((2 ^ 64 - X : Nat) : Int) := by rw [wrapU]; omega
  have hb : bits .and .u64 (X : Int) (IntKind.u64.wrap (-(X : Int))) = ((2 ^ t : Nat) : Int) := by rw [hm, and_eq hX (by omega), ha]
  have hp : IntKind.u64.wrap (((2 ^ t : Nat) : Int) * 285870213051353865) = ((2 ^ t * 285870213051353865 % 2 ^ 64 : Nat) : Int) := by
    rw [wrapU]
    generalize 2 ^ t = u
    omega
  have hl : 2 ^ t * 285870213051353865 % 2 ^ 64 < 2 ^ 64 := Nat.mod_lt _ (by decide)
  have hi : 2 ^ t * 285870213051353865 % 2 ^ 64 / 2 ^ 58 < 64 := Nat.div_lt_of_lt_mul (by omega)
  have hc := hT _ hi
  rw [TAB_hit t ht] at hc
  refine tz_raw X _ _ ((2 ^ t * 285870213051353865 % 2 ^ 64 / 2 ^ 58 : Nat) : Int) t w (by simp; omega) hb hp ?_ (by omega) (by omega) (by rw [Int.toNat_natCast]; exact hc) (by unfold Aside wrap64; omega)
  generalize 2 ^ t * 285870213051353865 % 2 ^ 64 = u
  omega
theorem low_raw (x r : Int) (w : World) (c : Calls Tryd.prog 78 #[.int .u64 x] w fun e w' => e = .returned (.int .i64 r) ∧ w = w') :
    Calls Tryd.prog 71 #[.int .u64 x] w fun e w' => e = .returned (.int .i64 r) ∧ w = w' := by
  go_enter Tryd.func71, Tryd.ntmps71
  go_wp2_with fail
  refine c.mono ?_
  rintro e w' ⟨rfl, rfl⟩
  go_wp2
  go_ret
  exact ⟨rfl, rfl⟩
end Go.Proofs.YtmkgldjocigffaaDoor

/- What Len64 and num's High answer. -/
namespace Go.Proofs.YtmkgldjocigffaaDoor
open Go.RowKit

/-- the lengths of bytes. -/
def LTAB : ByteArray := ⟨#[0, 1, 2, 2, 3, 3, 3, 3, 4, 4, 4, 4, 4, 4, 4, 4, 5, 5, 5, 5, 5, 5, 5, 5, 5, 5, 5, 5, 5, 5, 5, 5, 6, 6, 6, 6, 6, 6, 6, 6, 6, 6, 6, 6, 6, 6, 6, 6, 6, 6, 6, 6, 6, 6, 6, 6, 6, 6, 6, 6, 6, 6, 6, 6, 7, 7, 7, 7, 7, 7, 7, 7, 7, 7, 7, 7, 7, 7, 7, 7, 7, 7, 7, 7, 7, 7, 7, 7, 7, 7, 7, 7, 7, 7, 7, 7, 7, 7, 7, 7, 7, 7, 7, 7, 7, 7, 7, 7, 7, 7, 7, 7, 7, 7, 7, 7, 7, 7, 7, 7, 7, 7, 7, 7, 7, 7, 7, 7, 8, 8, 8, 8, 8, 8, 8, 8, 8, 8, 8, 8, 8, 8, 8, 8, 8, 8, 8, 8, 8, 8, 8, 8, 8, 8, 8, 8, 8, 8, 8, 8, 8, 8, 8, 8, 8, 8, 8, 8, 8, 8, 8, 8, 8, 8, 8, 8, 8, 8, 8, 8, 8, 8, 8, 8, 8, 8, 8, 8, 8, 8, 8, 8, 8, 8, 8, 8, 8, 8, 8, 8, 8, 8, 8, 8, 8, 8, 8, 8, 8, 8, 8, 8, 8, 8, 8, 8, 8, 8, 8, 8, 8, 8, 8, 8, 8, 8, 8, 8, 8, 8, 8, 8, 8, 8, 8, 8, 8, 8, 8, 8, 8, 8, 8, 8, 8, 8, 8, 8, 8, 8, 8, 8, 8, 8, 8, 8]⟩
set_option maxRecDepth 100000 in
theorem len_raw000 (x v : Int) (w : World) (h0 : (¬ 4294967296 ≤ x)) (h1 : (¬ 65536 ≤ x)) (h2 : (¬ 256 ≤ x)) (hx : 0 ≤ x) (hx' : x < 256)
    (hv : Aside (∀ h : (x).toNat < LTAB.size, wrap64 (wrap64 (LTAB[(x).toNat]'h).toNat) = v)) : Calls Tryd.prog 67 #[.int .u64 x] w fun e w' => e = .returned (.int .i64 v) ∧ w = w' := by
  go_enter Tryd.func67, Tryd.ntmps67
  go_wp2
  go_ret
  exact ⟨congrArg (fun z => Ending.returned (Value.int .i64 z)) (hv.out _), rfl⟩
set_option maxRecDepth 100000 in
theorem len_raw001 (x v : Int) (w : World) (h0 : (¬ 4294967296 ≤ x)) (h1 : (¬ 65536 ≤ x)) (h2 : (256 ≤ x)) (hx : 0 ≤ x / 256) (hx' : x / 256 < 256)
    (hv : Aside (∀ h : (x / 256).toNat < LTAB.size, wrap64 (8 + wrap64 (LTAB[(x / 256).toNat]'h).toNat) = v)) : Calls Tryd.prog 67 #[.int .u64 x] w fun e w' => e = .returned (.int .i64 v) ∧ w = w' := by
  go_enter Tryd.func67, Tryd.ntmps67
  go_wp2
  go_ret
  exact ⟨congrArg (fun z => Ending.returned (Value.int .i64 z)) (hv.out _), rfl⟩
set_option maxRecDepth 100000 in
theorem len_raw010 (x v : Int) (w : World) (h0 : (¬ 4294967296 ≤ x)) (h1 : (65536 ≤ x)) (h2 : (¬ 256 ≤ x / 65536)) (hx : 0 ≤ x / 65536) (hx' : x / 65536 < 256)
    (hv : Aside (∀ h : (x / 65536).toNat < LTAB.size, wrap64 (16 + wrap64 (LTAB[(x / 65536).toNat]'h).toNat) = v)) : Calls Tryd.prog 67 #[.int .u64 x] w fun e w' => e = .returned (.int .i64 v) ∧ w = w' := by
  go_enter Tryd.func67, Tryd.ntmps67
  go_wp2
  go_ret
  exact ⟨congrArg (fun z => Ending.returned (Value.int .i64 z)) (hv.out _), rfl⟩
set_option maxRecDepth 100000 in
theorem len_raw011 (x v : Int) (w : World) (h0 : (¬ 4294967296 ≤ x)) (h1 : (65536 ≤ x)) (h2 : (256 ≤ x / 65536)) (hx : 0 ≤ x / 65536 / 256) (hx' : x / 65536 / 256 < 256)
    (hv : Aside (∀ h : (x / 65536 / 256).toNat < LTAB.size, wrap64 (24 + wrap64 (LTAB[(x / 65536 / 256).toNat]'h).toNat) = v)) : Calls Tryd.prog 67 #[.int .u64 x] w fun e w' => e = .returned (.int .i64 v) ∧ w = w' := by
  go_enter Tryd.func67, Tryd.ntmps67
  go_wp2
  go_ret
  exact ⟨congrArg (fun z => Ending.returned (Value.int .i64 z)) (hv.out _), rfl⟩
set_option maxRecDepth 100000 in
theorem len_raw100 (x v : Int) (w : World) (h0 : (4294967296 ≤ x)) (h1 : (¬ 65536 ≤ x / 4294967296)) (h2 : (¬ 256 ≤ x / 4294967296)) (hx : 0 ≤ x / 4294967296) (hx' : x / 4294967296 < 256)
    (hv : Aside (∀ h : (x / 4294967296).toNat < LTAB.size, wrap64 (32 + wrap64 (LTAB[(x / 4294967296).toNat]'h).toNat) = v)) : Calls Tryd.prog 67 #[.int .u64 x] w fun e w' => e = .returned (.int .i64 v) ∧ w = w' := by
  go_enter Tryd.func67, Tryd.ntmps67
  go_wp2
  go_ret
  exact ⟨congrArg (fun z => Ending.returned (Value.int .i64 z)) (hv.out _), rfl⟩
set_option maxRecDepth 100000 in
theorem len_raw101 (x v : Int) (w : World) (h0 : (4294967296 ≤ x)) (h1 : (¬ 65536 ≤ x / 4294967296)) (h2 : (256 ≤ x / 4294967296)) (hx : 0 ≤ x / 4294967296 / 256) (hx' : x / 4294967296 / 256 < 256)
    (hv : Aside (∀ h : (x / 4294967296 / 256).toNat < LTAB.size, wrap64 (40 + wrap64 (LTAB[(x / 4294967296 / 256).toNat]'h).toNat) = v)) : Calls Tryd.prog 67 #[.int .u64 x] w fun e w' => e = .returned (.int .i64 v) ∧ w = w' := by
  go_enter Tryd.func67, Tryd.ntmps67
  go_wp2
  go_ret
  exact ⟨congrArg (fun z => Ending.returned (Value.int .i64 z)) (hv.out _), rfl⟩
set_option maxRecDepth 100000 in
theorem len_raw110 (x v : Int) (w : World) (h0 : (4294967296 ≤ x)) (h1 : (65536 ≤ x / 4294967296)) (h2 : (¬ 256 ≤ x / 4294967296 / 65536)) (hx : 0 ≤ x / 4294967296 / 65536) (hx' : x / 4294967296 / 65536 < 256)
    (hv : Aside (∀ h : (x / 4294967296 / 65536).toNat < LTAB.size, wrap64 (48 + wrap64 (LTAB[(x / 4294967296 / 65536).toNat]'h).toNat) = v)) : Calls Tryd.prog 67 #[.int .u64 x] w fun e w' => e = .returned (.int .i64 v) ∧ w = w' := by
  go_enter Tryd.func67, Tryd.ntmps67
  go_wp2
  go_ret
  exact ⟨congrArg (fun z => Ending.returned (Value.int .i64 z)) (hv.out _), rfl⟩
set_option maxRecDepth 100000 in
theorem len_raw111 (x v : Int) (w : World) (h0 : (4294967296 ≤ x)) (h1 : (65536 ≤ x / 4294967296)) (h2 : (256 ≤ x / 4294967296 / 65536)) (hx : 0 ≤ x / 4294967296 / 65536 / 256) (hx' : x / 4294967296 / 65536 / 256 < 256)
    (hv : Aside (∀ h : (x / 4294967296 / 65536 / 256).toNat < LTAB.size, wrap64 (56 + wrap64 (LTAB[(x / 4294967296 / 65536 / 256).toNat]'h).toNat) = v)) : Calls Tryd.prog 67 #[.int .u64 x] w fun e w' => e = .returned (.int .i64 v) ∧ w = w' := by
  go_enter Tryd.func67, Tryd.ntmps67
  go_wp2
  go_ret
  exact ⟨congrArg (fun z => Ending.returned (Value.int .i64 z)) (hv.out _), rfl⟩

/-- the length of a byte's number. -/
def L8 (i : Nat) : Nat := if i = 0 then 0 else if i < 2 then 1 else if i < 4 then 2 else if i < 8 then 3 else if i < 16 then 4 else if i < 32 then 5 else if i < 64 then 6 else if i < 128 then 7 else 8
set_option maxRecDepth 100000 in
theorem tab_list : ∀ i, i < 256 → (([0, 1, 2, 2, 3, 3, 3, 3, 4, 4, 4, 4, 4, 4, 4, 4, 5, 5, 5, 5, 5, 5, 5, 5, 5, 5, 5, 5, 5, 5, 5, 5, 6, 6, 6, 6, 6, 6, 6, 6, 6, 6, 6, 6, 6, 6, 6, 6, 6, 6, 6, 6, 6, 6, 6, 6, 6, 6, 6, 6, 6, 6, 6, 6, 7, 7, 7, 7, 7, 7, 7, 7, 7, 7, 7, 7, 7, 7, 7, 7, 7, 7, 7, 7, 7, 7, 7, 7, 7, 7, 7, 7, 7, 7, 7, 7, 7, 7, 7, 7, 7, 7, 7, 7, 7, 7, 7, 7, 7, 7, 7, 7, 7, 7, 7, 7, 7, 7, 7, 7, 7, 7, 7, 7, 7, 7, 7, 7, 8, 8, 8, 8, 8, 8, 8, 8, 8, 8, 8, 8, 8, 8, 8, 8, 8, 8, 8, 8, 8, 8, 8, 8, 8, 8, 8, 8, 8, 8, 8, 8, 8, 8, 8, 8, 8, 8, 8, 8, 8, 8, 8, 8, 8, 8, 8, 8, 8, 8, 8, 8, 8, 8, 8, 8, 8, 8, 8, 8, 8, 8, 8, 8, 8, 8, 8, 8, 8, 8, 8, 8, 8, 8, 8, 8, 8, 8, 8, 8, 8, 8, 8, 8, 8, 8, 8, 8, 8, 8, 8, 8, 8, 8, 8, 8, 8, 8, 8, 8, 8, 8, 8, 8, 8, 8, 8, 8, 8, 8, 8, 8, 8, 8, 8, 8, 8, 8, 8, 8, 8, 8, 8, 8, 8, 8, 8, 8] : List UInt8).getD i 0).toNat = L8 i := by decide +kernel
set_option maxRecDepth 100000 in
theorem tab_get (i : Nat) (h : i < LTAB.size) : (LTAB[i]'h).toNat = L8 i := by
  have h2 : i < 256 := h
  have := tab_list i h2
  rw [List.getD_eq_getElem?_getD, List.getElem?_eq_getElem (by exact h)] at this
  exact this
theorem L8_le (i : Nat) : L8 i ≤ 8 := by unfold L8; repeat' split <;> try omega
theorem L8_span (i : Nat) (h0 : i ≠ 0) (h : i < 256) : 1 ≤ L8 i ∧ 2 ^ (L8 i - 1) ≤ i ∧ i < 2 ^ L8 i := by
  unfold L8
  repeat' split
  all_goals (try omega)
theorem len_sum (n i : Nat) (hn : n ≤ 56) : wrap64 ((n : Int) + wrap64 ((L8 i : Nat) : Int)) = ((n + L8 i : Nat) : Int) := by
  have := L8_le i
  unfold wrap64
  omega
theorem len_zero (i : Nat) : wrap64 (wrap64 ((L8 i : Nat) : Int)) = ((L8 i : Nat) : Int) := by
  have := L8_le i
  unfold wrap64
  omega
/-- how many bits X takes. -/
def LEN (X : Nat) : Nat :=
  if 4294967296 ≤ X then (if 281474976710656 ≤ X then (if 72057594037927936 ≤ X then 56 + L8 (X / 72057594037927936) else 48 + L8 (X / 281474976710656)) else (if 1099511627776 ≤ X then 40 + L8 (X / 1099511627776) else 32 + L8 (X / 4294967296)))
  else (if 65536 ≤ X then (if 16777216 ≤ X then 24 + L8 (X / 16777216) else 16 + L8 (X / 65536)) else (if 256 ≤ X then 8 + L8 (X / 256) else L8 X))
theorem len_ok000 (X : Nat) (hX : X < 2 ^ 64) (h0 : ¬ 4294967296 ≤ X) (h1 : ¬ 65536 ≤ X) (h2 : ¬ 256 ≤ X) (w : World) : Calls Tryd.prog 67 #[.int .u64 (X : Int)] w fun e w' => e = .returned (.int .i64 ((0 + L8 (X / 1) : Nat) : Int)) ∧ w = w' := by
  have e : ((X : Int)).toNat = X / 1 := by omega
  refine len_raw000 X _ w (by omega) (by omega) (by omega) (by omega) (by omega) fun h => ?_
  rw [tab_get _ h, e]
  exact (len_zero _).trans (by rw [Nat.zero_add])
theorem len_ok001 (X : Nat) (hX : X < 2 ^ 64) (h0 : ¬ 4294967296 ≤ X) (h1 : ¬ 65536 ≤ X) (h2 : 256 ≤ X) (w : World) : Calls Tryd.prog 67 #[.int .u64 (X : Int)] w fun e w' => e = .returned (.int .i64 ((8 + L8 (X / 256) : Nat) : Int)) ∧ w = w' := by
  have e : ((X : Int) / 256).toNat = X / 256 := by omega
  refine len_raw001 X _ w (by omega) (by omega) (by omega) (by omega) (by omega) fun h => ?_
  rw [tab_get _ h, e]
  exact len_sum 8 _ (by decide)
theorem len_ok010 (X : Nat) (hX : X < 2 ^ 64) (h0 : ¬ 4294967296 ≤ X) (h1 : 65536 ≤ X) (h2 : ¬ 16777216 ≤ X) (w : World) : Calls Tryd.prog 67 #[.int .u64 (X : Int)] w fun e w' => e = .returned (.int .i64 ((16 + L8 (X / 65536) : Nat) : Int)) ∧ w = w' := by
  have e : ((X : Int) / 65536).toNat = X / 65536 := by omega
  refine len_raw010 X _ w (by omega) (by omega) (by omega) (by omega) (by omega) fun h => ?_
  rw [tab_get _ h, e]
  exact len_sum 16 _ (by decide)
theorem len_ok011 (X : Nat) (hX : X < 2 ^ 64) (h0 : ¬ 4294967296 ≤ X) (h1 : 65536 ≤ X) (h2 : 16777216 ≤ X) (w : World) : Calls Tryd.prog 67 #[.int .u64 (X : Int)] w fun e w' => e = .returned (.int .i64 ((24 + L8 (X / 16777216) : Nat) : Int)) ∧ w = w' := by
  have e : ((X : Int) / 65536 / 256).toNat = X / 16777216 := by omega
  refine len_raw011 X _ w (by omega) (by omega) (by omega) (by omega) (by omega) fun h => ?_
  rw [tab_get _ h, e]
  exact len_sum 24 _ (by decide)
theorem len_ok100 (X : Nat) (hX : X < 2 ^ 64) (h0 : 4294967296 ≤ X) (h1 : ¬ 281474976710656 ≤ X) (h2 : ¬ 1099511627776 ≤ X) (w : World) : Calls Tryd.prog 67 #[.int .u64 (X : Int)] w fun e w' => e = .returned (.int .i64 ((32 + L8 (X / 4294967296) : Nat) : Int)) ∧ w = w' := by
  have e : ((X : Int) / 4294967296).toNat = X / 4294967296 := by omega
  refine len_raw100 X _ w (by omega) (by omega) (by omega) (by omega) (by omega) fun h => ?_
  rw [tab_get _ h, e]
  exact len_sum 32 _ (by decide)
theorem len_ok101 (X : Nat) (hX : X < 2 ^ 64) (h0 : 4294967296 ≤ X) (h1 : ¬ 281474976710656 ≤ X) (h2 : 1099511627776 ≤ X) (w : World) : Calls Tryd.prog 67 #[.int .u64 (X : Int)] w fun e w' => e = .returned (.int .i64 ((40 + L8 (X / 1099511627776) : Nat) : Int)) ∧ w = w' := by
  have e : ((X : Int) / 4294967296 / 256).toNat = X / 1099511627776 := by omega
  refine len_raw101 X _ w (by omega) (by omega) (by omega) (by omega) (by omega) fun h => ?_
  rw [tab_get _ h, e]
  exact len_sum 40 _ (by decide)
theorem len_ok110 (X : Nat) (hX : X < 2 ^ 64) (h0 : 4294967296 ≤ X) (h1 : 281474976710656 ≤ X) (h2 : ¬ 72057594037927936 ≤ X) (w : World) : Calls Tryd.prog 67 #[.int .u64 (X : Int)] w fun e w' => e = .returned (.int .i64 ((48 + L8 (X / 281474976710656) : Nat) : Int)) ∧ w = w' := by
  have e : ((X : Int) / 4294967296 / 65536).toNat = X / 281474976710656 := by omega
  refine len_raw110 X _ w (by omega) (by omega) (by omega) (by omega) (by omega) fun h => ?_
  rw [tab_get _ h, e]
  exact len_sum 48 _ (by decide)
theorem len_ok111 (X : Nat) (hX : X < 2 ^ 64) (h0 : 4294967296 ≤ X) (h1 : 281474976710656 ≤ X) (h2 : 72057594037927936 ≤ X) (w : World) : Calls Tryd.prog 67 #[.int .u64 (X : Int)] w fun e w' => e = .returned (.int .i64 ((56 + L8 (X / 72057594037927936) : Nat) : Int)) ∧ w = w' := by
  have e : ((X : Int) / 4294967296 / 65536 / 256).toNat = X / 72057594037927936 := by omega
  refine len_raw111 X _ w (by omega) (by omega) (by omega) (by omega) (by omega) fun h => ?_
  rw [tab_get _ h, e]
  exact len_sum 56 _ (by decide)
theorem len_ok (X : Nat) (hX : X < 2 ^ 64) (w : World) : Calls Tryd.prog 67 #[.int .u64 (X : Int)] w fun e w' => e = .returned (.int .i64 ((LEN X : Nat) : Int)) ∧ w = w' := by
  unfold LEN
  split
  · split
    · split
      · exact len_ok111 X hX (by omega) (by omega) (by omega) w
      · exact len_ok110 X hX (by omega) (by omega) (by omega) w
    · split
      · exact len_ok101 X hX (by omega) (by omega) (by omega) w
      · exact len_ok100 X hX (by omega) (by omega) (by omega) w
  · split
    · split
      · exact len_ok011 X hX (by omega) (by omega) (by omega) w
      · exact len_ok010 X hX (by omega) (by omega) (by omega) w
    · split
      · exact len_ok001 X hX (by omega) (by omega) (by omega) w
      · have k := len_ok000 X hX (by omega) (by omega) (by omega) w
        rw [Nat.div_one, Nat.zero_add] at k
        exact k
theorem span_up {X n : Nat} (h0 : X / 2 ^ n ≠ 0) (h : X / 2 ^ n < 256) : 1 ≤ n + L8 (X / 2 ^ n) ∧ 2 ^ (n + L8 (X / 2 ^ n) - 1) ≤ X ∧ X < 2 ^ (n + L8 (X / 2 ^ n)) := by
  obtain ⟨a, b, c⟩ := L8_span _ h0 h
  have hp := Nat.two_pow_pos n
  refine ⟨by omega, ?_, ?_⟩
  · rw [show n + L8 (X / 2 ^ n) - 1 = n + (L8 (X / 2 ^ n) - 1) by omega, Nat.pow_add]
    exact Nat.le_trans (Nat.mul_le_mul_left _ b) (Nat.mul_div_le X (2 ^ n))
  · rw [Nat.pow_add, Nat.mul_comm]
    exact (Nat.div_lt_iff_lt_mul hp).1 c
theorem LEN_span (X : Nat) (hX : X < 2 ^ 64) (h0 : X ≠ 0) : 1 ≤ LEN X ∧ 2 ^ (LEN X - 1) ≤ X ∧ X < 2 ^ LEN X := by
  unfold LEN
  split
  · split
    · split
      · exact span_up (n := 56) (by omega) (by omega)
      · exact span_up (n := 48) (by omega) (by omega)
    · split
      · exact span_up (n := 40) (by omega) (by omega)
      · exact span_up (n := 32) (by omega) (by omega)
  · split
    · split
      · exact span_up (n := 24) (by omega) (by omega)
      · exact span_up (n := 16) (by omega) (by omega)
    · split
      · exact span_up (n := 8) (by omega) (by omega)
      · exact L8_span X h0 (by omega)
theorem high_raw (x r : Int) (w : World) (c : ∀ w, Calls Tryd.prog 67 #[.int .u64 x] w fun e w' => e = .returned (.int .i64 r) ∧ w = w') (h0 : 0 ≤ r) (h1 : r ≤ 64) :
    Calls Tryd.prog 53 #[.int .u64 x] w fun e w' => e = .returned (.int .i64 (r - 1)) ∧ w = w' := by
  go_enter Tryd.func53, Tryd.ntmps53
  go_wp2_with fail
  refine (c _).mono ?_
  rintro e w' ⟨rfl, rfl⟩
  go_wp2
  go_ret
  exact ⟨rfl, rfl⟩
end Go.Proofs.YtmkgldjocigffaaDoor

/- The places of the set bits, in plain numbers. -/
namespace Go.Proofs.YtmkgldjocigffaaDoor
open Go.RowKit

/-- the places of the set bits among the lowest k ones, o added to each. -/
def PL : Nat → Nat → Nat → List Nat
  | 0, _, _ => []
  | k + 1, o, X => if X % 2 = 1 then o :: PL k (o + 1) (X / 2) else PL k (o + 1) (X / 2)
def PLACES (X : Nat) : List Nat := PL 64 0 X
theorem PL_zero : ∀ k o, PL k o 0 = []
  | 0, _ => rfl
  | k + 1, o => by
    have := PL_zero k (o + 1)
    simpa [PL] using this
theorem PL_length : ∀ k o X, (PL k o X).length = DSUM 1 k X
  | 0, _, _ => rfl
  | k + 1, o, X => by
    have ih := PL_length k (o + 1) (X / 2)
    unfold PL DSUM
    rw [Nat.pow_one]
    split
    · rw [List.length_cons, ih]; omega
    · rw [ih]; omega
theorem PLACES_length (X : Nat) : (PLACES X).length = POP X := PL_length 64 0 X
theorem PL_step : ∀ (t k o q : Nat), t < k → PL k o (2 ^ t * (2 * q + 1)) = (o + t) :: PL k o (2 ^ (t + 1) * q)
  | 0, 0, _, _, h => by omega
  | 0, k + 1, o, q, _ => by
    have h1 : (2 ^ 0 * (2 * q + 1)) = 2 * q + 1 := by simp
    have h2 : 2 ^ (0 + 1) * q = 2 * q := by simp
    rw [h1, h2]
    unfold PL
    rw [if_pos (by omega), if_neg (by omega), show (2 * q + 1) / 2 = q by omega, show 2 * q / 2 = q by omega]
    rfl
  | t + 1, 0, _, _, h => by omega
  | t + 1, k + 1, o, q, h => by
    have ih := PL_step t k (o + 1) q (by omega)
    have h1 : 2 ^ (t + 1) * (2 * q + 1) = 2 * (2 ^ t * (2 * q + 1)) := by rw [Nat.pow_succ, Nat.mul_comm (2 ^ t) 2, Nat.mul_assoc]
    have h2 : 2 ^ (t + 1 + 1) * q = 2 * (2 ^ (t + 1) * q) := by rw [Nat.pow_succ, Nat.mul_comm (2 ^ (t + 1)) 2, Nat.mul_assoc]
    rw [h1, h2]
    generalize 2 ^ t * (2 * q + 1) = a at ih ⊢
    generalize 2 ^ (t + 1) * q = b at ih ⊢
    unfold PL
    rw [if_neg (by omega), if_neg (by omega), show 2 * a / 2 = a by omega, show 2 * b / 2 = b by omega, ih, show o + (t + 1) = o + 1 + t by omega]
theorem POP_le (X : Nat) : POP X ≤ 64 := by
  have : ∀ k X, DSUM 1 k X ≤ k := fun k => by
    induction k with
    | zero => intro X; exact Nat.le_refl _
    | succ k ih =>
      intro X
      have := ih (X / 2)
      unfold DSUM
      rw [Nat.pow_one]
      omega
  exact this 64 X
theorem odd_less (q : Nat) : (2 * q + 1) &&& (2 * q) = 2 * q := by
  apply Nat.eq_of_testBit_eq
  intro i
  rw [Nat.testBit_and]
  cases i with
  | zero => simp [Nat.testBit_zero]
  | succ i =>
    rw [Nat.testBit_succ, Nat.testBit_succ, show (2 * q + 1) / 2 = q by omega, show 2 * q / 2 = q by omega]
    simp
theorem less_and : ∀ (t q : Nat), 2 ^ t * (2 * q + 1) &&& (2 ^ t * (2 * q + 1) - 1) = 2 ^ (t + 1) * q
  | 0, q => by
    have h1 : (2 ^ 0 * (2 * q + 1)) = 2 * q + 1 := by simp
    have h2 : 2 ^ (0 + 1) * q = 2 * q := by simp
    rw [h1, h2]
    exact odd_less q
  | t + 1, q => by
    have ih := less_and t q
    have h1 : 2 ^ (t + 1) * (2 * q + 1) = 2 * (2 ^ t * (2 * q + 1)) := by rw [Nat.pow_succ, Nat.mul_comm (2 ^ t) 2, Nat.mul_assoc]
    have h2 : 2 ^ (t + 1 + 1) * q = 2 * (2 ^ (t + 1) * q) := by rw [Nat.pow_succ, Nat.mul_comm (2 ^ (t + 1)) 2, Nat.mul_assoc]
    have hp : 0 < 2 ^ t * (2 * q + 1) := Nat.mul_pos (Nat.two_pow_pos t) (by omega)
    rw [h1, h2, ← ih]
    generalize 2 ^ t * (2 * q + 1) = a at hp ⊢
    apply Nat.eq_of_testBit_eq
    intro i
    rw [Nat.testBit_and]
    cases i with
    | zero => simp [Nat.testBit_zero]
    | succ i =>
      rw [Nat.testBit_succ, Nat.testBit_succ, Nat.testBit_succ, show 2 * a / 2 = a by omega, show (2 * a - 1) / 2 = a - 1 by omega, ← Nat.testBit_and, show 2 * (a &&& (a - 1)) / 2 = a &&& (a - 1) by omega]
end Go.Proofs.YtmkgldjocigffaaDoor
