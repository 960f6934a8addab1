/- Texts of PartOne, one behind the other: MmrPlain, NumCalls, NumBitCalls, StoreCalls, StoreSearch, StoreFind, StoreMap. -/
import Derived.Test.YtnplhejopmoopaaDoorProg
import Derived.WalkKit
import Derived.WalkLawsBesides
import Derived.Deep.RegionHeld3
import Derived.Maps.OwnSet
import Derived.DeepKeys4
import Derived.Test.YtnplhejopmoopaaDoorPartOneP7
/- The hashes of a forest's nodes, and which an append makes. -/
namespace Go.Proofs.YtnplhejopmoopaaDoor.HX
open Go.RowKit
set_option maxRecDepth 100000

/-- the hash over two. -/
def NODEF (d : Int) (l r : Nat → Nat) : Nat → Nat := HX.HASHOF d (1 :: ((List.range 32).map l ++ (List.range 32).map r))
theorem NODEF_lt (d : Int) (l r : Nat → Nat) (i : Nat) : NODEF d l r i < 256 := HX.STATE_lt d _ _ i
/-- the hash of the k-th node of height h over the leaves f. -/
def VAL (d : Int) (f : Nat → Nat → Nat) : Nat → Nat → Nat → Nat
  | 0, k => f k
  | h + 1, k => NODEF d (VAL d f h (2 * k)) (VAL d f h (2 * k + 1))
theorem VAL_lt {d : Int} {f : Nat → Nat → Nat} {n : Nat} (hf : ∀ k, k < n → ∀ i, f k i < 256) : ∀ (h k : Nat), (k + 1) * 2 ^ h ≤ n → ∀ i, VAL d f h k i < 256
  | 0, k, hk, i => hf k (by simp at hk; omega) i
  | h + 1, k, _, i => NODEF_lt _ _ _ i
theorem VAL_congr {d : Int} {f g : Nat → Nat → Nat} {n : Nat} (hfg : ∀ k, k < n → f k = g k) : ∀ (h k : Nat), (k + 1) * 2 ^ h ≤ n → VAL d f h k = VAL d g h k
  | 0, k, hk => hfg k (by simp at hk; omega)
  | h + 1, k, hk => by
    have e : (k + 1) * 2 ^ (h + 1) = (2 * k + 1 + 1) * 2 ^ h := by rw [Nat.pow_succ, show 2 * k + 1 + 1 = (k + 1) * 2 by omega, Nat.mul_assoc, Nat.mul_comm (2 ^ h) 2]
    have h2 : (2 * k + 1 + 1) * 2 ^ h ≤ n := by omega
    have h1 : (2 * k + 1) * 2 ^ h ≤ n := Nat.le_trans (Nat.mul_le_mul_right _ (by omega)) h2
    rw [VAL, VAL, VAL_congr hfg h (2 * k) h1, VAL_congr hfg h (2 * k + 1) h2]
/-- one leaf more. -/
def LEAFS (f : Nat → Nat → Nat) (n : Nat) (x : Nat → Nat) : Nat → Nat → Nat := fun k => if k = n then x else f k
theorem LEAFS_at (f : Nat → Nat → Nat) (n : Nat) (x : Nat → Nat) : LEAFS f n x n = x := by simp [LEAFS]
theorem LEAFS_old (f : Nat → Nat → Nat) (n : Nat) (x : Nat → Nat) {k : Nat} (h : k < n) : LEAFS f n x k = f k := by
  unfold LEAFS
  rw [if_neg (by omega)]
/-- the first j bits of n are set. -/
def ONES (n j : Nat) : Prop := ∀ i, i < j → n / 2 ^ i % 2 = 1
theorem ONES.next {n j : Nat} (h : ONES n j) (hj : n / 2 ^ j % 2 = 1) : ONES n (j + 1) := fun i hi => by
  by_cases e : i = j
  · subst e; exact hj
  · exact h i (by omega)
theorem half_pow (n j : Nat) : n / 2 ^ (j + 1) = n / 2 ^ j / 2 := by rw [Nat.pow_succ, Nat.div_div_eq_div_mul]
/-- the places of what an append makes come one behind the other. -/
theorem ONES.place {n : Nat} : ∀ {j : Nat}, ONES n j → PLC j (n / 2 ^ j) = NODES n + j
  | 0, _ => by rw [Nat.pow_zero, Nat.div_one, PLC_leaf]; rfl
  | j + 1, h => by
    have h1 := h j (by omega)
    have ih := ONES.place (n := n) (j := j) fun i hi => h i (by omega)
    have e : n / 2 ^ j = 2 * (n / 2 ^ (j + 1)) + 1 := by rw [half_pow]; omega
    rw [PLC_up_right, ← e, ih]
    omega
/-- all that lies under it are the leaves up to n. -/
theorem ONES.span {n : Nat} : ∀ {j : Nat}, ONES n j → (n / 2 ^ j + 1) * 2 ^ j = n + 1
  | 0, _ => by simp
  | j + 1, h => by
    have h1 := h j (by omega)
    have ih := ONES.span (n := n) (j := j) fun i hi => h i (by omega)
    have e : n / 2 ^ j = 2 * (n / 2 ^ (j + 1)) + 1 := by rw [half_pow]; omega
    rw [← ih, e]
    generalize n / 2 ^ (j + 1) = q
    rw [Nat.pow_succ, show 2 * q + 1 + 1 = (q + 1) * 2 by omega, Nat.mul_assoc, Nat.mul_comm (2 ^ j) 2]
theorem ONES.of_span {n h k : Nat} (e : (k + 1) * 2 ^ h = n + 1) : k = n / 2 ^ h ∧ ONES n h := by
  have hp : 0 < 2 ^ h := Nat.two_pow_pos h
  have ek : n = k * 2 ^ h + (2 ^ h - 1) := by
    have : (k + 1) * 2 ^ h = k * 2 ^ h + 2 ^ h := by rw [Nat.add_mul, Nat.one_mul]
    omega
  refine ⟨?_, fun i hi => ?_⟩
  · rw [ek, Nat.mul_comm k, Nat.mul_add_div hp, Nat.div_eq_of_lt (by omega), Nat.add_zero]
  · obtain ⟨m, rfl⟩ : ∃ m, h = i + 1 + m := ⟨h - (i + 1), by omega⟩
    have hpi : 0 < 2 ^ i := Nat.two_pow_pos i
    have e2 : n + 1 = ((k + 1) * 2 ^ m * 2) * 2 ^ i := by
      rw [← e, Nat.pow_add, Nat.pow_succ, Nat.mul_assoc (k + 1), Nat.mul_assoc (k + 1)]
      congr 1
      rw [Nat.mul_comm (2 ^ i * 2), ← Nat.mul_assoc, Nat.mul_assoc (2 ^ m), Nat.mul_assoc (2 ^ m), Nat.mul_comm 2 (2 ^ i)]
    obtain ⟨q, hq⟩ : ∃ q, (k + 1) * 2 ^ m = q + 1 := ⟨(k + 1) * 2 ^ m - 1, by have : 0 < (k + 1) * 2 ^ m := Nat.mul_pos (by omega) (Nat.two_pow_pos m); omega⟩
    rw [hq] at e2
    have e3 : n = (2 * q + 1) * 2 ^ i + (2 ^ i - 1) := by
      have : (q + 1) * 2 * 2 ^ i = (2 * q + 1) * 2 ^ i + 2 ^ i := by rw [show (q + 1) * 2 = 2 * q + 1 + 1 by omega, Nat.add_mul, Nat.one_mul]
      omega
    have e4 : n / 2 ^ i = 2 * q + 1 := by
      rw [e3, Nat.mul_comm (2 * q + 1), Nat.mul_add_div hpi, Nat.div_eq_of_lt (by omega), Nat.add_zero]
    omega
theorem ones_end (n : Nat) : ∃ t, ONES n t ∧ n / 2 ^ t % 2 = 0 := by
  suffices h : ∀ m j, ONES n j → n ≤ m + j → ∃ t, ONES n t ∧ n / 2 ^ t % 2 = 0 from h n 0 (fun i hi => by omega) (by omega)
  intro m
  induction m with
  | zero =>
    intro j hj hn
    refine ⟨j, hj, ?_⟩
    have : n < 2 ^ j := Nat.lt_of_le_of_lt (by omega) (Nat.lt_two_pow_self (n := j))
    rw [Nat.div_eq_of_lt this]
  | succ m ih =>
    intro j hj hn
    by_cases e : n / 2 ^ j % 2 = 0
    · exact ⟨j, hj, e⟩
    · exact ih (j + 1) (hj.next (by omega)) (by omega)
/-- how many nodes an append makes. -/
theorem ONES.nodes {n t : Nat} (h : ONES n t) (ht : n / 2 ^ t % 2 = 0) : NODES (n + 1) = NODES n + t + 1 := by
  have hp : 0 < 2 ^ t := Nat.two_pow_pos t
  obtain ⟨q, hq⟩ : ∃ q, n / 2 ^ t = 2 * q := ⟨n / 2 ^ t / 2, by omega⟩
  have hs := h.span
  rw [hq] at hs
  have e1 : PC (n + 1) = PC q + 1 := by rw [← hs, PC_shift, PC_odd]
  have e2 : n = (2 * q) * 2 ^ t + (2 ^ t - 1) := by
    have : (2 * q + 1) * 2 ^ t = 2 * q * 2 ^ t + 2 ^ t := by rw [Nat.add_mul, Nat.one_mul]
    omega
  have e3 : PC n = PC q + t := by
    rw [e2, PC_add t (2 * q) (2 ^ t - 1) (by omega), PC_even, PC_ones]
  have h1 := NODES_add n
  have h2 := NODES_add (n + 1)
  omega
theorem ONES.lt {n t : Nat} (h : ONES n t) : t ≤ n := by
  have h1 := h.span
  have h2 : t < 2 ^ t := Nat.lt_two_pow_self
  have h3 : 1 * 2 ^ t ≤ (n / 2 ^ t + 1) * 2 ^ t := Nat.mul_le_mul_right _ (Nat.le_add_left 1 _)
  generalize n / 2 ^ t = q at *
  omega
/-- the place of a node that lies over the first n leaves. -/
theorem PLC_under {n h k : Nat} (hk : (k + 1) * 2 ^ h ≤ n) : PLC h k < NODES n := by
  have h1 := PLC_last h k
  have h2 := last_lt h k
  obtain ⟨m, hm⟩ : ∃ m, (k + 1) * 2 ^ h = m + 1 := ⟨(k + 1) * 2 ^ h - 1, by omega⟩
  rw [hm, Nat.add_sub_cancel] at h1
  have h3 : NODES (m + 1) ≤ NODES n := NODES_le (by omega)
  have ho : ONES m h := (ONES.of_span hm).2
  obtain ⟨t, ht1, ht2⟩ : ∃ t, ONES m t ∧ m / 2 ^ t % 2 = 0 := ones_end m
  have h4 := ht1.nodes ht2
  have h5 : h ≤ t := by
    rcases Nat.lt_or_ge t h with hlt | hge
    · have := ho t hlt
      omega
    · exact hge
  omega
end Go.Proofs.YtnplhejopmoopaaDoor.HX

/- What the small functions of package num answer, call by call, and that awake answers true. -/
namespace Go.Proofs.YtnplhejopmoopaaDoor
open Go.RowKit

theorem shr_raw (x n : Int) (w : World) : Calls Tryd.prog 103 #[.int .u64 x, .int .i64 n] w fun e w' => e = .returned (.int .u64 (if n < 0 then IntKind.u64.wrap (x * 2 ^ min (IntKind.u64.wrap (-IntKind.u64.wrap n)).toNat 64) else x / 2 ^ min (IntKind.u64.wrap n).toNat 64)) ∧ w = w' := by
  by_cases h : n < 0
  · rw [if_pos h]
    go_enter Tryd.func103, Tryd.ntmps103
    go_wp2
    go_ret
    exact ⟨rfl, rfl⟩
  · rw [if_neg h]
    go_enter Tryd.func103, Tryd.ntmps103
    go_wp2
    go_ret
    exact ⟨rfl, rfl⟩
theorem mask_raw (n : Int) (w : World) : Calls Tryd.prog 53 #[.int .i64 n] w fun e w' => e = .returned (.int .u64 (if n ≤ 0 then 0 else IntKind.u64.wrap (IntKind.u64.wrap (1 * 2 ^ min (IntKind.u64.wrap n).toNat 64) - 1))) ∧ w = w' := by
  by_cases h : n ≤ 0
  · rw [if_pos h]
    go_enter Tryd.func53, Tryd.ntmps53
    go_wp2
    go_ret
    exact ⟨rfl, rfl⟩
  · rw [if_neg h]
    go_enter Tryd.func53, Tryd.ntmps53
    go_wp2
    go_ret
    exact ⟨rfl, rfl⟩

theorem shr_ok (X : Nat) (n : Int) (hX : X < 2 ^ 64) (h0 : -(2 ^ 63) ≤ n) (h1 : n < 2 ^ 63) (w : World) : Calls Tryd.prog 103 #[.int .u64 (X : Int), .int .i64 n] w fun e w' => e = .returned (.int .u64 ((SHR X n : Nat) : Int)) ∧ w = w' :=
  (shr_raw X n w).mono fun e w' h => by rw [shr_raw_eq hX h0 h1] at h; exact h
theorem mask_ok (n : Int) (h1 : n < 2 ^ 63) (w : World) : Calls Tryd.prog 53 #[.int .i64 n] w fun e w' => e = .returned (.int .u64 ((MASK n : Nat) : Int)) ∧ w = w' :=
  (mask_raw n w).mono fun e w' h => by rw [mask_raw_eq h1] at h; exact h

end Go.Proofs.YtnplhejopmoopaaDoor

/- What OnesCount64, TrailingZeros64 and Len64, and num's Ones, Low and High answer. -/
namespace Go.Proofs.YtnplhejopmoopaaDoor
open Go.RowKit

theorem ones_raw (x x1 x2 x3 x4 x5 x6 r : Int) (w : World)
    (e1 : IntKind.u64.wrap (bits .and .u64 (x / 2) 6148914691236517205 + bits .and .u64 x 6148914691236517205) = x1)
    (e2 : IntKind.u64.wrap (bits .and .u64 (x1 / 4) 3689348814741910323 + bits .and .u64 x1 3689348814741910323) = x2)
    (e3 : bits .and .u64 (IntKind.u64.wrap (x2 / 16 + x2)) 1085102592571150095 = x3)
    (e4 : IntKind.u64.wrap (x3 + x3 / 256) = x4) (e5 : IntKind.u64.wrap (x4 + x4 / 65536) = x5) (e6 : IntKind.u64.wrap (x5 + x5 / 4294967296) = x6)
    (e7 : bits .and .i64 (wrap64 x6) 127 = r) :
    Calls Tryd.prog 58 #[.int .u64 x] w fun e w' => e = .returned (.int .i64 r) ∧ w = w' := by
  go_enter Tryd.func58, Tryd.ntmps58
  go_wp2
  go_ret
  exact ⟨rfl, rfl⟩
theorem wrap_nat {a : Nat} {A : Int} (e : A = (a : Int)) (h : a < 2 ^ 64) : IntKind.u64.wrap A = (a : Int) := by rw [wrapU, e]; omega
theorem and_lit {a c : Nat} {A C : Int} (eA : A = (a : Int)) (eC : C = (c : Int)) (ha : a < 2 ^ 64) (hc : c < 2 ^ 64) : bits .and .u64 A C = ((a &&& c : Nat) : Int) := by
  subst eA eC
  exact and_eq ha hc
theorem DLE_top {w D : Nat} : ∀ (n x : Nat), DLE w D (n + 1) x → x / 2 ^ (w * n) % 2 ^ w ≤ D
  | 0, x, h => by simpa using h.1
  | n + 1, x, h => by
    have := DLE_top n (x / 2 ^ w) h.2
    rw [Nat.div_div_eq_div_mul, ← Nat.pow_add, show w + w * n = w * (n + 1) by rw [Nat.mul_add, Nat.mul_one, Nat.add_comm]] at this
    exact this
theorem last127 (y p : Nat) (h : y % 128 = p) : bits .and .i64 (wrap64 (y : Int)) 127 = (p : Int) := by
  rw [and127]
  unfold wrap64
  omega
theorem onescount_ok (X : Nat) (hX : X < 2 ^ 64) (w : World) : Calls Tryd.prog 58 #[.int .u64 (X : Int)] w fun e w' => e = .returned (.int .i64 ((POP X : Nat) : Int)) ∧ w = w' := by
  have h1 : X1 X < 2 ^ 64 := by rw [X1_eq]; exact ADDF_lt (k := 1) (by decide) 32 _
  have h2 := X2_lt X
  have h3 := X3_lt X
  have h16 : X2 X / 16 + X2 X < 2 ^ 64 := by
    have ht := DLE_top 15 (X2 X) (X2_le X)
    simp only [Nat.reducePow, Nat.reduceMul] at ht h2 ⊢
    generalize X2 X = y at *
    omega
  have hl := pop_last h3 (X3_le X)
  rw [X3_sum] at hl
  have hlt := hl.2
  have hle4 : X3 X + X3 X / 256 < 2 ^ 64 := Nat.lt_of_le_of_lt (by generalize X3 X + X3 X / 256 = y; omega) hlt
  have hle5 : X3 X + X3 X / 256 + (X3 X + X3 X / 256) / 65536 < 2 ^ 64 := Nat.lt_of_le_of_lt (by generalize X3 X + X3 X / 256 + (X3 X + X3 X / 256) / 65536 = y; omega) hlt
  refine ones_raw X (X1 X : Nat) (X2 X : Nat) (X3 X : Nat) (X3 X + X3 X / 256 : Nat) (X3 X + X3 X / 256 + (X3 X + X3 X / 256) / 65536 : Nat) (X3 X + X3 X / 256 + (X3 X + X3 X / 256) / 65536 + (X3 X + X3 X / 256 + (X3 X + X3 X / 256) / 65536) / 4294967296 : Nat) _ w ?_ ?_ ?_ ?_ ?_ ?_ ?_
  · have a1 : bits .and .u64 ((X : Int) / 2) 6148914691236517205 = ((X / 2 &&& 6148914691236517205 : Nat) : Int) := and_lit (by simp) rfl (by omega) (by decide)
    have a2 : bits .and .u64 (X : Int) 6148914691236517205 = ((X &&& 6148914691236517205 : Nat) : Int) := and_lit rfl rfl hX (by decide)
    rw [a1, a2]
    exact wrap_nat (by unfold X1; rw [Int.natCast_add]) h1
  · have a1 : bits .and .u64 (((X1 X : Nat) : Int) / 4) 3689348814741910323 = ((X1 X / 4 &&& 3689348814741910323 : Nat) : Int) := and_lit (by simp) rfl (by omega) (by decide)
    have a2 : bits .and .u64 ((X1 X : Nat) : Int) 3689348814741910323 = ((X1 X &&& 3689348814741910323 : Nat) : Int) := and_lit rfl rfl h1 (by decide)
    rw [a1, a2]
    exact wrap_nat (by unfold X2; rw [Int.natCast_add]) h2
  · have a0 : IntKind.u64.wrap (((X2 X : Nat) : Int) / 16 + ((X2 X : Nat) : Int)) = ((X2 X / 16 + X2 X : Nat) : Int) := wrap_nat (by simp) h16
    rw [a0]
    exact and_lit rfl rfl h16 (by decide)
  · exact wrap_nat (by simp) hle4
  · exact wrap_nat (by simp) hle5
  · exact wrap_nat (by simp) hlt
  · exact last127 _ _ hl.1
theorem ones_one_raw (x r : Int) (w : World) (c : ∀ w, Calls Tryd.prog 58 #[.int .u64 x] w fun e w' => e = .returned (.int .i64 r) ∧ w = w') :
    Calls Tryd.prog 45 #[.int .u64 x] w fun e w' => e = .returned (.int .i64 r) ∧ w = w' := by
  go_enter Tryd.func45, Tryd.ntmps45
  go_wp2_with fail
  refine (c _).mono ?_
  rintro e w' ⟨rfl, rfl⟩
  go_wp2
  go_ret
  exact ⟨rfl, rfl⟩
theorem ones_ok (X : Nat) (hX : X < 2 ^ 64) (w : World) : Calls Tryd.prog 45 #[.int .u64 (X : Int)] w fun e w' => e = .returned (.int .i64 ((POP X : Nat) : Int)) ∧ w = w' :=
  ones_one_raw X _ w (fun w => onescount_ok X hX w)
end Go.Proofs.YtnplhejopmoopaaDoor

/- What the small functions under package store answer: cmp.Compare, rowOf, bitOf, New, the comparison of a row. -/
namespace Go.Proofs.YtnplhejopmoopaaDoor.HX
open Go.RowKit

theorem isnan_ok (x : Int) (w : World) : Calls Tryd.prog 96 #[.int .u64 x] w fun e w' => e = .returned (.bool false) ∧ w = w' := by
  go_enter Tryd.func96, Tryd.ntmps96
  go_wp2
  go_ret
  exact ⟨rfl, rfl⟩
/-- three ways. -/
def CMP (x y : Nat) : Int := if x < y then -1 else if y < x then 1 else 0
theorem compare_ok (x y : Nat) (w : World) : Calls Tryd.prog 82 #[.int .u64 (x : Int), .int .u64 (y : Int)] w fun e w' => e = .returned (.int .i64 (CMP x y)) ∧ w = w' := by
  have c1 := fun w => isnan_ok (x : Int) w
  have c2 := fun w => isnan_ok (y : Int) w
  rcases Nat.lt_trichotomy x y with h | h | h
  · have h1 : (x : Int) < (y : Int) := by omega
    have e : CMP x y = -1 := by unfold CMP; rw [if_pos h]
    rw [e]
    go_enter Tryd.func82, Tryd.ntmps82
    go_wp2_with fail
    refine (c1 _).mono ?_
    rintro e w' ⟨rfl, rfl⟩
    go_wp2_with fail
    refine (c2 _).mono ?_
    rintro e w' ⟨rfl, rfl⟩
    go_wp2
    go_ret
    exact ⟨rfl, rfl⟩
  · subst h
    have e : CMP x x = 0 := by unfold CMP; rw [if_neg (by omega), if_neg (by omega)]
    rw [e]
    go_enter Tryd.func82, Tryd.ntmps82
    go_wp2_with fail
    refine (c1 _).mono ?_
    rintro e w' ⟨rfl, rfl⟩
    go_wp2_with fail
    refine (c1 _).mono ?_
    rintro e w' ⟨rfl, rfl⟩
    go_wp2
    go_ret
    exact ⟨rfl, rfl⟩
  · have h1 : ¬ (x : Int) < (y : Int) := by omega
    have h2 : (y : Int) < (x : Int) := by omega
    have e : CMP x y = 1 := by unfold CMP; rw [if_neg (by omega), if_pos h]
    rw [e]
    go_enter Tryd.func82, Tryd.ntmps82
    go_wp2_with fail
    refine (c1 _).mono ?_
    rintro e w' ⟨rfl, rfl⟩
    go_wp2_with fail
    refine (c2 _).mono ?_
    rintro e w' ⟨rfl, rfl⟩
    go_wp2
    go_ret
    exact ⟨rfl, rfl⟩
theorem rowof_raw (p r : Int) (h : p / 64 = r) (w : World) : Calls Tryd.prog 75 #[.int .u64 p] w fun e w' => e = .returned (.int .u64 r) ∧ w = w' := by
  go_enter Tryd.func75, Tryd.ntmps75
  go_wp2
  go_ret
  exact ⟨rfl, rfl⟩
theorem rowof_ok (p : Nat) (w : World) : Calls Tryd.prog 75 #[.int .u64 (p : Int)] w fun e w' => e = .returned (.int .u64 ((p / 64 : Nat) : Int)) ∧ w = w' := rowof_raw _ _ (by omega) w
theorem bitof_raw (p k r : Int) (h0 : bits .and .u64 p 63 = k) (hk : ¬ k < 0) (h : IntKind.u64.wrap (2 ^ min k.toNat 64) = r) (w : World) : Calls Tryd.prog 70 #[.int .u64 p] w fun e w' => e = .returned (.int .u64 r) ∧ w = w' := by
  subst h
  go_enter Tryd.func70, Tryd.ntmps70
  go_wp2
  go_ret
  exact ⟨rfl, rfl⟩
theorem bitof_ok (p : Nat) (hp : p < 2 ^ 64) (w : World) : Calls Tryd.prog 70 #[.int .u64 (p : Int)] w fun e w' => e = .returned (.int .u64 ((2 ^ (p % 64) : Nat) : Int)) ∧ w = w' := by
  have hk : p % 64 < 64 := Nat.mod_lt _ (by decide)
  have e : (p &&& 63 : Nat) = p % 64 := Nat.and_two_pow_sub_one_eq_mod p 6
  have h2 : 2 ^ (p % 64) < 2 ^ 64 := Nat.pow_lt_pow_right (by decide) hk
  refine bitof_raw _ ((p % 64 : Nat) : Int) _ ((and_lit rfl rfl hp (by decide)).trans (by rw [e])) (by omega) ?_ w
  rw [Int.toNat_natCast, Nat.min_eq_left (by omega)]
  exact wrap_nat (by push_cast; rfl) h2
/-- an empty store, as cells. -/
abbrev FRESH (log : Nat) : Array Value := #[.int .i64 (log : Int), .int .u64 0, .int .u64 0, .map none, .map none]
theorem storenew_ok (log : Nat) (h : log ≤ 16) (w : World) : Calls Tryd.prog 40 #[.int .i64 (log : Int)] w fun e w' => e = .returned (.tuple #[.pointer (some ⟨w.heap.size, 0, none⟩), .int .i64 0]) ∧ w' = w.alloc (.cells (FRESH log) 75) := by
  have h1 : ¬ (log : Int) < 0 := by omega
  have h2 : ¬ (16 : Int) < (log : Int) := by omega
  go_enter Tryd.func40, Tryd.ntmps40
  go_wp2
  go_ret2
  exact ⟨rfl, rfl⟩
/-- the comparison of a row with a number. -/
theorem rowcmp_ok (x y : Nat) (lv : Int) (a : Option Addr) (n c : Nat) (w : World) : Calls Tryd.prog 81 #[.agg #[.int .u64 (x : Int), .int .u64 lv, .slice a n c], .int .u64 (y : Int)] w fun e w' => e = .returned (.int .i64 (CMP x y)) ∧ Below w.heap.size w w' := by
  have cc := fun w => compare_ok x y w
  go_enter Tryd.func81, Tryd.ntmps81
  go_wp2_with fail
  refine (cc _).mono ?_
  rintro e w' ⟨rfl, rfl⟩
  go_wp2
  go_ret
  exact ⟨rfl, (Below.refl _ _).alloc (Nat.le_refl _) _⟩
end Go.Proofs.YtnplhejopmoopaaDoor.HX

/- What slices.BinarySearchFunc answers of rising rows. -/
namespace Go.Proofs.YtnplhejopmoopaaDoor.HX
open Go.RowKit

/-- a row as it lies in memory: its number, its bits, the slice of its hashes. -/
structure RW where
  num : Nat
  live : Nat
  a : Option Addr
  n : Nat
  c : Nat
/-- rows lie there. -/
def RowsLie (w : World) (a : Option Addr) (rs : List RW) : Prop := 0 < rs.length → ∃ g o, a = some ⟨g, o, none⟩ ∧ g < w.heap.size ∧ ∀ (j : Nat) (r : RW), rs[j]? = some r → w.cell? ⟨g, o + j * 3, none⟩ = some (.int .u64 (r.num : Int)) ∧ w.cell? ⟨g, o + j * 3 + 1, none⟩ = some (.int .u64 (r.live : Int)) ∧ w.cell? ⟨g, o + j * 3 + 2, none⟩ = some (.slice r.a r.n r.c)
/-- rising. -/
def Rises (rs : List RW) : Prop := ∀ (i j : Nat) (r s : RW), i < j → rs[i]? = some r → rs[j]? = some s → r.num < s.num
/-- where a number stands, or is to stand. -/
def Stands (rs : List RW) (t i : Nat) : Prop := i ≤ rs.length ∧ (∀ (j : Nat) (r : RW), j < i → rs[j]? = some r → r.num < t) ∧ (∀ (j : Nat) (r : RW), i ≤ j → rs[j]? = some r → t ≤ r.num)
theorem mid_lt {i j : Nat} (h : i < j) : ∃ m, i ≤ m ∧ m < j ∧ m = (i + j) / 2 := ⟨(i + j) / 2, by omega, by omega, rfl⟩
theorem search_wraps (i j S m : Nat) (hj : j < 2 ^ 40) (hi : i < j) (hS : i + j = S) (hm : m = (i + j) / 2) : wrap64 ((i : Int) + (j : Int)) = (S : Int) ∧ IntKind.u64.wrap ((i : Int) + (j : Int)) = (S : Int) ∧ (S : Int) / 2 = (m : Int) ∧ wrap64 (m : Int) = (m : Int) ∧ wrap64 ((m : Int) + 1) = ((m + 1 : Nat) : Int) ∧ IntKind.u64.wrap (S : Int) = (S : Int) := by
  rw [wrapU, wrapU]
  unfold wrap64
  omega
/-- what the search tells. -/
def SEARCHED (rs : List RW) (t : Nat) (w : World) (e : Ending) (w' : World) : Prop := ∃ (i : Nat) (b : Bool), e = .returned (.tuple #[.int .i64 (i : Int), .bool b]) ∧ Stands rs t i ∧ (b = true ↔ ∃ r : RW, rs[i]? = some r ∧ r.num = t) ∧ Below w.heap.size w w'
set_option maxHeartbeats 1000000 in
theorem search_ok (a : Option Addr) (n cap : Nat) (rs : List RW) (t : Nat) (hl : rs.length = n) (hn : n < 2 ^ 40) (hR : Rises rs) (w : World) (hL : RowsLie w a rs) : Calls Tryd.prog 80 #[.slice a n cap, .int .u64 (t : Int), .func (.func 81) #[] #[]] w fun e w' => SEARCHED rs t w e w' := by
  have H : Aside (rs.length = n ∧ n < 2 ^ 40 ∧ Rises rs ∧ RowsLie w a rs) := ⟨hl, hn, hR, hL⟩
  clear hl hn hR hL
  go_enter Tryd.func80, Tryd.ntmps80
  go_wp2
  go_loopg [9, 10] n (fun gg s9 s10 wx => ∃ i j : Nat, s9 = .int .i64 (i : Int) ∧ s10 = .int .i64 (j : Int) ∧ Aside (i + gg = j ∧ j ≤ n ∧ (∀ (k : Nat) (r : RW), k < i → rs[k]? = some r → r.num < t) ∧ (∀ (k : Nat) (r : RW), j ≤ k → rs[k]? = some r → t ≤ r.num) ∧ Below w.heap.size w wx))
  case atStart => exact ⟨0, n, rfl, rfl, by omega, Nat.le_refl _, fun k r h => by omega, fun k r h e => by have := (List.getElem?_eq_some_iff.1 e).1; have := H.out.1; omega, Below.refl _ _⟩
  case round =>
    obtain ⟨i, j, rfl, rfl, I⟩ := hrel
    cases gk with
    | zero =>
      obtain ⟨i1, i2, i3, i4, i5⟩ := I.out
      obtain rfl : i = j := by omega
      have hlt : ¬ (i : Int) < (i : Int) := by omega
      rcases Nat.lt_or_ge i n with hin | hin
      · have hi2 : (i : Int) < (n : Int) := by omega
        have hi0 : (0 : Int) ≤ (i : Int) := by omega
        obtain ⟨h1, h2, h3, h4⟩ := H.out
        obtain ⟨r, er⟩ : ∃ r, rs[i]? = some r := ⟨_, List.getElem?_eq_getElem (by omega)⟩
        obtain ⟨g, o, rfl, hg, hc⟩ := h4 (by omega)
        obtain ⟨y0, y1, y2⟩ := hc i r er
        have x0 := (i5.cell (p := ⟨g, o + i * 3, none⟩) hg).trans y0
        have x1 := (i5.cell (p := ⟨g, o + i * 3 + 1, none⟩) hg).trans y1
        have x2 := (i5.cell (p := ⟨g, o + i * 3 + 2, none⟩) hg).trans y2
        have cc := rowcmp_ok r.num t (r.live : Int) r.a r.n r.c
        have R : Aside (Stands rs t i ∧ rs[i]? = some r ∧ Below w.heap.size w wr) := ⟨⟨by omega, i3, i4⟩, er, i5⟩
        clear i1 i2 i3 i4 i5 h1 h2 h3 h4 y0 y1 y2 hc er I
        go_wp2_with fail
        refine (cc _).mono ?_
        rintro e w2 ⟨rfl, hb⟩
        have R2 : Aside (Below w.heap.size w w2) := R.out.2.2.trans (hb.mono R.out.2.2.size)
        clear hb cc
        generalize hcmp : CMP r.num t = cv at *
        have HC : Aside (CMP r.num t = cv) := hcmp
        clear hcmp
        go_wp2
        go_ret2
        refine ⟨i, _, rfl, R.out.1, ?_, R2.out⟩
        have hc := HC.out
        unfold CMP at hc
        constructor
        · intro h
          refine ⟨r, R.out.2.1, ?_⟩
          have h' : cv = 0 := by simpa using h
          split at hc
          · omega
          · split at hc <;> omega
        · rintro ⟨r', e, rfl⟩
          rw [R.out.2.1] at e
          cases e
          have h' : cv = 0 := by rw [← hc, if_neg (by omega), if_neg (by omega)]
          simp [h']
      · have hi2 : ¬ (i : Int) < (n : Int) := by omega
        have R : Aside (Stands rs t i ∧ rs[i]? = none ∧ Below w.heap.size w wr) := ⟨⟨by have := H.out.1; omega, i3, i4⟩, List.getElem?_eq_none (by have := H.out.1; omega), i5⟩
        clear i1 i2 i3 i4 i5 I
        go_wp2
        go_ret2
        refine ⟨i, false, rfl, R.out.1, ⟨(fun h => by cases h), fun ⟨r, e, _⟩ => by rw [R.out.2.1] at e; cases e⟩, R.out.2.2⟩
    | succ gg =>
      obtain ⟨i1, i2, i3, i4, i5⟩ := I.out
      have hij : (i : Int) < (j : Int) := by omega
      obtain ⟨h1, h2, h3, h4⟩ := H.out
      obtain ⟨m, m1, m2, m3⟩ := mid_lt (i := i) (j := j) (by omega)
      obtain ⟨S, hS⟩ : ∃ S, i + j = S := ⟨_, rfl⟩
      have HW : Aside _ := search_wraps i j S m (by omega) (by omega) hS m3
      clear hS
      have hm2 : (m : Int) < (n : Int) := by omega
      have hm0 : (0 : Int) ≤ (m : Int) := by omega
      obtain ⟨r, er⟩ : ∃ r, rs[m]? = some r := ⟨_, List.getElem?_eq_getElem (by omega)⟩
      obtain ⟨g, o, rfl, hg, hc⟩ := h4 (by omega)
      obtain ⟨y0, y1, y2⟩ := hc m r er
      have x0 := (i5.cell (p := ⟨g, o + m * 3, none⟩) hg).trans y0
      have x1 := (i5.cell (p := ⟨g, o + m * 3 + 1, none⟩) hg).trans y1
      have x2 := (i5.cell (p := ⟨g, o + m * 3 + 2, none⟩) hg).trans y2
      have cc := rowcmp_ok r.num t (r.live : Int) r.a r.n r.c
      have LO : Aside (r.num < t → ∀ (k : Nat) (s : RW), k < m + 1 → rs[k]? = some s → s.num < t) := fun h k s hk e => by
        rcases Nat.lt_or_ge k m with hkm | hkm
        · have := h3 k m s r hkm e er
          omega
        · obtain rfl : k = m := by omega
          rw [er] at e
          cases e
          exact h
      have HI : Aside (¬ r.num < t → ∀ (k : Nat) (s : RW), m ≤ k → rs[k]? = some s → t ≤ s.num) := fun h k s hk e => by
        rcases Nat.lt_or_ge m k with hkm | hkm
        · have := h3 m k r s hkm er e
          omega
        · obtain rfl : k = m := by omega
          rw [er] at e
          cases e
          omega
      have R : Aside (i ≤ m ∧ m < j ∧ j ≤ n ∧ i + (gg + 1) = j ∧ (∀ (k : Nat) (r : RW), k < i → rs[k]? = some r → r.num < t) ∧ (∀ (k : Nat) (r : RW), j ≤ k → rs[k]? = some r → t ≤ r.num) ∧ Below w.heap.size w wr) := ⟨m1, m2, i2, i1, i3, i4, i5⟩
      clear i1 i2 i3 i4 i5 h1 h2 h3 h4 y0 y1 y2 hc er I m1 m2 m3
      obtain ⟨q1, q2, q3, q4, q5, q6⟩ := HW.out
      go_wp2_with fail
      refine (cc _).mono ?_
      rintro e w2 ⟨rfl, hb⟩
      have R2 : Aside (Below w.heap.size w w2) := R.out.2.2.2.2.2.2.trans (hb.mono R.out.2.2.2.2.2.2.size)
      clear hb cc x0 x1 x2
      by_cases hlt : r.num < t
      · have e : CMP r.num t = -1 := by unfold CMP; rw [if_pos hlt]
        rw [e]
        have L := LO.out hlt
        have LL : Aside (∀ (k : Nat) (s : RW), k < m + 1 → rs[k]? = some s → s.num < t) := L
        clear L hlt e
        go_wp2
        go_roundg (j - (m + 1))
        case measure => have := R.out; clear q1 q2 q3 q4 q5 q6; omega
        case rel => exact ⟨m + 1, j, by first | rfl | (rw [q5]), rfl, by have := R.out; clear q1 q2 q3 q4 q5 q6; omega, R.out.2.2.1, LL.out, R.out.2.2.2.2.2.1, R2.out⟩
      · have e : ¬ CMP r.num t < 0 := by unfold CMP; rw [if_neg hlt]; split <;> omega
        have L := HI.out hlt
        have LL : Aside (∀ (k : Nat) (s : RW), m ≤ k → rs[k]? = some s → t ≤ s.num) := L
        generalize CMP r.num t = cv at *
        clear L hlt
        go_wp2
        go_roundg (m - i)
        case measure => have := R.out; clear q1 q2 q3 q4 q5 q6; omega
        case rel => exact ⟨i, m, rfl, by first | rfl | (rw [q4]), by have := R.out; clear q1 q2 q3 q4 q5 q6; omega, by have := R.out; clear q1 q2 q3 q4 q5 q6; omega, R.out.2.2.2.2.1, LL.out, R2.out⟩
end Go.Proofs.YtnplhejopmoopaaDoor.HX

/- chunkOf, rank, chunk.find. -/
namespace Go.Proofs.YtnplhejopmoopaaDoor.HX
open Go.RowKit

theorem chunkof_raw (g : Nat) (p log r : Int) (hl : ¬ log < 0) (w : World) (h : w.cell? ⟨g, 0, none⟩ = some (.int .i64 log)) (e : p / 2 ^ min log.toNat 64 = r) : Calls Tryd.prog 59 #[.pointer (some ⟨g, 0, none⟩), .int .u64 p] w fun e w' => e = .returned (.agg #[.int .u64 r]) ∧ Below w.heap.size w w' := by
  have hg := World.block_lt_of_cell? w _ h
  have h2 : (w.alloc (.cells #[.int .u64 0] 109)).cell? ⟨g, 0, none⟩ = some (.int .i64 log) := (Below.cell (B := w.heap.size) ((Below.refl _ _).alloc (Nat.le_refl _) _) hg).trans h
  go_enter Tryd.func59, Tryd.ntmps59
  go_wp2
  refine bodyPost_ret (v := .agg #[.int .u64 r]) ?_ rfl ⟨rfl, (Below.refl _ _).alloc (Nat.le_refl _) _⟩
  simp [results, Tryd.f59, go_sem]
theorem rank_raw (g o : Nat) (lv bit k x : Int) (r : Nat) (w : World) (h : w.cell? ⟨g, o + 1, none⟩ = some (.int .u64 lv)) (e1 : IntKind.u64.wrap (bit - 1) = k) (e2 : bits .and .u64 lv k = x) (c : ∀ w, Calls Tryd.prog 58 #[.int .u64 x] w fun e w' => e = .returned (.int .i64 (r : Int)) ∧ w = w') : Calls Tryd.prog 71 #[.pointer (some ⟨g, o, none⟩), .int .u64 bit] w fun e w' => e = .returned (.int .i64 (r : Int)) ∧ w = w' := by
  go_enter Tryd.func71, Tryd.ntmps71
  go_wp2_with fail
  refine (c _).mono ?_
  rintro e w' ⟨rfl, rfl⟩
  go_wp2
  go_ret
  exact ⟨rfl, rfl⟩
/-- how many of the bits below the place k are set. -/
theorem rank_ok (g o lv k : Nat) (hlv : lv < 2 ^ 64) (hk : k < 64) (w : World) (h : w.cell? ⟨g, o + 1, none⟩ = some (.int .u64 (lv : Int))) : Calls Tryd.prog 71 #[.pointer (some ⟨g, o, none⟩), .int .u64 ((2 ^ k : Nat) : Int)] w fun e w' => e = .returned (.int .i64 ((POP (lv % 2 ^ k) : Nat) : Int)) ∧ w = w' := by
  have hp := Nat.two_pow_pos k
  have h2 : 2 ^ k < 2 ^ 64 := Nat.pow_lt_pow_right (by decide) hk
  have e1 : IntKind.u64.wrap (((2 ^ k : Nat) : Int) - 1) = ((2 ^ k - 1 : Nat) : Int) := wrap_nat (by omega) (by omega)
  have e2 : bits .and .u64 (lv : Int) ((2 ^ k - 1 : Nat) : Int) = ((lv % 2 ^ k : Nat) : Int) := by
    rw [and_lit rfl rfl hlv (by omega), Nat.and_two_pow_sub_one_eq_mod]
  exact rank_raw g o lv _ _ _ _ w h e1 e2 (fun w => onescount_ok _ (Nat.lt_of_le_of_lt (Nat.mod_le _ _) hlv) w)
/-- where the row of a place stands in a chunk. -/
theorem find_ok (g : Nat) (a : Option Addr) (n cap : Nat) (rs : List RW) (p : Nat) (hl : rs.length = n) (hn : n < 2 ^ 40) (hR : Rises rs) (w : World) (hL : RowsLie w a rs) (hc : w.cell? ⟨g, 0, none⟩ = some (.slice a n cap)) : Calls Tryd.prog 69 #[.pointer (some ⟨g, 0, none⟩), .int .u64 (p : Int)] w fun e w' => SEARCHED rs (p / 64) w e w' := by
  have cs : Calls Tryd.prog 80 #[.slice a n cap, .int .u64 ((p / 64 : Nat) : Int), .func (.func 81) #[] #[]] w.drew fun e w' => SEARCHED rs (p / 64) w e w' := (search_ok a n cap rs (p / 64) hl hn hR w.drew hL).mono fun e w' ⟨i, b, h1, h2, h3, h4⟩ => ⟨i, b, h1, h2, h3, (Below.refl w.heap.size w).drew.trans h4⟩
  have cr := fun w => rowof_ok p w
  clear hL hR hn
  go_enter Tryd.func69, Tryd.ntmps69
  go_wp2_with fail
  go_region_held3 (fun W : World => W.cell? ⟨g, 0, none⟩ = some (.slice a n cap)) (first | assumption | go_keep) (first
    | (go_at_call 75; refine (cr _).mono ?_; rintro e w2 ⟨rfl, rfl⟩)
    | (go_at_call 80; refine cs.mono ?_; rintro e w3 ⟨i, b, rfl, s1, s2, s3⟩; have S : Aside (Stands rs (p / 64) i ∧ (b = true ↔ ∃ r : RW, rs[i]? = some r ∧ r.num = p / 64) ∧ Below w.heap.size w w3) := ⟨s1, s2, s3⟩; have hc3 : w3.cell? ⟨g, 0, none⟩ = some (.slice a n cap) := (s3.cell (World.block_lt_of_cell? w _ hc)).trans hc; clear s1 s2 s3))
  go_wp2
  go_ret2
  exact ⟨i, b, rfl, S.out⟩
end Go.Proofs.YtnplhejopmoopaaDoor.HX

/- The map from keys to chunks: which block the chunk of a number is in. -/
namespace Go.Proofs.YtnplhejopmoopaaDoor.HX
open Go.RowKit Go.Maps
set_option maxRecDepth 100000

theorem laidOutP : laidOutB Tryd.prog = true := by kernel_rfl
theorem rowKey : (109 : TypeId) < Tryd.prog.types.size := of_decide_eq_true (by kernel_rfl)
theorem wideKey : (match Tryd.prog.underlying 109 with | some (.array _ _) | some (.struct _) => true | _ => false) = true := by rw [Tryd.underlying109]
theorem lawKey : Keyed Tryd.prog 109 := Keyed.of_law (deep_law_laid laidOutP (m := 2) (by omega) rowKey (by kernel_rfl) wideKey)
/-- a key as a value. -/
abbrev KEY (k : Nat) : Value := .agg #[.int .u64 (k : Int)]
/-- what a key reads as. -/
def KK (k : Nat) : Lit := .string (keyBytes [.int .u64 (k : Int)])
theorem keyk_ok {k : Nat} (hk : k < 2 ^ 64) : keyOf Tryd.prog 109 (KEY k) = some (KK k) := by
  have w1 : (Lit.int .u64 (k : Int)).wf = true := WalkArith.wf_u64 (by omega)
  have c3 : Tryd.prog.cellsOf 109 = 1 := by kernel_rfl
  have c2 : Tryd.prog.cellsOf 25 = 1 := by kernel_rfl
  have ht : Tryd.prog.keyType 109 = true := by kernel_rfl
  have hf : (KEY k).formed Tryd.prog 109 = true := by simp [Value.formed, Tryd.underlying109, c3]
  obtain ⟨m, hm⟩ : ∃ m, Tryd.prog.types.size = m + 1 := ⟨Tryd.prog.types.size - 1, (Nat.succ_pred_eq_of_pos (Nat.lt_of_le_of_lt (Nat.zero_le _) rowKey)).symm⟩
  unfold keyOf
  simp only [Tryd.underlying109, ht, hf, hm]
  simp [Program.keyLits, Tryd.underlying109, Tryd.underlying25, c2, c3, Value.cells, w1, KK]
theorem KK_inj {k k' : Nat} (hk : k < 2 ^ 64) (hk' : k' < 2 ^ 64) (e : KK k = KK k') : k = k' := by
  have h1 := keyk_ok hk
  have h2 := keyk_ok hk'
  rw [← e] at h2
  have := lawKey.inj h1 h2
  simp at this
  omega
/-- a number as a datum. -/
abbrev UD (n : Nat) : DataW Unit := .lit (.int .u64 (n : Int))
/-- how a pointer to a block reads: nil as 0, the block g as g + 1. -/
def PE : Value → Option (DataW Unit × List MemPlace)
  | .pointer none => some (UD 0, [])
  | .pointer (some ⟨g, 0, none⟩) => some (UD (g + 1), [])
  | _ => none
theorem PE_some {g : Nat} : PE (.pointer (some ⟨g, 0, none⟩)) = some (UD (g + 1), []) := rfl
theorem PE_inv {v : Value} {g : Nat} {ps : List MemPlace} (h : PE v = some (UD (g + 1), ps)) : v = .pointer (some ⟨g, 0, none⟩) := by
  unfold PE at h
  split at h
  · simp at h
    omega
  · simp at h
    obtain ⟨h, -⟩ := h
    rw [Int.ofNat.inj h]
  · cases h
theorem PE_zero {v : Value} {ps : List MemPlace} (h : PE v = some (UD 0, ps)) : v = .pointer none := by
  unfold PE at h
  split at h
  · rfl
  · simp at h
    omega
  · cases h
/-- the map has just the chunks of M. -/
def ChunkMap (w : World) (b n : Nat) (M : Nat → Option Nat) : Prop := ∃ D : DataW Unit, w.ownsMap Tryd.prog 109 PE b n D ∧ ∀ k, k < 2 ^ 64 → (Maps.has D (KK k) = (M k).isSome) ∧ ∀ g, M k = some g → D.atKey (KK k) (UD 0) = UD (g + 1)
theorem ChunkMap.made (w : World) : ChunkMap (w.alloc (.map #[] 0)) w.heap.size 0 (fun _ => none) := ⟨_, World.ownsMap_made w _ _ _, fun k _ => ⟨by simp [Maps.has], fun g h => by cases h⟩⟩
theorem ChunkMap.lt {w : World} {b n : Nat} {M : Nat → Option Nat} (h : ChunkMap w b n M) : b < w.heap.size := let ⟨_, h1, _⟩ := h; h1.lt
theorem ChunkMap.kept {w w' : World} {b n : Nat} {M : Nat → Option Nat} {row : Option Nat} (h : ChunkMap w b n M) (hg : w.grownBy w' row) (hne : some b ≠ row) : ChunkMap w' b n M := let ⟨D, h1, h2⟩ := h; ⟨D, h1.kept hg hne, h2⟩
theorem ChunkMap.at {w w' : World} {b n : Nat} {M : Nat → Option Nat} (h : ChunkMap w b n M) (hb : w'.heap[b]? = w.heap[b]?) : ChunkMap w' b n M := by
  obtain ⟨D, ⟨es, clock, h1, r⟩, h2⟩ := h
  exact ⟨D, ⟨es, clock, hb.trans h1, r⟩, h2⟩
theorem ChunkMap.below {w w' : World} {b n : Nat} {M : Nat → Option Nat} (h : ChunkMap w b n M) (hb : Below w.heap.size w w') : ChunkMap w' b n M := h.at (hb.block b h.lt)
theorem ChunkMap.setCell {w : World} {b n : Nat} {M : Nat → Option Nat} (h : ChunkMap w b n M) {a : Addr} (ha : b ≠ a.block) (u : Value) : ChunkMap (w.setCell a u) b n M := let ⟨D, h1, h2⟩ := h; ⟨D, h1.setCell ha u, h2⟩
theorem zeroPtr (w : World) : (zeroValue 106).run Tryd.prog w = .ok (.pointer none) w := by kernel_rfl
/-- v, ok := m[k]. -/
theorem ChunkMap.look {w : World} {b n k : Nat} {M : Nat → Option Nat} (h : ChunkMap w b n M) (hk : k < 2 ^ 64) : ∃ v, (Instr.lookup 72 (.map (some b)) (KEY k) true).run Tryd.prog w = .ok (.tuple #[v, .bool (M k).isSome]) w ∧ (∀ g, M k = some g → v = .pointer (some ⟨g, 0, none⟩)) ∧ (M k = none → v = .pointer none) := by
  obtain ⟨D, h1, h2⟩ := h
  obtain ⟨v, ps, r1, r2⟩ := h1.look_ok lawKey Tryd.underlying72 (zeroPtr w) (show PE (.pointer none) = some (UD 0, []) from rfl) (keyk_ok hk)
  refine ⟨v, by rw [r1, (h2 k hk).1], fun g hg => ?_, fun hg => ?_⟩
  · rw [(h2 k hk).2 g hg] at r2
    exact PE_inv r2
  · have hn : Maps.has D (KK k) = false := by rw [(h2 k hk).1, hg]; rfl
    rw [Maps.atKey_of_not_has hn] at r2
    exact PE_zero r2
/-- m[k] of a key that is there. -/
theorem ChunkMap.get {w : World} {b n k g : Nat} {M : Nat → Option Nat} (h : ChunkMap w b n M) (hk : k < 2 ^ 64) (hg : M k = some g) : (Instr.lookup 72 (.map (some b)) (KEY k) false).run Tryd.prog w = .ok (.pointer (some ⟨g, 0, none⟩)) w := by
  obtain ⟨D, h1, h2⟩ := h
  obtain ⟨v, ps, r1, r2⟩ := h1.lookup lawKey Tryd.underlying72 (zeroPtr w) (show PE (.pointer none) = some (UD 0, []) from rfl) (keyk_ok hk)
  rw [(h2 k hk).2 g hg] at r2
  rw [r1, PE_inv r2]
/-- m[k] = c. -/
theorem ChunkMap.store {w : World} {b n k g : Nat} {M : Nat → Option Nat} (h : ChunkMap w b n M) (hn : n < 2 ^ 40) (hk : k < 2 ^ 64) : ∃ w', (Instr.mapUpdate 72 (.map (some b)) (KEY k) (.pointer (some ⟨g, 0, none⟩))).run Tryd.prog w = .ok () w' ∧ ChunkMap w' b (n + 1) (fun j => if j = k then some g else M j) ∧ w.grownBy w' (some b) := by
  obtain ⟨D, h1, h2⟩ := h
  obtain ⟨w', r1, r2, r3⟩ := h1.update lawKey Tryd.underlying72 (by unfold maxLen; omega) (keyk_ok hk) (PE_some (g := g))
  refine ⟨w', r1, ⟨_, r2, fun j hj => ?_⟩, r3⟩
  dsimp only
  have hkey : WideAt.IsKeyLit (KK k) := lawKey.key (keyk_ok hk)
  by_cases e : j = k
  · subst e
    rw [if_pos rfl]
    exact ⟨by rw [Maps.has_put_same h1.isMap hkey]; rfl, fun g' hg' => by cases hg'; rw [Maps.atKey_put_same h1.isMap hkey]⟩
  · rw [if_neg e, Maps.has_put_other (fun h => e (KK_inj hj hk h)), Maps.atKey_put_other (fun h => e (KK_inj hj hk h))]
    exact h2 j hj
end Go.Proofs.YtnplhejopmoopaaDoor.HX
