/- What Row and Number of the document's answers give. -/
import Derived.Test.YtlklnljgmkagoaaDoorNumArr
namespace Go.Proofs.YtlklnljgmkagoaaDoor
open Go.RowKit

/-- the bits of X, each an int. -/
def BITS (X : Nat) : Nat → Int := fun i => ((X / 2 ^ i % 2 : Nat) : Int)

theorem half_rem (x : Nat) (hx : x < 2 ^ 64) : wrap64 ((x : Int).tmod 2) = ((x % 2 : Nat) : Int) := by
  rw [Int.tmod_eq_emod_of_nonneg (by omega)]
  unfold wrap64
  omega
theorem half_quo (x : Nat) (hx : x < 2 ^ 64) : IntKind.u64.wrap ((x : Int).tdiv 2) = ((x / 2 : Nat) : Int) := by
  rw [Int.tdiv_eq_ediv_of_nonneg (by omega), wrapU]
  omega

theorem row_ok (X : Nat) (hX : X < 2 ^ 64) (w : World) : Calls Tryd.prog 17 #[.int .u64 (X : Int)] w fun e w' => e = .returned (.agg (ARR (BITS X))) ∧ Fine w w' := by
  have hz := ARR_zero
  have HX : Aside (X < 2 ^ 64) := hX
  clear hX
  go_enter Tryd.func17, Tryd.ntmps17
  go_wp2
  go_loopg [0, 4] 64 (fun g s0 s4 wx => ∃ (i : Nat) (x : Int) (f : Nat → Int), i + g = 64 ∧ Aside (x = ((X / 2 ^ i : Nat) : Int) ∧ ∀ j, j < i → f j = BITS X j) ∧ s0 = .int .u64 x ∧ s4 = .int .i64 i ∧
    wx = (w.alloc (.cells (ARR fun _ => 0) 29)).alloc (.cells (ARR f) 29))
  case atStart => exact ⟨0, X, fun _ => 0, by omega, ⟨by simp, fun j hj => by omega⟩, rfl, rfl, rfl⟩
  case round =>
    obtain ⟨i, x, f, hig, A, rfl, rfl, rfl⟩ := hrel
    cases gk with
    | zero =>
      obtain rfl : i = 64 := by omega
      have hf : ARR f = ARR (BITS X) := ARR_ext A.out.2
      rw [hf]
      clear hf A
      go_wp2_with (first
        | (refine wpList_load_row rfl 29 _ rfl _ rfl _ _ (0, 0) _ (heap_two' w _ _) Tryd.underlying29 rfl (info_ARR _) ?_)
        | (refine wpList_store_row rfl 29 _ _ rfl _ _ rfl rfl _ _ (heap_two w _ _) (info_ARR _) (by rw [ARR_size, ARR_size]) (ARR_one _) ?_))
      rw [setRow_two]
      refine bodyPost_ret (v := .agg (ARR (BITS X))) ?_ rfl ⟨rfl, ((Fine.refl _).alloc _ _).alloc _ _⟩
      exact results_cell_row rfl _ _ w.heap.size 29 _ (0, 0) _ rfl (heap_two w _ _) Tryd.underlying29 rfl (info_ARR _)
    | succ g =>
      have hi : (i : Int) < 64 := by omega
      have hc : (ARR f)[i]? = some (.int .i64 (f i)) := ARR_get f i (by omega)
      have hs : ∀ v, (ARR f).setIfInBounds i (.int .i64 v) = ARR (fun j => if j = i then v else f j) := fun v => ARR_set f i v
      obtain ⟨b, hb⟩ : ∃ b, wrap64 (x.tmod 2) = b := ⟨_, rfl⟩
      obtain ⟨y, hy⟩ : ∃ y, IntKind.u64.wrap (x.tdiv 2) = y := ⟨_, rfl⟩
      go_wp2
      go_roundg g
      case measure => omega
      case rel =>
        refine ⟨i + 1, y, fun j => if j = i then b else f j, by omega, ?_, rfl, by go_num, rfl⟩
        obtain ⟨hx, hf⟩ := A.out
        have hl : X / 2 ^ i < 2 ^ 64 := div_lt HX.out i
        rw [hx, half_rem _ hl] at hb
        rw [hx, half_quo _ hl] at hy
        refine ⟨?_, fun j hj => ?_⟩
        · rw [← hy, Nat.div_div_eq_div_mul, ← Nat.pow_succ]
        · by_cases e : j = i
          · subst e
            simp [BITS, ← hb]
          · simp only [e, if_false]
            exact hf j (by omega)

/-- the number of the k highest of 64 bits. -/
def NUMB (f : Nat → Int) : Nat → Nat
  | 0 => 0
  | k + 1 => 2 * NUMB f k + (f (63 - k)).toNat
def NUM (f : Nat → Int) : Nat := NUMB f 64
/-- each of the 64 is 0 or 1. -/
def Bit01 (f : Nat → Int) : Prop := ∀ i, i < 64 → f i = 0 ∨ f i = 1
theorem NUMB_lt {f : Nat → Int} (hf : Bit01 f) : ∀ k, k ≤ 64 → NUMB f k < 2 ^ k
  | 0, _ => by simp [NUMB]
  | k + 1, hk => by
    have ih := NUMB_lt hf k (by omega)
    have h := hf (63 - k) (by omega)
    simp only [NUMB, Nat.pow_succ]
    omega
theorem NUM_lt {f : Nat → Int} (hf : Bit01 f) : NUM f < 2 ^ 64 := NUMB_lt hf 64 (by omega)
theorem bit_NUMB {f : Nat → Int} (hf : Bit01 f) : ∀ k, k ≤ 64 → ∀ i, i < k → (NUMB f k).testBit i = decide (f (64 - k + i) = 1)
  | 0, _, i, hi => by omega
  | k + 1, hk, 0, _ => by
    have h := hf (63 - k) (by omega)
    rw [Nat.testBit_zero, show 64 - (k + 1) + 0 = 63 - k by omega]
    apply decide_eq_decide.2
    simp only [NUMB]
    rcases h with h | h <;> omega
  | k + 1, hk, i + 1, hi => by
    have ih := bit_NUMB hf k (by omega) i (by omega)
    have h := hf (63 - k) (by omega)
    rw [Nat.testBit_succ, show 64 - (k + 1) + (i + 1) = 64 - k + i by omega, ← ih]
    congr 1
    simp only [NUMB]
    omega
theorem bit_NUM {f : Nat → Int} (hf : Bit01 f) {i : Nat} (hi : i < 64) : (NUM f).testBit i = decide (f i = 1) := by
  have := bit_NUMB hf 64 (by omega) i hi
  simpa [NUM] using this
theorem BITS_01 (X : Nat) : Bit01 (BITS X) := fun i _ => by unfold BITS; omega
theorem BITS_one (X i : Nat) : (BITS X i = 1) = (X.testBit i = true) := by
  apply propext
  unfold BITS
  rw [Nat.testBit_eq_decide_div_mod_eq, decide_eq_true_iff]
  omega

theorem bit_BITS (X i : Nat) : decide (BITS X i = 1) = X.testBit i := by
  simp only [BITS_one]
  simp
/-! an array that is filled from 0 on -/
theorem fill_put {F f : Nat → Int} {i : Nat} {v : Int} (A : ∀ j, f j = if j < i then F j else 0) (hv : v = F i) : ∀ j, (if j = i then v else f j) = if j < i + 1 then F j else 0 := fun j => by
  by_cases e : j = i
  · subst e
    simp [hv]
  · rw [if_neg e, A j]
    by_cases e2 : j < i
    · rw [if_pos e2, if_pos (by omega)]
    · rw [if_neg e2, if_neg (by omega)]
theorem fill_keep {F f : Nat → Int} {i : Nat} (A : ∀ j, f j = if j < i then F j else 0) (hv : F i = 0) : ∀ j, f j = if j < i + 1 then F j else 0 := fun j => by
  rw [A j]
  by_cases e : j = i
  · subst e
    simp [hv]
  · by_cases e2 : j < i
    · rw [if_pos e2, if_pos (by omega)]
    · rw [if_neg e2, if_neg (by omega)]

end Go.Proofs.YtlklnljgmkagoaaDoor
