/- What the document's Shl and Shr give. -/
import Derived.Test.YtlklnljgmkagoaaNumRowCalls
namespace Go.Proofs.Ytlklnljgmkagoaa
open Go.RowKit

def NEAR (n : Int) : Int := if 64 < n then 64 else if n < -64 then -64 else n
theorem near_ok (n : Int) (w : World) : Calls Try.prog 42 #[.int .i64 n] w fun e w' => e = .returned (.int .i64 (NEAR n)) ∧ w = w' := by
  unfold NEAR
  by_cases h1 : 64 < n
  · rw [if_pos h1]
    go_enter Try.func42, Try.ntmps42
    go_wp2
    go_ret
    exact ⟨rfl, rfl⟩
  · rw [if_neg h1]
    by_cases h2 : n < -64
    · rw [if_pos h2]
      go_enter Try.func42, Try.ntmps42
      go_wp2
      go_ret
      exact ⟨rfl, rfl⟩
    · rw [if_neg h2]
      go_enter Try.func42, Try.ntmps42
      go_wp2
      go_ret
      exact ⟨rfl, rfl⟩
theorem NEAR_le (n : Int) : -64 ≤ NEAR n ∧ NEAR n ≤ 64 := by unfold NEAR; split <;> (try split) <;> omega

/-- the bits, moved by k. -/
def UPF (f : Nat → Int) (k : Int) : Nat → Int := fun i => if 0 ≤ (i : Int) - k ∧ (i : Int) - k < 64 then f ((i : Int) - k).toNat else 0
theorem UPF_01 {f : Nat → Int} (hf : Bit01 f) (k : Int) : Bit01 (UPF f k) := fun i _ => by
  unfold UPF
  split
  · exact hf _ (by omega)
  · exact Or.inl rfl

theorem refshl_ok (X : Nat) (n : Int) (hX : X < 2 ^ 64) (w : World) : Calls Try.prog 9 #[.int .u64 (X : Int), .int .i64 n] w fun e w' => e = .returned (.int .u64 ((NUM (UPF (BITS X) (NEAR n)) : Nat) : Int)) ∧ Fine w w' := by
  have hz := ARR_zero
  have hk := NEAR_le n
  have cn := near_ok n
  generalize NEAR n = k at hk cn
  have hk0 := hk.1
  have hk1 := hk.2
  clear hk
  have hr := row_ok X hX
  clear hX
  have HB : Aside (Bit01 (BITS X)) := BITS_01 X
  generalize BITS X = r at hr HB
  go_enter Try.func9, Try.ntmps9
  go_wp2_with fail
  refine (hr _).mono ?_
  rintro e w1 ⟨rfl, hF⟩
  have HF : Aside (Fine w w1) := hF
  clear hF
  go_wp2_with (refine wpList_store_row rfl 49 _ _ rfl _ _ rfl rfl _ _ (heap_one w1 _) (info_ARR _) (by rw [ARR_size, ARR_size]) (ARR_one _) ?_; rw [World.setRow_alloc_new])
  refine (cn _).mono ?_
  rintro e w2 ⟨rfl, rfl⟩
  go_wp2
  go_loopg [8] 64 (fun g s8 wx => ∃ (i : Nat) (f : Nat → Int), i + g = 64 ∧ Aside (∀ j, f j = if j < i then UPF r k j else 0) ∧ s8 = .int .i64 i ∧
    wx = (w1.alloc (.cells (ARR r) 49)).alloc (.cells (ARR f) 49))
  case atStart => exact ⟨0, fun _ => 0, by omega, fun j => by simp, rfl, rfl⟩
  case round =>
    obtain ⟨i, f, hig, A, rfl, rfl⟩ := hrel
    cases gk with
    | zero =>
      obtain rfl : i = 64 := by omega
      have hf : ARR f = ARR (UPF r k) := ARR_ext fun j hj => by rw [A.out j, if_pos hj]
      rw [hf]
      clear hf A
      go_wp2_with (refine wpList_load_row rfl 49 _ rfl _ rfl _ _ (0, 0) _ (heap_two' w1 _ _) Try.underlying49 rfl (info_ARR _) ?_)
      refine (number_ok _ (UPF_01 HB.out k) _).mono ?_
      rintro e w3 ⟨rfl, hF3⟩
      go_wp2
      go_ret
      exact ⟨rfl, HF.out.trans ((((Fine.refl _).alloc _ _).alloc _ _).trans hF3)⟩
    | succ g =>
      have hi : (i : Int) < 64 := by omega
      have hc : (ARR f)[i]? = some (.int .i64 (f i)) := ARR_get f i (by omega)
      have hs : ∀ v, (ARR f).setIfInBounds i (.int .i64 v) = ARR (fun j => if j = i then v else f j) := fun v => ARR_set f i v
      by_cases h0 : 0 ≤ (i : Int) - k
      · by_cases h1 : (i : Int) - k < 64
        · have hcr : (ARR r)[((i : Int) - k).toNat]? = some (.int .i64 (r ((i : Int) - k).toNat)) := ARR_get r _ (by omega)
          go_wp2
          go_roundg g
          case measure => omega
          case rel => exact ⟨i + 1, _, by omega, fill_put A.out (by unfold UPF; rw [if_pos ⟨h0, h1⟩]), by go_num, rfl⟩
        · go_wp2
          go_roundg g
          case measure => omega
          case rel => exact ⟨i + 1, f, by omega, fill_keep A.out (by unfold UPF; rw [if_neg (by omega)]), by go_num, rfl⟩
      · go_wp2
        go_roundg g
        case measure => omega
        case rel => exact ⟨i + 1, f, by omega, fill_keep A.out (by unfold UPF; rw [if_neg (by omega)]), by go_num, rfl⟩

/-- the bits, moved by k. -/
def DOWNF (f : Nat → Int) (k : Int) : Nat → Int := fun i => if 0 ≤ (i : Int) + k ∧ (i : Int) + k < 64 then f ((i : Int) + k).toNat else 0
theorem DOWNF_01 {f : Nat → Int} (hf : Bit01 f) (k : Int) : Bit01 (DOWNF f k) := fun i _ => by
  unfold DOWNF
  split
  · exact hf _ (by omega)
  · exact Or.inl rfl

theorem refshr_ok (X : Nat) (n : Int) (hX : X < 2 ^ 64) (w : World) : Calls Try.prog 11 #[.int .u64 (X : Int), .int .i64 n] w fun e w' => e = .returned (.int .u64 ((NUM (DOWNF (BITS X) (NEAR n)) : Nat) : Int)) ∧ Fine w w' := by
  have hz := ARR_zero
  have hk := NEAR_le n
  have cn := near_ok n
  generalize NEAR n = k at hk cn
  have hk0 := hk.1
  have hk1 := hk.2
  clear hk
  have hr := row_ok X hX
  clear hX
  have HB : Aside (Bit01 (BITS X)) := BITS_01 X
  generalize BITS X = r at hr HB
  go_enter Try.func11, Try.ntmps11
  go_wp2_with fail
  refine (hr _).mono ?_
  rintro e w1 ⟨rfl, hF⟩
  have HF : Aside (Fine w w1) := hF
  clear hF
  go_wp2_with (refine wpList_store_row rfl 49 _ _ rfl _ _ rfl rfl _ _ (heap_one w1 _) (info_ARR _) (by rw [ARR_size, ARR_size]) (ARR_one _) ?_; rw [World.setRow_alloc_new])
  refine (cn _).mono ?_
  rintro e w2 ⟨rfl, rfl⟩
  go_wp2
  go_loopg [8] 64 (fun g s8 wx => ∃ (i : Nat) (f : Nat → Int), i + g = 64 ∧ Aside (∀ j, f j = if j < i then DOWNF r k j else 0) ∧ s8 = .int .i64 i ∧
    wx = (w1.alloc (.cells (ARR r) 49)).alloc (.cells (ARR f) 49))
  case atStart => exact ⟨0, fun _ => 0, by omega, fun j => by simp, rfl, rfl⟩
  case round =>
    obtain ⟨i, f, hig, A, rfl, rfl⟩ := hrel
    cases gk with
    | zero =>
      obtain rfl : i = 64 := by omega
      have hf : ARR f = ARR (DOWNF r k) := ARR_ext fun j hj => by rw [A.out j, if_pos hj]
      rw [hf]
      clear hf A
      go_wp2_with (refine wpList_load_row rfl 49 _ rfl _ rfl _ _ (0, 0) _ (heap_two' w1 _ _) Try.underlying49 rfl (info_ARR _) ?_)
      refine (number_ok _ (DOWNF_01 HB.out k) _).mono ?_
      rintro e w3 ⟨rfl, hF3⟩
      go_wp2
      go_ret
      exact ⟨rfl, HF.out.trans ((((Fine.refl _).alloc _ _).alloc _ _).trans hF3)⟩
    | succ g =>
      have hi : (i : Int) < 64 := by omega
      have hc : (ARR f)[i]? = some (.int .i64 (f i)) := ARR_get f i (by omega)
      have hs : ∀ v, (ARR f).setIfInBounds i (.int .i64 v) = ARR (fun j => if j = i then v else f j) := fun v => ARR_set f i v
      by_cases h0 : 0 ≤ (i : Int) + k
      · by_cases h1 : (i : Int) + k < 64
        · have hcr : (ARR r)[((i : Int) + k).toNat]? = some (.int .i64 (r ((i : Int) + k).toNat)) := ARR_get r _ (by omega)
          go_wp2
          go_roundg g
          case measure => omega
          case rel => exact ⟨i + 1, _, by omega, fill_put A.out (by unfold DOWNF; rw [if_pos ⟨h0, h1⟩]), by go_num, rfl⟩
        · go_wp2
          go_roundg g
          case measure => omega
          case rel => exact ⟨i + 1, f, by omega, fill_keep A.out (by unfold DOWNF; rw [if_neg (by omega)]), by go_num, rfl⟩
      · go_wp2
        go_roundg g
        case measure => omega
        case rel => exact ⟨i + 1, f, by omega, fill_keep A.out (by unfold DOWNF; rw [if_neg (by omega)]), by go_num, rfl⟩


/-! the document's answers and the program's -/
theorem NUM_UPF {X : Nat} (hX : X < 2 ^ 64) (n : Int) : NUM (UPF (BITS X) (NEAR n)) = SHL X n := by
  refine eq_of_bits (NUM_lt (UPF_01 (BITS_01 X) _)) (SHL_lt hX n) fun i hi => ?_
  rw [bit_NUM (UPF_01 (BITS_01 X) _) hi, bit_SHL]
  unfold UPF
  have hk : NEAR n = if 64 < n then 64 else if n < -64 then -64 else n := rfl
  by_cases h1 : 64 < n
  · rw [if_pos h1] at hk
    rw [hk, if_neg (by omega), if_neg (by omega)]
    have h2 : ¬ n.toNat ≤ i := by omega
    simp [h2]
  · rw [if_neg h1] at hk
    by_cases h2 : n < -64
    · rw [if_pos h2] at hk
      rw [hk, if_neg (by omega), if_pos (by omega), bit_high hX (by omega)]
      rfl
    · rw [if_neg h2] at hk
      rw [hk]
      by_cases h3 : n < 0
      · rw [if_pos h3]
        by_cases h4 : 0 ≤ (i : Int) - n ∧ (i : Int) - n < 64
        · rw [if_pos h4, bit_BITS, show ((i : Int) - n).toNat = i + (-n).toNat by omega]
        · rw [if_neg h4, bit_high hX (by omega)]
          rfl
      · rw [if_neg h3]
        by_cases h4 : 0 ≤ (i : Int) - n ∧ (i : Int) - n < 64
        · have h5 : n.toNat ≤ i := by omega
          rw [if_pos h4, bit_BITS, show ((i : Int) - n).toNat = i - n.toNat by omega]
          simp [hi, h5]
        · have h5 : ¬ n.toNat ≤ i := by omega
          rw [if_neg h4]
          simp [h5]
theorem NUM_DOWNF {X : Nat} (hX : X < 2 ^ 64) (n : Int) : NUM (DOWNF (BITS X) (NEAR n)) = SHR X n := by
  refine eq_of_bits (NUM_lt (DOWNF_01 (BITS_01 X) _)) (SHR_lt hX n) fun i hi => ?_
  rw [bit_NUM (DOWNF_01 (BITS_01 X) _) hi, bit_SHR]
  unfold DOWNF
  have hk : NEAR n = if 64 < n then 64 else if n < -64 then -64 else n := rfl
  by_cases h1 : 64 < n
  · rw [if_pos h1] at hk
    rw [hk, if_neg (by omega), if_neg (by omega), bit_high hX (by omega)]
    rfl
  · rw [if_neg h1] at hk
    by_cases h2 : n < -64
    · rw [if_pos h2] at hk
      rw [hk, if_neg (by omega), if_pos (by omega)]
      have h3 : ¬ (-n).toNat ≤ i := by omega
      simp [h3]
    · rw [if_neg h2] at hk
      rw [hk]
      by_cases h3 : n < 0
      · rw [if_pos h3]
        by_cases h4 : 0 ≤ (i : Int) + n ∧ (i : Int) + n < 64
        · have h5 : (-n).toNat ≤ i := by omega
          rw [if_pos h4, bit_BITS, show ((i : Int) + n).toNat = i - (-n).toNat by omega]
          simp [hi, h5]
        · have h5 : ¬ (-n).toNat ≤ i := by omega
          rw [if_neg h4]
          simp [h5]
      · rw [if_neg h3]
        by_cases h4 : 0 ≤ (i : Int) + n ∧ (i : Int) + n < 64
        · rw [if_pos h4, bit_BITS, show ((i : Int) + n).toNat = i + n.toNat by omega]
        · rw [if_neg h4, bit_high hX (by omega)]
          rfl
theorem refshl_eq (X : Nat) (n : Int) (hX : X < 2 ^ 64) (w : World) : Calls Try.prog 9 #[.int .u64 (X : Int), .int .i64 n] w fun e w' => e = .returned (.int .u64 ((SHL X n : Nat) : Int)) ∧ Fine w w' := by
  have h := refshl_ok X n hX w
  rw [NUM_UPF hX] at h
  exact h
theorem refshr_eq (X : Nat) (n : Int) (hX : X < 2 ^ 64) (w : World) : Calls Try.prog 11 #[.int .u64 (X : Int), .int .i64 n] w fun e w' => e = .returned (.int .u64 ((SHR X n : Nat) : Int)) ∧ Fine w w' := by
  have h := refshr_ok X n hX w
  rw [NUM_DOWNF hX] at h
  exact h
end Go.Proofs.Ytlklnljgmkagoaa
