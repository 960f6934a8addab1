/- What Plain and Signed of the document's answers give. -/
import Derived.Test.YtlklnljgmkagoaaNumRowCalls
namespace Go.Proofs.Ytlklnljgmkagoaa
open Go.RowKit

/-- the 64 bits of a number with a sign. -/
def TWO (x : Int) : Nat := (x % 2 ^ 64).toNat
/-- back. -/
def SGN (U : Nat) : Int := if U < 2 ^ 63 then (U : Int) else (U : Int) - 2 ^ 64
theorem TWO_lt (x : Int) : TWO x < 2 ^ 64 := by unfold TWO; omega
theorem SGN_TWO {x : Int} (h0 : -(2 ^ 63) ≤ x) (h1 : x < 2 ^ 63) : SGN (TWO x) = x := by unfold SGN TWO; split <;> omega

theorem plain_raw1 (x : Int) (h : 0 ≤ x) (w : World) : Calls Try.prog 44 #[.int .i64 x] w fun e w' => e = .returned (.int .u64 (IntKind.u64.wrap x)) ∧ w = w' := by
  go_enter Try.func44, Try.ntmps44
  go_wp2
  go_ret
  exact ⟨rfl, rfl⟩
theorem plain_raw2 (x a b c : Int) (h : x < 0) (w : World) (ha : wrap64 (x + 1) = a) (hb : wrap64 (-a) = b) (hc : IntKind.u64.wrap (18446744073709551615 - IntKind.u64.wrap b) = c) : Calls Try.prog 44 #[.int .i64 x] w fun e w' => e = .returned (.int .u64 c) ∧ w = w' := by
  go_enter Try.func44, Try.ntmps44
  go_wp2
  go_ret
  exact ⟨rfl, rfl⟩
theorem plain_ok (x : Int) (h0 : -(2 ^ 63) ≤ x) (h1 : x < 2 ^ 63) (w : World) : Calls Try.prog 44 #[.int .i64 x] w fun e w' => e = .returned (.int .u64 ((TWO x : Nat) : Int)) ∧ w = w' := by
  by_cases h : 0 ≤ x
  · have k := plain_raw1 x h w
    rw [show IntKind.u64.wrap x = ((TWO x : Nat) : Int) by rw [wrapU]; unfold TWO; omega] at k
    exact k
  · refine plain_raw2 x _ _ _ (by omega) w rfl rfl ?_
    rw [wrapU, wrapU]
    unfold TWO wrap64
    omega

/-- the bits, one place up. -/
def NEXTF (f : Nat → Int) : Nat → Int := fun j => f (j - 1)
theorem NEXTF_01 {f : Nat → Int} (hf : Bit01 f) : Bit01 (NEXTF f) := fun i hi => hf _ (by omega)

theorem signed_raw (U : Nat) (r : Nat → Int) (v : Int) (hv : Aside (v = ((NUMB (NEXTF r) 63 : Nat) : Int) - r 63 * 2 ^ 63)) (hB : Bit01 r) (w : World) (hr : ∀ w, Calls Try.prog 41 #[.int .u64 (U : Int)] w fun e w' => e = .returned (.agg (ARR r)) ∧ Fine w w') :
    Calls Try.prog 45 #[.int .u64 (U : Int)] w fun e w' => e = .returned (.int .i64 v) ∧ Fine w w' := by
  have hz := ARR_zero
  have HB : Aside (Bit01 r) := hB
  clear hB
  go_enter Try.func45, Try.ntmps45
  go_wp2_with fail
  refine (hr _).mono ?_
  rintro e w1 ⟨rfl, hF⟩
  have HF : Aside (Fine w w1) := hF
  clear hF
  go_wp2_with (refine wpList_store_row rfl 49 _ _ rfl _ _ rfl rfl _ _ (heap_one w1 _) (info_ARR _) (by rw [ARR_size, ARR_size]) (ARR_one _) ?_; rw [World.setRow_alloc_new])
  go_loopg [4, 5] 63 (fun g s4 s5 wx => ∃ (k : Nat) (n : Int), k + g = 63 ∧ Aside (n = ((NUMB (NEXTF r) k : Nat) : Int)) ∧ s4 = .int .i64 n ∧ s5 = .int .i64 (62 - (k : Int)) ∧ wx = w1.alloc (.cells (ARR r) 49))
  case atStart => exact ⟨0, 0, by omega, rfl, rfl, rfl, rfl⟩
  case round =>
    obtain ⟨k, n, hig, A, rfl, rfl, rfl⟩ := hrel
    cases gk with
    | zero =>
      obtain rfl : k = 63 := by omega
      have hc : (ARR r)[63]? = some (.int .i64 (r 63)) := ARR_get r 63 (by omega)
      have hn : n = ((NUMB (NEXTF r) 63 : Nat) : Int) := A.out
      have hl := NUMB_lt (NEXTF_01 HB.out) 63 (by omega)
      by_cases h : r 63 = 1
      · have h' : (r 63 == 1) = true := by simp [h]
        obtain ⟨m, hm⟩ : ∃ m, wrap64 (n - 4611686018427387904) = m := ⟨_, rfl⟩
        obtain ⟨m2, hm2⟩ : ∃ m2, wrap64 (m - 4611686018427387904) = m2 := ⟨_, rfl⟩
        have H : Aside (n = ((NUMB (NEXTF r) 63 : Nat) : Int) ∧ NUMB (NEXTF r) 63 < 2 ^ 63 ∧ r 63 = 1) := ⟨hn, hl, h⟩
        clear hn hl h A
        go_wp2
        go_ret
        obtain ⟨hn, hl, h⟩ := H.out
        refine ⟨?_, HF.out.trans ((Fine.refl _).alloc _ _)⟩
        have : m2 = v := by
          unfold wrap64 at hm hm2
          rw [hv.out, h]
          omega
        rw [← this]
        rfl
      · have h' : (r 63 == 1) = false := by simp [h]
        have h0 : r 63 = 0 := by have := HB.out 63 (by omega); omega
        have H : Aside (n = ((NUMB (NEXTF r) 63 : Nat) : Int) ∧ r 63 = 0) := ⟨hn, h0⟩
        clear hn hl h A h0
        go_wp2
        go_ret
        obtain ⟨hn, h0⟩ := H.out
        refine ⟨?_, HF.out.trans ((Fine.refl _).alloc _ _)⟩
        have : n = v := by rw [hv.out, h0]; omega
        rw [← this]
        rfl
    | succ g =>
      obtain ⟨i, hi⟩ : ∃ i : Nat, i + k = 62 := ⟨62 - k, by omega⟩
      have hc : (ARR r)[i]? = some (.int .i64 (r i)) := ARR_get r i (by omega)
      have hik : (62 : Int) - (k : Int) = (i : Int) := by omega
      rw [hik]
      have hi0 : (0 : Int) ≤ (i : Int) := by omega
      have hi1 : (i : Int) < 64 := by omega
      clear hik
      go_wp2
      go_roundg g
      case measure => omega
      case rel =>
        refine ⟨k + 1, wrap64 (wrap64 (2 * n) + r i), by omega, ?_, rfl, by go_num, rfl⟩
        have h := HB.out i (by omega)
        have hl := NUMB_lt (NEXTF_01 HB.out) k (by omega)
        have hp : 2 ^ k ≤ 2 ^ 62 := Nat.pow_le_pow_right (by decide) (by omega)
        have hn : n = ((NUMB (NEXTF r) k : Nat) : Int) := A.out
        show wrap64 (wrap64 (2 * n) + r i) = ((2 * NUMB (NEXTF r) k + (r (63 - k - 1)).toNat : Nat) : Int)
        rw [show 63 - k - 1 = i by omega, hn]
        unfold wrap64
        omega
theorem signed_val {U : Nat} (hU : U < 2 ^ 64) : ((NUMB (NEXTF (BITS U)) 63 : Nat) : Int) - BITS U 63 * 2 ^ 63 = SGN U := by
  have h : NUMB (NEXTF (BITS U)) 63 = U % 2 ^ 63 := by
    apply Nat.eq_of_testBit_eq
    intro i
    rw [Nat.testBit_mod_two_pow]
    by_cases hi : i < 63
    · rw [bit_NUMB (NEXTF_01 (BITS_01 U)) 63 (by omega) i hi]
      unfold NEXTF
      rw [show 64 - 63 + i - 1 = i by omega]
      rw [bit_BITS]
      simp [hi]
    · have := NUMB_lt (NEXTF_01 (BITS_01 U)) 63 (by omega)
      rw [Nat.testBit_lt_two_pow (Nat.lt_of_lt_of_le this (Nat.pow_le_pow_right (by decide) (by omega)))]
      simp [hi]
  rw [h]
  unfold SGN BITS
  split <;> omega
theorem signed_ok (U : Nat) (hU : U < 2 ^ 64) (w : World) : Calls Try.prog 45 #[.int .u64 (U : Int)] w fun e w' => e = .returned (.int .i64 (SGN U)) ∧ Fine w w' :=
  signed_raw U (BITS U) (SGN U) (signed_val hU).symm (BITS_01 U) w (fun w => row_ok U hU w)
end Go.Proofs.Ytlklnljgmkagoaa
