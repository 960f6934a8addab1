/- What the document's Sar gives, and num.Sar. -/
import Derived.Test.YtlklnljgmkagoaaNumRefShifts
import Derived.Test.YtlklnljgmkagoaaNumSignedCalls
namespace Go.Proofs.Ytlklnljgmkagoaa
open Go.RowKit

/-- x times 2^-n, rounded down, as a number of 64 bits with a sign. -/
def SAR (x n : Int) : Int := if n < 0 then wrap64 (x * 2 ^ (-n).toNat) else x / 2 ^ n.toNat

theorem sar_raw (x n : Int) (w : World) : Calls Try.prog 12 #[.int .i64 x, .int .i64 n] w fun e w' => e = .returned (.int .i64 (if n < 0 then wrap64 (x * 2 ^ min (IntKind.u64.wrap (-IntKind.u64.wrap n)).toNat 64) else x / 2 ^ min (IntKind.u64.wrap n).toNat 64)) ∧ w = w' := by
  by_cases h : n < 0
  · rw [if_pos h]
    go_enter Try.func12, Try.ntmps12
    go_wp2
    go_ret
    exact ⟨rfl, rfl⟩
  · rw [if_neg h]
    go_enter Try.func12, Try.ntmps12
    go_wp2
    go_ret
    exact ⟨rfl, rfl⟩
theorem sdiv_big {x : Int} (h0 : -(2 ^ 63) ≤ x) (h1 : x < 2 ^ 63) {k : Nat} (h : 63 ≤ k) : x / 2 ^ k = if x < 0 then -1 else 0 := by
  have hp : (2 : Int) ^ 63 ≤ 2 ^ k := by
    have := Nat.pow_le_pow_right (n := 2) (by decide) h
    exact_mod_cast this
  generalize (2 : Int) ^ k = p at hp
  split
  · rw [Int.ediv_eq_iff_of_pos (by omega)]
    omega
  · exact Int.ediv_eq_zero_of_lt (by omega) (by omega)
theorem mul_mod_min (x : Int) (k : Nat) : x * 2 ^ min k 64 % 2 ^ 64 = x * 2 ^ k % 2 ^ 64 := by
  by_cases h : k ≤ 64
  · rw [Nat.min_eq_left h]
  · rw [Nat.min_eq_right (by omega), show k = 64 + (k - 64) by omega, Int.pow_add, Int.mul_emod_left, ← Int.mul_assoc, Int.mul_right_comm, Int.mul_emod_left]
theorem sar_ok (x n : Int) (hx0 : -(2 ^ 63) ≤ x) (hx1 : x < 2 ^ 63) (h0 : -(2 ^ 63) ≤ n) (h1 : n < 2 ^ 63) (w : World) : Calls Try.prog 12 #[.int .i64 x, .int .i64 n] w fun e w' => e = .returned (.int .i64 (SAR x n)) ∧ w = w' := by
  have h := sar_raw x n w
  have e : (if n < 0 then wrap64 (x * 2 ^ min (IntKind.u64.wrap (-IntKind.u64.wrap n)).toNat 64) else x / 2 ^ min (IntKind.u64.wrap n).toNat 64) = SAR x n := by
    unfold SAR
    split
    · rename_i hn
      rw [against_eq n h0 hn]
      have := mul_mod_min x (-n).toNat
      generalize x * 2 ^ min (-n).toNat 64 = a at *
      generalize x * 2 ^ (-n).toNat = b at *
      unfold wrap64
      omega
    · rename_i hn
      rw [up_eq n h1 hn]
      by_cases hk : n.toNat ≤ 64
      · rw [Nat.min_eq_left hk]
      · rw [Nat.min_eq_right (by omega), sdiv_big hx0 hx1 (by omega), sdiv_big hx0 hx1 (by omega)]
  rw [e] at h
  exact h

theorem bit_TWO (y : Int) {i : Nat} (hi : i < 64) : (TWO y).testBit i = decide (y / 2 ^ i % 2 = 1) := by
  rw [Nat.testBit_eq_decide_div_mod_eq]
  apply decide_eq_decide.2
  have ht : ((TWO y : Nat) : Int) = y % 2 ^ 64 := by unfold TWO; omega
  have hq : y = ((TWO y : Nat) : Int) + 2 ^ i * (2 ^ (64 - i) * (y / 2 ^ 64)) := by
    rw [← Int.mul_assoc, ← Int.pow_add, show i + (64 - i) = 64 by omega, ht]
    omega
  have hp : (2 : Int) ^ (64 - i) = 2 * 2 ^ (63 - i) := by rw [show 64 - i = (63 - i) + 1 by omega, Int.pow_succ, Int.mul_comm]
  have hd : y / 2 ^ i = ((TWO y / 2 ^ i : Nat) : Int) + 2 ^ (64 - i) * (y / 2 ^ 64) := by
    have hne : (2 : Int) ^ i ≠ 0 := Int.pow_ne_zero (by decide)
    conv => lhs; rw [hq]
    rw [Int.add_mul_ediv_left _ _ hne]
    simp
  rw [hd, hp, Int.mul_assoc]
  generalize 2 ^ (63 - i) * (y / 2 ^ 64) = z
  omega
theorem bit_TWO_div {x : Int} (h0 : -(2 ^ 63) ≤ x) (h1 : x < 2 ^ 63) (n : Nat) {i : Nat} (hi : i < 64) : (TWO (x / 2 ^ n)).testBit i = if i + n < 64 then (TWO x).testBit (i + n) else (TWO x).testBit 63 := by
  have hd : x / 2 ^ n / 2 ^ i = x / 2 ^ (i + n) := by
    rw [Int.ediv_ediv_of_nonneg (Int.pow_nonneg (by decide)), ← Int.pow_add, Nat.add_comm]
  rw [bit_TWO _ hi, hd]
  split
  · rename_i h
    rw [bit_TWO _ h]
  · rw [bit_TWO _ (by decide), sdiv_big h0 h1 (by omega), sdiv_big h0 h1 (by decide)]
theorem TWO_mul (x : Int) (m : Nat) : TWO (wrap64 (x * 2 ^ m)) = TWO x * 2 ^ m % 2 ^ 64 := by
  have h1 : ((TWO x : Nat) : Int) = x % 2 ^ 64 := by unfold TWO; omega
  have h2 : ((TWO x * 2 ^ m % 2 ^ 64 : Nat) : Int) = x * 2 ^ m % 2 ^ 64 := by
    rw [Int.natCast_emod, Int.natCast_mul, h1]
    simp [Int.mul_emod]
  have h3 : ((TWO (wrap64 (x * 2 ^ m)) : Nat) : Int) = x * 2 ^ m % 2 ^ 64 := by
    generalize x * 2 ^ m = y
    unfold TWO wrap64
    omega
  omega

/-- the bits, moved down by k, the highest one kept. -/
def SARF (f : Nat → Int) (k : Int) : Nat → Int := fun i => if 63 < (i : Int) + k then f 63 else if 0 ≤ (i : Int) + k then f ((i : Int) + k).toNat else 0
theorem SARF_01 {f : Nat → Int} (hf : Bit01 f) (k : Int) : Bit01 (SARF f k) := fun i _ => by
  unfold SARF
  split
  · exact hf _ (by omega)
  · split
    · exact hf _ (by omega)
    · exact Or.inl rfl
theorem NUM_SARF {x : Int} (h0 : -(2 ^ 63) ≤ x) (h1 : x < 2 ^ 63) (n : Int) : NUM (SARF (BITS (TWO x)) (NEAR n)) = TWO (SAR x n) := by
  refine eq_of_bits (NUM_lt (SARF_01 (BITS_01 _) _)) (TWO_lt _) fun i hi => ?_
  rw [bit_NUM (SARF_01 (BITS_01 _) _) hi]
  have hk : NEAR n = if 64 < n then 64 else if n < -64 then -64 else n := rfl
  unfold SARF SAR
  by_cases hn : n < 0
  · rw [if_pos hn, TWO_mul, ← Nat.shiftLeft_eq, Nat.testBit_mod_two_pow, Nat.testBit_shiftLeft]
    rw [if_neg (by omega)] at hk
    by_cases h2 : n < -64
    · rw [if_pos h2] at hk
      rw [hk, if_neg (by omega), if_neg (by omega)]
      have h3 : ¬ (-n).toNat ≤ i := by omega
      simp [h3]
    · rw [if_neg h2] at hk
      rw [hk, if_neg (by omega)]
      by_cases h4 : 0 ≤ (i : Int) + n
      · have h5 : (-n).toNat ≤ i := by omega
        rw [if_pos h4, bit_BITS, show ((i : Int) + n).toNat = i - (-n).toNat by omega]
        simp [hi, h5]
      · have h5 : ¬ (-n).toNat ≤ i := by omega
        rw [if_neg h4]
        simp [h5]
  · rw [if_neg hn, bit_TWO_div h0 h1 _ hi]
    by_cases h2 : 64 < n
    · rw [if_pos h2] at hk
      rw [hk, if_pos (by omega), if_neg (by omega), bit_BITS]
    · rw [if_neg h2, if_neg (by omega)] at hk
      rw [hk]
      by_cases h3 : 63 < (i : Int) + n
      · rw [if_pos h3, if_neg (by omega), bit_BITS]
      · rw [if_neg h3, if_pos (by omega), if_pos (by omega), bit_BITS, show ((i : Int) + n).toNat = i + n.toNat by omega]
theorem SAR_range {x : Int} (h0 : -(2 ^ 63) ≤ x) (h1 : x < 2 ^ 63) (n : Int) : -(2 ^ 63) ≤ SAR x n ∧ SAR x n < 2 ^ 63 := by
  unfold SAR
  split
  · generalize x * 2 ^ (-n).toNat = y
    unfold wrap64
    omega
  · have hp : (0 : Int) < 2 ^ n.toNat := Int.pow_pos (by decide)
    have a := Int.mul_ediv_self_le (x := x) (Int.ne_of_gt hp)
    have b := Int.lt_mul_ediv_self_add (x := x) hp
    constructor
    · by_cases hx : 0 ≤ x
      · have := Int.ediv_nonneg hx (Int.le_of_lt hp)
        omega
      · have : x ≤ x / 2 ^ n.toNat := by
          rw [Int.le_ediv_iff_mul_le hp]
          have : x * 2 ^ n.toNat ≤ x * 1 := Int.mul_le_mul_of_nonpos_left (by omega) (by omega)
          omega
        omega
    · by_cases hx : 0 ≤ x
      · have := Int.ediv_le_self (2 ^ n.toNat) hx
        omega
      · have := Int.ediv_neg_of_neg_of_pos (by omega : x < 0) hp
        omega
theorem refsar_ok (x n : Int) (hx0 : -(2 ^ 63) ≤ x) (hx1 : x < 2 ^ 63) (w : World) : Calls Try.prog 13 #[.int .i64 x, .int .i64 n] w fun e w' => e = .returned (.int .i64 (SAR x n)) ∧ Fine w w' := by
  have hz := ARR_zero
  have hk := NEAR_le n
  have cn := near_ok n
  have hp := plain_ok x hx0 hx1
  have hr := row_ok (TWO x) (TWO_lt x)
  have hN := number_ok (SARF (BITS (TWO x)) (NEAR n)) (SARF_01 (BITS_01 _) _)
  rw [NUM_SARF hx0 hx1] at hN
  have hS := signed_ok (TWO (SAR x n)) (TWO_lt _)
  rw [SGN_TWO (SAR_range hx0 hx1 n).1 (SAR_range hx0 hx1 n).2] at hS
  generalize SAR x n = s at hN hS
  generalize TWO s = u at hN hS
  generalize NEAR n = k at hk cn hN
  have hk0 := hk.1
  have hk1 := hk.2
  clear hk hx0 hx1
  generalize BITS (TWO x) = r at hr hN
  generalize TWO x = t at hp hr
  go_enter Try.func13, Try.ntmps13
  go_wp2_with fail
  refine (hp _).mono ?_
  rintro e w0 ⟨rfl, rfl⟩
  go_wp2_with fail
  refine (hr _).mono ?_
  rintro e w1 ⟨rfl, hF⟩
  have HF : Aside (Fine w w1) := hF
  clear hF
  go_wp2_with (refine wpList_store_row rfl 49 _ _ rfl _ _ rfl rfl _ _ (heap_one w1 _) (info_ARR _) (by rw [ARR_size, ARR_size]) (ARR_one _) ?_; rw [World.setRow_alloc_new])
  refine (cn _).mono ?_
  rintro e w2 ⟨rfl, rfl⟩
  go_wp2
  go_loopg [8] 64 (fun g s8 wx => ∃ (i : Nat) (f : Nat → Int), i + g = 64 ∧ Aside (∀ j, f j = if j < i then SARF r k j else 0) ∧ s8 = .int .i64 i ∧
    wx = (w1.alloc (.cells (ARR r) 49)).alloc (.cells (ARR f) 49))
  case atStart => exact ⟨0, fun _ => 0, by omega, fun j => by simp, rfl, rfl⟩
  case round =>
    obtain ⟨i, f, hig, A, rfl, rfl⟩ := hrel
    cases gk with
    | zero =>
      obtain rfl : i = 64 := by omega
      have hf : ARR f = ARR (SARF r k) := ARR_ext fun j hj => by rw [A.out j, if_pos hj]
      rw [hf]
      clear hf A
      go_wp2_with (refine wpList_load_row rfl 49 _ rfl _ rfl _ _ (0, 0) _ (heap_two' w1 _ _) Try.underlying49 rfl (info_ARR _) ?_)
      refine (hN _).mono ?_
      rintro e w3 ⟨rfl, hF3⟩
      have HF3 : Aside (Fine ((w1.alloc (.cells (ARR r) 49)).alloc (.cells (ARR (SARF r k)) 49)) w3) := hF3
      clear hF3
      go_wp2_with fail
      refine (hS _).mono ?_
      rintro e w4 ⟨rfl, hF4⟩
      go_wp2
      go_ret
      exact ⟨rfl, HF.out.trans ((((Fine.refl _).alloc _ _).alloc _ _).trans (HF3.out.trans hF4))⟩
    | succ g =>
      have hi : (i : Int) < 64 := by omega
      have hc : (ARR f)[i]? = some (.int .i64 (f i)) := ARR_get f i (by omega)
      have hs : ∀ v, (ARR f).setIfInBounds i (.int .i64 v) = ARR (fun j => if j = i then v else f j) := fun v => ARR_set f i v
      have hc63 : (ARR r)[63]? = some (.int .i64 (r 63)) := ARR_get r 63 (by omega)
      by_cases h0 : 63 < (i : Int) + k
      · go_wp2
        go_roundg g
        case measure => omega
        case rel => exact ⟨i + 1, _, by omega, fill_put A.out (by unfold SARF; rw [if_pos h0]), by go_num, rfl⟩
      · by_cases h1 : 0 ≤ (i : Int) + k
        · have hcr : (ARR r)[((i : Int) + k).toNat]? = some (.int .i64 (r ((i : Int) + k).toNat)) := ARR_get r _ (by omega)
          have h2 : (i : Int) + k < 64 := by omega
          go_wp2
          go_roundg g
          case measure => omega
          case rel => exact ⟨i + 1, _, by omega, fill_put A.out (by unfold SARF; rw [if_neg (by omega), if_pos h1]), by go_num, rfl⟩
        · go_wp2
          go_roundg g
          case measure => omega
          case rel => exact ⟨i + 1, f, by omega, fill_keep A.out (by unfold SARF; rw [if_neg (by omega), if_neg (by omega)]), by go_num, rfl⟩
end Go.Proofs.Ytlklnljgmkagoaa
