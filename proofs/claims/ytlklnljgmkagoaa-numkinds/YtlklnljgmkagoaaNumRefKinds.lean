/- What the document's Kind, Narrow and Fits give. -/
import Derived.Test.YtlklnljgmkagoaaNumKindCalls
import Derived.Test.YtlklnljgmkagoaaNumSignedCalls
namespace Go.Proofs.Ytlklnljgmkagoaa
open Go.RowKit

theorem kind_ok1 (w : World) : Calls Try.prog 46 #[.int .i64 1] w fun e w' => e = .returned (.tuple #[.int .i64 8, .bool true, .bool true]) ∧ w = w' := by
  go_enter Try.func46, Try.ntmps46
  go_wp2
  go_ret3
  exact ⟨rfl, rfl⟩
theorem kind_ok2 (w : World) : Calls Try.prog 46 #[.int .i64 2] w fun e w' => e = .returned (.tuple #[.int .i64 16, .bool true, .bool true]) ∧ w = w' := by
  go_enter Try.func46, Try.ntmps46
  go_wp2
  go_ret3
  exact ⟨rfl, rfl⟩
theorem kind_ok3 (w : World) : Calls Try.prog 46 #[.int .i64 3] w fun e w' => e = .returned (.tuple #[.int .i64 32, .bool true, .bool true]) ∧ w = w' := by
  go_enter Try.func46, Try.ntmps46
  go_wp2
  go_ret3
  exact ⟨rfl, rfl⟩
theorem kind_ok4 (w : World) : Calls Try.prog 46 #[.int .i64 4] w fun e w' => e = .returned (.tuple #[.int .i64 64, .bool true, .bool true]) ∧ w = w' := by
  go_enter Try.func46, Try.ntmps46
  go_wp2
  go_ret3
  exact ⟨rfl, rfl⟩
theorem kind_ok5 (w : World) : Calls Try.prog 46 #[.int .i64 5] w fun e w' => e = .returned (.tuple #[.int .i64 8, .bool false, .bool true]) ∧ w = w' := by
  go_enter Try.func46, Try.ntmps46
  go_wp2
  go_ret3
  exact ⟨rfl, rfl⟩
theorem kind_ok6 (w : World) : Calls Try.prog 46 #[.int .i64 6] w fun e w' => e = .returned (.tuple #[.int .i64 16, .bool false, .bool true]) ∧ w = w' := by
  go_enter Try.func46, Try.ntmps46
  go_wp2
  go_ret3
  exact ⟨rfl, rfl⟩
theorem kind_ok7 (w : World) : Calls Try.prog 46 #[.int .i64 7] w fun e w' => e = .returned (.tuple #[.int .i64 32, .bool false, .bool true]) ∧ w = w' := by
  go_enter Try.func46, Try.ntmps46
  go_wp2
  go_ret3
  exact ⟨rfl, rfl⟩
theorem kind_none (kind : Int) (h : kind < 1 ∨ 7 < kind) (w : World) : Calls Try.prog 46 #[.int .i64 kind] w fun e w' => e = .returned (.tuple #[.int .i64 0, .bool false, .bool false]) ∧ w = w' := by
  have h1 : (kind == 1) = false := by simp; omega
  have h2 : (kind == 2) = false := by simp; omega
  have h3 : (kind == 3) = false := by simp; omega
  have h4 : (kind == 4) = false := by simp; omega
  have h5 : (kind == 5) = false := by simp; omega
  have h6 : (kind == 6) = false := by simp; omega
  have h7 : (kind == 7) = false := by simp; omega
  clear h
  go_enter Try.func46, Try.ntmps46
  go_wp2
  go_ret3
  exact ⟨rfl, rfl⟩
theorem refnarrow_none (x kind : Int) (h : kind < 1 ∨ 7 < kind) (w : World) : Calls Try.prog 16 #[.int .i64 x, .int .i64 kind] w fun e w' => e = .returned (.tuple #[.int .i64 0, .int .i64 1]) ∧ Fine w w' := by
  have c := kind_none kind h
  clear h
  go_enter Try.func16, Try.ntmps16
  go_wp2_with fail
  refine (c _).mono ?_
  rintro e w' ⟨rfl, rfl⟩
  go_wp2
  go_ret2
  exact ⟨rfl, Fine.refl _⟩

/-- the bits up to b, and above them the highest of these, or 0. -/
def KINDF (f : Nat → Int) (b : Nat) (s : Bool) : Nat → Int := fun i => if i < b then f i else if s then f (b - 1) else 0
theorem KINDF_01 {f : Nat → Int} (hf : Bit01 f) {b : Nat} (hb : 0 < b) (s : Bool) (hb2 : b ≤ 64) : Bit01 (KINDF f b s) := fun i hi => by
  unfold KINDF
  split
  · exact hf _ hi
  · split
    · exact hf _ (by omega)
    · exact Or.inl rfl
theorem kind_step {r f f1 : Nat → Int} {b i p : Nat} (A : ∀ j, f j = if j < i then KINDF r b true j else r j) (hf1 : f1 = fun j => if j = i then 0 else f j) (hp : p + 1 = b) (hbi : b ≤ i) :
    ∀ j, (if j = i then f1 p else f1 j) = if j < i + 1 then KINDF r b true j else r j := fun j => by
  have hpi : f1 p = r p := by
    rw [hf1]
    simp only [show ¬ p = i by omega, if_false]
    rw [A p, if_pos (by omega)]
    unfold KINDF
    rw [if_pos (by omega)]
  by_cases e : j = i
  · subst e
    rw [if_pos rfl, if_pos (by omega), hpi]
    unfold KINDF
    rw [if_neg (by omega), if_pos rfl]
    congr 1
    omega
  · rw [if_neg e, hf1]
    simp only [e, if_false]
    rw [A j]
    by_cases e2 : j < i
    · rw [if_pos e2, if_pos (by omega)]
    · rw [if_neg e2, if_neg (by omega)]
theorem refnarrow_raw_true (x kind : Int) (b t u : Nat) (r : Nat → Int) (v : Int) (w : World) (hb0 : 0 < (b : Int)) (hb1 : (b : Int) ≤ 64)
    (ck : ∀ w, Calls Try.prog 46 #[.int .i64 kind] w fun e w' => e = .returned (.tuple #[.int .i64 (b : Int), .bool true, .bool true]) ∧ w = w')
    (hp : ∀ w, Calls Try.prog 44 #[.int .i64 x] w fun e w' => e = .returned (.int .u64 (t : Int)) ∧ w = w')
    (hr : ∀ w, Calls Try.prog 41 #[.int .u64 (t : Int)] w fun e w' => e = .returned (.agg (ARR r)) ∧ Fine w w')
    (hN : ∀ w, Calls Try.prog 43 #[.agg (ARR (KINDF r b true))] w fun e w' => e = .returned (.int .u64 (u : Int)) ∧ Fine w w')
    (hS : ∀ w, Calls Try.prog 45 #[.int .u64 (u : Int)] w fun e w' => e = .returned (.int .i64 v) ∧ Fine w w') :
    Calls Try.prog 16 #[.int .i64 x, .int .i64 kind] w fun e w' => e = .returned (.tuple #[.int .i64 v, .int .i64 0]) ∧ Fine w w' := by
  have hz := ARR_zero
  go_enter Try.func16, Try.ntmps16
  go_wp2_with fail
  refine (ck _).mono ?_
  rintro e w' ⟨rfl, rfl⟩
  go_wp2_with fail
  refine (hp _).mono ?_
  rintro e w' ⟨rfl, rfl⟩
  go_wp2_with fail
  refine (hr _).mono ?_
  rintro e w1 ⟨rfl, hF1⟩
  have HF1 : Aside (Fine w w1) := hF1
  clear hF1
  go_wp2_with (refine wpList_store_row rfl 49 _ _ rfl _ _ rfl rfl _ _ (heap_one w1 _) (info_ARR _) (by rw [ARR_size, ARR_size]) (ARR_one _) ?_; rw [World.setRow_alloc_new])
  go_loopg [10] (64 - b) (fun g s10 wx => ∃ (i : Nat) (f : Nat → Int), i + g = 64 ∧ b ≤ i ∧ Aside (∀ j, f j = if j < i then KINDF r b true j else r j) ∧ s10 = .int .i64 i ∧
    wx = w1.alloc (.cells (ARR f) 49))
  case atStart => exact ⟨b, r, by omega, by omega, fun j => by unfold KINDF; by_cases h : j < b <;> simp [h], rfl, rfl⟩
  case round =>
    obtain ⟨i, f, hig, hbi, A, rfl, rfl⟩ := hrel
    cases gk with
    | zero =>
      obtain rfl : i = 64 := by omega
      have hf : ARR f = ARR (KINDF r b true) := ARR_ext fun j hj => by rw [A.out j, if_pos hj]
      rw [hf]
      clear hf A
      go_wp2_with (refine wpList_load_row rfl 49 _ rfl _ rfl _ _ (0, 0) _ (heap_one w1 _) Try.underlying49 rfl (info_ARR _) ?_)
      refine (hN _).mono ?_
      rintro e w3 ⟨rfl, hF3⟩
      have HF3 : Aside (Fine (w1.alloc (.cells (ARR (KINDF r b true)) 49)) w3) := hF3
      clear hF3
      go_wp2_with fail
      refine (hS _).mono ?_
      rintro e w4 ⟨rfl, hF4⟩
      go_wp2
      go_ret2
      exact ⟨rfl, HF1.out.trans (((Fine.refl _).alloc _ _).trans (HF3.out.trans hF4))⟩
    | succ g =>
      have hi : (i : Int) < 64 := by omega
      have hc : (ARR f)[i]? = some (.int .i64 (f i)) := ARR_get f i (by omega)
      have hs : ∀ v, (ARR f).setIfInBounds i (.int .i64 v) = ARR (fun j => if j = i then v else f j) := fun v => ARR_set f i v
      obtain ⟨p, hp0⟩ : ∃ p : Nat, p + 1 = b := ⟨b - 1, by omega⟩
      have e1 : (b : Int) - 1 = (p : Int) := by omega
      have hp64 : (p : Int) < 64 := by omega
      have hpi : p < i := by omega
      obtain ⟨f1, hf1⟩ : ∃ f1 : Nat → Int, f1 = fun j => if j = i then 0 else f j := ⟨_, rfl⟩
      have hs1 : (ARR f).setIfInBounds i (.int .i64 0) = ARR f1 := by rw [hf1]; exact ARR_set f i 0
      have Hs : Aside (f1 = fun j => if j = i then 0 else f j) := hf1
      clear hf1 hs
      have hc1 : (ARR f1)[i]? = some (.int .i64 (f1 i)) := ARR_get f1 i (by omega)
      have hcp : (ARR f1)[p]? = some (.int .i64 (f1 p)) := ARR_get f1 p (by omega)
      have hs2 : ∀ v, (ARR f1).setIfInBounds i (.int .i64 v) = ARR (fun j => if j = i then v else f1 j) := fun v => ARR_set f1 i v
      have Hpb : Aside (p + 1 = b) := hp0
      clear hp0
      go_wp2
      go_roundg g
      case measure => omega
      case rel =>
        exact ⟨i + 1, _, by omega, by omega, kind_step A.out Hs.out Hpb.out (by omega), by go_num, rfl⟩

theorem refnarrow_raw_false (x kind : Int) (b t u : Nat) (r : Nat → Int) (v : Int) (w : World) (hb0 : 0 < (b : Int)) (hb1 : (b : Int) ≤ 64)
    (ck : ∀ w, Calls Try.prog 46 #[.int .i64 kind] w fun e w' => e = .returned (.tuple #[.int .i64 (b : Int), .bool false, .bool true]) ∧ w = w')
    (hp : ∀ w, Calls Try.prog 44 #[.int .i64 x] w fun e w' => e = .returned (.int .u64 (t : Int)) ∧ w = w')
    (hr : ∀ w, Calls Try.prog 41 #[.int .u64 (t : Int)] w fun e w' => e = .returned (.agg (ARR r)) ∧ Fine w w')
    (hN : ∀ w, Calls Try.prog 43 #[.agg (ARR (KINDF r b false))] w fun e w' => e = .returned (.int .u64 (u : Int)) ∧ Fine w w')
    (hS : ∀ w, Calls Try.prog 45 #[.int .u64 (u : Int)] w fun e w' => e = .returned (.int .i64 v) ∧ Fine w w') :
    Calls Try.prog 16 #[.int .i64 x, .int .i64 kind] w fun e w' => e = .returned (.tuple #[.int .i64 v, .int .i64 0]) ∧ Fine w w' := by
  have hz := ARR_zero
  go_enter Try.func16, Try.ntmps16
  go_wp2_with fail
  refine (ck _).mono ?_
  rintro e w' ⟨rfl, rfl⟩
  go_wp2_with fail
  refine (hp _).mono ?_
  rintro e w' ⟨rfl, rfl⟩
  go_wp2_with fail
  refine (hr _).mono ?_
  rintro e w1 ⟨rfl, hF1⟩
  have HF1 : Aside (Fine w w1) := hF1
  clear hF1
  go_wp2_with (refine wpList_store_row rfl 49 _ _ rfl _ _ rfl rfl _ _ (heap_one w1 _) (info_ARR _) (by rw [ARR_size, ARR_size]) (ARR_one _) ?_; rw [World.setRow_alloc_new])
  go_loopg [10] (64 - b) (fun g s10 wx => ∃ (i : Nat) (f : Nat → Int), i + g = 64 ∧ b ≤ i ∧ Aside (∀ j, f j = if j < i then KINDF r b false j else r j) ∧ s10 = .int .i64 i ∧
    wx = w1.alloc (.cells (ARR f) 49))
  case atStart => exact ⟨b, r, by omega, by omega, fun j => by unfold KINDF; by_cases h : j < b <;> simp [h], rfl, rfl⟩
  case round =>
    obtain ⟨i, f, hig, hbi, A, rfl, rfl⟩ := hrel
    cases gk with
    | zero =>
      obtain rfl : i = 64 := by omega
      have hf : ARR f = ARR (KINDF r b false) := ARR_ext fun j hj => by rw [A.out j, if_pos hj]
      rw [hf]
      clear hf A
      go_wp2_with (refine wpList_load_row rfl 49 _ rfl _ rfl _ _ (0, 0) _ (heap_one w1 _) Try.underlying49 rfl (info_ARR _) ?_)
      refine (hN _).mono ?_
      rintro e w3 ⟨rfl, hF3⟩
      have HF3 : Aside (Fine (w1.alloc (.cells (ARR (KINDF r b false)) 49)) w3) := hF3
      clear hF3
      go_wp2_with fail
      refine (hS _).mono ?_
      rintro e w4 ⟨rfl, hF4⟩
      go_wp2
      go_ret2
      exact ⟨rfl, HF1.out.trans (((Fine.refl _).alloc _ _).trans (HF3.out.trans hF4))⟩
    | succ g =>
      have hi : (i : Int) < 64 := by omega
      have hc : (ARR f)[i]? = some (.int .i64 (f i)) := ARR_get f i (by omega)
      have hs : ∀ v, (ARR f).setIfInBounds i (.int .i64 v) = ARR (fun j => if j = i then v else f j) := fun v => ARR_set f i v
      go_wp2
      go_roundg g
      case measure => omega
      case rel =>
        refine ⟨i + 1, _, by omega, by omega, fun j => ?_, by go_num, rfl⟩
        by_cases e : j = i
        · subst e
          rw [if_pos rfl, if_pos (by omega)]
          unfold KINDF
          rw [if_neg (by omega), if_neg (by decide)]
        · rw [if_neg e, A.out j]
          by_cases e2 : j < i
          · rw [if_pos e2, if_pos (by omega)]
          · rw [if_neg e2, if_neg (by omega)]

theorem NUM_KINDF_lt {U b : Nat} (hb0 : 0 < b) (hb1 : b ≤ 64) (s : Bool) : NUM (KINDF (BITS U) b s) < 2 ^ 64 := NUM_lt (KINDF_01 (BITS_01 U) hb0 s hb1)
theorem NUM_KINDF_false {U b : Nat} (hb0 : 0 < b) (hb1 : b ≤ 64) : NUM (KINDF (BITS U) b false) = U % 2 ^ b := by
  have hl : U % 2 ^ b < 2 ^ 64 := Nat.lt_of_lt_of_le (Nat.mod_lt _ (Nat.two_pow_pos _)) (Nat.pow_le_pow_right (by decide) hb1)
  refine eq_of_bits (NUM_KINDF_lt hb0 hb1 false) hl fun i hi => ?_
  rw [bit_NUM (KINDF_01 (BITS_01 U) hb0 false hb1) hi, Nat.testBit_mod_two_pow]
  unfold KINDF
  by_cases h : i < b
  · rw [if_pos h, bit_BITS]
    simp [h]
  · rw [if_neg h, if_neg (by decide)]
    simp [h]
theorem NUM_KINDF_true {U b : Nat} (hb0 : 0 < b) (hb1 : b ≤ 64) : NUM (KINDF (BITS U) b true) = if U / 2 ^ (b - 1) % 2 = 1 then U % 2 ^ b + (2 ^ 64 - 2 ^ b) else U % 2 ^ b := by
  have hp : 2 ^ b ≤ 2 ^ 64 := Nat.pow_le_pow_right (by decide) hb1
  have hm : U % 2 ^ b < 2 ^ b := Nat.mod_lt _ (Nat.two_pow_pos _)
  have hbit : U.testBit (b - 1) = decide (U / 2 ^ (b - 1) % 2 = 1) := Nat.testBit_eq_decide_div_mod_eq
  by_cases h : U / 2 ^ (b - 1) % 2 = 1
  · rw [if_pos h]
    refine eq_of_bits (NUM_KINDF_lt hb0 hb1 true) (by omega) fun i hi => ?_
    have e : U % 2 ^ b + (2 ^ 64 - 2 ^ b) = 2 ^ b * (2 ^ (64 - b) - 1) + U % 2 ^ b := by
      rw [Nat.mul_sub, ← Nat.pow_add, show b + (64 - b) = 64 by omega]
      omega
    rw [bit_NUM (KINDF_01 (BITS_01 U) hb0 true hb1) hi, e, Nat.testBit_two_pow_mul_add _ hm, Nat.testBit_mod_two_pow, Nat.testBit_two_pow_sub_one]
    unfold KINDF
    by_cases h2 : i < b
    · rw [if_pos h2, bit_BITS]
      simp [h2]
    · rw [if_neg h2, if_pos rfl, bit_BITS, hbit]
      simp only [h, h2, if_false, decide_true]
      have : i - b < 64 - b := by omega
      simp [this]
  · rw [if_neg h]
    refine eq_of_bits (NUM_KINDF_lt hb0 hb1 true) (by omega) fun i hi => ?_
    rw [bit_NUM (KINDF_01 (BITS_01 U) hb0 true hb1) hi, Nat.testBit_mod_two_pow]
    unfold KINDF
    by_cases h2 : i < b
    · rw [if_pos h2, bit_BITS]
      simp [h2]
    · rw [if_neg h2, if_pos rfl, bit_BITS, hbit]
      simp [h, h2]
theorem refnarrow_ok1 (x : Int) (h0 : -(2 ^ 63) ≤ x) (h1 : x < 2 ^ 63) (w : World) : Calls Try.prog 16 #[.int .i64 x, .int .i64 1] w fun e w' => e = .returned (.tuple #[.int .i64 (NARROW x 1), .int .i64 0]) ∧ Fine w w' := by
  have hv : SGN (NUM (KINDF (BITS (TWO x)) 8 true)) = NARROW x 1 := by
    rw [NUM_KINDF_true (by decide) (by decide)]
    show SGN (if TWO x / 2 ^ 7 % 2 = 1 then TWO x % 2 ^ 8 + (2 ^ 64 - 2 ^ 8) else TWO x % 2 ^ 8) = (x + 128) % 256 - 128
    unfold SGN TWO
    split <;> split <;> omega
  refine refnarrow_raw_true x 1 8 (TWO x) (NUM (KINDF (BITS (TWO x)) 8 true)) (BITS (TWO x)) _ w (by decide) (by decide) kind_ok1 (fun w => plain_ok x h0 h1 w) (fun w => row_ok _ (TWO_lt x) w) (fun w => number_ok _ (KINDF_01 (BITS_01 _) (by decide) _ (by decide)) w) (fun w => ?_)
  have k := signed_ok (NUM (KINDF (BITS (TWO x)) 8 true)) (NUM_KINDF_lt (by decide) (by decide) _) w
  rw [hv] at k
  exact k
theorem refnarrow_ok2 (x : Int) (h0 : -(2 ^ 63) ≤ x) (h1 : x < 2 ^ 63) (w : World) : Calls Try.prog 16 #[.int .i64 x, .int .i64 2] w fun e w' => e = .returned (.tuple #[.int .i64 (NARROW x 2), .int .i64 0]) ∧ Fine w w' := by
  have hv : SGN (NUM (KINDF (BITS (TWO x)) 16 true)) = NARROW x 2 := by
    rw [NUM_KINDF_true (by decide) (by decide)]
    show SGN (if TWO x / 2 ^ 15 % 2 = 1 then TWO x % 2 ^ 16 + (2 ^ 64 - 2 ^ 16) else TWO x % 2 ^ 16) = (x + 32768) % 65536 - 32768
    unfold SGN TWO
    split <;> split <;> omega
  refine refnarrow_raw_true x 2 16 (TWO x) (NUM (KINDF (BITS (TWO x)) 16 true)) (BITS (TWO x)) _ w (by decide) (by decide) kind_ok2 (fun w => plain_ok x h0 h1 w) (fun w => row_ok _ (TWO_lt x) w) (fun w => number_ok _ (KINDF_01 (BITS_01 _) (by decide) _ (by decide)) w) (fun w => ?_)
  have k := signed_ok (NUM (KINDF (BITS (TWO x)) 16 true)) (NUM_KINDF_lt (by decide) (by decide) _) w
  rw [hv] at k
  exact k
theorem refnarrow_ok3 (x : Int) (h0 : -(2 ^ 63) ≤ x) (h1 : x < 2 ^ 63) (w : World) : Calls Try.prog 16 #[.int .i64 x, .int .i64 3] w fun e w' => e = .returned (.tuple #[.int .i64 (NARROW x 3), .int .i64 0]) ∧ Fine w w' := by
  have hv : SGN (NUM (KINDF (BITS (TWO x)) 32 true)) = NARROW x 3 := by
    rw [NUM_KINDF_true (by decide) (by decide)]
    show SGN (if TWO x / 2 ^ 31 % 2 = 1 then TWO x % 2 ^ 32 + (2 ^ 64 - 2 ^ 32) else TWO x % 2 ^ 32) = (x + 2147483648) % 4294967296 - 2147483648
    unfold SGN TWO
    split <;> split <;> omega
  refine refnarrow_raw_true x 3 32 (TWO x) (NUM (KINDF (BITS (TWO x)) 32 true)) (BITS (TWO x)) _ w (by decide) (by decide) kind_ok3 (fun w => plain_ok x h0 h1 w) (fun w => row_ok _ (TWO_lt x) w) (fun w => number_ok _ (KINDF_01 (BITS_01 _) (by decide) _ (by decide)) w) (fun w => ?_)
  have k := signed_ok (NUM (KINDF (BITS (TWO x)) 32 true)) (NUM_KINDF_lt (by decide) (by decide) _) w
  rw [hv] at k
  exact k
theorem refnarrow_ok4 (x : Int) (h0 : -(2 ^ 63) ≤ x) (h1 : x < 2 ^ 63) (w : World) : Calls Try.prog 16 #[.int .i64 x, .int .i64 4] w fun e w' => e = .returned (.tuple #[.int .i64 (NARROW x 4), .int .i64 0]) ∧ Fine w w' := by
  have hv : SGN (NUM (KINDF (BITS (TWO x)) 64 true)) = NARROW x 4 := by
    rw [NUM_KINDF_true (by decide) (by decide)]
    show SGN (if TWO x / 2 ^ 63 % 2 = 1 then TWO x % 2 ^ 64 + (2 ^ 64 - 2 ^ 64) else TWO x % 2 ^ 64) = x
    unfold SGN TWO
    split <;> split <;> omega
  refine refnarrow_raw_true x 4 64 (TWO x) (NUM (KINDF (BITS (TWO x)) 64 true)) (BITS (TWO x)) _ w (by decide) (by decide) kind_ok4 (fun w => plain_ok x h0 h1 w) (fun w => row_ok _ (TWO_lt x) w) (fun w => number_ok _ (KINDF_01 (BITS_01 _) (by decide) _ (by decide)) w) (fun w => ?_)
  have k := signed_ok (NUM (KINDF (BITS (TWO x)) 64 true)) (NUM_KINDF_lt (by decide) (by decide) _) w
  rw [hv] at k
  exact k
theorem refnarrow_ok5 (x : Int) (h0 : -(2 ^ 63) ≤ x) (h1 : x < 2 ^ 63) (w : World) : Calls Try.prog 16 #[.int .i64 x, .int .i64 5] w fun e w' => e = .returned (.tuple #[.int .i64 (NARROW x 5), .int .i64 0]) ∧ Fine w w' := by
  have hv : SGN (NUM (KINDF (BITS (TWO x)) 8 false)) = NARROW x 5 := by
    rw [NUM_KINDF_false (by decide) (by decide)]
    show SGN (TWO x % 2 ^ 8) = x % 256
    unfold SGN TWO
    split <;> omega
  refine refnarrow_raw_false x 5 8 (TWO x) (NUM (KINDF (BITS (TWO x)) 8 false)) (BITS (TWO x)) _ w (by decide) (by decide) kind_ok5 (fun w => plain_ok x h0 h1 w) (fun w => row_ok _ (TWO_lt x) w) (fun w => number_ok _ (KINDF_01 (BITS_01 _) (by decide) _ (by decide)) w) (fun w => ?_)
  have k := signed_ok (NUM (KINDF (BITS (TWO x)) 8 false)) (NUM_KINDF_lt (by decide) (by decide) _) w
  rw [hv] at k
  exact k
theorem refnarrow_ok6 (x : Int) (h0 : -(2 ^ 63) ≤ x) (h1 : x < 2 ^ 63) (w : World) : Calls Try.prog 16 #[.int .i64 x, .int .i64 6] w fun e w' => e = .returned (.tuple #[.int .i64 (NARROW x 6), .int .i64 0]) ∧ Fine w w' := by
  have hv : SGN (NUM (KINDF (BITS (TWO x)) 16 false)) = NARROW x 6 := by
    rw [NUM_KINDF_false (by decide) (by decide)]
    show SGN (TWO x % 2 ^ 16) = x % 65536
    unfold SGN TWO
    split <;> omega
  refine refnarrow_raw_false x 6 16 (TWO x) (NUM (KINDF (BITS (TWO x)) 16 false)) (BITS (TWO x)) _ w (by decide) (by decide) kind_ok6 (fun w => plain_ok x h0 h1 w) (fun w => row_ok _ (TWO_lt x) w) (fun w => number_ok _ (KINDF_01 (BITS_01 _) (by decide) _ (by decide)) w) (fun w => ?_)
  have k := signed_ok (NUM (KINDF (BITS (TWO x)) 16 false)) (NUM_KINDF_lt (by decide) (by decide) _) w
  rw [hv] at k
  exact k
theorem refnarrow_ok7 (x : Int) (h0 : -(2 ^ 63) ≤ x) (h1 : x < 2 ^ 63) (w : World) : Calls Try.prog 16 #[.int .i64 x, .int .i64 7] w fun e w' => e = .returned (.tuple #[.int .i64 (NARROW x 7), .int .i64 0]) ∧ Fine w w' := by
  have hv : SGN (NUM (KINDF (BITS (TWO x)) 32 false)) = NARROW x 7 := by
    rw [NUM_KINDF_false (by decide) (by decide)]
    show SGN (TWO x % 2 ^ 32) = x % 4294967296
    unfold SGN TWO
    split <;> omega
  refine refnarrow_raw_false x 7 32 (TWO x) (NUM (KINDF (BITS (TWO x)) 32 false)) (BITS (TWO x)) _ w (by decide) (by decide) kind_ok7 (fun w => plain_ok x h0 h1 w) (fun w => row_ok _ (TWO_lt x) w) (fun w => number_ok _ (KINDF_01 (BITS_01 _) (by decide) _ (by decide)) w) (fun w => ?_)
  have k := signed_ok (NUM (KINDF (BITS (TWO x)) 32 false)) (NUM_KINDF_lt (by decide) (by decide) _) w
  rw [hv] at k
  exact k
theorem reffits_raw (x kind y : Int) (b : Bool) (hb : (y == x) = b) (w : World) (c : ∀ w, Calls Try.prog 16 #[.int .i64 x, .int .i64 kind] w fun e w' => e = .returned (.tuple #[.int .i64 y, .int .i64 0]) ∧ Fine w w') :
    Calls Try.prog 18 #[.int .i64 x, .int .i64 kind] w fun e w' => e = .returned (.bool b) ∧ Fine w w' := by
  go_enter Try.func18, Try.ntmps18
  go_wp2_with fail
  refine (c _).mono ?_
  rintro e w1 ⟨rfl, hF1⟩
  have HF1 : Aside (Fine w w1) := hF1
  clear hF1
  go_wp2
  go_ret
  exact ⟨rfl, HF1.out⟩
theorem reffits_none (x kind y : Int) (w : World) (c : ∀ w, Calls Try.prog 16 #[.int .i64 x, .int .i64 kind] w fun e w' => e = .returned (.tuple #[.int .i64 y, .int .i64 1]) ∧ Fine w w') :
    Calls Try.prog 18 #[.int .i64 x, .int .i64 kind] w fun e w' => e = .returned (.bool false) ∧ Fine w w' := by
  go_enter Try.func18, Try.ntmps18
  go_wp2_with fail
  refine (c _).mono ?_
  rintro e w1 ⟨rfl, hF1⟩
  have HF1 : Aside (Fine w w1) := hF1
  clear hF1
  go_wp2
  go_ret
  exact ⟨rfl, HF1.out⟩
end Go.Proofs.Ytlklnljgmkagoaa
