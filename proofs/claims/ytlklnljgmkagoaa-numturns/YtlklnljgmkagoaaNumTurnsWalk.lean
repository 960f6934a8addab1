/- The law NumTurns: walked. -/
import Derived.Test.YtlklnljgmkagoaaNumTurnCalls
import Derived.Test.YtlklnljgmkagoaaNumRefTurns
namespace Go.Proofs.Ytlklnljgmkagoaa
open Go.RowKit

theorem perm_01 (X : Nat) (t : Nat → Nat) (ht : ∀ j, j < 64 → t j < 64) : Bit01 (fun j => BITS X (t j)) := fun i hi => BITS_01 X _ (ht i hi)
theorem NUM_perm {X Y : Nat} (hY : Y < 2 ^ 64) (t : Nat → Nat) (ht : ∀ j, j < 64 → t j < 64) (h : ∀ i, i < 64 → Y.testBit i = X.testBit (t i)) : NUM (fun j => BITS X (t j)) = Y := by
  refine eq_of_bits (NUM_lt (perm_01 X t ht)) hY fun i hi => ?_
  rw [bit_NUM (perm_01 X t ht) hi, h i hi, bit_BITS]
theorem refrev_eq (X : Nat) (hX : X < 2 ^ 64) (w : World) : Calls Try.prog 28 #[.int .u64 (X : Int)] w fun e w' => e = .returned (.int .u64 ((REV X : Nat) : Int)) ∧ Fine w w' := by
  refine refrev_raw X (BITS X) _ w (fun w => row_ok X hX w) (fun w => ?_)
  have k := number_ok (fun j => BITS X (63 - j)) (perm_01 X (fun j => 63 - j) (fun j hj => by omega)) w
  rw [NUM_perm (REV_lt hX) (fun j => 63 - j) (fun j hj => by omega) (fun i hi => bit_REV hX hi)] at k
  exact k
theorem refswap_eq (X : Nat) (hX : X < 2 ^ 64) (w : World) : Calls Try.prog 30 #[.int .u64 (X : Int)] w fun e w' => e = .returned (.int .u64 ((REVB X : Nat) : Int)) ∧ Fine w w' := by
  refine refswap_raw X (BITS X) _ w (fun w => row_ok X hX w) (fun w => ?_)
  have k := number_ok (fun j => BITS X (8 * (7 - j / 8) + j % 8)) (perm_01 X (fun j => 8 * (7 - j / 8) + j % 8) (fun j hj => by omega)) w
  have e : ∀ i, i < 64 → i ^^^ 56 = 8 * (7 - i / 8) + i % 8 := by decide
  rw [NUM_perm (REVB_lt hX) (fun j => 8 * (7 - j / 8) + j % 8) (fun j hj => by omega) (fun i hi => by rw [bit_REVB hX hi, e i hi])] at k
  exact k
theorem refturn_eq (X : Nat) (n : Int) (hX : X < 2 ^ 64) (w : World) : Calls Try.prog 26 #[.int .u64 (X : Int), .int .i64 n] w fun e w' => e = .returned (.int .u64 ((TURN X n : Nat) : Int)) ∧ Fine w w' := by
  have h1 : -64 < n.tmod 64 := Int.lt_tmod_of_pos _ (by decide)
  have h2 : n.tmod 64 < 64 := Int.tmod_lt_of_pos _ (by decide)
  have hd : n.tmod 64 = n - 64 * n.tdiv 64 := Int.tmod_def n 64
  by_cases h : 0 ≤ n.tmod 64
  · refine refturnA_raw X n (n.tmod 64) (BITS X) _ w rfl h h2 (fun w => row_ok X hX w) (fun w => ?_)
    have k := number_ok (fun j => BITS X ((((j : Nat) : Int) - n.tmod 64) % 64).toNat) (perm_01 X (fun j => ((((j : Nat) : Int) - n.tmod 64) % 64).toNat) (fun j hj => by omega)) w
    rw [NUM_perm (TURN_lt hX n) (fun j => ((((j : Nat) : Int) - n.tmod 64) % 64).toNat) (fun j hj => by omega) (fun i hi => by rw [bit_TURN hX n hi]; congr 1; omega)] at k
    exact k
  · refine refturnB_raw X n (n.tmod 64) (BITS X) _ w rfl (by omega) h1 (fun w => row_ok X hX w) (fun w => ?_)
    have k := number_ok (fun j => BITS X ((((j : Nat) : Int) - (n.tmod 64 + 64)) % 64).toNat) (perm_01 X (fun j => ((((j : Nat) : Int) - (n.tmod 64 + 64)) % 64).toNat) (fun j hj => by omega)) w
    rw [NUM_perm (TURN_lt hX n) (fun j => ((((j : Nat) : Int) - (n.tmod 64 + 64)) % 64).toNat) (fun j hj => by omega) (fun i hi => by rw [bit_TURN hX n hi]; congr 1; omega)] at k
    exact k

theorem numTurns_core (x n a b c : Int) (w : World)
    (c1 : ∀ w, Calls Try.prog 25 #[.int .u64 x, .int .i64 n] w fun e w' => e = .returned (.int .u64 a) ∧ w = w')
    (c2 : ∀ w, Calls Try.prog 26 #[.int .u64 x, .int .i64 n] w fun e w' => e = .returned (.int .u64 a) ∧ Fine w w')
    (c3 : ∀ w, Calls Try.prog 27 #[.int .u64 x] w fun e w' => e = .returned (.int .u64 b) ∧ w = w')
    (c4 : ∀ w, Calls Try.prog 28 #[.int .u64 x] w fun e w' => e = .returned (.int .u64 b) ∧ Fine w w')
    (c5 : ∀ w, Calls Try.prog 29 #[.int .u64 x] w fun e w' => e = .returned (.int .u64 c) ∧ w = w')
    (c6 : ∀ w, Calls Try.prog 30 #[.int .u64 x] w fun e w' => e = .returned (.int .u64 c) ∧ Fine w w') :
    Calls Try.prog 6 #[.int .u64 x, .int .i64 n] w fun e w' => e = .returned (.bool true) ∧ Grown w w' := by
  go_enter Try.func6, Try.ntmps6
  go_wp2_with fail
  refine (c1 _).mono ?_
  rintro e w' ⟨rfl, rfl⟩
  go_wp2_with fail
  refine (c2 _).mono ?_
  rintro e w1 ⟨rfl, hF1⟩
  have HF1 : Aside (Fine w w1) := hF1
  clear hF1
  go_wp2_with fail
  refine (c3 _).mono ?_
  rintro e w' ⟨rfl, rfl⟩
  go_wp2_with fail
  refine (c4 _).mono ?_
  rintro e w2 ⟨rfl, hF2⟩
  have HF2 : Aside (Fine w1 w2) := hF2
  clear hF2
  go_wp2_with fail
  refine (c5 _).mono ?_
  rintro e w' ⟨rfl, rfl⟩
  go_wp2_with fail
  refine (c6 _).mono ?_
  rintro e w3 ⟨rfl, hF3⟩
  have HF3 : Aside (Fine w2 w3) := hF3
  clear hF3
  go_wp2_with fail
  refine (awake_ok _).mono ?_
  rintro e w' ⟨rfl, hg, hb⟩
  go_wp2
  go_ret
  exact ⟨rfl, (HF1.out.trans (HF2.out.trans (HF3.out.trans ⟨hg, hb⟩))).1⟩

theorem numTurns_walk (a0 a1 : Int) (w0 : (Lit.int .u64 a0).wf = true) (w : World) :
    Calls Try.prog 6 #[.int .u64 a0, .int .i64 a1] w fun e w' => e = .returned (.bool true) ∧ Grown w w' := by
  have b0 := wf_u64 w0
  obtain ⟨X, rfl⟩ : ∃ X : Nat, a0 = (X : Int) := ⟨a0.toNat, by omega⟩
  have hX : X < 2 ^ 64 := by omega
  exact numTurns_core X a1 _ _ _ w (fun w => turn_ok X a1 hX w) (fun w => refturn_eq X a1 hX w) (fun w => rev_ok X hX w) (fun w => refrev_eq X hX w) (fun w => swap_ok X hX w) (fun w => refswap_eq X hX w)
end Go.Proofs.Ytlklnljgmkagoaa
