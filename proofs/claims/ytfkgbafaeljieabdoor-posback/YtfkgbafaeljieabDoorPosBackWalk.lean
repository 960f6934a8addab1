/- The walk of PosBack. -/
import Derived.Test.YtfkgbafaeljieabDoorPosBackOut
import Derived.Test.YtfkgbafaeljieabDoorPosBackLeaf
import Derived.Test.YtfkgbafaeljieabDoorPosBackMid
import Derived.Test.YtfkgbafaeljieabDoorPosBackTop
namespace Go.Proofs.YtfkgbafaeljieabDoor
open Go.RowKit

theorem shift_one {h : Nat} (hh : h ≤ 62) : IntKind.u64.wrap (2 ^ min h 64) = ((2 ^ h : Nat) : Int) := by
  have h1 : 2 ^ h ≤ 2 ^ 62 := Nat.pow_le_pow_right (by decide) hh
  have := shift_eq 1 h hh (by omega)
  rw [Nat.one_mul, show ((1 : Nat) : Int) = 1 from rfl, Int.one_mul] at this
  exact this
theorem span_sub {k h : Nat} : ((((k + 1) * 2 ^ h : Nat) : Int) - ((k * 2 ^ h : Nat) : Int)) = ((2 ^ h : Nat) : Int) := by
  have : (k + 1) * 2 ^ h = k * 2 ^ h + 2 ^ h := by rw [Nat.add_mul, Nat.one_mul]
  omega
theorem wrap_small {x : Nat} (h : x < 2 ^ 64) : IntKind.u64.wrap (x : Int) = (x : Int) := by
  rw [wrapU]
  omega
theorem SIB_SIB (k : Nat) : SIB (SIB k) = k := by
  unfold SIB
  split <;> split <;> omega
theorem SIB_half (k : Nat) : SIB k / 2 = k / 2 := by
  unfold SIB
  split <;> omega
theorem PLC_lt_parent (h k : Nat) : PLC h k < PLC (h + 1) (k / 2) := by
  rw [PLC_parent]
  split <;> omega
theorem place_spot (h k : Nat) : (∃ q : Int, (∀ w, Calls Tryd.prog 10 #[SPOT h k] w fun e w' => e = .returned (.tuple #[.int .u64 q, .bool true]) ∧ Below w.heap.size w w') ∧ (∀ w, Calls Tryd.prog 9 #[.int .u64 q] w fun e w' => e = .returned (.tuple #[SPOT h k, .bool true]) ∧ Below w.heap.size w w')) ∨
    (∀ w, Calls Tryd.prog 10 #[SPOT h k] w fun e w' => e = .returned (.tuple #[.int .u64 0, .bool false]) ∧ Below w.heap.size w w') := by
  by_cases hN : Node h k
  · exact .inl ⟨_, fun w => place_ok h k hN w, fun w => spot_ok h k hN w⟩
  · exact .inr fun w => place_not h k hN w
theorem posBack_walk (a0 : Int) (a1 b1 : Nat) (w0 : (Lit.int .u64 a0).wf = true) (_w1 : a1 < 256) (_x1 : b1 < 2 ^ 64) (w : World) (hT : Tabled w) (h0 : 0 < w.heap.size) :
    Calls Tryd.prog 4 #[.int .u64 a0, SPOT a1 b1] w fun e w' => e = .returned (.bool true) ∧ Below w.heap.size w w' := by
  have b0 := wf_u64 w0
  obtain ⟨p, rfl⟩ : ∃ X : Nat, a0 = (X : Int) := ⟨a0.toNat, by omega⟩
  have ca : ∀ W, Below w.heap.size w W → Calls Tryd.prog 15 #[] W fun e w' => e = .returned (.bool true) ∧ Below W.heap.size W w' := fun W hW => awake_ok W (hT.below h0 hW) (Nat.lt_of_lt_of_le h0 hW.size)
  rcases Nat.lt_or_ge p 9223372036854775807 with hp | hp
  · obtain ⟨h, k, hN, rfl⟩ := Node.of hp
    have h62 := hN.1
    have hsp := hN.span
    have hpw : 2 ^ h ≤ 2 ^ 62 := Nat.pow_le_pow_right (by decide) h62
    have hk1 : k * 2 ^ h ≤ (k + 1) * 2 ^ h := Nat.mul_le_mul_right _ (by omega)
    have e1 : IntKind.u64.wrap ((((k + 1) * 2 ^ h : Nat) : Int) - ((k * 2 ^ h : Nat) : Int)) = ((2 ^ h : Nat) : Int) := by rw [span_sub]; exact wrap_small (by omega)
    have e2 := shift_one h62
    have e3 := shift_eq k h h62 (by omega)
    have cs := fun w => spot_ok h k hN w
    have cl := fun w => place_ok h k hN w
    have cu := fun w => under_ok h k hN w
    have cn := fun w => since_ok h k hN w
    have hup : h < 62 → (∀ w, Calls Tryd.prog 14 #[.int .u64 ((PLC h k : Nat) : Int)] w fun e w' => e = .returned (.tuple #[.int .u64 ((PLC (h + 1) (k / 2) : Nat) : Int), .bool true]) ∧ Below w.heap.size w w')
        ∧ (∀ w, Calls Tryd.prog 16 #[.int .u64 ((PLC h k : Nat) : Int)] w fun e w' => e = .returned (.tuple #[.int .u64 ((PLC h (SIB k) : Nat) : Int), .bool true]) ∧ Below w.heap.size w w')
        ∧ (∀ w, Calls Tryd.prog 16 #[.int .u64 ((PLC h (SIB k) : Nat) : Int)] w fun e w' => e = .returned (.tuple #[.int .u64 ((PLC h k : Nat) : Int), .bool true]) ∧ Below w.heap.size w w')
        ∧ (∀ w, Calls Tryd.prog 14 #[.int .u64 ((PLC h (SIB k) : Nat) : Int)] w fun e w' => e = .returned (.tuple #[.int .u64 ((PLC (h + 1) (k / 2) : Nat) : Int), .bool true]) ∧ Below w.heap.size w w')
        ∧ ((PLC h k : Nat) : Int) < ((PLC (h + 1) (k / 2) : Nat) : Int) ∧ ((PLC h (SIB k) : Nat) : Int) < ((PLC (h + 1) (k / 2) : Nat) : Int) := fun hh => by
      have hS := hN.sib hh
      refine ⟨fun w => parent_ok h k hN hh w, fun w => sibling_ok h k hN hh w, fun w => ?_, fun w => ?_, ?_, ?_⟩
      · have := sibling_ok h (SIB k) hS hh w
        rw [SIB_SIB] at this
        exact this
      · have := parent_ok h (SIB k) hS hh w
        rw [SIB_half] at this
        exact this
      · have := PLC_lt_parent h k
        omega
      · have := PLC_lt_parent h (SIB k)
        rw [SIB_half] at this
        omega
    rcases Nat.eq_zero_or_pos h with h1 | h1
    · obtain ⟨c1, c2, c3, c4, e8, e9⟩ := hup (by omega)
      have ck : ∀ w, Calls Tryd.prog 13 #[.int .u64 ((PLC h k : Nat) : Int)] w fun e w' => e = .returned (.tuple #[.int .u64 0, .int .u64 0, .bool false]) ∧ Below w.heap.size w w' := by
        subst h1
        exact fun w => kids_leaf _ k w (.node hN)
      rcases place_spot a1 b1 with ⟨q, cp, cq⟩ | cp
      · exact posBack_leaf_yes _ q _ _ _ _ _ a1 b1 h k w cp cq cs cl cu cn e1 e2 e3 ck (by simp; omega) c1 c2 c3 c4 e8 e9 (by simp; omega) ca
      · exact posBack_leaf_no _ 0 _ _ _ _ _ a1 b1 h k w cp cs cl cu cn e1 e2 e3 ck (by simp; omega) c1 c2 c3 c4 e8 e9 (by simp; omega) ca
    · obtain ⟨g, rfl⟩ : ∃ g, h = g + 1 := ⟨h - 1, by omega⟩
      obtain ⟨hl, hr⟩ := hN.kid
      have ha : 2 * k * 2 ^ g = k * 2 ^ (g + 1) := double_pow k g
      have hz : (2 * k + 1 + 1) * 2 ^ g = (k + 1) * 2 ^ (g + 1) := by rw [show 2 * k + 1 + 1 = 2 * (k + 1) by omega]; exact double_pow (k + 1) g
      have d1 := fun w => under_ok g (2 * k) hl w
      have d2 := fun w => under_ok g (2 * k + 1) hr w
      have d3 := fun w => parent_ok g (2 * k) hl (by omega) w
      have d4 := fun w => parent_ok g (2 * k + 1) hr (by omega) w
      have d5 := fun w => sibling_ok g (2 * k) hl (by omega) w
      have d6 := fun w => right_ok g (2 * k) hl w
      have d7 := fun w => right_ok g (2 * k + 1) hr w
      rw [show 2 * k / 2 = k by omega] at d3
      rw [show (2 * k + 1) / 2 = k by omega] at d4
      rw [show SIB (2 * k) = 2 * k + 1 by unfold SIB; rw [if_neg (by omega)]] at d5
      rw [show decide (2 * k % 2 = 1) = false by simp] at d6
      rw [show decide ((2 * k + 1) % 2 = 1) = true by simp] at d7
      have hpg : 2 ^ g ≤ 2 ^ 62 := Nat.pow_le_pow_right (by decide) (by omega)
      have e4 : IntKind.u64.wrap ((((2 * k + 1) * 2 ^ g : Nat) : Int) - ((2 * k * 2 ^ g : Nat) : Int)) = ((2 ^ g : Nat) : Int) := by rw [span_sub]; exact wrap_small (by omega)
      have e5 : IntKind.u64.wrap ((((2 * k + 1 + 1) * 2 ^ g : Nat) : Int) - (((2 * k + 1) * 2 ^ g : Nat) : Int)) = ((2 ^ g : Nat) : Int) := by rw [span_sub]; exact wrap_small (by omega)
      have e6 : ¬ ((PLC g (2 * k + 1) : Nat) : Int) ≤ ((PLC g (2 * k) : Nat) : Int) := by
        have := PLC_sib g k
        have := two_le g
        unfold TREE at *
        omega
      have e7 : ¬ ((PLC (g + 1) k : Nat) : Int) ≤ ((PLC g (2 * k + 1) : Nat) : Int) := by
        have := PLC_up_right g k
        omega
      rw [ha] at d1 e4
      rw [hz] at d2 e5
      have ck := fun w => kids_ok g k hN w
      rcases Nat.lt_or_ge (g + 1) 62 with hh | hh
      · obtain ⟨c1, c2, c3, c4, e8, e9⟩ := hup hh
        rcases place_spot a1 b1 with ⟨q, cp, cq⟩ | cp
        · exact posBack_mid_yes _ q _ _ _ _ _ _ _ _ _ a1 b1 (g + 1) k w cp cq cs cl cu cn e1 e2 e3 ck d1 d2 d3 d4 d5 d6 d7 e4 e5 e6 e7 c1 c2 c3 c4 e8 e9 (by simp; omega) ca
        · exact posBack_mid_no _ 0 _ _ _ _ _ _ _ _ _ a1 b1 (g + 1) k w cp cs cl cu cn e1 e2 e3 ck d1 d2 d3 d4 d5 d6 d7 e4 e5 e6 e7 c1 c2 c3 c4 e8 e9 (by simp; omega) ca
      · obtain rfl : g = 61 := by omega
        have c1 := fun w => parent_top _ k w (.node hN)
        have c2 := fun w => sibling_top _ k w (.node hN)
        rcases place_spot a1 b1 with ⟨q, cp, cq⟩ | cp
        · exact posBack_top_yes _ q _ _ _ _ _ _ _ a1 b1 (61 + 1) k w cp cq cs cl cu cn e1 e2 e3 ck d1 d2 d3 d4 d5 d6 d7 e4 e5 e6 e7 c1 c2 (by simp) ca
        · exact posBack_top_no _ 0 _ _ _ _ _ _ _ a1 b1 (61 + 1) k w cp cs cl cu cn e1 e2 e3 ck d1 d2 d3 d4 d5 d6 d7 e4 e5 e6 e7 c1 c2 (by simp) ca
  · have hp : (9223372036854775807 : Int) ≤ (p : Int) := by omega
    have cs := fun w => spot_not (p : Int) hp w
    have c1 := fun w => parent_not (p : Int) 0 0 w (.out hp)
    have c2 := fun w => sibling_not (p : Int) 0 0 w (.out hp)
    have c3 := fun w => kids_not (p : Int) 0 0 w (.out hp)
    have c4 := fun w => under_not (p : Int) 0 0 w (.out hp)
    have c5 := fun w => since_raw (p : Int) _ _ _ w c4
    have c6 := fun w => index_not (p : Int) 0 0 w (.out hp)
    have c7 := fun w => right_not (p : Int) 0 0 w (.out hp)
    rcases place_spot a1 b1 with ⟨q, cp, cq⟩ | cp
    · exact posBack_out_yes _ q _ _ _ _ _ _ _ _ a1 b1 0 0 w cp cq cs c1 c2 c3 c4 c5 c6 c7 ca
    · exact posBack_out_no _ 0 _ _ _ _ _ _ _ _ a1 b1 0 0 w cp cs c1 c2 c3 c4 c5 c6 c7 ca
end Go.Proofs.YtfkgbafaeljieabDoor
