/- What the functions of package pos answer, node by node. -/
import Derived.Test.YtddmfpiflnjmjaaDoorPosPlace
namespace Go.Proofs.YtddmfpiflnjmjaaDoor
open Go.RowKit

theorem and_one (k : Nat) (hk : k < 2 ^ 64) : bits .and .u64 (k : Int) 1 = ((k % 2 : Nat) : Int) := by
  have : bits .and .u64 (k : Int) ((1 : Nat) : Int) = ((k &&& 1 : Nat) : Int) := and_eq hk (by decide)
  rw [Nat.and_one_is_mod] at this
  exact this
theorem odd_eq (k : Nat) (hk : k < 2 ^ 64) : (bits .and .u64 (k : Int) 1 == 1) = decide (k % 2 = 1) := by
  rw [and_one k hk, Bool.eq_iff_iff]
  simp
  omega
theorem shift_eq (a h : Nat) (hh : h ≤ 62) (hl : a * 2 ^ h < 2 ^ 64) : IntKind.u64.wrap ((a : Int) * 2 ^ min h 64) = ((a * 2 ^ h : Nat) : Int) := by
  rw [show min h 64 = h by omega, mul_cast, Nat.mod_eq_of_lt hl]
theorem MASK_pow {h : Nat} (hh : h ≤ 62) : MASK (62 - (h : Int)) = 2 ^ (62 - h) - 1 := by
  unfold MASK
  rw [show min (62 - (h : Int)).toNat 64 = 62 - h by omega]
theorem place_ok (h k : Nat) (hN : Node h k) (w : World) : Calls Tryd.prog 46 #[SPOT h k] w fun e w' => e = .returned (.tuple #[.int .u64 ((PLC h k : Nat) : Int), .bool true]) ∧ Below w.heap.size w w' := by
  have h1 := hN.1
  have h2 := hN.2
  have h3 := hN.span
  have h4 := hN.index_lt
  have h5 := hN.lt
  have h6 := Nat.two_pow_pos (62 - h)
  have h7 := PLC_last h k
  have h8 := last_lt h k
  refine place_raw h k (62 - (h : Int)) ((2 ^ (62 - h) - 1 : Nat) : Int) (((k + 1) * 2 ^ h - 1 : Nat) : Int) ((NODES ((k + 1) * 2 ^ h - 1) : Nat) : Int) _ w h1 (by unfold wrap64; omega) (by rw [wrapU]; omega) (by unfold wrap64; omega) (by simp; omega) (fun w => ?_) (by rw [wrapU]; omega) ?_ (fun w => ahead_ok _ (by omega) w) ?_
  · rw [← MASK_pow h1]
    exact mask_ok _ (by omega) w
  · have := shift_eq (k + 1) h h1 (by omega)
    rw [show (((k + 1 : Nat)) : Int) = (k : Int) + 1 by omega] at this
    rw [this, wrapU]
    omega
  · rw [wrapU]
    omega
theorem place_not (h k : Nat) (hN : ¬ Node h k) (w : World) : Calls Tryd.prog 46 #[SPOT h k] w fun e w' => e = .returned (.tuple #[.int .u64 0, .bool false]) ∧ Below w.heap.size w w' := by
  rcases Nat.lt_or_ge 62 h with h1 | h1
  · exact place_high h k h1 w
  · have h2 : 2 ^ (62 - h) ≤ k := by
      rcases Nat.lt_or_ge k (2 ^ (62 - h)) with h3 | h3
      · exact absurd ⟨h1, h3⟩ hN
      · exact h3
    have h6 := Nat.two_pow_pos (62 - h)
    refine place_wide h k (62 - (h : Int)) ((2 ^ (62 - h) - 1 : Nat) : Int) w h1 (by unfold wrap64; omega) (by unfold wrap64; omega) (by simp; omega) (fun w => ?_)
    rw [← MASK_pow h1]
    exact mask_ok _ (by omega) w
theorem PLC_parent (h k : Nat) : PLC (h + 1) (k / 2) = if k % 2 = 1 then PLC h k + 1 else PLC h k + TREE h + 1 := by
  split
  · have := PLC_up_right h (k / 2)
    rw [show 2 * (k / 2) + 1 = k by omega] at this
    exact this
  · have := PLC_up_left h (k / 2)
    rw [show 2 * (k / 2) = k by omega] at this
    have h3 := two_le h
    unfold TREE
    omega
theorem PLC_sibling (h k : Nat) : PLC h (SIB k) = if k % 2 = 1 then PLC h k - TREE h else PLC h k + TREE h := by
  unfold SIB
  split
  · have := PLC_sib h (k / 2)
    rw [show 2 * (k / 2) + 1 = k by omega, show 2 * (k / 2) = k - 1 by omega] at this
    omega
  · have := PLC_sib h (k / 2)
    rw [show 2 * (k / 2) = k by omega] at this
    omega
theorem tree_le_right {h k : Nat} (hk : k % 2 = 1) : TREE h ≤ PLC h k := by
  have := PLC_sib h (k / 2)
  rw [show 2 * (k / 2) + 1 = k by omega] at this
  omega
theorem over_ok (h k : Nat) (hN : Node h k) (hh : h < 62) (w : World) : Calls Tryd.prog 72 #[.int .u64 ((PLC h k : Nat) : Int), .int .i64 (h : Int), .bool (decide (k % 2 = 1))] w fun e w' => e = .returned (.int .u64 ((PLC (h + 1) (k / 2) : Nat) : Int)) ∧ w = w' := by
  have h1 := (hN.up hh).lt
  have h2 := PLC_parent h k
  by_cases hk : k % 2 = 1
  · rw [if_pos hk] at h2
    rw [decide_eq_true hk]
    have := over_right (PLC h k : Nat) (h : Int) w
    rw [show IntKind.u64.wrap (((PLC h k : Nat) : Int) + 1) = ((PLC (h + 1) (k / 2) : Nat) : Int) by rw [wrapU]; omega] at this
    exact this
  · rw [if_neg hk] at h2
    rw [decide_eq_false hk]
    have := over_left (PLC h k : Nat) (h : Int) (TREE h : Nat) w (fun w => tree_ok h (by omega) w)
    rw [show IntKind.u64.wrap (IntKind.u64.wrap (((PLC h k : Nat) : Int) + ((TREE h : Nat) : Int)) + 1) = ((PLC (h + 1) (k / 2) : Nat) : Int) by rw [wrapU, wrapU]; omega] at this
    exact this
theorem beside_ok (h k : Nat) (hN : Node h k) (hh : h < 62) (w : World) : Calls Tryd.prog 71 #[.int .u64 ((PLC h k : Nat) : Int), .int .i64 (h : Int), .bool (decide (k % 2 = 1))] w fun e w' => e = .returned (.int .u64 ((PLC h (SIB k) : Nat) : Int)) ∧ w = w' := by
  have h0 := hN.lt
  have h1 := (hN.sib hh).lt
  have h2 := PLC_sibling h k
  by_cases hk : k % 2 = 1
  · rw [if_pos hk] at h2
    rw [decide_eq_true hk]
    have h3 := tree_le_right (h := h) hk
    have := beside_right (PLC h k : Nat) (h : Int) (TREE h : Nat) w (fun w => tree_ok h (by omega) w)
    rw [show IntKind.u64.wrap (((PLC h k : Nat) : Int) - ((TREE h : Nat) : Int)) = ((PLC h (SIB k) : Nat) : Int) by rw [wrapU]; omega] at this
    exact this
  · rw [if_neg hk] at h2
    rw [decide_eq_false hk]
    have := beside_left (PLC h k : Nat) (h : Int) (TREE h : Nat) w (fun w => tree_ok h (by omega) w)
    rw [show IntKind.u64.wrap (((PLC h k : Nat) : Int) + ((TREE h : Nat) : Int)) = ((PLC h (SIB k) : Nat) : Int) by rw [wrapU]; omega] at this
    exact this
theorem Node.kid {h k : Nat} (a : Node (h + 1) k) : Node h (2 * k) ∧ Node h (2 * k + 1) := by
  have h1 := a.1
  have h2 := a.2
  have e : 2 ^ (62 - h) = 2 ^ (62 - (h + 1)) * 2 := by rw [← Nat.pow_succ]; congr 1; omega
  exact ⟨⟨by omega, by rw [e]; omega⟩, ⟨by omega, by rw [e]; omega⟩⟩
end Go.Proofs.YtddmfpiflnjmjaaDoor
