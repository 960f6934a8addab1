/- What TrailingZeros64 and num's Low answer, where the table of math/bits lies as its text lays it. -/
import Derived.Test.YtddmfpiflnjmjaaDoorNumBitCalls
import Derived.Deep.LoopGhost
namespace Go.Proofs.YtddmfpiflnjmjaaDoor
open Go.RowKit

/-- the table by which the lowest set bit is found. -/
def TAB : List Nat := [0, 1, 56, 2, 57, 49, 28, 3, 61, 58, 42, 50, 38, 29, 17, 4, 62, 47, 59, 36, 45, 43, 51, 22, 53, 39, 33, 30, 24, 18, 12, 5, 63, 55, 48, 27, 60, 41, 37, 16, 46, 35, 44, 21, 52, 32, 23, 11, 54, 26, 40, 15, 34, 20, 31, 10, 25, 14, 19, 9, 13, 8, 7, 6]
/-- the table lies in the first block. -/
def Tabled (w : World) : Prop := ∀ i, i < 64 → w.cell? ⟨0, i, none⟩ = some (.int .u8 ((TAB.getD i 0 : Nat) : Int))
theorem TAB_hit : ∀ t, t < 64 → TAB.getD (2 ^ t * 285870213051353865 % 2 ^ 64 / 2 ^ 58) 0 = t := by decide
theorem low_split : ∀ X : Nat, X ≠ 0 → ∃ t q, X = 2 ^ t * (2 * q + 1) := fun X => by
  induction X using Nat.strongRecOn with
  | _ X ih =>
    intro h
    by_cases ho : X % 2 = 1
    · exact ⟨0, X / 2, by omega⟩
    · obtain ⟨t, q, e⟩ := ih (X / 2) (by omega) (by omega)
      refine ⟨t + 1, q, ?_⟩
      rw [Nat.pow_succ, Nat.mul_comm (2 ^ t) 2, Nat.mul_assoc, ← e]
      omega
theorem odd_and {q s : Nat} (h : 2 * q + 1 < 2 ^ s) : (2 * q + 1) &&& (2 ^ s - (2 * q + 1)) = 1 := by
  apply Nat.eq_of_testBit_eq
  intro i
  rw [Nat.testBit_and, Nat.testBit_two_pow_sub_succ (by omega)]
  cases i with
  | zero =>
    have hs : 0 < s := by
      rcases Nat.eq_zero_or_pos s with h0 | h0
      · subst h0
        simp at h
      · exact h0
    simp [Nat.testBit_zero, hs]
  | succ i =>
    rw [Nat.testBit_succ, Nat.testBit_succ, Nat.testBit_succ, show (2 * q + 1) / 2 = q by omega, show 2 * q / 2 = q by omega]
    simp
    intro h1 _
    exact h1
theorem neg_and {X t q : Nat} (hX : X < 2 ^ 64) (e : X = 2 ^ t * (2 * q + 1)) : X &&& (2 ^ 64 - X) = 2 ^ t ∧ t < 64 := by
  have hp := Nat.two_pow_pos t
  have ht : t < 64 := by
    rcases Nat.lt_or_ge t 64 with h | h
    · exact h
    · have h1 : 2 ^ 64 ≤ 2 ^ t := Nat.pow_le_pow_right (by decide) h
      have h2 : 2 ^ t * 1 ≤ 2 ^ t * (2 * q + 1) := Nat.mul_le_mul_left _ (by omega)
      omega
  have h64 : (2 : Nat) ^ 64 = 2 ^ t * 2 ^ (64 - t) := by rw [← Nat.pow_add, show t + (64 - t) = 64 by omega]
  have hq : 2 * q + 1 < 2 ^ (64 - t) := by
    rw [e, h64] at hX
    exact Nat.lt_of_mul_lt_mul_left hX
  refine ⟨?_, ht⟩
  rw [e, h64, ← Nat.mul_sub, Nat.mul_comm, Nat.mul_comm (2 ^ t), ← Nat.shiftLeft_eq, ← Nat.shiftLeft_eq, ← Nat.shiftLeft_and_distrib, odd_and hq, Nat.shiftLeft_eq, Nat.one_mul]

theorem tz_zero (w : World) : Calls Tryd.prog 88 #[.int .u64 0] w fun e w' => e = .returned (.int .i64 64) ∧ w = w' := by
  go_enter Tryd.func88, Tryd.ntmps88
  go_wp2
  go_ret
  exact ⟨rfl, rfl⟩
theorem tz_raw (x b p i t : Int) (w : World) (h0 : (x == 0) = false) (e1 : bits .and .u64 x (IntKind.u64.wrap (-x)) = b) (e2 : IntKind.u64.wrap (b * 285870213051353865) = p) (hi : p / 288230376151711744 = i) (hi1 : 0 ≤ i) (hi2 : i < 64)
    (hc : w.cell? ⟨0, i.toNat, none⟩ = some (.int .u8 t)) (ht : Aside (wrap64 t = t)) : Calls Tryd.prog 88 #[.int .u64 x] w fun e w' => e = .returned (.int .i64 t) ∧ w = w' := by
  go_enter Tryd.func88, Tryd.ntmps88
  go_wp2
  go_ret
  refine ⟨?_, rfl⟩
  rw [show (Value.int .i64 t) = .int .i64 (wrap64 t) by rw [ht.out]]
  rfl
theorem tz_ok (X t q : Nat) (hX : X < 2 ^ 64) (e : X = 2 ^ t * (2 * q + 1)) (w : World) (hT : Tabled w) : Calls Tryd.prog 88 #[.int .u64 (X : Int)] w fun e w' => e = .returned (.int .i64 (t : Int)) ∧ w = w' := by
  obtain ⟨ha, ht⟩ := neg_and hX e
  have hX0 : 0 < X := by
    rw [e]
    exact Nat.mul_pos (Nat.two_pow_pos t) (by omega)
  have hm : IntKind.u64.wrap (-(X : Int)) = ((2 ^ 64 - X : Nat) : Int) := by rw [wrapU]; omega
  have hb : bits .and .u64 (X : Int) (IntKind.u64.wrap (-(X : Int))) = ((2 ^ t : Nat) : Int) := by rw [hm, and_eq hX (by omega), ha]
  have hp : IntKind.u64.wrap (((2 ^ t : Nat) : Int) * 285870213051353865) = ((2 ^ t * 285870213051353865 % 2 ^ 64 : Nat) : Int) := by
    rw [wrapU]
    generalize 2 ^ t = u
    omega
  have hl : 2 ^ t * 285870213051353865 % 2 ^ 64 < 2 ^ 64 := Nat.mod_lt _ (by decide)
  have hi : 2 ^ t * 285870213051353865 % 2 ^ 64 / 2 ^ 58 < 64 := Nat.div_lt_of_lt_mul (by omega)
  have hc := hT _ hi
  rw [TAB_hit t ht] at hc
  refine tz_raw X _ _ ((2 ^ t * 285870213051353865 % 2 ^ 64 / 2 ^ 58 : Nat) : Int) t w (by simp; omega) hb hp ?_ (by omega) (by omega) (by rw [Int.toNat_natCast]; exact hc) (by unfold Aside wrap64; omega)
  generalize 2 ^ t * 285870213051353865 % 2 ^ 64 = u
  omega
theorem low_raw (x r : Int) (w : World) (c : Calls Tryd.prog 88 #[.int .u64 x] w fun e w' => e = .returned (.int .i64 r) ∧ w = w') :
    Calls Tryd.prog 77 #[.int .u64 x] w fun e w' => e = .returned (.int .i64 r) ∧ w = w' := by
  go_enter Tryd.func77, Tryd.ntmps77
  go_wp2_with fail
  refine c.mono ?_
  rintro e w' ⟨rfl, rfl⟩
  go_wp2
  go_ret
  exact ⟨rfl, rfl⟩
end Go.Proofs.YtddmfpiflnjmjaaDoor
