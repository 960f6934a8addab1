/- Texts of ManyClimbs, one behind the other: NumLowCalls, NumHighCalls, PosCalls, NumPlaces. -/
import Derived.Deep.LoopGhost
import Derived.WalkKit
import Derived.WalkLawsBesides
import Derived.Test.YtlicfinmibbpdaaGreatDoorManyClimbsP1
/- What TrailingZeros64 and num's Low answer, where the table of math/bits lies as its text lays it. -/
namespace Go.Proofs.YtlicfinmibbpdaaGreatDoor
open Go.RowKit

/-- the table by which the lowest set bit is found. -/
def TAB : List Nat := [0, 1, 56, 2, 57, 49, 28, 3, 61, 58, 42, 50, 38, 29, 17, 4, 62, 47, 59, 36, 45, 43, 51, 22, 53, 39, 33, 30, 24, 18, 12, 5, 63, 55, 48, 27, 60, 41, 37, 16, 46, 35, 44, 21, 52, 32, 23, 11, 54, 26, 40, 15, 34, 20, 31, 10, 25, 14, 19, 9, 13, 8, 7, 6]
/-- the table lies in the first block. -/
def Tabled (w : World) : Prop := ∀ i, i < 64 → w.cell? ⟨2, i, none⟩ = some (.int .u8 ((TAB.getD i 0 : Nat) : Int))
theorem TAB_hit : ∀ t, t < 64 → TAB.getD (2 ^ t * 285870213051353865 % 2 ^ 64 / 2 ^ 58) 0 = t := by decide
theorem tz_raw (x b p i t : Int) (w : World) (h0 : (x == 0) = false) (e1 : bits .and .u64 x (IntKind.u64.wrap (-x)) = b) (e2 : IntKind.u64.wrap (b * 285870213051353865) = p) (hi : p / 288230376151711744 = i) (hi1 : 0 ≤ i) (hi2 : i < 64)
    (hc : w.cell? ⟨2, i.toNat, none⟩ = some (.int .u8 t)) (ht : Aside (wrap64 t = t)) : Calls Tryz.prog 154 #[.int .u64 x] w fun e w' => e = .returned (.int .i64 t) ∧ w = w' := by
  go_enter Tryz.func154, Tryz.ntmps154
  go_wp2
  go_ret
  refine ⟨?_, rfl⟩
  rw [show (Value.int .i64 t) = .int .i64 (wrap64 t) by rw [ht.out]]
  rfl
theorem tz_ok (X t q : Nat) (hX : X < 2 ^ 64) (e : X = 2 ^ t * (2 * q + 1)) (w : World) (hT : Tabled w) : Calls Tryz.prog 154 #[.int .u64 (X : Int)] w fun e w' => e = .returned (.int .i64 (t : Int)) ∧ w = w' := by
  obtain ⟨ha, ht⟩ := neg_and hX e
  have hX0 : 0 < X := by
    rw [e]
    exact Nat.mul_pos (Nat.two_pow_pos t) (by omega)
  have hm : IntKind.u64.wrap (-(X : Int)) = ((2 ^ 64 - X : Nat) : Int) := by rw [wrapU]; omega
  have hb : bits .and .u64 (X : Int) (IntKind.u64.wrap (-(X : Int))) = ((2 ^ t : Nat) : Int) := by rw [hm, and_eq hX (by omega), ha]
  have hp : IntKind.u64.wrap (((2 ^ t : Nat) : Int) * 285870213051353865) = ((2 ^ t * 285870213051353865 % 2 ^ 64 : Nat) : Int) := by
    rw [wrapU]
    generalize 2 ^ t = u
    omega
  have hl : 2 ^ t * 285870213051353865 % 2 ^ 64 < 2 ^ 64 := Nat.mod_lt _ (by decide)
  have hi : 2 ^ t * 285870213051353865 % 2 ^ 64 / 2 ^ 58 < 64 := Nat.div_lt_of_lt_mul (by omega)
  have hc := hT _ hi
  rw [TAB_hit t ht] at hc
  refine tz_raw X _ _ ((2 ^ t * 285870213051353865 % 2 ^ 64 / 2 ^ 58 : Nat) : Int) t w (by simp; omega) hb hp ?_ (by omega) (by omega) (by rw [Int.toNat_natCast]; exact hc) (by unfold Aside wrap64; omega)
  generalize 2 ^ t * 285870213051353865 % 2 ^ 64 = u
  omega
theorem low_raw (x r : Int) (w : World) (c : Calls Tryz.prog 154 #[.int .u64 x] w fun e w' => e = .returned (.int .i64 r) ∧ w = w') :
    Calls Tryz.prog 132 #[.int .u64 x] w fun e w' => e = .returned (.int .i64 r) ∧ w = w' := by
  go_enter Tryz.func132, Tryz.ntmps132
  go_wp2_with fail
  refine c.mono ?_
  rintro e w' ⟨rfl, rfl⟩
  go_wp2
  go_ret
  exact ⟨rfl, rfl⟩
end Go.Proofs.YtlicfinmibbpdaaGreatDoor

/- What Len64 and num's High answer. -/
namespace Go.Proofs.YtlicfinmibbpdaaGreatDoor
open Go.RowKit

set_option maxRecDepth 100000 in
theorem len_raw000 (x v : Int) (w : World) (h0 : (¬ 4294967296 ≤ x)) (h1 : (¬ 65536 ≤ x)) (h2 : (¬ 256 ≤ x)) (hx : 0 ≤ x) (hx' : x < 256)
    (hv : Aside (∀ h : (x).toNat < (⟨#[0, 1, 2, 2, 3, 3, 3, 3, 4, 4, 4, 4, 4, 4, 4, 4, 5, 5, 5, 5, 5, 5, 5, 5, 5, 5, 5, 5, 5, 5, 5, 5, 6, 6, 6, 6, 6, 6, 6, 6, 6, 6, 6, 6, 6, 6, 6, 6, 6, 6, 6, 6, 6, 6, 6, 6, 6, 6, 6, 6, 6, 6, 6, 6, 7, 7, 7, 7, 7, 7, 7, 7, 7, 7, 7, 7, 7, 7, 7, 7, 7, 7, 7, 7, 7, 7, 7, 7, 7, 7, 7, 7, 7, 7, 7, 7, 7, 7, 7, 7, 7, 7, 7, 7, 7, 7, 7, 7, 7, 7, 7, 7, 7, 7, 7, 7, 7, 7, 7, 7, 7, 7, 7, 7, 7, 7, 7, 7, 8, 8, 8, 8, 8, 8, 8, 8, 8, 8, 8, 8, 8, 8, 8, 8, 8, 8, 8, 8, 8, 8, 8, 8, 8, 8, 8, 8, 8, 8, 8, 8, 8, 8, 8, 8, 8, 8, 8, 8, 8, 8, 8, 8, 8, 8, 8, 8, 8, 8, 8, 8, 8, 8, 8, 8, 8, 8, 8, 8, 8, 8, 8, 8, 8, 8, 8, 8, 8, 8, 8, 8, 8, 8, 8, 8, 8, 8, 8, 8, 8, 8, 8, 8, 8, 8, 8, 8, 8, 8, 8, 8, 8, 8, 8, 8, 8, 8, 8, 8, 8, 8, 8, 8, 8, 8, 8, 8, 8, 8, 8, 8, 8, 8, 8, 8, 8, 8, 8, 8, 8, 8, 8, 8, 8, 8, 8, 8]⟩ : ByteArray).size, wrap64 (wrap64 ((⟨#[0, 1, 2, 2, 3, 3, 3, 3, 4, 4, 4, 4, 4, 4, 4, 4, 5, 5, 5, 5, 5, 5, 5, 5, 5, 5, 5, 5, 5, 5, 5, 5, 6, 6, 6, 6, 6, 6, 6, 6, 6, 6, 6, 6, 6, 6, 6, 6, 6, 6, 6, 6, 6, 6, 6, 6, 6, 6, 6, 6, 6, 6, 6, 6, 7, 7, 7, 7, 7, 7, 7, 7, 7, 7, 7, 7, 7, 7, 7, 7, 7, 7, 7, 7, 7, 7, 7, 7, 7, 7, 7, 7, 7, 7, 7, 7, 7, 7, 7, 7, 7, 7, 7, 7, 7, 7, 7, 7, 7, 7, 7, 7, 7, 7, 7, 7, 7, 7, 7, 7, 7, 7, 7, 7, 7, 7, 7, 7, 8, 8, 8, 8, 8, 8, 8, 8, 8, 8, 8, 8, 8, 8, 8, 8, 8, 8, 8, 8, 8, 8, 8, 8, 8, 8, 8, 8, 8, 8, 8, 8, 8, 8, 8, 8, 8, 8, 8, 8, 8, 8, 8, 8, 8, 8, 8, 8, 8, 8, 8, 8, 8, 8, 8, 8, 8, 8, 8, 8, 8, 8, 8, 8, 8, 8, 8, 8, 8, 8, 8, 8, 8, 8, 8, 8, 8, 8, 8, 8, 8, 8, 8, 8, 8, 8, 8, 8, 8, 8, 8, 8, 8, 8, 8, 8, 8, 8, 8, 8, 8, 8, 8, 8, 8, 8, 8, 8, 8, 8, 8, 8, 8, 8, 8, 8, 8, 8, 8, 8, 8, 8, 8, 8, 8, 8, 8, 8]⟩ : ByteArray)[(x).toNat]'h).toNat) = v)) : Calls Tryz.prog 144 #[.int .u64 x] w fun e w' => e = .returned (.int .i64 v) ∧ w = w' := by
  go_enter Tryz.func144, Tryz.ntmps144
  go_wp2
  go_ret
  exact ⟨congrArg (fun z => Ending.returned (Value.int .i64 z)) (hv.out _), rfl⟩
set_option maxRecDepth 100000 in
theorem len_raw001 (x v : Int) (w : World) (h0 : (¬ 4294967296 ≤ x)) (h1 : (¬ 65536 ≤ x)) (h2 : (256 ≤ x)) (hx : 0 ≤ x / 256) (hx' : x / 256 < 256)
    (hv : Aside (∀ h : (x / 256).toNat < (⟨#[0, 1, 2, 2, 3, 3, 3, 3, 4, 4, 4, 4, 4, 4, 4, 4, 5, 5, 5, 5, 5, 5, 5, 5, 5, 5, 5, 5, 5, 5, 5, 5, 6, 6, 6, 6, 6, 6, 6, 6, 6, 6, 6, 6, 6, 6, 6, 6, 6, 6, 6, 6, 6, 6, 6, 6, 6, 6, 6, 6, 6, 6, 6, 6, 7, 7, 7, 7, 7, 7, 7, 7, 7, 7, 7, 7, 7, 7, 7, 7, 7, 7, 7, 7, 7, 7, 7, 7, 7, 7, 7, 7, 7, 7, 7, 7, 7, 7, 7, 7, 7, 7, 7, 7, 7, 7, 7, 7, 7, 7, 7, 7, 7, 7, 7, 7, 7, 7, 7, 7, 7, 7, 7, 7, 7, 7, 7, 7, 8, 8, 8, 8, 8, 8, 8, 8, 8, 8, 8, 8, 8, 8, 8, 8, 8, 8, 8, 8, 8, 8, 8, 8, 8, 8, 8, 8, 8, 8, 8, 8, 8, 8, 8, 8, 8, 8, 8, 8, 8, 8, 8, 8, 8, 8, 8, 8, 8, 8, 8, 8, 8, 8, 8, 8, 8, 8, 8, 8, 8, 8, 8, 8, 8, 8, 8, 8, 8, 8, 8, 8, 8, 8, 8, 8, 8, 8, 8, 8, 8, 8, 8, 8, 8, 8, 8, 8, 8, 8, 8, 8, 8, 8, 8, 8, 8, 8, 8, 8, 8, 8, 8, 8, 8, 8, 8, 8, 8, 8, 8, 8, 8, 8, 8, 8, 8, 8, 8, 8, 8, 8, 8, 8, 8, 8, 8, 8]⟩ : ByteArray).size, wrap64 (8 + wrap64 ((⟨#[0, 1, 2, 2, 3, 3, 3, 3, 4, 4, 4, 4, 4, 4, 4, 4, 5, 5, 5, 5, 5, 5, 5, 5, 5, 5, 5, 5, 5, 5, 5, 5, 6, 6, 6, 6, 6, 6, 6, 6, 6, 6, 6, 6, 6, 6, 6, 6, 6, 6, 6, 6, 6, 6, 6, 6, 6, 6, 6, 6, 6, 6, 6, 6, 7, 7, 7, 7, 7, 7, 7, 7, 7, 7, 7, 7, 7, 7, 7, 7, 7, 7, 7, 7, 7, 7, 7, 7, 7, 7, 7, 7, 7, 7, 7, 7, 7, 7, 7, 7, 7, 7, 7, 7, 7, 7, 7, 7, 7, 7, 7, 7, 7, 7, 7, 7, 7, 7, 7, 7, 7, 7, 7, 7, 7, 7, 7, 7, 8, 8, 8, 8, 8, 8, 8, 8, 8, 8, 8, 8, 8, 8, 8, 8, 8, 8, 8, 8, 8, 8, 8, 8, 8, 8, 8, 8, 8, 8, 8, 8, 8, 8, 8, 8, 8, 8, 8, 8, 8, 8, 8, 8, 8, 8, 8, 8, 8, 8, 8, 8, 8, 8, 8, 8, 8, 8, 8, 8, 8, 8, 8, 8, 8, 8, 8, 8, 8, 8, 8, 8, 8, 8, 8, 8, 8, 8, 8, 8, 8, 8, 8, 8, 8, 8, 8, 8, 8, 8, 8, 8, 8, 8, 8, 8, 8, 8, 8, 8, 8, 8, 8, 8, 8, 8, 8, 8, 8, 8, 8, 8, 8, 8, 8, 8, 8, 8, 8, 8, 8, 8, 8, 8, 8, 8, 8, 8]⟩ : ByteArray)[(x / 256).toNat]'h).toNat) = v)) : Calls Tryz.prog 144 #[.int .u64 x] w fun e w' => e = .returned (.int .i64 v) ∧ w = w' := by
  go_enter Tryz.func144, Tryz.ntmps144
  go_wp2
  go_ret
  exact ⟨congrArg (fun z => Ending.returned (Value.int .i64 z)) (hv.out _), rfl⟩
set_option maxRecDepth 100000 in
theorem len_raw010 (x v : Int) (w : World) (h0 : (¬ 4294967296 ≤ x)) (h1 : (65536 ≤ x)) (h2 : (¬ 256 ≤ x / 65536)) (hx : 0 ≤ x / 65536) (hx' : x / 65536 < 256)
    (hv : Aside (∀ h : (x / 65536).toNat < (⟨#[0, 1, 2, 2, 3, 3, 3, 3, 4, 4, 4, 4, 4, 4, 4, 4, 5, 5, 5, 5, 5, 5, 5, 5, 5, 5, 5, 5, 5, 5, 5, 5, 6, 6, 6, 6, 6, 6, 6, 6, 6, 6, 6, 6, 6, 6, 6, 6, 6, 6, 6, 6, 6, 6, 6, 6, 6, 6, 6, 6, 6, 6, 6, 6, 7, 7, 7, 7, 7, 7, 7, 7, 7, 7, 7, 7, 7, 7, 7, 7, 7, 7, 7, 7, 7, 7, 7, 7, 7, 7, 7, 7, 7, 7, 7, 7, 7, 7, 7, 7, 7, 7, 7, 7, 7, 7, 7, 7, 7, 7, 7, 7, 7, 7, 7, 7, 7, 7, 7, 7, 7, 7, 7, 7, 7, 7, 7, 7, 8, 8, 8, 8, 8, 8, 8, 8, 8, 8, 8, 8, 8, 8, 8, 8, 8, 8, 8, 8, 8, 8, 8, 8, 8, 8, 8, 8, 8, 8, 8, 8, 8, 8, 8, 8, 8, 8, 8, 8, 8, 8, 8, 8, 8, 8, 8, 8, 8, 8, 8, 8, 8, 8, 8, 8, 8, 8, 8, 8, 8, 8, 8, 8, 8, 8, 8, 8, 8, 8, 8, 8, 8, 8, 8, 8, 8, 8, 8, 8, 8, 8, 8, 8, 8, 8, 8, 8, 8, 8, 8, 8, 8, 8, 8, 8, 8, 8, 8, 8, 8, 8, 8, 8, 8, 8, 8, 8, 8, 8, 8, 8, 8, 8, 8, 8, 8, 8, 8, 8, 8, 8, 8, 8, 8, 8, 8, 8]⟩ : ByteArray).size, wrap64 (16 + wrap64 ((⟨#[0, 1, 2, 2, 3, 3, 3, 3, 4, 4, 4, 4, 4, 4, 4, 4, 5, 5, 5, 5, 5, 5, 5, 5, 5, 5, 5, 5, 5, 5, 5, 5, 6, 6, 6, 6, 6, 6, 6, 6, 6, 6, 6, 6, 6, 6, 6, 6, 6, 6, 6, 6, 6, 6, 6, 6, 6, 6, 6, 6, 6, 6, 6, 6, 7, 7, 7, 7, 7, 7, 7, 7, 7, 7, 7, 7, 7, 7, 7, 7, 7, 7, 7, 7, 7, 7, 7, 7, 7, 7, 7, 7, 7, 7, 7, 7, 7, 7, 7, 7, 7, 7, 7, 7, 7, 7, 7, 7, 7, 7, 7, 7, 7, 7, 7, 7, 7, 7, 7, 7, 7, 7, 7, 7, 7, 7, 7, 7, 8, 8, 8, 8, 8, 8, 8, 8, 8, 8, 8, 8, 8, 8, 8, 8, 8, 8, 8, 8, 8, 8, 8, 8, 8, 8, 8, 8, 8, 8, 8, 8, 8, 8, 8, 8, 8, 8, 8, 8, 8, 8, 8, 8, 8, 8, 8, 8, 8, 8, 8, 8, 8, 8, 8, 8, 8, 8, 8, 8, 8, 8, 8, 8, 8, 8, 8, 8, 8, 8, 8, 8, 8, 8, 8, 8, 8, 8, 8, 8, 8, 8, 8, 8, 8, 8, 8, 8, 8, 8, 8, 8, 8, 8, 8, 8, 8, 8, 8, 8, 8, 8, 8, 8, 8, 8, 8, 8, 8, 8, 8, 8, 8, 8, 8, 8, 8, 8, 8, 8, 8, 8, 8, 8, 8, 8, 8, 8]⟩ : ByteArray)[(x / 65536).toNat]'h).toNat) = v)) : Calls Tryz.prog 144 #[.int .u64 x] w fun e w' => e = .returned (.int .i64 v) ∧ w = w' := by
  go_enter Tryz.func144, Tryz.ntmps144
  go_wp2
  go_ret
  exact ⟨congrArg (fun z => Ending.returned (Value.int .i64 z)) (hv.out _), rfl⟩
set_option maxRecDepth 100000 in
theorem len_raw011 (x v : Int) (w : World) (h0 : (¬ 4294967296 ≤ x)) (h1 : (65536 ≤ x)) (h2 : (256 ≤ x / 65536)) (hx : 0 ≤ x / 65536 / 256) (hx' : x / 65536 / 256 < 256)
    (hv : Aside (∀ h : (x / 65536 / 256).toNat < (⟨#[0, 1, 2, 2, 3, 3, 3, 3, 4, 4, 4, 4, 4, 4, 4, 4, 5, 5, 5, 5, 5, 5, 5, 5, 5, 5, 5, 5, 5, 5, 5, 5, 6, 6, 6, 6, 6, 6, 6, 6, 6, 6, 6, 6, 6, 6, 6, 6, 6, 6, 6, 6, 6, 6, 6, 6, 6, 6, 6, 6, 6, 6, 6, 6, 7, 7, 7, 7, 7, 7, 7, 7, 7, 7, 7, 7, 7, 7, 7, 7, 7, 7, 7, 7, 7, 7, 7, 7, 7, 7, 7, 7, 7, 7, 7, 7, 7, 7, 7, 7, 7, 7, 7, 7, 7, 7, 7, 7, 7, 7, 7, 7, 7, 7, 7, 7, 7, 7, 7, 7, 7, 7, 7, 7, 7, 7, 7, 7, 8, 8, 8, 8, 8, 8, 8, 8, 8, 8, 8, 8, 8, 8, 8, 8, 8, 8, 8, 8, 8, 8, 8, 8, 8, 8, 8, 8, 8, 8, 8, 8, 8, 8, 8, 8, 8, 8, 8, 8, 8, 8, 8, 8, 8, 8, 8, 8, 8, 8, 8, 8, 8, 8, 8, 8, 8, 8, 8, 8, 8, 8, 8, 8, 8, 8, 8, 8, 8, 8, 8, 8, 8, 8, 8, 8, 8, 8, 8, 8, 8, 8, 8, 8, 8, 8, 8, 8, 8, 8, 8, 8, 8, 8, 8, 8, 8, 8, 8, 8, 8, 8, 8, 8, 8, 8, 8, 8, 8, 8, 8, 8, 8, 8, 8, 8, 8, 8, 8, 8, 8, 8, 8, 8, 8, 8, 8, 8]⟩ : ByteArray).size, wrap64 (24 + wrap64 ((⟨#[0, 1, 2, 2, 3, 3, 3, 3, 4, 4, 4, 4, 4, 4, 4, 4, 5, 5, 5, 5, 5, 5, 5, 5, 5, 5, 5, 5, 5, 5, 5, 5, 6, 6, 6, 6, 6, 6, 6, 6, 6, 6, 6, 6, 6, 6, 6, 6, 6, 6, 6, 6, 6, 6, 6, 6, 6, 6, 6, 6, 6, 6, 6, 6, 7, 7, 7, 7, 7, 7, 7, 7, 7, 7, 7, 7, 7, 7, 7, 7, 7, 7, 7, 7, 7, 7, 7, 7, 7, 7, 7, 7, 7, 7, 7, 7, 7, 7, 7, 7, 7, 7, 7, 7, 7, 7, 7, 7, 7, 7, 7, 7, 7, 7, 7, 7, 7, 7, 7, 7, 7, 7, 7, 7, 7, 7, 7, 7, 8, 8, 8, 8, 8, 8, 8, 8, 8, 8, 8, 8, 8, 8, 8, 8, 8, 8, 8, 8, 8, 8, 8, 8, 8, 8, 8, 8, 8, 8, 8, 8, 8, 8, 8, 8, 8, 8, 8, 8, 8, 8, 8, 8, 8, 8, 8, 8, 8, 8, 8, 8, 8, 8, 8, 8, 8, 8, 8, 8, 8, 8, 8, 8, 8, 8, 8, 8, 8, 8, 8, 8, 8, 8, 8, 8, 8, 8, 8, 8, 8, 8, 8, 8, 8, 8, 8, 8, 8, 8, 8, 8, 8, 8, 8, 8, 8, 8, 8, 8, 8, 8, 8, 8, 8, 8, 8, 8, 8, 8, 8, 8, 8, 8, 8, 8, 8, 8, 8, 8, 8, 8, 8, 8, 8, 8, 8, 8]⟩ : ByteArray)[(x / 65536 / 256).toNat]'h).toNat) = v)) : Calls Tryz.prog 144 #[.int .u64 x] w fun e w' => e = .returned (.int .i64 v) ∧ w = w' := by
  go_enter Tryz.func144, Tryz.ntmps144
  go_wp2
  go_ret
  exact ⟨congrArg (fun z => Ending.returned (Value.int .i64 z)) (hv.out _), rfl⟩
set_option maxRecDepth 100000 in
theorem len_raw100 (x v : Int) (w : World) (h0 : (4294967296 ≤ x)) (h1 : (¬ 65536 ≤ x / 4294967296)) (h2 : (¬ 256 ≤ x / 4294967296)) (hx : 0 ≤ x / 4294967296) (hx' : x / 4294967296 < 256)
    (hv : Aside (∀ h : (x / 4294967296).toNat < (⟨#[0, 1, 2, 2, 3, 3, 3, 3, 4, 4, 4, 4, 4, 4, 4, 4, 5, 5, 5, 5, 5, 5, 5, 5, 5, 5, 5, 5, 5, 5, 5, 5, 6, 6, 6, 6, 6, 6, 6, 6, 6, 6, 6, 6, 6, 6, 6, 6, 6, 6, 6, 6, 6, 6, 6, 6, 6, 6, 6, 6, 6, 6, 6, 6, 7, 7, 7, 7, 7, 7, 7, 7, 7, 7, 7, 7, 7, 7, 7, 7, 7, 7, 7, 7, 7, 7, 7, 7, 7, 7, 7, 7, 7, 7, 7, 7, 7, 7, 7, 7, 7, 7, 7, 7, 7, 7, 7, 7, 7, 7, 7, 7, 7, 7, 7, 7, 7, 7, 7, 7, 7, 7, 7, 7, 7, 7, 7, 7, 8, 8, 8, 8, 8, 8, 8, 8, 8, 8, 8, 8, 8, 8, 8, 8, 8, 8, 8, 8, 8, 8, 8, 8, 8, 8, 8, 8, 8, 8, 8, 8, 8, 8, 8, 8, 8, 8, 8, 8, 8, 8, 8, 8, 8, 8, 8, 8, 8, 8, 8, 8, 8, 8, 8, 8, 8, 8, 8, 8, 8, 8, 8, 8, 8, 8, 8, 8, 8, 8, 8, 8, 8, 8, 8, 8, 8, 8, 8, 8, 8, 8, 8, 8, 8, 8, 8, 8, 8, 8, 8, 8, 8, 8, 8, 8, 8, 8, 8, 8, 8, 8, 8, 8, 8, 8, 8, 8, 8, 8, 8, 8, 8, 8, 8, 8, 8, 8, 8, 8, 8, 8, 8, 8, 8, 8, 8, 8]⟩ : ByteArray).size, wrap64 (32 + wrap64 ((⟨#[0, 1, 2, 2, 3, 3, 3, 3, 4, 4, 4, 4, 4, 4, 4, 4, 5, 5, 5, 5, 5, 5, 5, 5, 5, 5, 5, 5, 5, 5, 5, 5, 6, 6, 6, 6, 6, 6, 6, 6, 6, 6, 6, 6, 6, 6, 6, 6, 6, 6, 6, 6, 6, 6, 6, 6, 6, 6, 6, 6, 6, 6, 6, 6, 7, 7, 7, 7, 7, 7, 7, 7, 7, 7, 7, 7, 7, 7, 7, 7, 7, 7, 7, 7, 7, 7, 7, 7, 7, 7, 7, 7, 7, 7, 7, 7, 7, 7, 7, 7, 7, 7, 7, 7, 7, 7, 7, 7, 7, 7, 7, 7, 7, 7, 7, 7, 7, 7, 7, 7, 7, 7, 7, 7, 7, 7, 7, 7, 8, 8, 8, 8, 8, 8, 8, 8, 8, 8, 8, 8, 8, 8, 8, 8, 8, 8, 8, 8, 8, 8, 8, 8, 8, 8, 8, 8, 8, 8, 8, 8, 8, 8, 8, 8, 8, 8, 8, 8, 8, 8, 8, 8, 8, 8, 8, 8, 8, 8, 8, 8, 8, 8, 8, 8, 8, 8, 8, 8, 8, 8, 8, 8, 8, 8, 8, 8, 8, 8, 8, 8, 8, 8, 8, 8, 8, 8, 8, 8, 8, 8, 8, 8, 8, 8, 8, 8, 8, 8, 8, 8, 8, 8, 8, 8, 8, 8, 8, 8, 8, 8, 8, 8, 8, 8, 8, 8, 8, 8, 8, 8, 8, 8, 8, 8, 8, 8, 8, 8, 8, 8, 8, 8, 8, 8, 8, 8]⟩ : ByteArray)[(x / 4294967296).toNat]'h).toNat) = v)) : Calls Tryz.prog 144 #[.int .u64 x] w fun e w' => e = .returned (.int .i64 v) ∧ w = w' := by
  go_enter Tryz.func144, Tryz.ntmps144
  go_wp2
  go_ret
  exact ⟨congrArg (fun z => Ending.returned (Value.int .i64 z)) (hv.out _), rfl⟩
set_option maxRecDepth 100000 in
theorem len_raw101 (x v : Int) (w : World) (h0 : (4294967296 ≤ x)) (h1 : (¬ 65536 ≤ x / 4294967296)) (h2 : (256 ≤ x / 4294967296)) (hx : 0 ≤ x / 4294967296 / 256) (hx' : x / 4294967296 / 256 < 256)
    (hv : Aside (∀ h : (x / 4294967296 / 256).toNat < (⟨#[0, 1, 2, 2, 3, 3, 3, 3, 4, 4, 4, 4, 4, 4, 4, 4, 5, 5, 5, 5, 5, 5, 5, 5, 5, 5, 5, 5, 5, 5, 5, 5, 6, 6, 6, 6, 6, 6, 6, 6, 6, 6, 6, 6, 6, 6, 6, 6, 6, 6, 6, 6, 6, 6, 6, 6, 6, 6, 6, 6, 6, 6, 6, 6, 7, 7, 7, 7, 7, 7, 7, 7, 7, 7, 7, 7, 7, 7, 7, 7, 7, 7, 7, 7, 7, 7, 7, 7, 7, 7, 7, 7, 7, 7, 7, 7, 7, 7, 7, 7, 7, 7, 7, 7, 7, 7, 7, 7, 7, 7, 7, 7, 7, 7, 7, 7, 7, 7, 7, 7, 7, 7, 7, 7, 7, 7, 7, 7, 8, 8, 8, 8, 8, 8, 8, 8, 8, 8, 8, 8, 8, 8, 8, 8, 8, 8, 8, 8, 8, 8, 8, 8, 8, 8, 8, 8, 8, 8, 8, 8, 8, 8, 8, 8, 8, 8, 8, 8, 8, 8, 8, 8, 8, 8, 8, 8, 8, 8, 8, 8, 8, 8, 8, 8, 8, 8, 8, 8, 8, 8, 8, 8, 8, 8, 8, 8, 8, 8, 8, 8, 8, 8, 8, 8, 8, 8, 8, 8, 8, 8, 8, 8, 8, 8, 8, 8, 8, 8, 8, 8, 8, 8, 8, 8, 8, 8, 8, 8, 8, 8, 8, 8, 8, 8, 8, 8, 8, 8, 8, 8, 8, 8, 8, 8, 8, 8, 8, 8, 8, 8, 8, 8, 8, 8, 8, 8]⟩ : ByteArray).size, wrap64 (40 + wrap64 ((⟨#[0, 1, 2, 2, 3, 3, 3, 3, 4, 4, 4, 4, 4, 4, 4, 4, 5, 5, 5, 5, 5, 5, 5, 5, 5, 5, 5, 5, 5, 5, 5, 5, 6, 6, 6, 6, 6, 6, 6, 6, 6, 6, 6, 6, 6, 6, 6, 6, 6, 6, 6, 6, 6, 6, 6, 6, 6, 6, 6, 6, 6, 6, 6, 6, 7, 7, 7, 7, 7, 7, 7, 7, 7, 7, 7, 7, 7, 7, 7, 7, 7, 7, 7, 7, 7, 7, 7, 7, 7, 7, 7, 7, 7, 7, 7, 7, 7, 7, 7, 7, 7, 7, 7, 7, 7, 7, 7, 7, 7, 7, 7, 7, 7, 7, 7, 7, 7, 7, 7, 7, 7, 7, 7, 7, 7, 7, 7, 7, 8, 8, 8, 8, 8, 8, 8, 8, 8, 8, 8, 8, 8, 8, 8, 8, 8, 8, 8, 8, 8, 8, 8, 8, 8, 8, 8, 8, 8, 8, 8, 8, 8, 8, 8, 8, 8, 8, 8, 8, 8, 8, 8, 8, 8, 8, 8, 8, 8, 8, 8, 8, 8, 8, 8, 8, 8, 8, 8, 8, 8, 8, 8, 8, 8, 8, 8, 8, 8, 8, 8, 8, 8, 8, 8, 8, 8, 8, 8, 8, 8, 8, 8, 8, 8, 8, 8, 8, 8, 8, 8, 8, 8, 8, 8, 8, 8, 8, 8, 8, 8, 8, 8, 8, 8, 8, 8, 8, 8, 8, 8, 8, 8, 8, 8, 8, 8, 8, 8, 8, 8, 8, 8, 8, 8, 8, 8, 8]⟩ : ByteArray)[(x / 4294967296 / 256).toNat]'h).toNat) = v)) : Calls Tryz.prog 144 #[.int .u64 x] w fun e w' => e = .returned (.int .i64 v) ∧ w = w' := by
  go_enter Tryz.func144, Tryz.ntmps144
  go_wp2
  go_ret
  exact ⟨congrArg (fun z => Ending.returned (Value.int .i64 z)) (hv.out _), rfl⟩
set_option maxRecDepth 100000 in
theorem len_raw110 (x v : Int) (w : World) (h0 : (4294967296 ≤ x)) (h1 : (65536 ≤ x / 4294967296)) (h2 : (¬ 256 ≤ x / 4294967296 / 65536)) (hx : 0 ≤ x / 4294967296 / 65536) (hx' : x / 4294967296 / 65536 < 256)
    (hv : Aside (∀ h : (x / 4294967296 / 65536).toNat < (⟨#[0, 1, 2, 2, 3, 3, 3, 3, 4, 4, 4, 4, 4, 4, 4, 4, 5, 5, 5, 5, 5, 5, 5, 5, 5, 5, 5, 5, 5, 5, 5, 5, 6, 6, 6, 6, 6, 6, 6, 6, 6, 6, 6, 6, 6, 6, 6, 6, 6, 6, 6, 6, 6, 6, 6, 6, 6, 6, 6, 6, 6, 6, 6, 6, 7, 7, 7, 7, 7, 7, 7, 7, 7, 7, 7, 7, 7, 7, 7, 7, 7, 7, 7, 7, 7, 7, 7, 7, 7, 7, 7, 7, 7, 7, 7, 7, 7, 7, 7, 7, 7, 7, 7, 7, 7, 7, 7, 7, 7, 7, 7, 7, 7, 7, 7, 7, 7, 7, 7, 7, 7, 7, 7, 7, 7, 7, 7, 7, 8, 8, 8, 8, 8, 8, 8, 8, 8, 8, 8, 8, 8, 8, 8, 8, 8, 8, 8, 8, 8, 8, 8, 8, 8, 8, 8, 8, 8, 8, 8, 8, 8, 8, 8, 8, 8, 8, 8, 8, 8, 8, 8, 8, 8, 8, 8, 8, 8, 8, 8, 8, 8, 8, 8, 8, 8, 8, 8, 8, 8, 8, 8, 8, 8, 8, 8, 8, 8, 8, 8, 8, 8, 8, 8, 8, 8, 8, 8, 8, 8, 8, 8, 8, 8, 8, 8, 8, 8, 8, 8, 8, 8, 8, 8, 8, 8, 8, 8, 8, 8, 8, 8, 8, 8, 8, 8, 8, 8, 8, 8, 8, 8, 8, 8, 8, 8, 8, 8, 8, 8, 8, 8, 8, 8, 8, 8, 8]⟩ : ByteArray).size, wrap64 (48 + wrap64 ((⟨#[0, 1, 2, 2, 3, 3, 3, 3, 4, 4, 4, 4, 4, 4, 4, 4, 5, 5, 5, 5, 5, 5, 5, 5, 5, 5, 5, 5, 5, 5, 5, 5, 6, 6, 6, 6, 6, 6, 6, 6, 6, 6, 6, 6, 6, 6, 6, 6, 6, 6, 6, 6, 6, 6, 6, 6, 6, 6, 6, 6, 6, 6, 6, 6, 7, 7, 7, 7, 7, 7, 7, 7, 7, 7, 7, 7, 7, 7, 7, 7, 7, 7, 7, 7, 7, 7, 7, 7, 7, 7, 7, 7, 7, 7, 7, 7, 7, 7, 7, 7, 7, 7, 7, 7, 7, 7, 7, 7, 7, 7, 7, 7, 7, 7, 7, 7, 7, 7, 7, 7, 7, 7, 7, 7, 7, 7, 7, 7, 8, 8, 8, 8, 8, 8, 8, 8, 8, 8, 8, 8, 8, 8, 8, 8, 8, 8, 8, 8, 8, 8, 8, 8, 8, 8, 8, 8, 8, 8, 8, 8, 8, 8, 8, 8, 8, 8, 8, 8, 8, 8, 8, 8, 8, 8, 8, 8, 8, 8, 8, 8, 8, 8, 8, 8, 8, 8, 8, 8, 8, 8, 8, 8, 8, 8, 8, 8, 8, 8, 8, 8, 8, 8, 8, 8, 8, 8, 8, 8, 8, 8, 8, 8, 8, 8, 8, 8, 8, 8, 8, 8, 8, 8, 8, 8, 8, 8, 8, 8, 8, 8, 8, 8, 8, 8, 8, 8, 8, 8, 8, 8, 8, 8, 8, 8, 8, 8, 8, 8, 8, 8, 8, 8, 8, 8, 8, 8]⟩ : ByteArray)[(x / 4294967296 / 65536).toNat]'h).toNat) = v)) : Calls Tryz.prog 144 #[.int .u64 x] w fun e w' => e = .returned (.int .i64 v) ∧ w = w' := by
  go_enter Tryz.func144, Tryz.ntmps144
  go_wp2
  go_ret
  exact ⟨congrArg (fun z => Ending.returned (Value.int .i64 z)) (hv.out _), rfl⟩
set_option maxRecDepth 100000 in
theorem len_raw111 (x v : Int) (w : World) (h0 : (4294967296 ≤ x)) (h1 : (65536 ≤ x / 4294967296)) (h2 : (256 ≤ x / 4294967296 / 65536)) (hx : 0 ≤ x / 4294967296 / 65536 / 256) (hx' : x / 4294967296 / 65536 / 256 < 256)
    (hv : Aside (∀ h : (x / 4294967296 / 65536 / 256).toNat < (⟨#[0, 1, 2, 2, 3, 3, 3, 3, 4, 4, 4, 4, 4, 4, 4, 4, 5, 5, 5, 5, 5, 5, 5, 5, 5, 5, 5, 5, 5, 5, 5, 5, 6, 6, 6, 6, 6, 6, 6, 6, 6, 6, 6, 6, 6, 6, 6, 6, 6, 6, 6, 6, 6, 6, 6, 6, 6, 6, 6, 6, 6, 6, 6, 6, 7, 7, 7, 7, 7, 7, 7, 7, 7, 7, 7, 7, 7, 7, 7, 7, 7, 7, 7, 7, 7, 7, 7, 7, 7, 7, 7, 7, 7, 7, 7, 7, 7, 7, 7, 7, 7, 7, 7, 7, 7, 7, 7, 7, 7, 7, 7, 7, 7, 7, 7, 7, 7, 7, 7, 7, 7, 7, 7, 7, 7, 7, 7, 7, 8, 8, 8, 8, 8, 8, 8, 8, 8, 8, 8, 8, 8, 8, 8, 8, 8, 8, 8, 8, 8, 8, 8, 8, 8, 8, 8, 8, 8, 8, 8, 8, 8, 8, 8, 8, 8, 8, 8, 8, 8, 8, 8, 8, 8, 8, 8, 8, 8, 8, 8, 8, 8, 8, 8, 8, 8, 8, 8, 8, 8, 8, 8, 8, 8, 8, 8, 8, 8, 8, 8, 8, 8, 8, 8, 8, 8, 8, 8, 8, 8, 8, 8, 8, 8, 8, 8, 8, 8, 8, 8, 8, 8, 8, 8, 8, 8, 8, 8, 8, 8, 8, 8, 8, 8, 8, 8, 8, 8, 8, 8, 8, 8, 8, 8, 8, 8, 8, 8, 8, 8, 8, 8, 8, 8, 8, 8, 8]⟩ : ByteArray).size, wrap64 (56 + wrap64 ((⟨#[0, 1, 2, 2, 3, 3, 3, 3, 4, 4, 4, 4, 4, 4, 4, 4, 5, 5, 5, 5, 5, 5, 5, 5, 5, 5, 5, 5, 5, 5, 5, 5, 6, 6, 6, 6, 6, 6, 6, 6, 6, 6, 6, 6, 6, 6, 6, 6, 6, 6, 6, 6, 6, 6, 6, 6, 6, 6, 6, 6, 6, 6, 6, 6, 7, 7, 7, 7, 7, 7, 7, 7, 7, 7, 7, 7, 7, 7, 7, 7, 7, 7, 7, 7, 7, 7, 7, 7, 7, 7, 7, 7, 7, 7, 7, 7, 7, 7, 7, 7, 7, 7, 7, 7, 7, 7, 7, 7, 7, 7, 7, 7, 7, 7, 7, 7, 7, 7, 7, 7, 7, 7, 7, 7, 7, 7, 7, 7, 8, 8, 8, 8, 8, 8, 8, 8, 8, 8, 8, 8, 8, 8, 8, 8, 8, 8, 8, 8, 8, 8, 8, 8, 8, 8, 8, 8, 8, 8, 8, 8, 8, 8, 8, 8, 8, 8, 8, 8, 8, 8, 8, 8, 8, 8, 8, 8, 8, 8, 8, 8, 8, 8, 8, 8, 8, 8, 8, 8, 8, 8, 8, 8, 8, 8, 8, 8, 8, 8, 8, 8, 8, 8, 8, 8, 8, 8, 8, 8, 8, 8, 8, 8, 8, 8, 8, 8, 8, 8, 8, 8, 8, 8, 8, 8, 8, 8, 8, 8, 8, 8, 8, 8, 8, 8, 8, 8, 8, 8, 8, 8, 8, 8, 8, 8, 8, 8, 8, 8, 8, 8, 8, 8, 8, 8, 8, 8]⟩ : ByteArray)[(x / 4294967296 / 65536 / 256).toNat]'h).toNat) = v)) : Calls Tryz.prog 144 #[.int .u64 x] w fun e w' => e = .returned (.int .i64 v) ∧ w = w' := by
  go_enter Tryz.func144, Tryz.ntmps144
  go_wp2
  go_ret
  exact ⟨congrArg (fun z => Ending.returned (Value.int .i64 z)) (hv.out _), rfl⟩

/-- the length of a byte's number. -/
def L8 (i : Nat) : Nat := if i = 0 then 0 else if i < 2 then 1 else if i < 4 then 2 else if i < 8 then 3 else if i < 16 then 4 else if i < 32 then 5 else if i < 64 then 6 else if i < 128 then 7 else 8
set_option maxRecDepth 100000 in
theorem tab_list : ∀ i, i < 256 → (([0, 1, 2, 2, 3, 3, 3, 3, 4, 4, 4, 4, 4, 4, 4, 4, 5, 5, 5, 5, 5, 5, 5, 5, 5, 5, 5, 5, 5, 5, 5, 5, 6, 6, 6, 6, 6, 6, 6, 6, 6, 6, 6, 6, 6, 6, 6, 6, 6, 6, 6, 6, 6, 6, 6, 6, 6, 6, 6, 6, 6, 6, 6, 6, 7, 7, 7, 7, 7, 7, 7, 7, 7, 7, 7, 7, 7, 7, 7, 7, 7, 7, 7, 7, 7, 7, 7, 7, 7, 7, 7, 7, 7, 7, 7, 7, 7, 7, 7, 7, 7, 7, 7, 7, 7, 7, 7, 7, 7, 7, 7, 7, 7, 7, 7, 7, 7, 7, 7, 7, 7, 7, 7, 7, 7, 7, 7, 7, 8, 8, 8, 8, 8, 8, 8, 8, 8, 8, 8, 8, 8, 8, 8, 8, 8, 8, 8, 8, 8, 8, 8, 8, 8, 8, 8, 8, 8, 8, 8, 8, 8, 8, 8, 8, 8, 8, 8, 8, 8, 8, 8, 8, 8, 8, 8, 8, 8, 8, 8, 8, 8, 8, 8, 8, 8, 8, 8, 8, 8, 8, 8, 8, 8, 8, 8, 8, 8, 8, 8, 8, 8, 8, 8, 8, 8, 8, 8, 8, 8, 8, 8, 8, 8, 8, 8, 8, 8, 8, 8, 8, 8, 8, 8, 8, 8, 8, 8, 8, 8, 8, 8, 8, 8, 8, 8, 8, 8, 8, 8, 8, 8, 8, 8, 8, 8, 8, 8, 8, 8, 8, 8, 8, 8, 8, 8, 8] : List UInt8).getD i 0).toNat = L8 i := by decide +kernel
set_option maxRecDepth 100000 in
theorem tab_get (i : Nat) (h : i < (⟨#[0, 1, 2, 2, 3, 3, 3, 3, 4, 4, 4, 4, 4, 4, 4, 4, 5, 5, 5, 5, 5, 5, 5, 5, 5, 5, 5, 5, 5, 5, 5, 5, 6, 6, 6, 6, 6, 6, 6, 6, 6, 6, 6, 6, 6, 6, 6, 6, 6, 6, 6, 6, 6, 6, 6, 6, 6, 6, 6, 6, 6, 6, 6, 6, 7, 7, 7, 7, 7, 7, 7, 7, 7, 7, 7, 7, 7, 7, 7, 7, 7, 7, 7, 7, 7, 7, 7, 7, 7, 7, 7, 7, 7, 7, 7, 7, 7, 7, 7, 7, 7, 7, 7, 7, 7, 7, 7, 7, 7, 7, 7, 7, 7, 7, 7, 7, 7, 7, 7, 7, 7, 7, 7, 7, 7, 7, 7, 7, 8, 8, 8, 8, 8, 8, 8, 8, 8, 8, 8, 8, 8, 8, 8, 8, 8, 8, 8, 8, 8, 8, 8, 8, 8, 8, 8, 8, 8, 8, 8, 8, 8, 8, 8, 8, 8, 8, 8, 8, 8, 8, 8, 8, 8, 8, 8, 8, 8, 8, 8, 8, 8, 8, 8, 8, 8, 8, 8, 8, 8, 8, 8, 8, 8, 8, 8, 8, 8, 8, 8, 8, 8, 8, 8, 8, 8, 8, 8, 8, 8, 8, 8, 8, 8, 8, 8, 8, 8, 8, 8, 8, 8, 8, 8, 8, 8, 8, 8, 8, 8, 8, 8, 8, 8, 8, 8, 8, 8, 8, 8, 8, 8, 8, 8, 8, 8, 8, 8, 8, 8, 8, 8, 8, 8, 8, 8, 8]⟩ : ByteArray).size) : ((⟨#[0, 1, 2, 2, 3, 3, 3, 3, 4, 4, 4, 4, 4, 4, 4, 4, 5, 5, 5, 5, 5, 5, 5, 5, 5, 5, 5, 5, 5, 5, 5, 5, 6, 6, 6, 6, 6, 6, 6, 6, 6, 6, 6, 6, 6, 6, 6, 6, 6, 6, 6, 6, 6, 6, 6, 6, 6, 6, 6, 6, 6, 6, 6, 6, 7, 7, 7, 7, 7, 7, 7, 7, 7, 7, 7, 7, 7, 7, 7, 7, 7, 7, 7, 7, 7, 7, 7, 7, 7, 7, 7, 7, 7, 7, 7, 7, 7, 7, 7, 7, 7, 7, 7, 7, 7, 7, 7, 7, 7, 7, 7, 7, 7, 7, 7, 7, 7, 7, 7, 7, 7, 7, 7, 7, 7, 7, 7, 7, 8, 8, 8, 8, 8, 8, 8, 8, 8, 8, 8, 8, 8, 8, 8, 8, 8, 8, 8, 8, 8, 8, 8, 8, 8, 8, 8, 8, 8, 8, 8, 8, 8, 8, 8, 8, 8, 8, 8, 8, 8, 8, 8, 8, 8, 8, 8, 8, 8, 8, 8, 8, 8, 8, 8, 8, 8, 8, 8, 8, 8, 8, 8, 8, 8, 8, 8, 8, 8, 8, 8, 8, 8, 8, 8, 8, 8, 8, 8, 8, 8, 8, 8, 8, 8, 8, 8, 8, 8, 8, 8, 8, 8, 8, 8, 8, 8, 8, 8, 8, 8, 8, 8, 8, 8, 8, 8, 8, 8, 8, 8, 8, 8, 8, 8, 8, 8, 8, 8, 8, 8, 8, 8, 8, 8, 8, 8, 8]⟩ : ByteArray)[i]'h).toNat = L8 i := by
  have h2 : i < 256 := h
  have := tab_list i h2
  rw [List.getD_eq_getElem?_getD, List.getElem?_eq_getElem (by exact h)] at this
  exact this
theorem L8_le (i : Nat) : L8 i ≤ 8 := by unfold L8; repeat' split <;> try omega
theorem L8_span (i : Nat) (h0 : i ≠ 0) (h : i < 256) : 1 ≤ L8 i ∧ 2 ^ (L8 i - 1) ≤ i ∧ i < 2 ^ L8 i := by
  unfold L8
  repeat' split
  all_goals (try omega)
theorem len_sum (n i : Nat) (hn : n ≤ 56) : wrap64 ((n : Int) + wrap64 ((L8 i : Nat) : Int)) = ((n + L8 i : Nat) : Int) := by
  have := L8_le i
  unfold wrap64
  omega
theorem len_zero (i : Nat) : wrap64 (wrap64 ((L8 i : Nat) : Int)) = ((L8 i : Nat) : Int) := by
  have := L8_le i
  unfold wrap64
  omega
/-- how many bits X takes. -/
def LEN (X : Nat) : Nat :=
  if 4294967296 ≤ X then (if 281474976710656 ≤ X then (if 72057594037927936 ≤ X then 56 + L8 (X / 72057594037927936) else 48 + L8 (X / 281474976710656)) else (if 1099511627776 ≤ X then 40 + L8 (X / 1099511627776) else 32 + L8 (X / 4294967296)))
  else (if 65536 ≤ X then (if 16777216 ≤ X then 24 + L8 (X / 16777216) else 16 + L8 (X / 65536)) else (if 256 ≤ X then 8 + L8 (X / 256) else L8 X))
theorem len_ok000 (X : Nat) (hX : X < 2 ^ 64) (h0 : ¬ 4294967296 ≤ X) (h1 : ¬ 65536 ≤ X) (h2 : ¬ 256 ≤ X) (w : World) : Calls Tryz.prog 144 #[.int .u64 (X : Int)] w fun e w' => e = .returned (.int .i64 ((0 + L8 (X / 1) : Nat) : Int)) ∧ w = w' := by
  have e : ((X : Int)).toNat = X / 1 := by omega
  refine len_raw000 X _ w (by omega) (by omega) (by omega) (by omega) (by omega) fun h => ?_
  rw [tab_get _ h, e]
  exact (len_zero _).trans (by rw [Nat.zero_add])
theorem len_ok001 (X : Nat) (hX : X < 2 ^ 64) (h0 : ¬ 4294967296 ≤ X) (h1 : ¬ 65536 ≤ X) (h2 : 256 ≤ X) (w : World) : Calls Tryz.prog 144 #[.int .u64 (X : Int)] w fun e w' => e = .returned (.int .i64 ((8 + L8 (X / 256) : Nat) : Int)) ∧ w = w' := by
  have e : ((X : Int) / 256).toNat = X / 256 := by omega
  refine len_raw001 X _ w (by omega) (by omega) (by omega) (by omega) (by omega) fun h => ?_
  rw [tab_get _ h, e]
  exact len_sum 8 _ (by decide)
theorem len_ok010 (X : Nat) (hX : X < 2 ^ 64) (h0 : ¬ 4294967296 ≤ X) (h1 : 65536 ≤ X) (h2 : ¬ 16777216 ≤ X) (w : World) : Calls Tryz.prog 144 #[.int .u64 (X : Int)] w fun e w' => e = .returned (.int .i64 ((16 + L8 (X / 65536) : Nat) : Int)) ∧ w = w' := by
  have e : ((X : Int) / 65536).toNat = X / 65536 := by omega
  refine len_raw010 X _ w (by omega) (by omega) (by omega) (by omega) (by omega) fun h => ?_
  rw [tab_get _ h, e]
  exact len_sum 16 _ (by decide)
theorem len_ok011 (X : Nat) (hX : X < 2 ^ 64) (h0 : ¬ 4294967296 ≤ X) (h1 : 65536 ≤ X) (h2 : 16777216 ≤ X) (w : World) : Calls Tryz.prog 144 #[.int .u64 (X : Int)] w fun e w' => e = .returned (.int .i64 ((24 + L8 (X / 16777216) : Nat) : Int)) ∧ w = w' := by
  have e : ((X : Int) / 65536 / 256).toNat = X / 16777216 := by omega
  refine len_raw011 X _ w (by omega) (by omega) (by omega) (by omega) (by omega) fun h => ?_
  rw [tab_get _ h, e]
  exact len_sum 24 _ (by decide)
theorem len_ok100 (X : Nat) (hX : X < 2 ^ 64) (h0 : 4294967296 ≤ X) (h1 : ¬ 281474976710656 ≤ X) (h2 : ¬ 1099511627776 ≤ X) (w : World) : Calls Tryz.prog 144 #[.int .u64 (X : Int)] w fun e w' => e = .returned (.int .i64 ((32 + L8 (X / 4294967296) : Nat) : Int)) ∧ w = w' := by
  have e : ((X : Int) / 4294967296).toNat = X / 4294967296 := by omega
  refine len_raw100 X _ w (by omega) (by omega) (by omega) (by omega) (by omega) fun h => ?_
  rw [tab_get _ h, e]
  exact len_sum 32 _ (by decide)
theorem len_ok101 (X : Nat) (hX : X < 2 ^ 64) (h0 : 4294967296 ≤ X) (h1 : ¬ 281474976710656 ≤ X) (h2 : 1099511627776 ≤ X) (w : World) : Calls Tryz.prog 144 #[.int .u64 (X : Int)] w fun e w' => e = .returned (.int .i64 ((40 + L8 (X / 1099511627776) : Nat) : Int)) ∧ w = w' := by
  have e : ((X : Int) / 4294967296 / 256).toNat = X / 1099511627776 := by omega
  refine len_raw101 X _ w (by omega) (by omega) (by omega) (by omega) (by omega) fun h => ?_
  rw [tab_get _ h, e]
  exact len_sum 40 _ (by decide)
theorem len_ok110 (X : Nat) (hX : X < 2 ^ 64) (h0 : 4294967296 ≤ X) (h1 : 281474976710656 ≤ X) (h2 : ¬ 72057594037927936 ≤ X) (w : World) : Calls Tryz.prog 144 #[.int .u64 (X : Int)] w fun e w' => e = .returned (.int .i64 ((48 + L8 (X / 281474976710656) : Nat) : Int)) ∧ w = w' := by
  have e : ((X : Int) / 4294967296 / 65536).toNat = X / 281474976710656 := by omega
  refine len_raw110 X _ w (by omega) (by omega) (by omega) (by omega) (by omega) fun h => ?_
  rw [tab_get _ h, e]
  exact len_sum 48 _ (by decide)
theorem len_ok111 (X : Nat) (hX : X < 2 ^ 64) (h0 : 4294967296 ≤ X) (h1 : 281474976710656 ≤ X) (h2 : 72057594037927936 ≤ X) (w : World) : Calls Tryz.prog 144 #[.int .u64 (X : Int)] w fun e w' => e = .returned (.int .i64 ((56 + L8 (X / 72057594037927936) : Nat) : Int)) ∧ w = w' := by
  have e : ((X : Int) / 4294967296 / 65536 / 256).toNat = X / 72057594037927936 := by omega
  refine len_raw111 X _ w (by omega) (by omega) (by omega) (by omega) (by omega) fun h => ?_
  rw [tab_get _ h, e]
  exact len_sum 56 _ (by decide)
theorem len_ok (X : Nat) (hX : X < 2 ^ 64) (w : World) : Calls Tryz.prog 144 #[.int .u64 (X : Int)] w fun e w' => e = .returned (.int .i64 ((LEN X : Nat) : Int)) ∧ w = w' := by
  unfold LEN
  split
  · split
    · split
      · exact len_ok111 X hX (by omega) (by omega) (by omega) w
      · exact len_ok110 X hX (by omega) (by omega) (by omega) w
    · split
      · exact len_ok101 X hX (by omega) (by omega) (by omega) w
      · exact len_ok100 X hX (by omega) (by omega) (by omega) w
  · split
    · split
      · exact len_ok011 X hX (by omega) (by omega) (by omega) w
      · exact len_ok010 X hX (by omega) (by omega) (by omega) w
    · split
      · exact len_ok001 X hX (by omega) (by omega) (by omega) w
      · have k := len_ok000 X hX (by omega) (by omega) (by omega) w
        rw [Nat.div_one, Nat.zero_add] at k
        exact k
theorem span_up {X n : Nat} (h0 : X / 2 ^ n ≠ 0) (h : X / 2 ^ n < 256) : 1 ≤ n + L8 (X / 2 ^ n) ∧ 2 ^ (n + L8 (X / 2 ^ n) - 1) ≤ X ∧ X < 2 ^ (n + L8 (X / 2 ^ n)) := by
  obtain ⟨a, b, c⟩ := L8_span _ h0 h
  have hp := Nat.two_pow_pos n
  refine ⟨by omega, ?_, ?_⟩
  · rw [show n + L8 (X / 2 ^ n) - 1 = n + (L8 (X / 2 ^ n) - 1) by omega, Nat.pow_add]
    exact Nat.le_trans (Nat.mul_le_mul_left _ b) (Nat.mul_div_le X (2 ^ n))
  · rw [Nat.pow_add, Nat.mul_comm]
    exact (Nat.div_lt_iff_lt_mul hp).1 c
theorem LEN_span (X : Nat) (hX : X < 2 ^ 64) (h0 : X ≠ 0) : 1 ≤ LEN X ∧ 2 ^ (LEN X - 1) ≤ X ∧ X < 2 ^ LEN X := by
  unfold LEN
  split
  · split
    · split
      · exact span_up (n := 56) (by omega) (by omega)
      · exact span_up (n := 48) (by omega) (by omega)
    · split
      · exact span_up (n := 40) (by omega) (by omega)
      · exact span_up (n := 32) (by omega) (by omega)
  · split
    · split
      · exact span_up (n := 24) (by omega) (by omega)
      · exact span_up (n := 16) (by omega) (by omega)
    · split
      · exact span_up (n := 8) (by omega) (by omega)
      · exact L8_span X h0 (by omega)
theorem high_raw (x r : Int) (w : World) (c : ∀ w, Calls Tryz.prog 144 #[.int .u64 x] w fun e w' => e = .returned (.int .i64 r) ∧ w = w') (h0 : 0 ≤ r) (h1 : r ≤ 64) :
    Calls Tryz.prog 118 #[.int .u64 x] w fun e w' => e = .returned (.int .i64 (r - 1)) ∧ w = w' := by
  go_enter Tryz.func118, Tryz.ntmps118
  go_wp2_with fail
  refine (c _).mono ?_
  rintro e w' ⟨rfl, rfl⟩
  go_wp2
  go_ret
  exact ⟨rfl, rfl⟩
end Go.Proofs.YtlicfinmibbpdaaGreatDoor

/- What the small functions of package pos answer: tree, ahead, Nodes, over, beside, Leaf. -/
namespace Go.Proofs.YtlicfinmibbpdaaGreatDoor
open Go.RowKit

theorem MASK_TREE {h : Nat} (hh : h ≤ 63) : MASK ((h : Int) + 1) = TREE h := by
  unfold MASK TREE
  rw [show min ((h : Int) + 1).toNat 64 = h + 1 by omega]
theorem tree_raw (h r : Int) (w : World) (e : wrap64 (h + 1) = h + 1) (c : ∀ w, Calls Tryz.prog 134 #[.int .i64 (h + 1)] w fun e w' => e = .returned (.int .u64 r) ∧ w = w') :
    Calls Tryz.prog 106 #[.int .i64 h] w fun e w' => e = .returned (.int .u64 r) ∧ w = w' := by
  go_enter Tryz.func106, Tryz.ntmps106
  go_wp2_with fail
  refine (c _).mono ?_
  rintro e w' ⟨rfl, rfl⟩
  go_wp2
  go_ret
  exact ⟨rfl, rfl⟩
theorem tree_ok (h : Nat) (hh : h ≤ 63) (w : World) : Calls Tryz.prog 106 #[.int .i64 (h : Int)] w fun e w' => e = .returned (.int .u64 ((TREE h : Nat) : Int)) ∧ w = w' := by
  refine tree_raw h _ w (by unfold wrap64; omega) (fun w => ?_)
  rw [← MASK_TREE hh]
  exact mask_ok ((h : Int) + 1) (by omega) w
theorem beside_right (p h t : Int) (w : World) (c : ∀ w, Calls Tryz.prog 106 #[.int .i64 h] w fun e w' => e = .returned (.int .u64 t) ∧ w = w') :
    Calls Tryz.prog 122 #[.int .u64 p, .int .i64 h, .bool true] w fun e w' => e = .returned (.int .u64 (IntKind.u64.wrap (p - t))) ∧ w = w' := by
  go_enter Tryz.func122, Tryz.ntmps122
  go_wp2_with fail
  refine (c _).mono ?_
  rintro e w' ⟨rfl, rfl⟩
  go_wp2
  go_ret
  exact ⟨rfl, rfl⟩
end Go.Proofs.YtlicfinmibbpdaaGreatDoor

/- The places of the set bits, in plain numbers. -/
namespace Go.Proofs.YtlicfinmibbpdaaGreatDoor
open Go.RowKit

/-- the places of the set bits among the lowest k ones, o added to each. -/
def PL : Nat → Nat → Nat → List Nat
  | 0, _, _ => []
  | k + 1, o, X => if X % 2 = 1 then o :: PL k (o + 1) (X / 2) else PL k (o + 1) (X / 2)
def PLACES (X : Nat) : List Nat := PL 64 0 X
theorem PL_zero : ∀ k o, PL k o 0 = []
  | 0, _ => rfl
  | k + 1, o => by
    have := PL_zero k (o + 1)
    simpa [PL] using this
theorem PL_length : ∀ k o X, (PL k o X).length = DSUM 1 k X
  | 0, _, _ => rfl
  | k + 1, o, X => by
    have ih := PL_length k (o + 1) (X / 2)
    unfold PL DSUM
    rw [Nat.pow_one]
    split
    · rw [List.length_cons, ih]; omega
    · rw [ih]; omega
theorem PLACES_length (X : Nat) : (PLACES X).length = POP X := PL_length 64 0 X
theorem PL_step : ∀ (t k o q : Nat), t < k → PL k o (2 ^ t * (2 * q + 1)) = (o + t) :: PL k o (2 ^ (t + 1) * q)
  | 0, 0, _, _, h => by omega
  | 0, k + 1, o, q, _ => by
    have h1 : (2 ^ 0 * (2 * q + 1)) = 2 * q + 1 := by simp
    have h2 : 2 ^ (0 + 1) * q = 2 * q := by simp
    rw [h1, h2]
    unfold PL
    rw [if_pos (by omega), if_neg (by omega), show (2 * q + 1) / 2 = q by omega, show 2 * q / 2 = q by omega]
    rfl
  | t + 1, 0, _, _, h => by omega
  | t + 1, k + 1, o, q, h => by
    have ih := PL_step t k (o + 1) q (by omega)
    have h1 : 2 ^ (t + 1) * (2 * q + 1) = 2 * (2 ^ t * (2 * q + 1)) := by rw [Nat.pow_succ, Nat.mul_comm (2 ^ t) 2, Nat.mul_assoc]
    have h2 : 2 ^ (t + 1 + 1) * q = 2 * (2 ^ (t + 1) * q) := by rw [Nat.pow_succ, Nat.mul_comm (2 ^ (t + 1)) 2, Nat.mul_assoc]
    rw [h1, h2]
    generalize 2 ^ t * (2 * q + 1) = a at ih ⊢
    generalize 2 ^ (t + 1) * q = b at ih ⊢
    unfold PL
    rw [if_neg (by omega), if_neg (by omega), show 2 * a / 2 = a by omega, show 2 * b / 2 = b by omega, ih, show o + (t + 1) = o + 1 + t by omega]
theorem POP_le (X : Nat) : POP X ≤ 64 := by
  have : ∀ k X, DSUM 1 k X ≤ k := fun k => by
    induction k with
    | zero => intro X; exact Nat.le_refl _
    | succ k ih =>
      intro X
      have := ih (X / 2)
      unfold DSUM
      rw [Nat.pow_one]
      omega
  exact this 64 X
theorem odd_less (q : Nat) : (2 * q + 1) &&& (2 * q) = 2 * q := by
  apply Nat.eq_of_testBit_eq
  intro i
  rw [Nat.testBit_and]
  cases i with
  | zero => simp [Nat.testBit_zero]
  | succ i =>
    rw [Nat.testBit_succ, Nat.testBit_succ, show (2 * q + 1) / 2 = q by omega, show 2 * q / 2 = q by omega]
    simp
theorem less_and : ∀ (t q : Nat), 2 ^ t * (2 * q + 1) &&& (2 ^ t * (2 * q + 1) - 1) = 2 ^ (t + 1) * q
  | 0, q => by
    have h1 : (2 ^ 0 * (2 * q + 1)) = 2 * q + 1 := by simp
    have h2 : 2 ^ (0 + 1) * q = 2 * q := by simp
    rw [h1, h2]
    exact odd_less q
  | t + 1, q => by
    have ih := less_and t q
    have h1 : 2 ^ (t + 1) * (2 * q + 1) = 2 * (2 ^ t * (2 * q + 1)) := by rw [Nat.pow_succ, Nat.mul_comm (2 ^ t) 2, Nat.mul_assoc]
    have h2 : 2 ^ (t + 1 + 1) * q = 2 * (2 ^ (t + 1) * q) := by rw [Nat.pow_succ, Nat.mul_comm (2 ^ (t + 1)) 2, Nat.mul_assoc]
    have hp : 0 < 2 ^ t * (2 * q + 1) := Nat.mul_pos (Nat.two_pow_pos t) (by omega)
    rw [h1, h2, ← ih]
    generalize 2 ^ t * (2 * q + 1) = a at hp ⊢
    apply Nat.eq_of_testBit_eq
    intro i
    rw [Nat.testBit_and]
    cases i with
    | zero => simp [Nat.testBit_zero]
    | succ i =>
      rw [Nat.testBit_succ, Nat.testBit_succ, Nat.testBit_succ, show 2 * a / 2 = a by omega, show (2 * a - 1) / 2 = a - 1 by omega, ← Nat.testBit_and, show 2 * (a &&& (a - 1)) / 2 = a &&& (a - 1) by omega]
end Go.Proofs.YtlicfinmibbpdaaGreatDoor
