/- What the small functions of package num answer, call by call, and that awake answers true. -/
import Derived.Test.YtddmfpiflnjmjaaDoorProg
import Derived.Test.YtddmfpiflnjmjaaDoorNumPlain
import Derived.WalkKit
import Derived.WalkLawsBesides
namespace Go.Proofs.YtddmfpiflnjmjaaDoor
open Go.RowKit

theorem shl_raw (x n : Int) (w : World) : Calls Tryd.prog 91 #[.int .u64 x, .int .i64 n] w fun e w' => e = .returned (.int .u64 (if n < 0 then x / 2 ^ min (IntKind.u64.wrap (-IntKind.u64.wrap n)).toNat 64 else IntKind.u64.wrap (x * 2 ^ min (IntKind.u64.wrap n).toNat 64))) ∧ w = w' := by
  by_cases h : n < 0
  · rw [if_pos h]
    go_enter Tryd.func91, Tryd.ntmps91
    go_wp2
    go_ret
    exact ⟨rfl, rfl⟩
  · rw [if_neg h]
    go_enter Tryd.func91, Tryd.ntmps91
    go_wp2
    go_ret
    exact ⟨rfl, rfl⟩
theorem shr_raw (x n : Int) (w : World) : Calls Tryd.prog 92 #[.int .u64 x, .int .i64 n] w fun e w' => e = .returned (.int .u64 (if n < 0 then IntKind.u64.wrap (x * 2 ^ min (IntKind.u64.wrap (-IntKind.u64.wrap n)).toNat 64) else x / 2 ^ min (IntKind.u64.wrap n).toNat 64)) ∧ w = w' := by
  by_cases h : n < 0
  · rw [if_pos h]
    go_enter Tryd.func92, Tryd.ntmps92
    go_wp2
    go_ret
    exact ⟨rfl, rfl⟩
  · rw [if_neg h]
    go_enter Tryd.func92, Tryd.ntmps92
    go_wp2
    go_ret
    exact ⟨rfl, rfl⟩
theorem mask_raw (n : Int) (w : World) : Calls Tryd.prog 80 #[.int .i64 n] w fun e w' => e = .returned (.int .u64 (if n ≤ 0 then 0 else IntKind.u64.wrap (IntKind.u64.wrap (1 * 2 ^ min (IntKind.u64.wrap n).toNat 64) - 1))) ∧ w = w' := by
  by_cases h : n ≤ 0
  · rw [if_pos h]
    go_enter Tryd.func80, Tryd.ntmps80
    go_wp2
    go_ret
    exact ⟨rfl, rfl⟩
  · rw [if_neg h]
    go_enter Tryd.func80, Tryd.ntmps80
    go_wp2
    go_ret
    exact ⟨rfl, rfl⟩

theorem shl_ok (X : Nat) (n : Int) (hX : X < 2 ^ 64) (h0 : -(2 ^ 63) ≤ n) (h1 : n < 2 ^ 63) (w : World) : Calls Tryd.prog 91 #[.int .u64 (X : Int), .int .i64 n] w fun e w' => e = .returned (.int .u64 ((SHL X n : Nat) : Int)) ∧ w = w' :=
  (shl_raw X n w).mono fun e w' h => by rw [shl_raw_eq hX h0 h1] at h; exact h
theorem shr_ok (X : Nat) (n : Int) (hX : X < 2 ^ 64) (h0 : -(2 ^ 63) ≤ n) (h1 : n < 2 ^ 63) (w : World) : Calls Tryd.prog 92 #[.int .u64 (X : Int), .int .i64 n] w fun e w' => e = .returned (.int .u64 ((SHR X n : Nat) : Int)) ∧ w = w' :=
  (shr_raw X n w).mono fun e w' h => by rw [shr_raw_eq hX h0 h1] at h; exact h
theorem mask_ok (n : Int) (h1 : n < 2 ^ 63) (w : World) : Calls Tryd.prog 80 #[.int .i64 n] w fun e w' => e = .returned (.int .u64 ((MASK n : Nat) : Int)) ∧ w = w' :=
  (mask_raw n w).mono fun e w' h => by rw [mask_raw_eq h1] at h; exact h

end Go.Proofs.YtddmfpiflnjmjaaDoor
