/- What the small functions of package num answer, call by call, and that awake answers true. -/
import Derived.Test.YtlklnljgmkagoaaDoorProg
import Derived.Test.YtlklnljgmkagoaaDoorNumPlain
import Derived.WalkKit
import Derived.WalkLawsBesides
namespace Go.Proofs.YtlklnljgmkagoaaDoor
open Go.RowKit

theorem shl_raw (x n : Int) (w : World) : Calls Tryd.prog 20 #[.int .u64 x, .int .i64 n] w fun e w' => e = .returned (.int .u64 (if n < 0 then x / 2 ^ min (IntKind.u64.wrap (-IntKind.u64.wrap n)).toNat 64 else IntKind.u64.wrap (x * 2 ^ min (IntKind.u64.wrap n).toNat 64))) ∧ w = w' := by
  by_cases h : n < 0
  · rw [if_pos h]
    go_enter Tryd.func20, Tryd.ntmps20
    go_wp2
    go_ret
    exact ⟨rfl, rfl⟩
  · rw [if_neg h]
    go_enter Tryd.func20, Tryd.ntmps20
    go_wp2
    go_ret
    exact ⟨rfl, rfl⟩
theorem shl_ok (X : Nat) (n : Int) (hX : X < 2 ^ 64) (h0 : -(2 ^ 63) ≤ n) (h1 : n < 2 ^ 63) (w : World) : Calls Tryd.prog 20 #[.int .u64 (X : Int), .int .i64 n] w fun e w' => e = .returned (.int .u64 ((SHL X n : Nat) : Int)) ∧ w = w' :=
  (shl_raw X n w).mono fun e w' h => by rw [shl_raw_eq hX h0 h1] at h; exact h
set_option maxRecDepth 1000000 in
theorem awake_ok (w : World) : Calls Tryd.prog 13 #[] w fun e w' => e = .returned (.bool true) ∧ Grown w w' ∧ Below w.heap.size w w' := by
  have hmk : ∀ w : World, (Instr.makeSlice 34 (.int .i64 0) (.int .i64 10)).run Tryd.prog w = .ok (.slice (some ⟨w.heap.size, 0, none⟩) 0 10) (w.alloc (.cells #[.int .u8 0, .int .u8 0, .int .u8 0, .int .u8 0, .int .u8 0, .int .u8 0, .int .u8 0, .int .u8 0, .int .u8 0, .int .u8 0] 5)) := fun _ => by kernel_rfl
  have hn : wrap64 (wrap32 (wrap64 (IntKind.i16.wrap (wrap64 (IntKind.i8.wrap 200))))) = -56 := by kernel_rfl
  go_enter Tryd.func13, Tryd.ntmps13
  go_wp2
  refine wp_loop_rounds 2 ?_
  rw [rounds_succ]
  go_wp2
  rw [rounds_succ]
  go_wp2
  go_ret
  refine ⟨rfl, by repeat (first | exact Grown.refl _ | apply Grown.drew | apply Grown.alloc), ?_⟩
  exact ((((Below.refl _ w).alloc (Nat.le_refl _) _).alloc (by simp) _).alloc (by simp; omega) _)
end Go.Proofs.YtlklnljgmkagoaaDoor
