/- What the small functions of package num answer, call by call, and that awake answers true. -/
import Derived.Test.YtlklnljgmkagoaaProg
import Derived.Test.YtlklnljgmkagoaaNumPlain
import Derived.WalkKit
import Derived.WalkLawsBesides
namespace Go.Proofs.Ytlklnljgmkagoaa
open Go.RowKit

theorem shl_raw (x n : Int) (w : World) : Calls Try.prog 8 #[.int .u64 x, .int .i64 n] w fun e w' => e = .returned (.int .u64 (if n < 0 then x / 2 ^ min (IntKind.u64.wrap (-IntKind.u64.wrap n)).toNat 64 else IntKind.u64.wrap (x * 2 ^ min (IntKind.u64.wrap n).toNat 64))) ∧ w = w' := by
  by_cases h : n < 0
  · rw [if_pos h]
    go_enter Try.func8, Try.ntmps8
    go_wp2
    go_ret
    exact ⟨rfl, rfl⟩
  · rw [if_neg h]
    go_enter Try.func8, Try.ntmps8
    go_wp2
    go_ret
    exact ⟨rfl, rfl⟩
theorem shr_raw (x n : Int) (w : World) : Calls Try.prog 10 #[.int .u64 x, .int .i64 n] w fun e w' => e = .returned (.int .u64 (if n < 0 then IntKind.u64.wrap (x * 2 ^ min (IntKind.u64.wrap (-IntKind.u64.wrap n)).toNat 64) else x / 2 ^ min (IntKind.u64.wrap n).toNat 64)) ∧ w = w' := by
  by_cases h : n < 0
  · rw [if_pos h]
    go_enter Try.func10, Try.ntmps10
    go_wp2
    go_ret
    exact ⟨rfl, rfl⟩
  · rw [if_neg h]
    go_enter Try.func10, Try.ntmps10
    go_wp2
    go_ret
    exact ⟨rfl, rfl⟩
theorem mask_raw (n : Int) (w : World) : Calls Try.prog 19 #[.int .i64 n] w fun e w' => e = .returned (.int .u64 (if n ≤ 0 then 0 else IntKind.u64.wrap (IntKind.u64.wrap (1 * 2 ^ min (IntKind.u64.wrap n).toNat 64) - 1))) ∧ w = w' := by
  by_cases h : n ≤ 0
  · rw [if_pos h]
    go_enter Try.func19, Try.ntmps19
    go_wp2
    go_ret
    exact ⟨rfl, rfl⟩
  · rw [if_neg h]
    go_enter Try.func19, Try.ntmps19
    go_wp2
    go_ret
    exact ⟨rfl, rfl⟩

theorem shl_ok (X : Nat) (n : Int) (hX : X < 2 ^ 64) (h0 : -(2 ^ 63) ≤ n) (h1 : n < 2 ^ 63) (w : World) : Calls Try.prog 8 #[.int .u64 (X : Int), .int .i64 n] w fun e w' => e = .returned (.int .u64 ((SHL X n : Nat) : Int)) ∧ w = w' :=
  (shl_raw X n w).mono fun e w' h => by rw [shl_raw_eq hX h0 h1] at h; exact h
theorem shr_ok (X : Nat) (n : Int) (hX : X < 2 ^ 64) (h0 : -(2 ^ 63) ≤ n) (h1 : n < 2 ^ 63) (w : World) : Calls Try.prog 10 #[.int .u64 (X : Int), .int .i64 n] w fun e w' => e = .returned (.int .u64 ((SHR X n : Nat) : Int)) ∧ w = w' :=
  (shr_raw X n w).mono fun e w' h => by rw [shr_raw_eq hX h0 h1] at h; exact h
theorem mask_ok (n : Int) (h1 : n < 2 ^ 63) (w : World) : Calls Try.prog 19 #[.int .i64 n] w fun e w' => e = .returned (.int .u64 ((MASK n : Nat) : Int)) ∧ w = w' :=
  (mask_raw n w).mono fun e w' h => by rw [mask_raw_eq h1] at h; exact h

theorem field_raw (x at' n a k r : Int) (w : World) (er : bits .and .u64 a k = r)
    (c1 : ∀ w, Calls Try.prog 10 #[.int .u64 x, .int .i64 at'] w fun e w' => e = .returned (.int .u64 a) ∧ w = w')
    (c2 : ∀ w, Calls Try.prog 19 #[.int .i64 n] w fun e w' => e = .returned (.int .u64 k) ∧ w = w') :
    Calls Try.prog 21 #[.int .u64 x, .int .i64 at', .int .i64 n] w fun e w' => e = .returned (.int .u64 r) ∧ w = w' := by
  go_enter Try.func21, Try.ntmps21
  go_wp2_with fail
  refine (c1 _).mono ?_
  rintro e w' ⟨rfl, rfl⟩
  go_wp2_with fail
  refine (c2 _).mono ?_
  rintro e w' ⟨rfl, rfl⟩
  go_wp2
  go_ret
  exact ⟨rfl, rfl⟩
theorem field_ok (X : Nat) (at' n : Int) (hX : X < 2 ^ 64) (h0 : -(2 ^ 63) ≤ at') (h1 : at' < 2 ^ 63) (h2 : n < 2 ^ 63) (w : World) :
    Calls Try.prog 21 #[.int .u64 (X : Int), .int .i64 at', .int .i64 n] w fun e w' => e = .returned (.int .u64 ((FIELD X at' n : Nat) : Int)) ∧ w = w' :=
  field_raw X at' n _ _ _ w (and_eq (SHR_lt hX _) (MASK_lt _)) (fun w => shr_ok X at' hX h0 h1 w) (fun w => mask_ok n h2 w)

theorem lay_raw (x at' n y k t s p q r : Int) (w : World) (ep : bits .andNot .u64 x t = p) (eq : bits .and .u64 s t = q) (er : bits .or .u64 p q = r)
    (c1 : ∀ w, Calls Try.prog 19 #[.int .i64 n] w fun e w' => e = .returned (.int .u64 k) ∧ w = w')
    (c2 : ∀ w, Calls Try.prog 8 #[.int .u64 k, .int .i64 at'] w fun e w' => e = .returned (.int .u64 t) ∧ w = w')
    (c3 : ∀ w, Calls Try.prog 8 #[.int .u64 y, .int .i64 at'] w fun e w' => e = .returned (.int .u64 s) ∧ w = w') :
    Calls Try.prog 23 #[.int .u64 x, .int .i64 at', .int .i64 n, .int .u64 y] w fun e w' => e = .returned (.int .u64 r) ∧ w = w' := by
  go_enter Try.func23, Try.ntmps23
  go_wp2_with fail
  refine (c1 _).mono ?_
  rintro e w' ⟨rfl, rfl⟩
  go_wp2_with fail
  refine (c2 _).mono ?_
  rintro e w' ⟨rfl, rfl⟩
  go_wp2_with fail
  refine (c3 _).mono ?_
  rintro e w' ⟨rfl, rfl⟩
  go_wp2
  go_ret
  exact ⟨rfl, rfl⟩
theorem lay_ok (X : Nat) (at' n : Int) (Y : Nat) (hX : X < 2 ^ 64) (hY : Y < 2 ^ 64) (h0 : -(2 ^ 63) ≤ at') (h1 : at' < 2 ^ 63) (h2 : n < 2 ^ 63) (w : World) :
    Calls Try.prog 23 #[.int .u64 (X : Int), .int .i64 at', .int .i64 n, .int .u64 (Y : Int)] w fun e w' => e = .returned (.int .u64 ((LAY X at' n Y : Nat) : Int)) ∧ w = w' :=
  lay_raw X at' n Y _ _ _ _ _ _ w (andnot_eq hX (SHL_lt (MASK_lt _) _)) (and_eq (SHL_lt hY _) (SHL_lt (MASK_lt _) _)) (or_eq (ANDNOT_lt hX _) (Nat.lt_of_le_of_lt Nat.and_le_left (SHL_lt hY _)))
    (fun w => mask_ok n h2 w) (fun w => shl_ok (MASK n) at' (MASK_lt _) h0 h1 w) (fun w => shl_ok Y at' hY h0 h1 w)

set_option maxRecDepth 1000000 in
theorem awake_ok (w : World) : Calls Try.prog 14 #[] w fun e w' => e = .returned (.bool true) ∧ Grown w w' ∧ Below w.heap.size w w' := by
  have hmk : ∀ w : World, (Instr.makeSlice 37 (.int .i64 0) (.int .i64 10)).run Try.prog w = .ok (.slice (some ⟨w.heap.size, 0, none⟩) 0 10) (w.alloc (.cells #[.int .u8 0, .int .u8 0, .int .u8 0, .int .u8 0, .int .u8 0, .int .u8 0, .int .u8 0, .int .u8 0, .int .u8 0, .int .u8 0] 5)) := fun _ => by kernel_rfl
  have hn : wrap64 (wrap32 (wrap64 (IntKind.i16.wrap (wrap64 (IntKind.i8.wrap 200))))) = -56 := by kernel_rfl
  go_enter Try.func14, Try.ntmps14
  go_wp2
  refine wp_loop_rounds 2 ?_
  rw [rounds_succ]
  go_wp2
  rw [rounds_succ]
  go_wp2
  go_ret
  refine ⟨rfl, by repeat (first | exact Grown.refl _ | apply Grown.drew | apply Grown.alloc), ?_⟩
  exact ((((Below.refl _ w).alloc (Nat.le_refl _) _).alloc (by simp) _).alloc (by simp; omega) _)
end Go.Proofs.Ytlklnljgmkagoaa
