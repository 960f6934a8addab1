/- The law NumNarrows: walked, kind by kind. -/
import Derived.Test.YtlklnljgmkagoacNumKindCalls
namespace Go.Proofs.Ytlklnljgmkagoac
open Go.RowKit

theorem numNarrows_none (x kind : Int) (h : kind < 1 ∨ 7 < kind) (w : World) :
    Calls Try.prog 3 #[.int .i64 x, .int .i64 kind] w fun e w' => e = .returned (.bool true) ∧ Grown w w' := by
  have c1 := fun w => narrow_none x kind h w
  have c2 := fun w => fits_none x kind 0 w c1
  rcases h with h | h
  · go_enter Try.func3, Try.ntmps3
    go_wp2_with fail
    refine (c1 _).mono ?_
    rintro e w' ⟨rfl, rfl⟩
    go_wp2_with fail
    refine (c2 _).mono ?_
    rintro e w' ⟨rfl, rfl⟩
    go_wp2_with fail
    refine (awake_ok _).mono ?_
    rintro e w' ⟨rfl, hg, hb⟩
    go_wp2
    go_ret
    exact ⟨rfl, hg⟩
  · go_enter Try.func3, Try.ntmps3
    go_wp2_with fail
    refine (c1 _).mono ?_
    rintro e w' ⟨rfl, rfl⟩
    go_wp2_with fail
    refine (c2 _).mono ?_
    rintro e w' ⟨rfl, rfl⟩
    go_wp2_with fail
    refine (awake_ok _).mono ?_
    rintro e w' ⟨rfl, hg, hb⟩
    go_wp2
    go_ret
    exact ⟨rfl, hg⟩

theorem numNarrows_core1 (x y ux uy p : Int) (f : Bool) (w : World) (hux : IntKind.u64.wrap x = ux) (huy : IntKind.u64.wrap y = uy) (hf : (x == y) = f)
    (c1 : ∀ w, Calls Try.prog 4 #[.int .i64 x, .int .i64 1] w fun e w' => e = .returned (.tuple #[.int .i64 y, .int .i64 0]) ∧ w = w')
    (c2 : ∀ w, Calls Try.prog 4 #[.int .i64 y, .int .i64 1] w fun e w' => e = .returned (.tuple #[.int .i64 y, .int .i64 0]) ∧ w = w')
    (c3 : ∀ w, Calls Try.prog 5 #[.int .i64 y, .int .i64 1] w fun e w' => e = .returned (.bool true) ∧ w = w')
    (c4 : ∀ w, Calls Try.prog 5 #[.int .i64 x, .int .i64 1] w fun e w' => e = .returned (.bool f) ∧ w = w')
    (c5 : ∀ w, Calls Try.prog 7 #[.int .u64 ux, .int .i64 0, .int .i64 8] w fun e w' => e = .returned (.int .u64 p) ∧ w = w')
    (c6 : ∀ w, Calls Try.prog 7 #[.int .u64 uy, .int .i64 0, .int .i64 8] w fun e w' => e = .returned (.int .u64 p) ∧ w = w') :
    Calls Try.prog 3 #[.int .i64 x, .int .i64 1] w fun e w' => e = .returned (.bool true) ∧ Grown w w' := by
  go_enter Try.func3, Try.ntmps3
  go_wp2_with fail
  refine (c1 _).mono ?_
  rintro e w' ⟨rfl, rfl⟩
  go_wp2_with fail
  refine (c2 _).mono ?_
  rintro e w' ⟨rfl, rfl⟩
  go_wp2_with fail
  refine wp_loop_rounds 1 ?_
  rw [rounds_succ]
  go_wp2_with fail
  refine (c3 _).mono ?_
  rintro e w' ⟨rfl, rfl⟩
  go_wp2_with fail
  refine (c4 _).mono ?_
  rintro e w' ⟨rfl, rfl⟩
  go_wp2_with fail
  refine (c5 _).mono ?_
  rintro e w' ⟨rfl, rfl⟩
  go_wp2_with fail
  refine (c6 _).mono ?_
  rintro e w' ⟨rfl, rfl⟩
  go_wp2_with fail
  refine (awake_ok _).mono ?_
  rintro e w' ⟨rfl, hg, hb⟩
  go_wp2
  go_ret
  exact ⟨rfl, hg⟩

theorem numNarrows_core2 (x y ux uy p : Int) (f : Bool) (w : World) (hux : IntKind.u64.wrap x = ux) (huy : IntKind.u64.wrap y = uy) (hf : (x == y) = f)
    (c1 : ∀ w, Calls Try.prog 4 #[.int .i64 x, .int .i64 2] w fun e w' => e = .returned (.tuple #[.int .i64 y, .int .i64 0]) ∧ w = w')
    (c2 : ∀ w, Calls Try.prog 4 #[.int .i64 y, .int .i64 2] w fun e w' => e = .returned (.tuple #[.int .i64 y, .int .i64 0]) ∧ w = w')
    (c3 : ∀ w, Calls Try.prog 5 #[.int .i64 y, .int .i64 2] w fun e w' => e = .returned (.bool true) ∧ w = w')
    (c4 : ∀ w, Calls Try.prog 5 #[.int .i64 x, .int .i64 2] w fun e w' => e = .returned (.bool f) ∧ w = w')
    (c5 : ∀ w, Calls Try.prog 7 #[.int .u64 ux, .int .i64 0, .int .i64 16] w fun e w' => e = .returned (.int .u64 p) ∧ w = w')
    (c6 : ∀ w, Calls Try.prog 7 #[.int .u64 uy, .int .i64 0, .int .i64 16] w fun e w' => e = .returned (.int .u64 p) ∧ w = w') :
    Calls Try.prog 3 #[.int .i64 x, .int .i64 2] w fun e w' => e = .returned (.bool true) ∧ Grown w w' := by
  go_enter Try.func3, Try.ntmps3
  go_wp2_with fail
  refine (c1 _).mono ?_
  rintro e w' ⟨rfl, rfl⟩
  go_wp2_with fail
  refine (c2 _).mono ?_
  rintro e w' ⟨rfl, rfl⟩
  go_wp2_with fail
  refine wp_loop_rounds 2 ?_
  rw [rounds_succ]
  go_wp2_with fail
  rw [rounds_succ]
  go_wp2_with fail
  refine (c3 _).mono ?_
  rintro e w' ⟨rfl, rfl⟩
  go_wp2_with fail
  refine (c4 _).mono ?_
  rintro e w' ⟨rfl, rfl⟩
  go_wp2_with fail
  refine (c5 _).mono ?_
  rintro e w' ⟨rfl, rfl⟩
  go_wp2_with fail
  refine (c6 _).mono ?_
  rintro e w' ⟨rfl, rfl⟩
  go_wp2_with fail
  refine (awake_ok _).mono ?_
  rintro e w' ⟨rfl, hg, hb⟩
  go_wp2
  go_ret
  exact ⟨rfl, hg⟩

theorem numNarrows_core3 (x y ux uy p : Int) (f : Bool) (w : World) (hux : IntKind.u64.wrap x = ux) (huy : IntKind.u64.wrap y = uy) (hf : (x == y) = f)
    (c1 : ∀ w, Calls Try.prog 4 #[.int .i64 x, .int .i64 3] w fun e w' => e = .returned (.tuple #[.int .i64 y, .int .i64 0]) ∧ w = w')
    (c2 : ∀ w, Calls Try.prog 4 #[.int .i64 y, .int .i64 3] w fun e w' => e = .returned (.tuple #[.int .i64 y, .int .i64 0]) ∧ w = w')
    (c3 : ∀ w, Calls Try.prog 5 #[.int .i64 y, .int .i64 3] w fun e w' => e = .returned (.bool true) ∧ w = w')
    (c4 : ∀ w, Calls Try.prog 5 #[.int .i64 x, .int .i64 3] w fun e w' => e = .returned (.bool f) ∧ w = w')
    (c5 : ∀ w, Calls Try.prog 7 #[.int .u64 ux, .int .i64 0, .int .i64 32] w fun e w' => e = .returned (.int .u64 p) ∧ w = w')
    (c6 : ∀ w, Calls Try.prog 7 #[.int .u64 uy, .int .i64 0, .int .i64 32] w fun e w' => e = .returned (.int .u64 p) ∧ w = w') :
    Calls Try.prog 3 #[.int .i64 x, .int .i64 3] w fun e w' => e = .returned (.bool true) ∧ Grown w w' := by
  go_enter Try.func3, Try.ntmps3
  go_wp2_with fail
  refine (c1 _).mono ?_
  rintro e w' ⟨rfl, rfl⟩
  go_wp2_with fail
  refine (c2 _).mono ?_
  rintro e w' ⟨rfl, rfl⟩
  go_wp2_with fail
  refine wp_loop_rounds 3 ?_
  rw [rounds_succ]
  go_wp2_with fail
  rw [rounds_succ]
  go_wp2_with fail
  rw [rounds_succ]
  go_wp2_with fail
  refine (c3 _).mono ?_
  rintro e w' ⟨rfl, rfl⟩
  go_wp2_with fail
  refine (c4 _).mono ?_
  rintro e w' ⟨rfl, rfl⟩
  go_wp2_with fail
  refine (c5 _).mono ?_
  rintro e w' ⟨rfl, rfl⟩
  go_wp2_with fail
  refine (c6 _).mono ?_
  rintro e w' ⟨rfl, rfl⟩
  go_wp2_with fail
  refine (awake_ok _).mono ?_
  rintro e w' ⟨rfl, hg, hb⟩
  go_wp2
  go_ret
  exact ⟨rfl, hg⟩

theorem numNarrows_core4 (x y ux uy p : Int) (f : Bool) (w : World) (hux : IntKind.u64.wrap x = ux) (huy : IntKind.u64.wrap y = uy) (hf : (x == y) = f)
    (c1 : ∀ w, Calls Try.prog 4 #[.int .i64 x, .int .i64 4] w fun e w' => e = .returned (.tuple #[.int .i64 y, .int .i64 0]) ∧ w = w')
    (c2 : ∀ w, Calls Try.prog 4 #[.int .i64 y, .int .i64 4] w fun e w' => e = .returned (.tuple #[.int .i64 y, .int .i64 0]) ∧ w = w')
    (c3 : ∀ w, Calls Try.prog 5 #[.int .i64 y, .int .i64 4] w fun e w' => e = .returned (.bool true) ∧ w = w')
    (c4 : ∀ w, Calls Try.prog 5 #[.int .i64 x, .int .i64 4] w fun e w' => e = .returned (.bool f) ∧ w = w')
    (c5 : ∀ w, Calls Try.prog 7 #[.int .u64 ux, .int .i64 0, .int .i64 64] w fun e w' => e = .returned (.int .u64 p) ∧ w = w')
    (c6 : ∀ w, Calls Try.prog 7 #[.int .u64 uy, .int .i64 0, .int .i64 64] w fun e w' => e = .returned (.int .u64 p) ∧ w = w') :
    Calls Try.prog 3 #[.int .i64 x, .int .i64 4] w fun e w' => e = .returned (.bool true) ∧ Grown w w' := by
  go_enter Try.func3, Try.ntmps3
  go_wp2_with fail
  refine (c1 _).mono ?_
  rintro e w' ⟨rfl, rfl⟩
  go_wp2_with fail
  refine (c2 _).mono ?_
  rintro e w' ⟨rfl, rfl⟩
  go_wp2_with fail
  refine wp_loop_rounds 4 ?_
  rw [rounds_succ]
  go_wp2_with fail
  rw [rounds_succ]
  go_wp2_with fail
  rw [rounds_succ]
  go_wp2_with fail
  rw [rounds_succ]
  go_wp2_with fail
  refine (c3 _).mono ?_
  rintro e w' ⟨rfl, rfl⟩
  go_wp2_with fail
  refine (c4 _).mono ?_
  rintro e w' ⟨rfl, rfl⟩
  go_wp2_with fail
  refine (c5 _).mono ?_
  rintro e w' ⟨rfl, rfl⟩
  go_wp2_with fail
  refine (c6 _).mono ?_
  rintro e w' ⟨rfl, rfl⟩
  go_wp2_with fail
  refine (awake_ok _).mono ?_
  rintro e w' ⟨rfl, hg, hb⟩
  go_wp2
  go_ret
  exact ⟨rfl, hg⟩

theorem numNarrows_core5 (x y ux uy p : Int) (f : Bool) (hy : 0 ≤ y) (w : World) (hux : IntKind.u64.wrap x = ux) (huy : IntKind.u64.wrap y = uy) (hf : (x == y) = f)
    (c1 : ∀ w, Calls Try.prog 4 #[.int .i64 x, .int .i64 5] w fun e w' => e = .returned (.tuple #[.int .i64 y, .int .i64 0]) ∧ w = w')
    (c2 : ∀ w, Calls Try.prog 4 #[.int .i64 y, .int .i64 5] w fun e w' => e = .returned (.tuple #[.int .i64 y, .int .i64 0]) ∧ w = w')
    (c3 : ∀ w, Calls Try.prog 5 #[.int .i64 y, .int .i64 5] w fun e w' => e = .returned (.bool true) ∧ w = w')
    (c4 : ∀ w, Calls Try.prog 5 #[.int .i64 x, .int .i64 5] w fun e w' => e = .returned (.bool f) ∧ w = w')
    (c5 : ∀ w, Calls Try.prog 7 #[.int .u64 ux, .int .i64 0, .int .i64 8] w fun e w' => e = .returned (.int .u64 p) ∧ w = w')
    (c6 : ∀ w, Calls Try.prog 7 #[.int .u64 uy, .int .i64 0, .int .i64 8] w fun e w' => e = .returned (.int .u64 p) ∧ w = w') :
    Calls Try.prog 3 #[.int .i64 x, .int .i64 5] w fun e w' => e = .returned (.bool true) ∧ Grown w w' := by
  go_enter Try.func3, Try.ntmps3
  go_wp2_with fail
  refine (c1 _).mono ?_
  rintro e w' ⟨rfl, rfl⟩
  go_wp2_with fail
  refine (c2 _).mono ?_
  rintro e w' ⟨rfl, rfl⟩
  go_wp2_with fail
  refine wp_loop_rounds 1 ?_
  rw [rounds_succ]
  go_wp2_with fail
  refine (c3 _).mono ?_
  rintro e w' ⟨rfl, rfl⟩
  go_wp2_with fail
  refine (c4 _).mono ?_
  rintro e w' ⟨rfl, rfl⟩
  go_wp2_with fail
  refine (c5 _).mono ?_
  rintro e w' ⟨rfl, rfl⟩
  go_wp2_with fail
  refine (c6 _).mono ?_
  rintro e w' ⟨rfl, rfl⟩
  go_wp2_with fail
  refine (awake_ok _).mono ?_
  rintro e w' ⟨rfl, hg, hb⟩
  go_wp2
  go_ret
  exact ⟨rfl, hg⟩

theorem numNarrows_core6 (x y ux uy p : Int) (f : Bool) (hy : 0 ≤ y) (w : World) (hux : IntKind.u64.wrap x = ux) (huy : IntKind.u64.wrap y = uy) (hf : (x == y) = f)
    (c1 : ∀ w, Calls Try.prog 4 #[.int .i64 x, .int .i64 6] w fun e w' => e = .returned (.tuple #[.int .i64 y, .int .i64 0]) ∧ w = w')
    (c2 : ∀ w, Calls Try.prog 4 #[.int .i64 y, .int .i64 6] w fun e w' => e = .returned (.tuple #[.int .i64 y, .int .i64 0]) ∧ w = w')
    (c3 : ∀ w, Calls Try.prog 5 #[.int .i64 y, .int .i64 6] w fun e w' => e = .returned (.bool true) ∧ w = w')
    (c4 : ∀ w, Calls Try.prog 5 #[.int .i64 x, .int .i64 6] w fun e w' => e = .returned (.bool f) ∧ w = w')
    (c5 : ∀ w, Calls Try.prog 7 #[.int .u64 ux, .int .i64 0, .int .i64 16] w fun e w' => e = .returned (.int .u64 p) ∧ w = w')
    (c6 : ∀ w, Calls Try.prog 7 #[.int .u64 uy, .int .i64 0, .int .i64 16] w fun e w' => e = .returned (.int .u64 p) ∧ w = w') :
    Calls Try.prog 3 #[.int .i64 x, .int .i64 6] w fun e w' => e = .returned (.bool true) ∧ Grown w w' := by
  go_enter Try.func3, Try.ntmps3
  go_wp2_with fail
  refine (c1 _).mono ?_
  rintro e w' ⟨rfl, rfl⟩
  go_wp2_with fail
  refine (c2 _).mono ?_
  rintro e w' ⟨rfl, rfl⟩
  go_wp2_with fail
  refine wp_loop_rounds 2 ?_
  rw [rounds_succ]
  go_wp2_with fail
  rw [rounds_succ]
  go_wp2_with fail
  refine (c3 _).mono ?_
  rintro e w' ⟨rfl, rfl⟩
  go_wp2_with fail
  refine (c4 _).mono ?_
  rintro e w' ⟨rfl, rfl⟩
  go_wp2_with fail
  refine (c5 _).mono ?_
  rintro e w' ⟨rfl, rfl⟩
  go_wp2_with fail
  refine (c6 _).mono ?_
  rintro e w' ⟨rfl, rfl⟩
  go_wp2_with fail
  refine (awake_ok _).mono ?_
  rintro e w' ⟨rfl, hg, hb⟩
  go_wp2
  go_ret
  exact ⟨rfl, hg⟩

theorem numNarrows_core7 (x y ux uy p : Int) (f : Bool) (hy : 0 ≤ y) (w : World) (hux : IntKind.u64.wrap x = ux) (huy : IntKind.u64.wrap y = uy) (hf : (x == y) = f)
    (c1 : ∀ w, Calls Try.prog 4 #[.int .i64 x, .int .i64 7] w fun e w' => e = .returned (.tuple #[.int .i64 y, .int .i64 0]) ∧ w = w')
    (c2 : ∀ w, Calls Try.prog 4 #[.int .i64 y, .int .i64 7] w fun e w' => e = .returned (.tuple #[.int .i64 y, .int .i64 0]) ∧ w = w')
    (c3 : ∀ w, Calls Try.prog 5 #[.int .i64 y, .int .i64 7] w fun e w' => e = .returned (.bool true) ∧ w = w')
    (c4 : ∀ w, Calls Try.prog 5 #[.int .i64 x, .int .i64 7] w fun e w' => e = .returned (.bool f) ∧ w = w')
    (c5 : ∀ w, Calls Try.prog 7 #[.int .u64 ux, .int .i64 0, .int .i64 32] w fun e w' => e = .returned (.int .u64 p) ∧ w = w')
    (c6 : ∀ w, Calls Try.prog 7 #[.int .u64 uy, .int .i64 0, .int .i64 32] w fun e w' => e = .returned (.int .u64 p) ∧ w = w') :
    Calls Try.prog 3 #[.int .i64 x, .int .i64 7] w fun e w' => e = .returned (.bool true) ∧ Grown w w' := by
  go_enter Try.func3, Try.ntmps3
  go_wp2_with fail
  refine (c1 _).mono ?_
  rintro e w' ⟨rfl, rfl⟩
  go_wp2_with fail
  refine (c2 _).mono ?_
  rintro e w' ⟨rfl, rfl⟩
  go_wp2_with fail
  refine wp_loop_rounds 3 ?_
  rw [rounds_succ]
  go_wp2_with fail
  rw [rounds_succ]
  go_wp2_with fail
  rw [rounds_succ]
  go_wp2_with fail
  refine (c3 _).mono ?_
  rintro e w' ⟨rfl, rfl⟩
  go_wp2_with fail
  refine (c4 _).mono ?_
  rintro e w' ⟨rfl, rfl⟩
  go_wp2_with fail
  refine (c5 _).mono ?_
  rintro e w' ⟨rfl, rfl⟩
  go_wp2_with fail
  refine (c6 _).mono ?_
  rintro e w' ⟨rfl, rfl⟩
  go_wp2_with fail
  refine (awake_ok _).mono ?_
  rintro e w' ⟨rfl, hg, hb⟩
  go_wp2
  go_ret
  exact ⟨rfl, hg⟩

theorem field_low {X Y : Nat} (n : Int) (h : X % 2 ^ n.toNat = Y % 2 ^ n.toNat) : FIELD X 0 n = FIELD Y 0 n := by
  apply Nat.eq_of_testBit_eq; intro i
  rw [bit_FIELD_pos (Int.le_refl _), bit_FIELD_pos (Int.le_refl _)]
  by_cases hi : (i : Int) < n
  · have e := congrArg (fun z => Nat.testBit z i) h
    simp only [Nat.testBit_mod_two_pow] at e
    have hn : i < n.toNat := by omega
    simp [hn] at e
    simp [e]
  · simp [hi]
theorem numNarrows_walk (a0 a1 : Int) (w0 : (Lit.int .i64 a0).wf = true) (w : World) :
    Calls Try.prog 3 #[.int .i64 a0, .int .i64 a1] w fun e w' => e = .returned (.bool true) ∧ Grown w w' := by
  have b0 := wf_i64 w0
  by_cases h : a1 < 1 ∨ 7 < a1
  · exact numNarrows_none a0 a1 h w
  · have h' : a1 = 1 ∨ a1 = 2 ∨ a1 = 3 ∨ a1 = 4 ∨ a1 = 5 ∨ a1 = 6 ∨ a1 = 7 := by omega
    obtain ⟨X, hX⟩ : ∃ X : Nat, IntKind.u64.wrap a0 = (X : Int) := ⟨(IntKind.u64.wrap a0).toNat, by rw [wrapU]; omega⟩
    have hX' : X < 2 ^ 64 := by rw [wrapU] at hX; omega
    rcases h' with rfl | rfl | rfl | rfl | rfl | rfl | rfl
    · have ey : NARROW a0 1 = (a0 + 128) % 256 - 128 := rfl
      have e2 : NARROW (NARROW a0 1) 1 = NARROW a0 1 := by
        show ((NARROW a0 1) + 128) % 256 - 128 = _
        rw [ey]; omega
      have n1 := fun w => narrow_ok1 a0 w
      generalize NARROW a0 1 = y at ey e2 n1
      obtain ⟨Y, hY⟩ : ∃ Y : Nat, IntKind.u64.wrap y = (Y : Int) := ⟨(IntKind.u64.wrap y).toNat, by rw [wrapU]; omega⟩
      have hY' : Y < 2 ^ 64 := by rw [wrapU] at hY; omega
      have hm : X % 2 ^ (8 : Int).toNat = Y % 2 ^ (8 : Int).toNat := by
        rw [wrapU] at hX hY
        show X % 2 ^ 8 = Y % 2 ^ 8
        omega
      have n2 : ∀ w, Calls Try.prog 4 #[.int .i64 y, .int .i64 1] w fun e w' => e = .returned (.tuple #[.int .i64 y, .int .i64 0]) ∧ w = w' := fun w => by have k := narrow_ok1 y w; rw [e2] at k; exact k
      exact numNarrows_core1 a0 y X Y (FIELD X 0 8 : Nat) (a0 == y) w hX hY rfl n1 n2 (fun w => fits_raw y 1 y true (by simp) w n2) (fun w => fits_raw a0 1 y _ (by rw [Bool.eq_iff_iff]; simp; omega) w n1)
        (fun w => field_ok X 0 8 hX' (by decide) (by decide) (by decide) w) (fun w => by rw [field_low 8 hm]; exact field_ok Y 0 8 hY' (by decide) (by decide) (by decide) w)
    · have ey : NARROW a0 2 = (a0 + 32768) % 65536 - 32768 := rfl
      have e2 : NARROW (NARROW a0 2) 2 = NARROW a0 2 := by
        show ((NARROW a0 2) + 32768) % 65536 - 32768 = _
        rw [ey]; omega
      have n1 := fun w => narrow_ok2 a0 w
      generalize NARROW a0 2 = y at ey e2 n1
      obtain ⟨Y, hY⟩ : ∃ Y : Nat, IntKind.u64.wrap y = (Y : Int) := ⟨(IntKind.u64.wrap y).toNat, by rw [wrapU]; omega⟩
      have hY' : Y < 2 ^ 64 := by rw [wrapU] at hY; omega
      have hm : X % 2 ^ (16 : Int).toNat = Y % 2 ^ (16 : Int).toNat := by
        rw [wrapU] at hX hY
        show X % 2 ^ 16 = Y % 2 ^ 16
        omega
      have n2 : ∀ w, Calls Try.prog 4 #[.int .i64 y, .int .i64 2] w fun e w' => e = .returned (.tuple #[.int .i64 y, .int .i64 0]) ∧ w = w' := fun w => by have k := narrow_ok2 y w; rw [e2] at k; exact k
      exact numNarrows_core2 a0 y X Y (FIELD X 0 16 : Nat) (a0 == y) w hX hY rfl n1 n2 (fun w => fits_raw y 2 y true (by simp) w n2) (fun w => fits_raw a0 2 y _ (by rw [Bool.eq_iff_iff]; simp; omega) w n1)
        (fun w => field_ok X 0 16 hX' (by decide) (by decide) (by decide) w) (fun w => by rw [field_low 16 hm]; exact field_ok Y 0 16 hY' (by decide) (by decide) (by decide) w)
    · have ey : NARROW a0 3 = (a0 + 2147483648) % 4294967296 - 2147483648 := rfl
      have e2 : NARROW (NARROW a0 3) 3 = NARROW a0 3 := by
        show ((NARROW a0 3) + 2147483648) % 4294967296 - 2147483648 = _
        rw [ey]; omega
      have n1 := fun w => narrow_ok3 a0 w
      generalize NARROW a0 3 = y at ey e2 n1
      obtain ⟨Y, hY⟩ : ∃ Y : Nat, IntKind.u64.wrap y = (Y : Int) := ⟨(IntKind.u64.wrap y).toNat, by rw [wrapU]; omega⟩
      have hY' : Y < 2 ^ 64 := by rw [wrapU] at hY; omega
      have hm : X % 2 ^ (32 : Int).toNat = Y % 2 ^ (32 : Int).toNat := by
        rw [wrapU] at hX hY
        show X % 2 ^ 32 = Y % 2 ^ 32
        omega
      have n2 : ∀ w, Calls Try.prog 4 #[.int .i64 y, .int .i64 3] w fun e w' => e = .returned (.tuple #[.int .i64 y, .int .i64 0]) ∧ w = w' := fun w => by have k := narrow_ok3 y w; rw [e2] at k; exact k
      exact numNarrows_core3 a0 y X Y (FIELD X 0 32 : Nat) (a0 == y) w hX hY rfl n1 n2 (fun w => fits_raw y 3 y true (by simp) w n2) (fun w => fits_raw a0 3 y _ (by rw [Bool.eq_iff_iff]; simp; omega) w n1)
        (fun w => field_ok X 0 32 hX' (by decide) (by decide) (by decide) w) (fun w => by rw [field_low 32 hm]; exact field_ok Y 0 32 hY' (by decide) (by decide) (by decide) w)
    · have ey : NARROW a0 4 = a0 := rfl
      have e2 : NARROW (NARROW a0 4) 4 = NARROW a0 4 := by
        show (NARROW a0 4) = _
        rw [ey]
      have n1 := fun w => narrow_ok4 a0 w
      generalize NARROW a0 4 = y at ey e2 n1
      obtain ⟨Y, hY⟩ : ∃ Y : Nat, IntKind.u64.wrap y = (Y : Int) := ⟨(IntKind.u64.wrap y).toNat, by rw [wrapU]; omega⟩
      have hY' : Y < 2 ^ 64 := by rw [wrapU] at hY; omega
      have hm : X % 2 ^ (64 : Int).toNat = Y % 2 ^ (64 : Int).toNat := by
        rw [wrapU] at hX hY
        show X % 2 ^ 64 = Y % 2 ^ 64
        omega
      have n2 : ∀ w, Calls Try.prog 4 #[.int .i64 y, .int .i64 4] w fun e w' => e = .returned (.tuple #[.int .i64 y, .int .i64 0]) ∧ w = w' := fun w => by have k := narrow_ok4 y w; rw [e2] at k; exact k
      exact numNarrows_core4 a0 y X Y (FIELD X 0 64 : Nat) (a0 == y) w hX hY rfl n1 n2 (fun w => fits_raw y 4 y true (by simp) w n2) (fun w => fits_raw a0 4 y _ (by rw [Bool.eq_iff_iff]; simp; omega) w n1)
        (fun w => field_ok X 0 64 hX' (by decide) (by decide) (by decide) w) (fun w => by rw [field_low 64 hm]; exact field_ok Y 0 64 hY' (by decide) (by decide) (by decide) w)
    · have ey : NARROW a0 5 = a0 % 256 := rfl
      have e2 : NARROW (NARROW a0 5) 5 = NARROW a0 5 := by
        show (NARROW a0 5) % 256 = _
        rw [ey]; omega
      have n1 := fun w => narrow_ok5 a0 w
      generalize NARROW a0 5 = y at ey e2 n1
      obtain ⟨Y, hY⟩ : ∃ Y : Nat, IntKind.u64.wrap y = (Y : Int) := ⟨(IntKind.u64.wrap y).toNat, by rw [wrapU]; omega⟩
      have hY' : Y < 2 ^ 64 := by rw [wrapU] at hY; omega
      have hm : X % 2 ^ (8 : Int).toNat = Y % 2 ^ (8 : Int).toNat := by
        rw [wrapU] at hX hY
        show X % 2 ^ 8 = Y % 2 ^ 8
        omega
      have n2 : ∀ w, Calls Try.prog 4 #[.int .i64 y, .int .i64 5] w fun e w' => e = .returned (.tuple #[.int .i64 y, .int .i64 0]) ∧ w = w' := fun w => by have k := narrow_ok5 y w; rw [e2] at k; exact k
      exact numNarrows_core5 a0 y X Y (FIELD X 0 8 : Nat) (a0 == y) (by omega) w hX hY rfl n1 n2 (fun w => fits_raw y 5 y true (by simp) w n2) (fun w => fits_raw a0 5 y _ (by rw [Bool.eq_iff_iff]; simp; omega) w n1)
        (fun w => field_ok X 0 8 hX' (by decide) (by decide) (by decide) w) (fun w => by rw [field_low 8 hm]; exact field_ok Y 0 8 hY' (by decide) (by decide) (by decide) w)
    · have ey : NARROW a0 6 = a0 % 65536 := rfl
      have e2 : NARROW (NARROW a0 6) 6 = NARROW a0 6 := by
        show (NARROW a0 6) % 65536 = _
        rw [ey]; omega
      have n1 := fun w => narrow_ok6 a0 w
      generalize NARROW a0 6 = y at ey e2 n1
      obtain ⟨Y, hY⟩ : ∃ Y : Nat, IntKind.u64.wrap y = (Y : Int) := ⟨(IntKind.u64.wrap y).toNat, by rw [wrapU]; omega⟩
      have hY' : Y < 2 ^ 64 := by rw [wrapU] at hY; omega
      have hm : X % 2 ^ (16 : Int).toNat = Y % 2 ^ (16 : Int).toNat := by
        rw [wrapU] at hX hY
        show X % 2 ^ 16 = Y % 2 ^ 16
        omega
      have n2 : ∀ w, Calls Try.prog 4 #[.int .i64 y, .int .i64 6] w fun e w' => e = .returned (.tuple #[.int .i64 y, .int .i64 0]) ∧ w = w' := fun w => by have k := narrow_ok6 y w; rw [e2] at k; exact k
      exact numNarrows_core6 a0 y X Y (FIELD X 0 16 : Nat) (a0 == y) (by omega) w hX hY rfl n1 n2 (fun w => fits_raw y 6 y true (by simp) w n2) (fun w => fits_raw a0 6 y _ (by rw [Bool.eq_iff_iff]; simp; omega) w n1)
        (fun w => field_ok X 0 16 hX' (by decide) (by decide) (by decide) w) (fun w => by rw [field_low 16 hm]; exact field_ok Y 0 16 hY' (by decide) (by decide) (by decide) w)
    · have ey : NARROW a0 7 = a0 % 4294967296 := rfl
      have e2 : NARROW (NARROW a0 7) 7 = NARROW a0 7 := by
        show (NARROW a0 7) % 4294967296 = _
        rw [ey]; omega
      have n1 := fun w => narrow_ok7 a0 w
      generalize NARROW a0 7 = y at ey e2 n1
      obtain ⟨Y, hY⟩ : ∃ Y : Nat, IntKind.u64.wrap y = (Y : Int) := ⟨(IntKind.u64.wrap y).toNat, by rw [wrapU]; omega⟩
      have hY' : Y < 2 ^ 64 := by rw [wrapU] at hY; omega
      have hm : X % 2 ^ (32 : Int).toNat = Y % 2 ^ (32 : Int).toNat := by
        rw [wrapU] at hX hY
        show X % 2 ^ 32 = Y % 2 ^ 32
        omega
      have n2 : ∀ w, Calls Try.prog 4 #[.int .i64 y, .int .i64 7] w fun e w' => e = .returned (.tuple #[.int .i64 y, .int .i64 0]) ∧ w = w' := fun w => by have k := narrow_ok7 y w; rw [e2] at k; exact k
      exact numNarrows_core7 a0 y X Y (FIELD X 0 32 : Nat) (a0 == y) (by omega) w hX hY rfl n1 n2 (fun w => fits_raw y 7 y true (by simp) w n2) (fun w => fits_raw a0 7 y _ (by rw [Bool.eq_iff_iff]; simp; omega) w n1)
        (fun w => field_ok X 0 32 hX' (by decide) (by decide) (by decide) w) (fun w => by rw [field_low 32 hm]; exact field_ok Y 0 32 hY' (by decide) (by decide) (by decide) w)
end Go.Proofs.Ytlklnljgmkagoac
