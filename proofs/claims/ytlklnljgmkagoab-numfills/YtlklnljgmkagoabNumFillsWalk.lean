/- The law NumFills: walked. -/
import Derived.Test.YtlklnljgmkagoabNumCalls
namespace Go.Proofs.Ytlklnljgmkagoab
open Go.RowKit

theorem numFills_out (x at' n y : Int) (h : at' < 0 ∨ (64 < at' ∨ 64 - at' < n)) (w : World) :
    Calls Try.prog 5 #[.int .u64 x, .int .i64 at', .int .i64 n, .int .u64 y] w fun e w' => e = .returned (.bool true) ∧ Grown w w' := by
  by_cases h1 : at' < 0
  · clear h
    go_enter Try.func5, Try.ntmps5
    go_wp2
    go_ret
    exact ⟨rfl, Grown.refl _⟩
  · by_cases h2 : 64 < at'
    · clear h
      go_enter Try.func5, Try.ntmps5
      go_wp2
      go_ret
      exact ⟨rfl, Grown.refl _⟩
    · have h3 : 64 - at' < n := by omega
      clear h
      go_enter Try.func5, Try.ntmps5
      go_wp2
      go_ret
      exact ⟨rfl, Grown.refl _⟩

theorem numFills_core (x at' n y z k r f : Int) (h1 : ¬ at' < 0) (h2 : ¬ 64 < at') (h3 : ¬ 64 - at' < n) (w : World) (er : bits .and .u64 y k = r)
    (c1 : ∀ w, Calls Try.prog 14 #[.int .u64 x, .int .i64 at', .int .i64 n, .int .u64 y] w fun e w' => e = .returned (.int .u64 z) ∧ w = w')
    (c2 : ∀ w, Calls Try.prog 15 #[.int .u64 z, .int .i64 at', .int .i64 n] w fun e w' => e = .returned (.int .u64 r) ∧ w = w')
    (c3 : ∀ w, Calls Try.prog 16 #[.int .i64 n] w fun e w' => e = .returned (.int .u64 k) ∧ w = w')
    (c4 : ∀ w, Calls Try.prog 15 #[.int .u64 x, .int .i64 at', .int .i64 n] w fun e w' => e = .returned (.int .u64 f) ∧ w = w')
    (c5 : ∀ w, Calls Try.prog 14 #[.int .u64 z, .int .i64 at', .int .i64 n, .int .u64 f] w fun e w' => e = .returned (.int .u64 x) ∧ w = w') :
    Calls Try.prog 5 #[.int .u64 x, .int .i64 at', .int .i64 n, .int .u64 y] w fun e w' => e = .returned (.bool true) ∧ Grown w w' := by
  go_enter Try.func5, Try.ntmps5
  go_wp2_with fail
  refine (c1 _).mono ?_
  rintro e w' ⟨rfl, rfl⟩
  go_wp2_with fail
  refine (c2 _).mono ?_
  rintro e w' ⟨rfl, rfl⟩
  go_wp2_with fail
  refine (c3 _).mono ?_
  rintro e w' ⟨rfl, rfl⟩
  go_wp2_with fail
  refine (c4 _).mono ?_
  rintro e w' ⟨rfl, rfl⟩
  go_wp2_with fail
  refine (c5 _).mono ?_
  rintro e w' ⟨rfl, rfl⟩
  go_wp2_with fail
  refine (awake_ok _).mono ?_
  rintro e w' ⟨rfl, hg, hb⟩
  go_wp2
  go_ret
  exact ⟨rfl, hg⟩

theorem numFills_walk (a0 a1 a2 a3 : Int) (w0 : (Lit.int .u64 a0).wf = true) (w1 : (Lit.int .i64 a1).wf = true) (w2 : (Lit.int .i64 a2).wf = true) (w3 : (Lit.int .u64 a3).wf = true) (w : World) :
    Calls Try.prog 5 #[.int .u64 a0, .int .i64 a1, .int .i64 a2, .int .u64 a3] w fun e w' => e = .returned (.bool true) ∧ Grown w w' := by
  have b0 := wf_u64 w0
  have b1 := wf_i64 w1
  have b2 := wf_i64 w2
  have b3 := wf_u64 w3
  by_cases h : a1 < 0 ∨ (64 < a1 ∨ 64 - a1 < a2)
  · exact numFills_out a0 a1 a2 a3 h w
  · obtain ⟨X, rfl⟩ : ∃ X : Nat, a0 = (X : Int) := ⟨a0.toNat, by omega⟩
    obtain ⟨Y, rfl⟩ : ∃ Y : Nat, a3 = (Y : Int) := ⟨a3.toNat, by omega⟩
    have hX : X < 2 ^ 64 := by omega
    have hY : Y < 2 ^ 64 := by omega
    refine numFills_core X a1 a2 Y (LAY X a1 a2 Y : Nat) (MASK a2 : Nat) (Y &&& MASK a2 : Nat) (FIELD X a1 a2 : Nat) (by omega) (by omega) (by omega) w (and_eq hY (MASK_lt _))
      (fun w => lay_ok X a1 a2 Y hX hY b1.1 b1.2 b2.2 w) (fun w => ?_) (fun w => mask_ok a2 b2.2 w) (fun w => field_ok X a1 a2 hX b1.1 b1.2 b2.2 w) (fun w => ?_)
    · have k := field_ok (LAY X a1 a2 Y) a1 a2 (LAY_lt hX hY _ _) b1.1 b1.2 b2.2 w
      rw [FIELD_LAY hX (by omega) (by omega)] at k; exact k
    · have k := lay_ok (LAY X a1 a2 Y) a1 a2 (FIELD X a1 a2) (LAY_lt hX hY _ _) (FIELD_lt hX _ _) b1.1 b1.2 b2.2 w
      rw [LAY_LAY hX hY (by omega)] at k; exact k
end Go.Proofs.Ytlklnljgmkagoab
