/- The law NumShiftsAdd: walked. -/
import Derived.Test.YtlklnljgmkagoabNumCalls
namespace Go.Proofs.Ytlklnljgmkagoab
open Go.RowKit

theorem numShiftsAdd_core (x a b c d k s n m N M : Int) (en : bits .and .i64 n 127 = N) (em : bits .and .i64 m 127 = M) (hN : 0 ≤ N) (hN' : N < 128) (hM : 0 ≤ M) (hM' : M < 128) (w : World)
    (ek : bits .andNot .u64 x s = k)
    (c1 : ∀ w, Calls Try.prog 20 #[.int .u64 x, .int .i64 N] w fun e w' => e = .returned (.int .u64 a) ∧ w = w')
    (c2 : ∀ w, Calls Try.prog 20 #[.int .u64 a, .int .i64 M] w fun e w' => e = .returned (.int .u64 b) ∧ w = w')
    (c3 : ∀ w, Calls Try.prog 20 #[.int .u64 x, .int .i64 (N + M)] w fun e w' => e = .returned (.int .u64 b) ∧ w = w')
    (c4 : ∀ w, Calls Try.prog 21 #[.int .u64 x, .int .i64 N] w fun e w' => e = .returned (.int .u64 c) ∧ w = w')
    (c5 : ∀ w, Calls Try.prog 21 #[.int .u64 c, .int .i64 M] w fun e w' => e = .returned (.int .u64 d) ∧ w = w')
    (c6 : ∀ w, Calls Try.prog 21 #[.int .u64 x, .int .i64 (N + M)] w fun e w' => e = .returned (.int .u64 d) ∧ w = w')
    (c7 : ∀ w, Calls Try.prog 20 #[.int .u64 c, .int .i64 N] w fun e w' => e = .returned (.int .u64 k) ∧ w = w')
    (c8 : ∀ w, Calls Try.prog 16 #[.int .i64 N] w fun e w' => e = .returned (.int .u64 s) ∧ w = w')
    (c9 : ∀ w, Calls Try.prog 21 #[.int .u64 x, .int .i64 (-N)] w fun e w' => e = .returned (.int .u64 a) ∧ w = w') :
    Calls Try.prog 7 #[.int .u64 x, .int .i64 n, .int .i64 m] w fun e w' => e = .returned (.bool true) ∧ Grown w w' := by
  go_enter Try.func7, Try.ntmps7
  go_wp2_with fail
  refine (c1 _).mono ?_
  rintro e w' ⟨rfl, rfl⟩
  go_wp2_with fail
  refine (c2 _).mono ?_
  rintro e w' ⟨rfl, rfl⟩
  go_wp2_with fail
  refine (c3 _).mono ?_
  rintro e w' ⟨rfl, rfl⟩
  go_wp2_with fail
  refine (c4 _).mono ?_
  rintro e w' ⟨rfl, rfl⟩
  go_wp2_with fail
  refine (c5 _).mono ?_
  rintro e w' ⟨rfl, rfl⟩
  go_wp2_with fail
  refine (c6 _).mono ?_
  rintro e w' ⟨rfl, rfl⟩
  go_wp2_with fail
  refine (c4 _).mono ?_
  rintro e w' ⟨rfl, rfl⟩
  go_wp2_with fail
  refine (c7 _).mono ?_
  rintro e w' ⟨rfl, rfl⟩
  go_wp2_with fail
  refine (c8 _).mono ?_
  rintro e w' ⟨rfl, rfl⟩
  go_wp2_with fail
  refine (c9 _).mono ?_
  rintro e w' ⟨rfl, rfl⟩
  go_wp2_with fail
  refine (c1 _).mono ?_
  rintro e w' ⟨rfl, rfl⟩
  go_wp2_with fail
  refine (awake_ok _).mono ?_
  rintro e w' ⟨rfl, hg, hb⟩
  go_wp2
  go_ret
  exact ⟨rfl, hg⟩

theorem numShiftsAdd_walk (a0 a1 a2 : Int) (w0 : (Lit.int .u64 a0).wf = true) (w : World) :
    Calls Try.prog 7 #[.int .u64 a0, .int .i64 a1, .int .i64 a2] w fun e w' => e = .returned (.bool true) ∧ Grown w w' := by
  have b0 := wf_u64 w0
  obtain ⟨X, rfl⟩ : ∃ X : Nat, a0 = (X : Int) := ⟨a0.toNat, by omega⟩
  have hX : X < 2 ^ 64 := by omega
  have hN : 0 ≤ a1 % 128 ∧ a1 % 128 < 128 := by omega
  have hM : 0 ≤ a2 % 128 ∧ a2 % 128 < 128 := by omega
  generalize hN0 : a1 % 128 = N at *
  generalize hM0 : a2 % 128 = M at *
  have k1 : SHL (SHL X N) M = SHL X (N + M) := SHL_SHL hN.1 hM.1
  have k2 : SHR (SHR X N) M = SHR X (N + M) := SHR_SHR hN.1 hM.1
  have k3 : SHL (SHR X N) N = ANDNOT X (MASK N) := SHL_SHR hX hN.1
  have k4 : SHR X (-N) = SHL X N := SHR_neg X hX hN.1
  refine numShiftsAdd_core X (SHL X N : Nat) (SHL X (N + M) : Nat) (SHR X N : Nat) (SHR X (N + M) : Nat) (ANDNOT X (MASK N) : Nat) (MASK N : Nat) a1 a2 N M (by rw [and127, hN0]) (by rw [and127, hM0]) hN.1 hN.2 hM.1 hM.2 w (andnot_eq hX (MASK_lt _))
    (fun w => shl_ok X N hX (by omega) (by omega) w) (fun w => ?_) (fun w => shl_ok X (N + M) hX (by omega) (by omega) w)
    (fun w => shr_ok X N hX (by omega) (by omega) w) (fun w => ?_) (fun w => shr_ok X (N + M) hX (by omega) (by omega) w) (fun w => ?_) (fun w => mask_ok N (by omega) w) (fun w => ?_)
  · have h := shl_ok (SHL X N) M (SHL_lt hX _) (by omega) (by omega) w
    rw [k1] at h; exact h
  · have h := shr_ok (SHR X N) M (SHR_lt hX _) (by omega) (by omega) w
    rw [k2] at h; exact h
  · have h := shl_ok (SHR X N) N (SHR_lt hX _) (by omega) (by omega) w
    rw [k3] at h; exact h
  · have h := shr_ok X (-N) hX (by omega) (by omega) w
    rw [k4] at h; exact h
end Go.Proofs.Ytlklnljgmkagoab
