/- The law NumTwice: walked. -/
import Derived.Test.YtlklnljgmkagoabNumTurnCalls
namespace Go.Proofs.Ytlklnljgmkagoab
open Go.RowKit

theorem numTwice_core (x n m N M r s t v : Int) (w : World) (en : n.tmod 100000 = N) (em : m.tmod 100000 = M) (hN : -100000 < N) (hN' : N < 100000) (hM : -100000 < M) (hM' : M < 100000)
    (c1 : ∀ w, Calls Try.prog 17 #[.int .u64 x] w fun e w' => e = .returned (.int .u64 r) ∧ w = w')
    (c2 : ∀ w, Calls Try.prog 17 #[.int .u64 r] w fun e w' => e = .returned (.int .u64 x) ∧ w = w')
    (c3 : ∀ w, Calls Try.prog 18 #[.int .u64 x] w fun e w' => e = .returned (.int .u64 s) ∧ w = w')
    (c4 : ∀ w, Calls Try.prog 18 #[.int .u64 s] w fun e w' => e = .returned (.int .u64 x) ∧ w = w')
    (c5 : ∀ w, Calls Try.prog 19 #[.int .u64 x, .int .i64 N] w fun e w' => e = .returned (.int .u64 t) ∧ w = w')
    (c6 : ∀ w, Calls Try.prog 19 #[.int .u64 t, .int .i64 (-N)] w fun e w' => e = .returned (.int .u64 x) ∧ w = w')
    (c7 : ∀ w, Calls Try.prog 19 #[.int .u64 t, .int .i64 M] w fun e w' => e = .returned (.int .u64 v) ∧ w = w')
    (c8 : ∀ w, Calls Try.prog 19 #[.int .u64 x, .int .i64 (N + M)] w fun e w' => e = .returned (.int .u64 v) ∧ w = w') :
    Calls Try.prog 6 #[.int .u64 x, .int .i64 n, .int .i64 m] w fun e w' => e = .returned (.bool true) ∧ Grown w w' := by
  go_enter Try.func6, Try.ntmps6
  go_wp2_with fail
  refine (c1 _).mono ?_
  rintro e w' ⟨rfl, rfl⟩
  go_wp2_with fail
  refine (c2 _).mono ?_
  rintro e w' ⟨rfl, rfl⟩
  go_wp2_with fail
  refine (c3 _).mono ?_
  rintro e w' ⟨rfl, rfl⟩
  go_wp2_with fail
  refine (c4 _).mono ?_
  rintro e w' ⟨rfl, rfl⟩
  go_wp2_with fail
  refine (c5 _).mono ?_
  rintro e w' ⟨rfl, rfl⟩
  go_wp2_with fail
  refine (c6 _).mono ?_
  rintro e w' ⟨rfl, rfl⟩
  go_wp2_with fail
  refine (c5 _).mono ?_
  rintro e w' ⟨rfl, rfl⟩
  go_wp2_with fail
  refine (c7 _).mono ?_
  rintro e w' ⟨rfl, rfl⟩
  go_wp2_with fail
  refine (c8 _).mono ?_
  rintro e w' ⟨rfl, rfl⟩
  go_wp2_with fail
  refine (awake_ok _).mono ?_
  rintro e w' ⟨rfl, hg, hb⟩
  go_wp2
  go_ret
  exact ⟨rfl, hg⟩

theorem numTwice_walk (a0 a1 a2 : Int) (w0 : (Lit.int .u64 a0).wf = true) (w : World) :
    Calls Try.prog 6 #[.int .u64 a0, .int .i64 a1, .int .i64 a2] w fun e w' => e = .returned (.bool true) ∧ Grown w w' := by
  have b0 := wf_u64 w0
  obtain ⟨X, rfl⟩ : ∃ X : Nat, a0 = (X : Int) := ⟨a0.toNat, by omega⟩
  have hX : X < 2 ^ 64 := by omega
  have hN : -100000 < a1.tmod 100000 ∧ a1.tmod 100000 < 100000 := ⟨Int.lt_tmod_of_pos _ (by decide), Int.tmod_lt_of_pos _ (by decide)⟩
  have hM : -100000 < a2.tmod 100000 ∧ a2.tmod 100000 < 100000 := ⟨Int.lt_tmod_of_pos _ (by decide), Int.tmod_lt_of_pos _ (by decide)⟩
  generalize hN0 : a1.tmod 100000 = N at *
  generalize hM0 : a2.tmod 100000 = M at *
  refine numTwice_core X a1 a2 N M (REV X : Nat) (REVB X : Nat) (TURN X N : Nat) (TURN X (N + M) : Nat) w hN0 hM0 hN.1 hN.2 hM.1 hM.2
    (fun w => rev_ok X hX w) (fun w => ?_) (fun w => swap_ok X hX w) (fun w => ?_) (fun w => turn_ok X N hX w) (fun w => ?_) (fun w => ?_) (fun w => turn_ok X (N + M) hX w)
  · have k := rev_ok (REV X) (REV_lt hX) w
    rw [REV_REV hX] at k; exact k
  · have k := swap_ok (REVB X) (REVB_lt hX) w
    rw [REVB_REVB hX] at k; exact k
  · have k := turn_ok (TURN X N) (-N) (TURN_lt hX _) w
    rw [TURN_back hX] at k; exact k
  · have k := turn_ok (TURN X N) M (TURN_lt hX _) w
    rw [TURN_TURN hX] at k; exact k
end Go.Proofs.Ytlklnljgmkagoab
