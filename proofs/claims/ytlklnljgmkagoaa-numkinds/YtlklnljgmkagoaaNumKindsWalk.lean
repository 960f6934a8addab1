/- The law NumKinds: walked. -/
import Derived.Test.YtlklnljgmkagoaaNumRefKinds
namespace Go.Proofs.Ytlklnljgmkagoaa
open Go.RowKit

theorem numKinds_core (x kind y e0 : Int) (f : Bool) (w : World)
    (c1 : ∀ w, Calls Try.prog 15 #[.int .i64 x, .int .i64 kind] w fun e w' => e = .returned (.tuple #[.int .i64 y, .int .i64 e0]) ∧ w = w')
    (c2 : ∀ w, Calls Try.prog 16 #[.int .i64 x, .int .i64 kind] w fun e w' => e = .returned (.tuple #[.int .i64 y, .int .i64 e0]) ∧ Fine w w')
    (c3 : ∀ w, Calls Try.prog 17 #[.int .i64 x, .int .i64 kind] w fun e w' => e = .returned (.bool f) ∧ w = w')
    (c4 : ∀ w, Calls Try.prog 18 #[.int .i64 x, .int .i64 kind] w fun e w' => e = .returned (.bool f) ∧ Fine w w') :
    Calls Try.prog 4 #[.int .i64 x, .int .i64 kind] w fun e w' => e = .returned (.bool true) ∧ Grown w w' := by
  go_enter Try.func4, Try.ntmps4
  go_wp2_with fail
  refine (c1 _).mono ?_
  rintro e w' ⟨rfl, rfl⟩
  go_wp2_with fail
  refine (c2 _).mono ?_
  rintro e w1 ⟨rfl, hF1⟩
  have HF1 : Aside (Fine w w1) := hF1
  clear hF1
  go_wp2_with fail
  refine (c3 _).mono ?_
  rintro e w' ⟨rfl, rfl⟩
  go_wp2_with fail
  refine (c4 _).mono ?_
  rintro e w2 ⟨rfl, hF2⟩
  have HF2 : Aside (Fine w1 w2) := hF2
  clear hF2
  go_wp2_with fail
  refine (awake_ok _).mono ?_
  rintro e w' ⟨rfl, hg, hb⟩
  go_wp2
  go_ret
  exact ⟨rfl, (HF1.out.trans (HF2.out.trans ⟨hg, hb⟩)).1⟩

theorem numKinds_walk (a0 a1 : Int) (w0 : (Lit.int .i64 a0).wf = true) (w : World) :
    Calls Try.prog 4 #[.int .i64 a0, .int .i64 a1] w fun e w' => e = .returned (.bool true) ∧ Grown w w' := by
  have b0 := wf_i64 w0
  by_cases h : a1 < 1 ∨ 7 < a1
  · exact numKinds_core a0 a1 0 1 false w (fun w => narrow_none a0 a1 h w) (fun w => refnarrow_none a0 a1 h w) (fun w => fits_none a0 a1 0 w (fun w => narrow_none a0 a1 h w)) (fun w => reffits_none a0 a1 0 w (fun w => refnarrow_none a0 a1 h w))
  · have h' : a1 = 1 ∨ a1 = 2 ∨ a1 = 3 ∨ a1 = 4 ∨ a1 = 5 ∨ a1 = 6 ∨ a1 = 7 := by omega
    rcases h' with rfl | rfl | rfl | rfl | rfl | rfl | rfl
    · exact numKinds_core a0 1 (NARROW a0 1) 0 (NARROW a0 1 == a0) w (fun w => narrow_ok1 a0 w) (fun w => refnarrow_ok1 a0 b0.1 b0.2 w) (fun w => fits_raw a0 1 _ _ rfl w (fun w => narrow_ok1 a0 w)) (fun w => reffits_raw a0 1 _ _ rfl w (fun w => refnarrow_ok1 a0 b0.1 b0.2 w))
    · exact numKinds_core a0 2 (NARROW a0 2) 0 (NARROW a0 2 == a0) w (fun w => narrow_ok2 a0 w) (fun w => refnarrow_ok2 a0 b0.1 b0.2 w) (fun w => fits_raw a0 2 _ _ rfl w (fun w => narrow_ok2 a0 w)) (fun w => reffits_raw a0 2 _ _ rfl w (fun w => refnarrow_ok2 a0 b0.1 b0.2 w))
    · exact numKinds_core a0 3 (NARROW a0 3) 0 (NARROW a0 3 == a0) w (fun w => narrow_ok3 a0 w) (fun w => refnarrow_ok3 a0 b0.1 b0.2 w) (fun w => fits_raw a0 3 _ _ rfl w (fun w => narrow_ok3 a0 w)) (fun w => reffits_raw a0 3 _ _ rfl w (fun w => refnarrow_ok3 a0 b0.1 b0.2 w))
    · exact numKinds_core a0 4 (NARROW a0 4) 0 (NARROW a0 4 == a0) w (fun w => narrow_ok4 a0 w) (fun w => refnarrow_ok4 a0 b0.1 b0.2 w) (fun w => fits_raw a0 4 _ _ rfl w (fun w => narrow_ok4 a0 w)) (fun w => reffits_raw a0 4 _ _ rfl w (fun w => refnarrow_ok4 a0 b0.1 b0.2 w))
    · exact numKinds_core a0 5 (NARROW a0 5) 0 (NARROW a0 5 == a0) w (fun w => narrow_ok5 a0 w) (fun w => refnarrow_ok5 a0 b0.1 b0.2 w) (fun w => fits_raw a0 5 _ _ rfl w (fun w => narrow_ok5 a0 w)) (fun w => reffits_raw a0 5 _ _ rfl w (fun w => refnarrow_ok5 a0 b0.1 b0.2 w))
    · exact numKinds_core a0 6 (NARROW a0 6) 0 (NARROW a0 6 == a0) w (fun w => narrow_ok6 a0 w) (fun w => refnarrow_ok6 a0 b0.1 b0.2 w) (fun w => fits_raw a0 6 _ _ rfl w (fun w => narrow_ok6 a0 w)) (fun w => reffits_raw a0 6 _ _ rfl w (fun w => refnarrow_ok6 a0 b0.1 b0.2 w))
    · exact numKinds_core a0 7 (NARROW a0 7) 0 (NARROW a0 7 == a0) w (fun w => narrow_ok7 a0 w) (fun w => refnarrow_ok7 a0 b0.1 b0.2 w) (fun w => fits_raw a0 7 _ _ rfl w (fun w => narrow_ok7 a0 w)) (fun w => reffits_raw a0 7 _ _ rfl w (fun w => refnarrow_ok7 a0 b0.1 b0.2 w))
end Go.Proofs.Ytlklnljgmkagoaa
