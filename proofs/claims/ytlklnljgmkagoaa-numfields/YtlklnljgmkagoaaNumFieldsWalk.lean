/- The law NumFields: walked. -/
import Derived.Test.YtlklnljgmkagoaaNumCalls
import Derived.Test.YtlklnljgmkagoaaNumRefFields
namespace Go.Proofs.Ytlklnljgmkagoaa
open Go.RowKit

theorem numFields_core (x at' n y a b c : Int) (w : World)
    (c1 : ∀ w, Calls Try.prog 19 #[.int .i64 n] w fun e w' => e = .returned (.int .u64 a) ∧ w = w')
    (c2 : ∀ w, Calls Try.prog 20 #[.int .i64 n] w fun e w' => e = .returned (.int .u64 a) ∧ Fine w w')
    (c3 : ∀ w, Calls Try.prog 21 #[.int .u64 x, .int .i64 at', .int .i64 n] w fun e w' => e = .returned (.int .u64 b) ∧ w = w')
    (c4 : ∀ w, Calls Try.prog 22 #[.int .u64 x, .int .i64 at', .int .i64 n] w fun e w' => e = .returned (.int .u64 b) ∧ Fine w w')
    (c5 : ∀ w, Calls Try.prog 23 #[.int .u64 x, .int .i64 at', .int .i64 n, .int .u64 y] w fun e w' => e = .returned (.int .u64 c) ∧ w = w')
    (c6 : ∀ w, Calls Try.prog 24 #[.int .u64 x, .int .i64 at', .int .i64 n, .int .u64 y] w fun e w' => e = .returned (.int .u64 c) ∧ Fine w w') :
    Calls Try.prog 5 #[.int .u64 x, .int .i64 at', .int .i64 n, .int .u64 y] w fun e w' => e = .returned (.bool true) ∧ Grown w w' := by
  go_enter Try.func5, Try.ntmps5
  go_wp2_with fail
  refine (c1 _).mono ?_
  rintro e w' ⟨rfl, rfl⟩
  go_wp2_with fail
  refine (c2 _).mono ?_
  rintro e w1 ⟨rfl, hF1⟩
  have HF1 : Aside (Fine w w1) := hF1
  clear hF1
  go_wp2_with fail
  refine (c3 _).mono ?_
  rintro e w' ⟨rfl, rfl⟩
  go_wp2_with fail
  refine (c4 _).mono ?_
  rintro e w2 ⟨rfl, hF2⟩
  have HF2 : Aside (Fine w1 w2) := hF2
  clear hF2
  go_wp2_with fail
  refine (c5 _).mono ?_
  rintro e w' ⟨rfl, rfl⟩
  go_wp2_with fail
  refine (c6 _).mono ?_
  rintro e w3 ⟨rfl, hF3⟩
  have HF3 : Aside (Fine w2 w3) := hF3
  clear hF3
  go_wp2_with fail
  refine (awake_ok _).mono ?_
  rintro e w' ⟨rfl, hg, hb⟩
  go_wp2
  go_ret
  exact ⟨rfl, (HF1.out.trans (HF2.out.trans (HF3.out.trans ⟨hg, hb⟩))).1⟩

theorem numFields_walk (a0 a1 a2 a3 : Int) (w0 : (Lit.int .u64 a0).wf = true) (w1 : (Lit.int .i64 a1).wf = true) (w2 : (Lit.int .i64 a2).wf = true) (w3 : (Lit.int .u64 a3).wf = true) (w : World) :
    Calls Try.prog 5 #[.int .u64 a0, .int .i64 a1, .int .i64 a2, .int .u64 a3] w fun e w' => e = .returned (.bool true) ∧ Grown w w' := by
  have b0 := wf_u64 w0
  have b1 := wf_i64 w1
  have b2 := wf_i64 w2
  have b3 := wf_u64 w3
  obtain ⟨X, rfl⟩ : ∃ X : Nat, a0 = (X : Int) := ⟨a0.toNat, by omega⟩
  obtain ⟨Y, rfl⟩ : ∃ Y : Nat, a3 = (Y : Int) := ⟨a3.toNat, by omega⟩
  have hX : X < 2 ^ 64 := by omega
  have hY : Y < 2 ^ 64 := by omega
  exact numFields_core X a1 a2 Y _ _ _ w (fun w => mask_ok a2 b2.2 w) (fun w => refmask_ok a2 w) (fun w => field_ok X a1 a2 hX b1.1 b1.2 b2.2 w) (fun w => reffield_eq X a1 a2 hX w) (fun w => lay_ok X a1 a2 Y hX hY b1.1 b1.2 b2.2 w) (fun w => reflay_eq X a1 a2 Y hX hY w)
end Go.Proofs.Ytlklnljgmkagoaa
