/- What Rev, Swap and Turn of package num answer. -/
import Derived.Test.YtlklnljgmkagoaaNumCalls
import Derived.Test.YtlklnljgmkagoaaNumTurnPlain
namespace Go.Proofs.Ytlklnljgmkagoaa
open Go.RowKit

theorem revb_raw (x x1 x2 x3 : Int) (w : World) (e1 : bits .or .u64 (bits .and .u64 (x / 256) 71777214294589695) (IntKind.u64.wrap (bits .and .u64 x 71777214294589695 * 256)) = x1) (e2 : bits .or .u64 (bits .and .u64 (x1 / 65536) 281470681808895) (IntKind.u64.wrap (bits .and .u64 x1 281470681808895 * 65536)) = x2) (e3 : bits .or .u64 (x2 / 4294967296) (IntKind.u64.wrap (x2 * 4294967296)) = x3) :
    Calls Try.prog 48 #[.int .u64 x] w fun e w' => e = .returned (.int .u64 x3) ∧ w = w' := by
  go_enter Try.func48, Try.ntmps48
  go_wp2
  go_ret
  exact ⟨rfl, rfl⟩
theorem revb_ok (X : Nat) (hX : X < 2 ^ 64) (w : World) : Calls Try.prog 48 #[.int .u64 (X : Int)] w fun e w' => e = .returned (.int .u64 ((REVB X : Nat) : Int)) ∧ w = w' :=
  revb_raw X _ _ _ w (sw_raw_eq hX (by decide) 8 rfl rfl) (sw_raw_eq (SW_lt hX) (by decide) 16 rfl rfl) (sw32_raw_eq (SW_lt (SW_lt hX)))
theorem rev64_raw (x x1 x2 x3 x4 : Int) (w : World) (e1 : bits .or .u64 (bits .and .u64 (x / 2) 6148914691236517205) (IntKind.u64.wrap (bits .and .u64 x 6148914691236517205 * 2)) = x1) (e2 : bits .or .u64 (bits .and .u64 (x1 / 4) 3689348814741910323) (IntKind.u64.wrap (bits .and .u64 x1 3689348814741910323 * 4)) = x2) (e3 : bits .or .u64 (bits .and .u64 (x2 / 16) 1085102592571150095) (IntKind.u64.wrap (bits .and .u64 x2 1085102592571150095 * 16)) = x3)
    (c : ∀ w, Calls Try.prog 48 #[.int .u64 x3] w fun e w' => e = .returned (.int .u64 x4) ∧ w = w') :
    Calls Try.prog 47 #[.int .u64 x] w fun e w' => e = .returned (.int .u64 x4) ∧ w = w' := by
  go_enter Try.func47, Try.ntmps47
  go_wp2_with fail
  refine (c _).mono ?_
  rintro e w' ⟨rfl, rfl⟩
  go_wp2
  go_ret
  exact ⟨rfl, rfl⟩
theorem rev64_ok (X : Nat) (hX : X < 2 ^ 64) (w : World) : Calls Try.prog 47 #[.int .u64 (X : Int)] w fun e w' => e = .returned (.int .u64 ((REV X : Nat) : Int)) ∧ w = w' :=
  rev64_raw X _ _ _ _ w (sw_raw_eq hX (by decide) 1 rfl rfl) (sw_raw_eq (SW_lt hX) (by decide) 2 rfl rfl) (sw_raw_eq (SW_lt (SW_lt hX)) (by decide) 4 rfl rfl) (fun w => revb_ok _ (SW_lt (SW_lt (SW_lt hX))) w)
theorem rev_raw (x r : Int) (w : World) (c : ∀ w, Calls Try.prog 47 #[.int .u64 x] w fun e w' => e = .returned (.int .u64 r) ∧ w = w') :
    Calls Try.prog 27 #[.int .u64 x] w fun e w' => e = .returned (.int .u64 r) ∧ w = w' := by
  go_enter Try.func27, Try.ntmps27
  go_wp2_with fail
  refine (c _).mono ?_
  rintro e w' ⟨rfl, rfl⟩
  go_wp2
  go_ret
  exact ⟨rfl, rfl⟩
theorem rev_ok (X : Nat) (hX : X < 2 ^ 64) (w : World) : Calls Try.prog 27 #[.int .u64 (X : Int)] w fun e w' => e = .returned (.int .u64 ((REV X : Nat) : Int)) ∧ w = w' := rev_raw X _ w (fun w => rev64_ok X hX w)
theorem swap_raw (x r : Int) (w : World) (c : ∀ w, Calls Try.prog 48 #[.int .u64 x] w fun e w' => e = .returned (.int .u64 r) ∧ w = w') :
    Calls Try.prog 29 #[.int .u64 x] w fun e w' => e = .returned (.int .u64 r) ∧ w = w' := by
  go_enter Try.func29, Try.ntmps29
  go_wp2_with fail
  refine (c _).mono ?_
  rintro e w' ⟨rfl, rfl⟩
  go_wp2
  go_ret
  exact ⟨rfl, rfl⟩
theorem swap_ok (X : Nat) (hX : X < 2 ^ 64) (w : World) : Calls Try.prog 29 #[.int .u64 (X : Int)] w fun e w' => e = .returned (.int .u64 ((REVB X : Nat) : Int)) ∧ w = w' := swap_raw X _ w (fun w => revb_ok X hX w)
theorem turn_raw (x n u v a b r : Int) (w : World) (hu : (IntKind.u64.wrap n).tmod 64 = u) (h0 : 0 ≤ u) (hv : IntKind.u64.wrap (64 - u) = v) (h1 : 0 ≤ v) (ha : IntKind.u64.wrap (x * 2 ^ min u.toNat 64) = a) (hb : x / 2 ^ min v.toNat 64 = b) (hr : bits .or .u64 a b = r) :
    Calls Try.prog 25 #[.int .u64 x, .int .i64 n] w fun e w' => e = .returned (.int .u64 r) ∧ w = w' := by
  go_enter Try.func25, Try.ntmps25
  go_wp2
  go_ret
  exact ⟨rfl, rfl⟩
theorem turn_ok (X : Nat) (n : Int) (hX : X < 2 ^ 64) (w : World) : Calls Try.prog 25 #[.int .u64 (X : Int), .int .i64 n] w fun e w' => e = .returned (.int .u64 ((TURN X n : Nat) : Int)) ∧ w = w' := by
  have hu : 0 ≤ n % 64 ∧ n % 64 < 64 := by omega
  refine turn_raw X n (n % 64) (64 - n % 64) ((X * 2 ^ (n % 64).toNat % 2 ^ 64 : Nat) : Int) ((X / 2 ^ (64 - (n % 64).toNat) : Nat) : Int) _ w (turn_up n) hu.1 (by rw [wrapU]; omega) (by omega) ?_ ?_ (or_eq (mod_lt64 _) (div_lt hX _))
  · rw [mul_cast, mul_min]
  · rw [div_cast, div_min hX, show (64 - n % 64).toNat = 64 - (n % 64).toNat by omega]
end Go.Proofs.Ytlklnljgmkagoaa
