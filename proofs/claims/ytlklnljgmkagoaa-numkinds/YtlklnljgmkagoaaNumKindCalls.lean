/- What Narrow and Fits of package num answer. -/
import Derived.Test.YtlklnljgmkagoaaNumCalls
namespace Go.Proofs.Ytlklnljgmkagoaa
open Go.RowKit

/-- x as a number of a kind, modulo 2 to its bits. -/
def NARROW (x : Int) : Nat → Int
  | 1 => (x + 128) % 256 - 128
  | 2 => (x + 32768) % 65536 - 32768
  | 3 => (x + 2147483648) % 4294967296 - 2147483648
  | 4 => x
  | 5 => x % 256
  | 6 => x % 65536
  | 7 => x % 4294967296
  | _ => 0
theorem wr_i8 (x : Int) : IntKind.i8.wrap x = (x + 128) % 256 - 128 := by simp [IntKind.wrap, IntKind.bits, IntKind.signed]; omega
theorem wr_i16 (x : Int) : IntKind.i16.wrap x = (x + 32768) % 65536 - 32768 := by simp [IntKind.wrap, IntKind.bits, IntKind.signed]; omega
theorem wr_i32 (x : Int) : wrap32 x = (x + 2147483648) % 4294967296 - 2147483648 := by unfold wrap32; omega
theorem wr_i64 (x : Int) : wrap64 x = (x + 9223372036854775808) % 18446744073709551616 - 9223372036854775808 := by unfold wrap64; omega
theorem narrow_eq1 (x : Int) : wrap64 (wrap32 (wrap64 (IntKind.i16.wrap (wrap64 (IntKind.i8.wrap x))))) = NARROW x 1 := by
  show _ = (x + 128) % 256 - 128
  simp only [wr_i8, wr_i16, wr_i32, wr_i64]
  omega
theorem narrow_raw1 (x : Int) (w : World) : Calls Try.prog 15 #[.int .i64 x, .int .i64 1] w fun e w' => e = .returned (.tuple #[.int .i64 (wrap64 (wrap32 (wrap64 (IntKind.i16.wrap (wrap64 (IntKind.i8.wrap x)))))), .int .i64 0]) ∧ w = w' := by
  go_enter Try.func15, Try.ntmps15
  go_wp2
  go_ret2
  exact ⟨rfl, rfl⟩
theorem narrow_ok1 (x : Int) (w : World) : Calls Try.prog 15 #[.int .i64 x, .int .i64 1] w fun e w' => e = .returned (.tuple #[.int .i64 (NARROW x 1), .int .i64 0]) ∧ w = w' :=
  (narrow_raw1 x w).mono fun e w' h => by rw [narrow_eq1] at h; exact h
theorem narrow_eq2 (x : Int) : wrap64 (wrap32 (wrap64 (IntKind.i16.wrap x))) = NARROW x 2 := by
  show _ = (x + 32768) % 65536 - 32768
  simp only [wr_i16, wr_i32, wr_i64]
  omega
theorem narrow_raw2 (x : Int) (w : World) : Calls Try.prog 15 #[.int .i64 x, .int .i64 2] w fun e w' => e = .returned (.tuple #[.int .i64 (wrap64 (wrap32 (wrap64 (IntKind.i16.wrap x)))), .int .i64 0]) ∧ w = w' := by
  go_enter Try.func15, Try.ntmps15
  go_wp2
  go_ret2
  exact ⟨rfl, rfl⟩
theorem narrow_ok2 (x : Int) (w : World) : Calls Try.prog 15 #[.int .i64 x, .int .i64 2] w fun e w' => e = .returned (.tuple #[.int .i64 (NARROW x 2), .int .i64 0]) ∧ w = w' :=
  (narrow_raw2 x w).mono fun e w' h => by rw [narrow_eq2] at h; exact h
theorem narrow_eq3 (x : Int) : wrap64 (wrap32 x) = NARROW x 3 := by
  show _ = (x + 2147483648) % 4294967296 - 2147483648
  simp only [wr_i32, wr_i64]
  omega
theorem narrow_raw3 (x : Int) (w : World) : Calls Try.prog 15 #[.int .i64 x, .int .i64 3] w fun e w' => e = .returned (.tuple #[.int .i64 (wrap64 (wrap32 x)), .int .i64 0]) ∧ w = w' := by
  go_enter Try.func15, Try.ntmps15
  go_wp2
  go_ret2
  exact ⟨rfl, rfl⟩
theorem narrow_ok3 (x : Int) (w : World) : Calls Try.prog 15 #[.int .i64 x, .int .i64 3] w fun e w' => e = .returned (.tuple #[.int .i64 (NARROW x 3), .int .i64 0]) ∧ w = w' :=
  (narrow_raw3 x w).mono fun e w' h => by rw [narrow_eq3] at h; exact h
theorem narrow_raw4 (x : Int) (w : World) : Calls Try.prog 15 #[.int .i64 x, .int .i64 4] w fun e w' => e = .returned (.tuple #[.int .i64 (x), .int .i64 0]) ∧ w = w' := by
  go_enter Try.func15, Try.ntmps15
  go_wp2
  go_ret2
  exact ⟨rfl, rfl⟩
theorem narrow_ok4 (x : Int) (w : World) : Calls Try.prog 15 #[.int .i64 x, .int .i64 4] w fun e w' => e = .returned (.tuple #[.int .i64 (NARROW x 4), .int .i64 0]) ∧ w = w' :=
  narrow_raw4 x w
theorem narrow_raw5 (x : Int) (w : World) : Calls Try.prog 15 #[.int .i64 x, .int .i64 5] w fun e w' => e = .returned (.tuple #[.int .i64 (x % 256), .int .i64 0]) ∧ w = w' := by
  go_enter Try.func15, Try.ntmps15
  go_wp2
  go_ret2
  exact ⟨rfl, rfl⟩
theorem narrow_ok5 (x : Int) (w : World) : Calls Try.prog 15 #[.int .i64 x, .int .i64 5] w fun e w' => e = .returned (.tuple #[.int .i64 (NARROW x 5), .int .i64 0]) ∧ w = w' :=
  narrow_raw5 x w
theorem narrow_eq6 (x : Int) : wrap64 (IntKind.u16.wrap x) % 4294967296 = NARROW x 6 := by
  show _ = x % 65536
  simp only [wr_i64, IntKind.wrap_u16]
  omega
theorem narrow_raw6 (x : Int) (w : World) : Calls Try.prog 15 #[.int .i64 x, .int .i64 6] w fun e w' => e = .returned (.tuple #[.int .i64 (wrap64 (IntKind.u16.wrap x) % 4294967296), .int .i64 0]) ∧ w = w' := by
  go_enter Try.func15, Try.ntmps15
  go_wp2
  go_ret2
  exact ⟨rfl, rfl⟩
theorem narrow_ok6 (x : Int) (w : World) : Calls Try.prog 15 #[.int .i64 x, .int .i64 6] w fun e w' => e = .returned (.tuple #[.int .i64 (NARROW x 6), .int .i64 0]) ∧ w = w' :=
  (narrow_raw6 x w).mono fun e w' h => by rw [narrow_eq6] at h; exact h
theorem narrow_raw7 (x : Int) (w : World) : Calls Try.prog 15 #[.int .i64 x, .int .i64 7] w fun e w' => e = .returned (.tuple #[.int .i64 (x % 4294967296), .int .i64 0]) ∧ w = w' := by
  go_enter Try.func15, Try.ntmps15
  go_wp2
  go_ret2
  exact ⟨rfl, rfl⟩
theorem narrow_ok7 (x : Int) (w : World) : Calls Try.prog 15 #[.int .i64 x, .int .i64 7] w fun e w' => e = .returned (.tuple #[.int .i64 (NARROW x 7), .int .i64 0]) ∧ w = w' :=
  narrow_raw7 x w
theorem narrow_none (x kind : Int) (h : kind < 1 ∨ 7 < kind) (w : World) : Calls Try.prog 15 #[.int .i64 x, .int .i64 kind] w fun e w' => e = .returned (.tuple #[.int .i64 0, .int .i64 1]) ∧ w = w' := by
  have h1 : (kind == 1) = false := by simp; omega
  have h2 : (kind == 2) = false := by simp; omega
  have h3 : (kind == 3) = false := by simp; omega
  have h4 : (kind == 4) = false := by simp; omega
  have h5 : (kind == 5) = false := by simp; omega
  have h6 : (kind == 6) = false := by simp; omega
  have h7 : (kind == 7) = false := by simp; omega
  clear h
  go_enter Try.func15, Try.ntmps15
  go_wp2
  go_ret2
  exact ⟨rfl, rfl⟩
theorem fits_raw (x kind y : Int) (b : Bool) (hb : (y == x) = b) (w : World) (c : ∀ w, Calls Try.prog 15 #[.int .i64 x, .int .i64 kind] w fun e w' => e = .returned (.tuple #[.int .i64 y, .int .i64 0]) ∧ w = w') :
    Calls Try.prog 17 #[.int .i64 x, .int .i64 kind] w fun e w' => e = .returned (.bool b) ∧ w = w' := by
  go_enter Try.func17, Try.ntmps17
  go_wp2_with fail
  refine (c _).mono ?_
  rintro e w' ⟨rfl, rfl⟩
  go_wp2
  go_ret
  exact ⟨rfl, rfl⟩
theorem fits_none (x kind y : Int) (w : World) (c : ∀ w, Calls Try.prog 15 #[.int .i64 x, .int .i64 kind] w fun e w' => e = .returned (.tuple #[.int .i64 y, .int .i64 1]) ∧ w = w') :
    Calls Try.prog 17 #[.int .i64 x, .int .i64 kind] w fun e w' => e = .returned (.bool false) ∧ w = w' := by
  go_enter Try.func17, Try.ntmps17
  go_wp2_with fail
  refine (c _).mono ?_
  rintro e w' ⟨rfl, rfl⟩
  go_wp2
  go_ret
  exact ⟨rfl, rfl⟩
end Go.Proofs.Ytlklnljgmkagoaa
