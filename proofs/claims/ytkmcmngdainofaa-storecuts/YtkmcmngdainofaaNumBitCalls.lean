/- What OnesCount64, TrailingZeros64 and Len64, and num's Ones, Low and High answer. -/
import Derived.Test.YtkmcmngdainofaaNumCalls
import Derived.Test.YtkmcmngdainofaaNumPop
namespace Go.Proofs.Ytkmcmngdainofaa
open Go.RowKit

theorem ones_raw (x x1 x2 x3 x4 x5 x6 r : Int) (w : World)
    (e1 : IntKind.u64.wrap (bits .and .u64 (x / 2) 6148914691236517205 + bits .and .u64 x 6148914691236517205) = x1)
    (e2 : IntKind.u64.wrap (bits .and .u64 (x1 / 4) 3689348814741910323 + bits .and .u64 x1 3689348814741910323) = x2)
    (e3 : bits .and .u64 (IntKind.u64.wrap (x2 / 16 + x2)) 1085102592571150095 = x3)
    (e4 : IntKind.u64.wrap (x3 + x3 / 256) = x4) (e5 : IntKind.u64.wrap (x4 + x4 / 65536) = x5) (e6 : IntKind.u64.wrap (x5 + x5 / 4294967296) = x6)
    (e7 : bits .and .i64 (wrap64 x6) 127 = r) :
    Calls Try.prog 47 #[.int .u64 x] w fun e w' => e = .returned (.int .i64 r) ∧ w = w' := by
  go_enter Try.func47, Try.ntmps47
  go_wp2
  go_ret
  exact ⟨rfl, rfl⟩
theorem wrap_nat {a : Nat} {A : Int} (e : A = (a : Int)) (h : a < 2 ^ 64) : IntKind.u64.wrap A = (a : Int) := by rw [wrapU, e]; omega
theorem and_lit {a c : Nat} {A C : Int} (eA : A = (a : Int)) (eC : C = (c : Int)) (ha : a < 2 ^ 64) (hc : c < 2 ^ 64) : bits .and .u64 A C = ((a &&& c : Nat) : Int) := by
  subst eA eC
  exact and_eq ha hc
theorem DLE_top {w D : Nat} : ∀ (n x : Nat), DLE w D (n + 1) x → x / 2 ^ (w * n) % 2 ^ w ≤ D
  | 0, x, h => by simpa using h.1
  | n + 1, x, h => by
    have := DLE_top n (x / 2 ^ w) h.2
    rw [Nat.div_div_eq_div_mul, ← Nat.pow_add, show w + w * n = w * (n + 1) by rw [Nat.mul_add, Nat.mul_one, Nat.add_comm]] at this
    exact this
theorem last127 (y p : Nat) (h : y % 128 = p) : bits .and .i64 (wrap64 (y : Int)) 127 = (p : Int) := by
  rw [and127]
  unfold wrap64
  omega
theorem onescount_ok (X : Nat) (hX : X < 2 ^ 64) (w : World) : Calls Try.prog 47 #[.int .u64 (X : Int)] w fun e w' => e = .returned (.int .i64 ((POP X : Nat) : Int)) ∧ w = w' := by
  have h1 : X1 X < 2 ^ 64 := by rw [X1_eq]; exact ADDF_lt (k := 1) (by decide) 32 _
  have h2 := X2_lt X
  have h3 := X3_lt X
  have h16 : X2 X / 16 + X2 X < 2 ^ 64 := by
    have ht := DLE_top 15 (X2 X) (X2_le X)
    simp only [Nat.reducePow, Nat.reduceMul] at ht h2 ⊢
    generalize X2 X = y at *
    omega
  have hl := pop_last h3 (X3_le X)
  rw [X3_sum] at hl
  have hlt := hl.2
  have hle4 : X3 X + X3 X / 256 < 2 ^ 64 := Nat.lt_of_le_of_lt (by generalize X3 X + X3 X / 256 = y; omega) hlt
  have hle5 : X3 X + X3 X / 256 + (X3 X + X3 X / 256) / 65536 < 2 ^ 64 := Nat.lt_of_le_of_lt (by generalize X3 X + X3 X / 256 + (X3 X + X3 X / 256) / 65536 = y; omega) hlt
  refine ones_raw X (X1 X : Nat) (X2 X : Nat) (X3 X : Nat) (X3 X + X3 X / 256 : Nat) (X3 X + X3 X / 256 + (X3 X + X3 X / 256) / 65536 : Nat) (X3 X + X3 X / 256 + (X3 X + X3 X / 256) / 65536 + (X3 X + X3 X / 256 + (X3 X + X3 X / 256) / 65536) / 4294967296 : Nat) _ w ?_ ?_ ?_ ?_ ?_ ?_ ?_
  · have a1 : bits .and .u64 ((X : Int) / 2) 6148914691236517205 = ((X / 2 &&& 6148914691236517205 : Nat) : Int) := and_lit (by simp) rfl (by omega) (by decide)
    have a2 : bits .and .u64 (X : Int) 6148914691236517205 = ((X &&& 6148914691236517205 : Nat) : Int) := and_lit rfl rfl hX (by decide)
    rw [a1, a2]
    exact wrap_nat (by unfold X1; rw [Int.natCast_add]) h1
  · have a1 : bits .and .u64 (((X1 X : Nat) : Int) / 4) 3689348814741910323 = ((X1 X / 4 &&& 3689348814741910323 : Nat) : Int) := and_lit (by simp) rfl (by omega) (by decide)
    have a2 : bits .and .u64 ((X1 X : Nat) : Int) 3689348814741910323 = ((X1 X &&& 3689348814741910323 : Nat) : Int) := and_lit rfl rfl h1 (by decide)
    rw [a1, a2]
    exact wrap_nat (by unfold X2; rw [Int.natCast_add]) h2
  · have a0 : IntKind.u64.wrap (((X2 X : Nat) : Int) / 16 + ((X2 X : Nat) : Int)) = ((X2 X / 16 + X2 X : Nat) : Int) := wrap_nat (by simp) h16
    rw [a0]
    exact and_lit rfl rfl h16 (by decide)
  · exact wrap_nat (by simp) hle4
  · exact wrap_nat (by simp) hle5
  · exact wrap_nat (by simp) hlt
  · exact last127 _ _ hl.1
end Go.Proofs.Ytkmcmngdainofaa
