/- What the small functions of package hash on words answer. -/
import Derived.Test.YtkmcmngdainofaaProg
import Derived.Test.YtkmcmngdainofaaHashPlain
import Derived.Test.YtkmcmngdainofaaNumSlice
namespace Go.Proofs.Ytkmcmngdainofaa
open Go.RowKit

theorem wrap32U (z : Int) : IntKind.u32.wrap z = z % 2 ^ 32 := by rw [IntKind.wrap_u32]; rfl
theorem xor32 {a b : Nat} (ha : a < 2 ^ 32) (hb : b < 2 ^ 32) : bits .xor .u32 (a : Int) (b : Int) = ((a ^^^ b : Nat) : Int) := u32_xor_nat a b ha hb
theorem and32 {a b : Nat} (ha : a < 2 ^ 32) (hb : b < 2 ^ 32) : bits .and .u32 (a : Int) (b : Int) = ((a &&& b : Nat) : Int) := u32_and_nat a b ha hb
theorem or32 {a b : Nat} (ha : a < 2 ^ 32) (hb : b < 2 ^ 32) : bits .or .u32 (a : Int) (b : Int) = ((a ||| b : Nat) : Int) := u32_or_nat a b ha hb

theorem and31 (n : Nat) (h1 : 1 ≤ n) (h2 : n < 32) : bits .and .u64 (IntKind.u64.wrap (wrap64 (-(n : Int)))) 31 = ((32 - n : Nat) : Int) := by
  have e : IntKind.u64.wrap (wrap64 (-(n : Int))) = ((18446744073709551616 - n : Nat) : Int) := by
    rw [wrapU]
    unfold wrap64
    omega
  have f : (31 : Int) = ((31 : Nat) : Int) := rfl
  rw [e, f, and_eq (by omega) (by decide)]
  congr 1
  have : (31 : Nat) = 2 ^ 5 - 1 := rfl
  rw [this, Nat.and_two_pow_sub_one_eq_mod]
  omega
theorem ones_xor {X : Nat} (hX : X < 2 ^ 32) : 4294967295 ^^^ X = 4294967295 - X := by
  apply Nat.eq_of_testBit_eq
  intro i
  have e : (4294967295 : Nat) = 2 ^ 32 - 1 := rfl
  have e2 : 4294967295 - X = 2 ^ 32 - (X + 1) := by omega
  rw [e2, Nat.testBit_two_pow_sub_succ hX, Nat.testBit_xor, e, Nat.testBit_two_pow_sub_one]
  by_cases h : i < 32
  · simp [h]
  · have : X.testBit i = false := Nat.testBit_lt_two_pow (Nat.lt_of_lt_of_le hX (Nat.pow_le_pow_right (by decide) (by omega)))
    simp [h, this]
theorem not32 {X : Nat} (hX : X < 2 ^ 32) : bits .xor .u32 IntKind.u32.max (X : Int) = ((4294967295 - X : Nat) : Int) := by
  rw [← ones_xor hX]
  exact xor32 (a := 4294967295) (by decide) hX
/-- a callee that leaves the world as it was, in a region that only reads. -/
theorem quiet_eq {P : Program} {f : FuncId} {args : Array Value} {w : World} {n : Nat} {v : Value}
    (h : Calls P f args (w.drewN n) fun e w' => e = .returned v ∧ w.drewN n = w') : Calls P f args (w.drewN n) fun e w'' => e = .returned v ∧ ∃ m, w'' = w.drewN m :=
  h.mono fun _ _ ⟨he, hm⟩ => ⟨he, n, hm.symm⟩
theorem or_up {a b k : Nat} (ha : a % 2 ^ k = 0) (hb : b < 2 ^ k) (h1 : a < 2 ^ 32) (h2 : b < 2 ^ 32) : bits .or .u32 (a : Int) (b : Int) = ((a + b : Nat) : Int) := by
  rw [or32 h1 h2, nat_join k a b ha hb]
end Go.Proofs.Ytkmcmngdainofaa
