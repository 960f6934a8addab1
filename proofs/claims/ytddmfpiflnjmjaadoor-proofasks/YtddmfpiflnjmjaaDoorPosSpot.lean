/- What Spot answers: the node that stands at a place. -/
import Derived.Test.YtddmfpiflnjmjaaDoorPosCalls
import Derived.Test.YtddmfpiflnjmjaaDoorPosPeaksPlain
import Derived.Deep.LoopGhost
namespace Go.Proofs.YtddmfpiflnjmjaaDoor
open Go.RowKit

/-- the spot (h, k) as a value. -/
abbrev SPOT (h k : Nat) : Value := .agg #[.int .u8 (h : Int), .int .u64 (k : Int)]
theorem high_ok (X : Nat) (hX : X < 2 ^ 64) (w : World) : Calls Tryd.prog 78 #[.int .u64 (X : Int)] w fun e w' => e = .returned (.int .i64 ((LEN X : Nat) - 1 : Int)) ∧ w = w' := by
  have hl : LEN X ≤ 64 := by
    unfold LEN
    have := L8_le (X / 72057594037927936)
    have := L8_le (X / 281474976710656)
    have := L8_le (X / 1099511627776)
    have := L8_le (X / 4294967296)
    have := L8_le (X / 16777216)
    have := L8_le (X / 65536)
    have := L8_le (X / 256)
    have := L8_le X
    repeat' split
    all_goals omega
  exact high_raw X _ w (fun w => len_ok X hX w) (by omega) (by omega)

theorem or_low {m H : Nat} (hH : 1 ≤ H) : m * 2 ^ H ||| 2 ^ (H - 1) = (2 * m + 1) * 2 ^ (H - 1) := by
  have h1 : 2 ^ (H - 1) < 2 ^ H := Nat.pow_lt_pow_right (by decide) (by omega)
  have h2 := Nat.shiftLeft_add_eq_or_of_lt h1 m
  rw [Nat.shiftLeft_eq] at h2
  rw [← h2, Nat.add_mul, Nat.one_mul]
  congr 1
  obtain ⟨j, rfl⟩ : ∃ j, H = j + 1 := ⟨H - 1, by omega⟩
  rw [Nat.add_sub_cancel, Nat.pow_succ, Nat.mul_comm 2 m, Nat.mul_assoc, Nat.mul_comm 2]
end Go.Proofs.YtddmfpiflnjmjaaDoor
