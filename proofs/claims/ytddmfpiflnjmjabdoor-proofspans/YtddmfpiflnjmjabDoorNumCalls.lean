/- What the small functions of package num answer, call by call, and that awake answers true. -/
import Derived.Test.YtddmfpiflnjmjabDoorProg
import Derived.Test.YtddmfpiflnjmjabDoorNumPlain
import Derived.WalkKit
import Derived.WalkLawsBesides
namespace Go.Proofs.YtddmfpiflnjmjabDoor
open Go.RowKit

theorem mask_raw (n : Int) (w : World) : Calls Tryd.prog 35 #[.int .i64 n] w fun e w' => e = .returned (.int .u64 (if n ≤ 0 then 0 else IntKind.u64.wrap (IntKind.u64.wrap (1 * 2 ^ min (IntKind.u64.wrap n).toNat 64) - 1))) ∧ w = w' := by
  by_cases h : n ≤ 0
  · rw [if_pos h]
    go_enter Tryd.func35, Tryd.ntmps35
    go_wp2
    go_ret
    exact ⟨rfl, rfl⟩
  · rw [if_neg h]
    go_enter Tryd.func35, Tryd.ntmps35
    go_wp2
    go_ret
    exact ⟨rfl, rfl⟩

theorem mask_ok (n : Int) (h1 : n < 2 ^ 63) (w : World) : Calls Tryd.prog 35 #[.int .i64 n] w fun e w' => e = .returned (.int .u64 ((MASK n : Nat) : Int)) ∧ w = w' :=
  (mask_raw n w).mono fun e w' h => by rw [mask_raw_eq h1] at h; exact h

end Go.Proofs.YtddmfpiflnjmjabDoor
