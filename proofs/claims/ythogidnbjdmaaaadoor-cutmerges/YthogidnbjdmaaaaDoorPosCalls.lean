/- What the small functions of package pos answer: tree, ahead, Nodes, over, beside, Leaf. -/
import Derived.Test.YthogidnbjdmaaaaDoorPosPlain
import Derived.Test.YthogidnbjdmaaaaDoorNumHighCalls
import Derived.Test.YthogidnbjdmaaaaDoorNumCalls
import Derived.WalkKit
import Derived.WalkLawsBesides
namespace Go.Proofs.YthogidnbjdmaaaaDoor
open Go.RowKit

theorem MASK_TREE {h : Nat} (hh : h ≤ 63) : MASK ((h : Int) + 1) = TREE h := by
  unfold MASK TREE
  rw [show min ((h : Int) + 1).toNat 64 = h + 1 by omega]
theorem TREE_lt {h : Nat} (hh : h ≤ 63) : TREE h < 2 ^ 64 := by
  have : 2 ^ (h + 1) ≤ 2 ^ 64 := Nat.pow_le_pow_right (by decide) (by omega)
  have := two_le h
  unfold TREE
  omega
theorem ahead_raw (n c r : Int) (w : World) (e : IntKind.u64.wrap (IntKind.u64.wrap (n * 2) - IntKind.u64.wrap c) = r) (k : ∀ w, Calls Tryd.prog 34 #[.int .u64 n] w fun e w' => e = .returned (.int .i64 c) ∧ w = w') :
    Calls Tryd.prog 32 #[.int .u64 n] w fun e w' => e = .returned (.int .u64 r) ∧ w = w' := by
  go_enter Tryd.func32, Tryd.ntmps32
  go_wp2_with fail
  refine (k _).mono ?_
  rintro e w' ⟨rfl, rfl⟩
  go_wp2
  go_ret
  exact ⟨rfl, rfl⟩
theorem ahead_ok (n : Nat) (hn : n < 2 ^ 63) (w : World) : Calls Tryd.prog 32 #[.int .u64 (n : Int)] w fun e w' => e = .returned (.int .u64 ((NODES n : Nat) : Int)) ∧ w = w' := by
  refine ahead_raw n (POP n : Nat) _ w ?_ (fun w => ones_ok n (by omega) w)
  rw [POP_PC (by omega), wrapU, wrapU, wrapU]
  have := NODES_add n
  have := PC_le n
  omega
end Go.Proofs.YthogidnbjdmaaaaDoor
