/- What the small functions of package pos answer: tree, ahead, Nodes, over, beside, Leaf. -/
import Derived.Test.YtddmfpiflnjmjaaDoorPosPlain
import Derived.Test.YtddmfpiflnjmjaaDoorNumHighCalls
import Derived.Test.YtddmfpiflnjmjaaDoorNumCalls
import Derived.WalkKit
import Derived.WalkLawsBesides
namespace Go.Proofs.YtddmfpiflnjmjaaDoor
open Go.RowKit

theorem MASK_TREE {h : Nat} (hh : h ≤ 63) : MASK ((h : Int) + 1) = TREE h := by
  unfold MASK TREE
  rw [show min ((h : Int) + 1).toNat 64 = h + 1 by omega]
theorem TREE_lt {h : Nat} (hh : h ≤ 63) : TREE h < 2 ^ 64 := by
  have : 2 ^ (h + 1) ≤ 2 ^ 64 := Nat.pow_le_pow_right (by decide) (by omega)
  have := two_le h
  unfold TREE
  omega
theorem tree_raw (h r : Int) (w : World) (e : wrap64 (h + 1) = h + 1) (c : ∀ w, Calls Tryd.prog 80 #[.int .i64 (h + 1)] w fun e w' => e = .returned (.int .u64 r) ∧ w = w') :
    Calls Tryd.prog 76 #[.int .i64 h] w fun e w' => e = .returned (.int .u64 r) ∧ w = w' := by
  go_enter Tryd.func76, Tryd.ntmps76
  go_wp2_with fail
  refine (c _).mono ?_
  rintro e w' ⟨rfl, rfl⟩
  go_wp2
  go_ret
  exact ⟨rfl, rfl⟩
theorem tree_ok (h : Nat) (hh : h ≤ 63) (w : World) : Calls Tryd.prog 76 #[.int .i64 (h : Int)] w fun e w' => e = .returned (.int .u64 ((TREE h : Nat) : Int)) ∧ w = w' := by
  refine tree_raw h _ w (by unfold wrap64; omega) (fun w => ?_)
  rw [← MASK_TREE hh]
  exact mask_ok ((h : Int) + 1) (by omega) w
theorem ahead_raw (n c r : Int) (w : World) (e : IntKind.u64.wrap (IntKind.u64.wrap (n * 2) - IntKind.u64.wrap c) = r) (k : ∀ w, Calls Tryd.prog 73 #[.int .u64 n] w fun e w' => e = .returned (.int .i64 c) ∧ w = w') :
    Calls Tryd.prog 70 #[.int .u64 n] w fun e w' => e = .returned (.int .u64 r) ∧ w = w' := by
  go_enter Tryd.func70, Tryd.ntmps70
  go_wp2_with fail
  refine (k _).mono ?_
  rintro e w' ⟨rfl, rfl⟩
  go_wp2
  go_ret
  exact ⟨rfl, rfl⟩
theorem ahead_ok (n : Nat) (hn : n < 2 ^ 63) (w : World) : Calls Tryd.prog 70 #[.int .u64 (n : Int)] w fun e w' => e = .returned (.int .u64 ((NODES n : Nat) : Int)) ∧ w = w' := by
  refine ahead_raw n (POP n : Nat) _ w ?_ (fun w => ones_ok n (by omega) w)
  rw [POP_PC (by omega), wrapU, wrapU, wrapU]
  have := NODES_add n
  have := PC_le n
  omega
theorem over_right (p h : Int) (w : World) : Calls Tryd.prog 72 #[.int .u64 p, .int .i64 h, .bool true] w fun e w' => e = .returned (.int .u64 (IntKind.u64.wrap (p + 1))) ∧ w = w' := by
  go_enter Tryd.func72, Tryd.ntmps72
  go_wp2
  go_ret
  exact ⟨rfl, rfl⟩
theorem over_left (p h t : Int) (w : World) (c : ∀ w, Calls Tryd.prog 76 #[.int .i64 h] w fun e w' => e = .returned (.int .u64 t) ∧ w = w') :
    Calls Tryd.prog 72 #[.int .u64 p, .int .i64 h, .bool false] w fun e w' => e = .returned (.int .u64 (IntKind.u64.wrap (IntKind.u64.wrap (p + t) + 1))) ∧ w = w' := by
  go_enter Tryd.func72, Tryd.ntmps72
  go_wp2_with fail
  refine (c _).mono ?_
  rintro e w' ⟨rfl, rfl⟩
  go_wp2
  go_ret
  exact ⟨rfl, rfl⟩
theorem beside_right (p h t : Int) (w : World) (c : ∀ w, Calls Tryd.prog 76 #[.int .i64 h] w fun e w' => e = .returned (.int .u64 t) ∧ w = w') :
    Calls Tryd.prog 71 #[.int .u64 p, .int .i64 h, .bool true] w fun e w' => e = .returned (.int .u64 (IntKind.u64.wrap (p - t))) ∧ w = w' := by
  go_enter Tryd.func71, Tryd.ntmps71
  go_wp2_with fail
  refine (c _).mono ?_
  rintro e w' ⟨rfl, rfl⟩
  go_wp2
  go_ret
  exact ⟨rfl, rfl⟩
theorem beside_left (p h t : Int) (w : World) (c : ∀ w, Calls Tryd.prog 76 #[.int .i64 h] w fun e w' => e = .returned (.int .u64 t) ∧ w = w') :
    Calls Tryd.prog 71 #[.int .u64 p, .int .i64 h, .bool false] w fun e w' => e = .returned (.int .u64 (IntKind.u64.wrap (p + t))) ∧ w = w' := by
  go_enter Tryd.func71, Tryd.ntmps71
  go_wp2_with fail
  refine (c _).mono ?_
  rintro e w' ⟨rfl, rfl⟩
  go_wp2
  go_ret
  exact ⟨rfl, rfl⟩
end Go.Proofs.YtddmfpiflnjmjaaDoor
