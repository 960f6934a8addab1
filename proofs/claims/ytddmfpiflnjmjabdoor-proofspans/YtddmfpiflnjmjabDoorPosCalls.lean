/- What the small functions of package pos answer: tree, ahead, Nodes, over, beside, Leaf. -/
import Derived.Test.YtddmfpiflnjmjabDoorPosPlain
import Derived.Test.YtddmfpiflnjmjabDoorNumHighCalls
import Derived.Test.YtddmfpiflnjmjabDoorNumCalls
import Derived.WalkKit
import Derived.WalkLawsBesides
namespace Go.Proofs.YtddmfpiflnjmjabDoor
open Go.RowKit

theorem MASK_TREE {h : Nat} (hh : h ≤ 63) : MASK ((h : Int) + 1) = TREE h := by
  unfold MASK TREE
  rw [show min ((h : Int) + 1).toNat 64 = h + 1 by omega]
theorem TREE_lt {h : Nat} (hh : h ≤ 63) : TREE h < 2 ^ 64 := by
  have : 2 ^ (h + 1) ≤ 2 ^ 64 := Nat.pow_le_pow_right (by decide) (by omega)
  have := two_le h
  unfold TREE
  omega
theorem tree_raw (h r : Int) (w : World) (e : wrap64 (h + 1) = h + 1) (c : ∀ w, Calls Tryd.prog 35 #[.int .i64 (h + 1)] w fun e w' => e = .returned (.int .u64 r) ∧ w = w') :
    Calls Tryd.prog 22 #[.int .i64 h] w fun e w' => e = .returned (.int .u64 r) ∧ w = w' := by
  go_enter Tryd.func22, Tryd.ntmps22
  go_wp2_with fail
  refine (c _).mono ?_
  rintro e w' ⟨rfl, rfl⟩
  go_wp2
  go_ret
  exact ⟨rfl, rfl⟩
theorem tree_ok (h : Nat) (hh : h ≤ 63) (w : World) : Calls Tryd.prog 22 #[.int .i64 (h : Int)] w fun e w' => e = .returned (.int .u64 ((TREE h : Nat) : Int)) ∧ w = w' := by
  refine tree_raw h _ w (by unfold wrap64; omega) (fun w => ?_)
  rw [← MASK_TREE hh]
  exact mask_ok ((h : Int) + 1) (by omega) w
theorem ahead_raw (n c r : Int) (w : World) (e : IntKind.u64.wrap (IntKind.u64.wrap (n * 2) - IntKind.u64.wrap c) = r) (k : ∀ w, Calls Tryd.prog 19 #[.int .u64 n] w fun e w' => e = .returned (.int .i64 c) ∧ w = w') :
    Calls Tryd.prog 17 #[.int .u64 n] w fun e w' => e = .returned (.int .u64 r) ∧ w = w' := by
  go_enter Tryd.func17, Tryd.ntmps17
  go_wp2_with fail
  refine (k _).mono ?_
  rintro e w' ⟨rfl, rfl⟩
  go_wp2
  go_ret
  exact ⟨rfl, rfl⟩
theorem ahead_ok (n : Nat) (hn : n < 2 ^ 63) (w : World) : Calls Tryd.prog 17 #[.int .u64 (n : Int)] w fun e w' => e = .returned (.int .u64 ((NODES n : Nat) : Int)) ∧ w = w' := by
  refine ahead_raw n (POP n : Nat) _ w ?_ (fun w => ones_ok n (by omega) w)
  rw [POP_PC (by omega), wrapU, wrapU, wrapU]
  have := NODES_add n
  have := PC_le n
  omega
theorem nodes_raw (n r : Int) (w : World) (h : decide (4611686018427387904 < n) = false) (c : ∀ w, Calls Tryd.prog 17 #[.int .u64 n] w fun e w' => e = .returned (.int .u64 r) ∧ w = w') :
    Calls Tryd.prog 7 #[.int .u64 n] w fun e w' => e = .returned (.tuple #[.int .u64 r, .bool true]) ∧ w = w' := by
  go_enter Tryd.func7, Tryd.ntmps7
  have h' : ¬ 4611686018427387904 < n := by simpa using h
  go_wp2_with fail
  refine (c _).mono ?_
  rintro e w' ⟨rfl, rfl⟩
  go_wp2
  go_ret2
  exact ⟨rfl, rfl⟩
theorem nodes_ok (n : Nat) (hn : n ≤ 4611686018427387904) (w : World) : Calls Tryd.prog 7 #[.int .u64 (n : Int)] w fun e w' => e = .returned (.tuple #[.int .u64 ((NODES n : Nat) : Int), .bool true]) ∧ w = w' :=
  nodes_raw n _ w (by simp; omega) (fun w => ahead_ok n (by omega) w)
theorem nodes_not (n : Int) (hn : 4611686018427387904 < n) (w : World) : Calls Tryd.prog 7 #[.int .u64 n] w fun e w' => e = .returned (.tuple #[.int .u64 0, .bool false]) ∧ w = w' := by
  go_enter Tryd.func7, Tryd.ntmps7
  go_wp2
  go_ret2
  exact ⟨rfl, rfl⟩
theorem over_right (p h : Int) (w : World) : Calls Tryd.prog 31 #[.int .u64 p, .int .i64 h, .bool true] w fun e w' => e = .returned (.int .u64 (IntKind.u64.wrap (p + 1))) ∧ w = w' := by
  go_enter Tryd.func31, Tryd.ntmps31
  go_wp2
  go_ret
  exact ⟨rfl, rfl⟩
theorem over_left (p h t : Int) (w : World) (c : ∀ w, Calls Tryd.prog 22 #[.int .i64 h] w fun e w' => e = .returned (.int .u64 t) ∧ w = w') :
    Calls Tryd.prog 31 #[.int .u64 p, .int .i64 h, .bool false] w fun e w' => e = .returned (.int .u64 (IntKind.u64.wrap (IntKind.u64.wrap (p + t) + 1))) ∧ w = w' := by
  go_enter Tryd.func31, Tryd.ntmps31
  go_wp2_with fail
  refine (c _).mono ?_
  rintro e w' ⟨rfl, rfl⟩
  go_wp2
  go_ret
  exact ⟨rfl, rfl⟩
theorem beside_right (p h t : Int) (w : World) (c : ∀ w, Calls Tryd.prog 22 #[.int .i64 h] w fun e w' => e = .returned (.int .u64 t) ∧ w = w') :
    Calls Tryd.prog 30 #[.int .u64 p, .int .i64 h, .bool true] w fun e w' => e = .returned (.int .u64 (IntKind.u64.wrap (p - t))) ∧ w = w' := by
  go_enter Tryd.func30, Tryd.ntmps30
  go_wp2_with fail
  refine (c _).mono ?_
  rintro e w' ⟨rfl, rfl⟩
  go_wp2
  go_ret
  exact ⟨rfl, rfl⟩
theorem beside_left (p h t : Int) (w : World) (c : ∀ w, Calls Tryd.prog 22 #[.int .i64 h] w fun e w' => e = .returned (.int .u64 t) ∧ w = w') :
    Calls Tryd.prog 30 #[.int .u64 p, .int .i64 h, .bool false] w fun e w' => e = .returned (.int .u64 (IntKind.u64.wrap (p + t))) ∧ w = w' := by
  go_enter Tryd.func30, Tryd.ntmps30
  go_wp2_with fail
  refine (c _).mono ?_
  rintro e w' ⟨rfl, rfl⟩
  go_wp2
  go_ret
  exact ⟨rfl, rfl⟩
end Go.Proofs.YtddmfpiflnjmjabDoor
