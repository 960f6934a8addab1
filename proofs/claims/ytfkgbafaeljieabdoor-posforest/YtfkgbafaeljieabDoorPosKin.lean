/- What Index, Leaves, Parent, Sibling, Kids, Right, Under and Since answer. -/
import Derived.Test.YtfkgbafaeljieabDoorPosSpot
import Derived.Deep.QuietTactic
import Derived.BigQuiet
import Derived.Deep.RegionHeld3
namespace Go.Proofs.YtfkgbafaeljieabDoor
open Go.RowKit

/-- Spot answers so at p. -/
def SpotAt (p : Int) (h k : Nat) (ok : Bool) : Prop := ∀ w, Calls Tryd.prog 9 #[.int .u64 p] w fun e w' => e = .returned (.tuple #[SPOT h k, .bool ok]) ∧ Below w.heap.size w w'
theorem SpotAt.node {h k : Nat} (hN : Node h k) : SpotAt ((PLC h k : Nat) : Int) h k true := fun w => spot_ok h k hN w
theorem SpotAt.out {p : Int} (hp : 9223372036854775807 ≤ p) : SpotAt p 0 0 false := fun w => spot_not p hp w

theorem index_leaf (p : Int) (k : Nat) (w : World) (cs : SpotAt p 0 k true) : Calls Tryd.prog 12 #[.int .u64 p] w fun e w' => e = .returned (.tuple #[.int .u64 (k : Int), .bool true]) ∧ Below w.heap.size w w' := by
  have cs := cs w
  go_enter Tryd.func12, Tryd.ntmps12
  go_wp2_with fail
  refine cs.mono ?_
  rintro e w1 ⟨rfl, hb⟩
  clear cs
  have R : Aside (Below w.heap.size w w1) := hb
  clear hb
  go_wp2
  go_ret2
  exact ⟨rfl, R.out.alloc R.out.size _⟩
theorem index_inner (p : Int) (h k : Nat) (w : World) (hh : 0 < h) (cs : SpotAt p h k true) : Calls Tryd.prog 12 #[.int .u64 p] w fun e w' => e = .returned (.tuple #[.int .u64 0, .bool false]) ∧ Below w.heap.size w w' := by
  have cs := cs w
  have hd : (0 : Int) < (h : Int) := by omega
  go_enter Tryd.func12, Tryd.ntmps12
  go_wp2_with fail
  refine cs.mono ?_
  rintro e w1 ⟨rfl, hb⟩
  clear cs
  have R : Aside (Below w.heap.size w w1) := hb
  clear hb
  go_wp2
  go_ret2
  exact ⟨rfl, R.out.alloc R.out.size _⟩
theorem index_not (p : Int) (h k : Nat) (w : World) (cs : SpotAt p h k false) : Calls Tryd.prog 12 #[.int .u64 p] w fun e w' => e = .returned (.tuple #[.int .u64 0, .bool false]) ∧ Below w.heap.size w w' := by
  have cs := cs w
  go_enter Tryd.func12, Tryd.ntmps12
  go_wp2_with fail
  refine cs.mono ?_
  rintro e w1 ⟨rfl, hb⟩
  clear cs
  have R : Aside (Below w.heap.size w w1) := hb
  clear hb
  go_wp2
  go_ret2
  exact ⟨rfl, R.out.alloc R.out.size _⟩
theorem leaves_all (w : World) : Calls Tryd.prog 8 #[.int .u64 9223372036854775807] w fun e w' => e = .returned (.tuple #[.int .u64 4611686018427387904, .bool true]) ∧ Below w.heap.size w w' := by
  go_enter Tryd.func8, Tryd.ntmps8
  go_wp2
  go_ret2
  exact ⟨rfl, Below.refl _ _⟩
theorem leaves_raw (p i : Int) (ok : Bool) (w : World) (hp : (p == 9223372036854775807) = false) (ci : Calls Tryd.prog 12 #[.int .u64 p] w fun e w' => e = .returned (.tuple #[.int .u64 i, .bool ok]) ∧ Below w.heap.size w w') :
    Calls Tryd.prog 8 #[.int .u64 p] w fun e w' => e = .returned (.tuple #[.int .u64 i, .bool ok]) ∧ Below w.heap.size w w' := by
  go_enter Tryd.func8, Tryd.ntmps8
  go_wp2_with fail
  refine ci.mono ?_
  rintro e w1 ⟨rfl, hb⟩
  clear ci
  have R : Aside (Below w.heap.size w w1) := hb
  clear hb
  go_wp2
  go_ret2
  exact ⟨rfl, R.out⟩
theorem parent_raw (p : Int) (h k : Nat) (b : Bool) (r : Int) (w : World) (hh : ((h : Int) == 62) = false) (hm : wrap64 (h : Int) = (h : Int)) (ha : (bits .and .u64 (k : Int) 1 == 1) = b) (cs : SpotAt p h k true)
    (co : ∀ w, Calls Tryd.prog 28 #[.int .u64 p, .int .i64 (h : Int), .bool b] w fun e w' => e = .returned (.int .u64 r) ∧ w = w') :
    Calls Tryd.prog 14 #[.int .u64 p] w fun e w' => e = .returned (.tuple #[.int .u64 r, .bool true]) ∧ Below w.heap.size w w' := by
  have cs := cs w
  go_enter Tryd.func14, Tryd.ntmps14
  go_wp2_with fail
  refine cs.mono ?_
  rintro e w1 ⟨rfl, hb⟩
  clear cs
  have R : Aside (Below w.heap.size w w1) := hb
  clear hb
  go_wp2_with fail
  refine (co _).mono ?_
  rintro e w2 ⟨rfl, rfl⟩
  clear co
  go_wp2
  go_ret2
  exact ⟨rfl, R.out.alloc R.out.size _⟩
theorem parent_top (p : Int) (k : Nat) (w : World) (cs : SpotAt p 62 k true) : Calls Tryd.prog 14 #[.int .u64 p] w fun e w' => e = .returned (.tuple #[.int .u64 0, .bool false]) ∧ Below w.heap.size w w' := by
  have cs := cs w
  go_enter Tryd.func14, Tryd.ntmps14
  go_wp2_with fail
  refine cs.mono ?_
  rintro e w1 ⟨rfl, hb⟩
  clear cs
  have R : Aside (Below w.heap.size w w1) := hb
  clear hb
  go_wp2
  go_ret2
  exact ⟨rfl, R.out.alloc R.out.size _⟩
theorem parent_not (p : Int) (h k : Nat) (w : World) (cs : SpotAt p h k false) : Calls Tryd.prog 14 #[.int .u64 p] w fun e w' => e = .returned (.tuple #[.int .u64 0, .bool false]) ∧ Below w.heap.size w w' := by
  have cs := cs w
  go_enter Tryd.func14, Tryd.ntmps14
  go_wp2_with fail
  refine cs.mono ?_
  rintro e w1 ⟨rfl, hb⟩
  clear cs
  have R : Aside (Below w.heap.size w w1) := hb
  clear hb
  go_wp2
  go_ret2
  exact ⟨rfl, R.out.alloc R.out.size _⟩
theorem under_raw (p : Int) (h k : Nat) (r s : Int) (w : World) (e0 : IntKind.u64.wrap ((k : Int) + 1) = (k : Int) + 1) (e1 : IntKind.u64.wrap ((k : Int) * 2 ^ min h 64) = r) (e2 : IntKind.u64.wrap (((k : Int) + 1) * 2 ^ min h 64) = s) (cs : SpotAt p h k true) :
    Calls Tryd.prog 17 #[.int .u64 p] w fun e w' => e = .returned (.tuple #[.int .u64 r, .int .u64 s, .bool true]) ∧ Below w.heap.size w w' := by
  have cs := cs w
  go_enter Tryd.func17, Tryd.ntmps17
  go_wp2_with fail
  refine cs.mono ?_
  rintro e w1 ⟨rfl, hb⟩
  clear cs
  have R : Aside (Below w.heap.size w w1) := hb
  clear hb
  go_wp2
  have hc0 : (w1.alloc (.cells #[.int .u8 (h : Int), .int .u64 (k : Int)] 26)).cell? ⟨w1.heap.size, 0, none⟩ = some (.int .u8 (h : Int)) := by simp
  have hc1 : (w1.alloc (.cells #[.int .u8 (h : Int), .int .u64 (k : Int)] 26)).cell? ⟨w1.heap.size, 1, none⟩ = some (.int .u64 (k : Int)) := by simp
  have R2 : Aside (Below w.heap.size w (w1.alloc (.cells #[.int .u8 (h : Int), .int .u64 (k : Int)] 26))) := R.out.alloc R.out.size _
  clear R
  generalize w1.alloc (.cells #[.int .u8 (h : Int), .int .u64 (k : Int)] 26) = W at *
  generalize w1.heap.size = b at *
  go_quiet (fail)
  go_wp2
  go_ret3
  exact ⟨rfl, below_drewN R2.out nq⟩
theorem under_not (p : Int) (h k : Nat) (w : World) (cs : SpotAt p h k false) : Calls Tryd.prog 17 #[.int .u64 p] w fun e w' => e = .returned (.tuple #[.int .u64 0, .int .u64 0, .bool false]) ∧ Below w.heap.size w w' := by
  have cs := cs w
  go_enter Tryd.func17, Tryd.ntmps17
  go_wp2_with fail
  refine cs.mono ?_
  rintro e w1 ⟨rfl, hb⟩
  clear cs
  have R : Aside (Below w.heap.size w w1) := hb
  clear hb
  go_wp2
  go_ret3
  exact ⟨rfl, R.out.alloc R.out.size _⟩
theorem since_raw (p r s : Int) (ok : Bool) (w : World) (cu : ∀ w, Calls Tryd.prog 17 #[.int .u64 p] w fun e w' => e = .returned (.tuple #[.int .u64 r, .int .u64 s, .bool ok]) ∧ Below w.heap.size w w') :
    Calls Tryd.prog 18 #[.int .u64 p] w fun e w' => e = .returned (.tuple #[.int .u64 s, .bool ok]) ∧ Below w.heap.size w w' := by
  have cu := cu w
  go_enter Tryd.func18, Tryd.ntmps18
  go_wp2_with fail
  refine cu.mono ?_
  rintro e w1 ⟨rfl, hb⟩
  clear cu
  have R : Aside (Below w.heap.size w w1) := hb
  clear hb
  go_wp2
  go_ret2
  exact ⟨rfl, R.out⟩
theorem sibling_raw (p : Int) (h k : Nat) (b : Bool) (r : Int) (w : World) (hh : ((h : Int) == 62) = false) (hm : wrap64 (h : Int) = (h : Int)) (ha : (bits .and .u64 (k : Int) 1 == 1) = b) (cs : SpotAt p h k true)
    (co : ∀ w, Calls Tryd.prog 27 #[.int .u64 p, .int .i64 (h : Int), .bool b] w fun e w' => e = .returned (.int .u64 r) ∧ w = w') :
    Calls Tryd.prog 16 #[.int .u64 p] w fun e w' => e = .returned (.tuple #[.int .u64 r, .bool true]) ∧ Below w.heap.size w w' := by
  have cs := cs w
  go_enter Tryd.func16, Tryd.ntmps16
  go_wp2_with fail
  refine cs.mono ?_
  rintro e w1 ⟨rfl, hb⟩
  clear cs
  have R : Aside (Below w.heap.size w w1) := hb
  clear hb
  go_wp2_with fail
  refine (co _).mono ?_
  rintro e w2 ⟨rfl, rfl⟩
  clear co
  go_wp2
  go_ret2
  exact ⟨rfl, R.out.alloc R.out.size _⟩
theorem sibling_top (p : Int) (k : Nat) (w : World) (cs : SpotAt p 62 k true) : Calls Tryd.prog 16 #[.int .u64 p] w fun e w' => e = .returned (.tuple #[.int .u64 0, .bool false]) ∧ Below w.heap.size w w' := by
  have cs := cs w
  go_enter Tryd.func16, Tryd.ntmps16
  go_wp2_with fail
  refine cs.mono ?_
  rintro e w1 ⟨rfl, hb⟩
  clear cs
  have R : Aside (Below w.heap.size w w1) := hb
  clear hb
  go_wp2
  go_ret2
  exact ⟨rfl, R.out.alloc R.out.size _⟩
theorem sibling_not (p : Int) (h k : Nat) (w : World) (cs : SpotAt p h k false) : Calls Tryd.prog 16 #[.int .u64 p] w fun e w' => e = .returned (.tuple #[.int .u64 0, .bool false]) ∧ Below w.heap.size w w' := by
  have cs := cs w
  go_enter Tryd.func16, Tryd.ntmps16
  go_wp2_with fail
  refine cs.mono ?_
  rintro e w1 ⟨rfl, hb⟩
  clear cs
  have R : Aside (Below w.heap.size w w1) := hb
  clear hb
  go_wp2
  go_ret2
  exact ⟨rfl, R.out.alloc R.out.size _⟩
theorem kids_raw (p q : Int) (h g k : Nat) (r : Int) (w : World) (hh : ((h : Int) == 0) = false) (hm : wrap64 (h : Int) = (h : Int)) (hg : wrap64 ((h : Int) - 1) = (g : Int)) (hq : IntKind.u64.wrap (p - 1) = q) (cs : SpotAt p h k true)
    (co : ∀ w, Calls Tryd.prog 27 #[.int .u64 q, .int .i64 (g : Int), .bool true] w fun e w' => e = .returned (.int .u64 r) ∧ w = w') :
    Calls Tryd.prog 13 #[.int .u64 p] w fun e w' => e = .returned (.tuple #[.int .u64 r, .int .u64 q, .bool true]) ∧ Below w.heap.size w w' := by
  have cs := cs w
  go_enter Tryd.func13, Tryd.ntmps13
  go_wp2_with fail
  refine cs.mono ?_
  rintro e w1 ⟨rfl, hb⟩
  clear cs
  have R : Aside (Below w.heap.size w w1) := hb
  clear hb
  go_wp2_with fail
  refine (co _).mono ?_
  rintro e w2 ⟨rfl, rfl⟩
  clear co
  go_wp2
  go_ret3
  exact ⟨rfl, R.out.alloc R.out.size _⟩
theorem kids_leaf (p : Int) (k : Nat) (w : World) (cs : SpotAt p 0 k true) : Calls Tryd.prog 13 #[.int .u64 p] w fun e w' => e = .returned (.tuple #[.int .u64 0, .int .u64 0, .bool false]) ∧ Below w.heap.size w w' := by
  have cs := cs w
  go_enter Tryd.func13, Tryd.ntmps13
  go_wp2_with fail
  refine cs.mono ?_
  rintro e w1 ⟨rfl, hb⟩
  clear cs
  have R : Aside (Below w.heap.size w w1) := hb
  clear hb
  go_wp2
  go_ret3
  exact ⟨rfl, R.out.alloc R.out.size _⟩
theorem kids_not (p : Int) (h k : Nat) (w : World) (cs : SpotAt p h k false) : Calls Tryd.prog 13 #[.int .u64 p] w fun e w' => e = .returned (.tuple #[.int .u64 0, .int .u64 0, .bool false]) ∧ Below w.heap.size w w' := by
  have cs := cs w
  go_enter Tryd.func13, Tryd.ntmps13
  go_wp2_with fail
  refine cs.mono ?_
  rintro e w1 ⟨rfl, hb⟩
  clear cs
  have R : Aside (Below w.heap.size w w1) := hb
  clear hb
  go_wp2
  go_ret3
  exact ⟨rfl, R.out.alloc R.out.size _⟩
theorem right_raw (p : Int) (h k : Nat) (b : Bool) (w : World) (ha : (bits .and .u64 (k : Int) 1 == 1) = b) (cs : SpotAt p h k true) :
    Calls Tryd.prog 11 #[.int .u64 p] w fun e w' => e = .returned (.bool b) ∧ Below w.heap.size w w' := by
  have cs := cs w
  go_enter Tryd.func11, Tryd.ntmps11
  go_wp2_with fail
  refine cs.mono ?_
  rintro e w1 ⟨rfl, hb⟩
  clear cs
  have R : Aside (Below w.heap.size w w1) := hb
  clear hb
  go_wp2
  go_ret
  exact ⟨rfl, R.out.alloc R.out.size _⟩
theorem right_not (p : Int) (h k : Nat) (w : World) (cs : SpotAt p h k false) : Calls Tryd.prog 11 #[.int .u64 p] w fun e w' => e = .returned (.bool false) ∧ Below w.heap.size w w' := by
  have cs := cs w
  go_enter Tryd.func11, Tryd.ntmps11
  go_wp2_with fail
  refine cs.mono ?_
  rintro e w1 ⟨rfl, hb⟩
  clear cs
  have R : Aside (Below w.heap.size w w1) := hb
  clear hb
  go_wp2
  go_ret
  exact ⟨rfl, R.out.alloc R.out.size _⟩
end Go.Proofs.YtfkgbafaeljieabDoor
