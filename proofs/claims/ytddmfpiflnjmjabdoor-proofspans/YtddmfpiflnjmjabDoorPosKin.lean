/- What Index, Leaves, Parent, Sibling, Kids, Right, Under and Since answer. -/
import Derived.Test.YtddmfpiflnjmjabDoorPosSpot
import Derived.Deep.QuietTactic
import Derived.BigQuiet
import Derived.Deep.RegionHeld3
namespace Go.Proofs.YtddmfpiflnjmjabDoor
open Go.RowKit

/-- Spot answers so at p. -/
def SpotAt (p : Int) (h k : Nat) (ok : Bool) : Prop := ∀ w, Calls Tryd.prog 11 #[.int .u64 p] w fun e w' => e = .returned (.tuple #[SPOT h k, .bool ok]) ∧ Below w.heap.size w w'
theorem SpotAt.node {h k : Nat} (hN : Node h k) : SpotAt ((PLC h k : Nat) : Int) h k true := fun w => spot_ok h k hN w
theorem SpotAt.out {p : Int} (hp : 9223372036854775807 ≤ p) : SpotAt p 0 0 false := fun w => spot_not p hp w

theorem under_raw (p : Int) (h k : Nat) (r s : Int) (w : World) (e0 : IntKind.u64.wrap ((k : Int) + 1) = (k : Int) + 1) (e1 : IntKind.u64.wrap ((k : Int) * 2 ^ min h 64) = r) (e2 : IntKind.u64.wrap (((k : Int) + 1) * 2 ^ min h 64) = s) (cs : SpotAt p h k true) :
    Calls Tryd.prog 8 #[.int .u64 p] w fun e w' => e = .returned (.tuple #[.int .u64 r, .int .u64 s, .bool true]) ∧ Below w.heap.size w w' := by
  have cs := cs w
  go_enter Tryd.func8, Tryd.ntmps8
  go_wp2_with fail
  refine cs.mono ?_
  rintro e w1 ⟨rfl, hb⟩
  clear cs
  have R : Aside (Below w.heap.size w w1) := hb
  clear hb
  go_wp2
  have hc0 : (w1.alloc (.cells #[.int .u8 (h : Int), .int .u64 (k : Int)] 36)).cell? ⟨w1.heap.size, 0, none⟩ = some (.int .u8 (h : Int)) := by simp
  have hc1 : (w1.alloc (.cells #[.int .u8 (h : Int), .int .u64 (k : Int)] 36)).cell? ⟨w1.heap.size, 1, none⟩ = some (.int .u64 (k : Int)) := by simp
  have R2 : Aside (Below w.heap.size w (w1.alloc (.cells #[.int .u8 (h : Int), .int .u64 (k : Int)] 36))) := R.out.alloc R.out.size _
  clear R
  generalize w1.alloc (.cells #[.int .u8 (h : Int), .int .u64 (k : Int)] 36) = W at *
  generalize w1.heap.size = b at *
  go_quiet (fail)
  go_wp2
  go_ret3
  exact ⟨rfl, below_drewN R2.out nq⟩
theorem under_not (p : Int) (h k : Nat) (w : World) (cs : SpotAt p h k false) : Calls Tryd.prog 8 #[.int .u64 p] w fun e w' => e = .returned (.tuple #[.int .u64 0, .int .u64 0, .bool false]) ∧ Below w.heap.size w w' := by
  have cs := cs w
  go_enter Tryd.func8, Tryd.ntmps8
  go_wp2_with fail
  refine cs.mono ?_
  rintro e w1 ⟨rfl, hb⟩
  clear cs
  have R : Aside (Below w.heap.size w w1) := hb
  clear hb
  go_wp2
  go_ret3
  exact ⟨rfl, R.out.alloc R.out.size _⟩
end Go.Proofs.YtddmfpiflnjmjabDoor
