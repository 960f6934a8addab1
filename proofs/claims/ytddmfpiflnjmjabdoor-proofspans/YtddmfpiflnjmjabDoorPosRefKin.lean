/- What the document's answers give for a node's kin. -/
import Derived.Test.YtddmfpiflnjmjabDoorPosRefSpot
import Derived.Test.YtddmfpiflnjmjabDoorPosOk
namespace Go.Proofs.YtddmfpiflnjmjabDoor
open Go.RowKit

theorem odd_mod (k : Nat) : ((k : Int) % 2 == 1) = decide (k % 2 = 1) := by
  rw [Bool.eq_iff_iff]
  simp
  omega
end Go.Proofs.YtddmfpiflnjmjabDoor
