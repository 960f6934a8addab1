/- What Compress of package hash answers: one step of the hash. -/
import Derived.Test.YtkmcmngdainofaaHashSchedule
import Derived.Test.YtkmcmngdainofaaHashJoined
namespace Go.Proofs.Ytkmcmngdainofaa
open Go.RowKit

def BEGIN : List Nat := [1779033703, 3144134277, 1013904242, 2773480762, 1359893119, 2600822924, 528734635, 1541459225]
/-- the two tables of package hash lie there. -/
def Tabled (w : World) : Prop := (∀ i, i < 64 → w.cell? ⟨0, i, none⟩ = some (.int .u32 (KC i : Nat))) ∧ (∀ i, i < 8 → w.cell? ⟨0, i, none⟩ = some (.int .u32 (BEGIN.getD i 0 : Nat))) ∧ 0 < w.heap.size
theorem Tabled.below {w w' : World} (h : Tabled w) (hb : Below w.heap.size w w') : Tabled w' :=
  ⟨fun i hi => (hb.cell (by show 0 < w.heap.size; have := h.2.2; omega)).trans (h.1 i hi), fun i hi => (hb.cell (by show 0 < w.heap.size; have := h.2.2; omega)).trans (h.2.1 i hi), Nat.lt_of_lt_of_le h.2.2 hb.size⟩
/-- sums of words, as the machine makes them. -/
theorem sum_T1 (h m c k x : Nat) : IntKind.u32.wrap (IntKind.u32.wrap (IntKind.u32.wrap (IntKind.u32.wrap ((h : Int) + (m : Int)) + (c : Int)) + (k : Int)) + (x : Int)) = (((h + m + c + k + x) % 4294967296 : Nat) : Int) := by
  rw [wrap32U, wrap32U, wrap32U, wrap32U]
  omega
theorem sum_two (a b : Nat) : IntKind.u32.wrap ((a : Int) + (b : Int)) = (((a + b) % 4294967296 : Nat) : Int) := by
  rw [wrap32U]
  omega
end Go.Proofs.Ytkmcmngdainofaa
