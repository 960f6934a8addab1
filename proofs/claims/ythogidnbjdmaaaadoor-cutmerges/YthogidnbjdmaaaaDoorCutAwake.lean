/- What the law's awake answers. -/
import Derived.Test.YthogidnbjdmaaaaDoorCutSpan
import Derived.Test.YthogidnbjdmaaaaDoorCutLists
namespace Go.Proofs.YthogidnbjdmaaaaDoor
open Go.RowKit

theorem SPAN_awake : SPAN 3 8 = [(0, 3), (2, 1)] := by decide +kernel
theorem cutawake_ok (w : World) (hT : Tabled w) (h0 : 0 < w.heap.size) : Calls Tryd.prog 10 #[] w fun e w' => e = .returned (.bool true) ∧ Below w.heap.size w w' := by
  have c := span_ok 3 8 (by decide) (by decide) w hT h0
  rw [SPAN_awake] at c
  go_enter Tryd.func10, Tryd.ntmps10
  go_wp2_with fail
  refine c.mono ?_
  rintro e w1 ⟨v, rfl, hown, hb⟩
  obtain ⟨g, cap, rfl, _, _⟩ := hown.form (by decide)
  have h0 : w1.cell? ⟨g, 0, none⟩ = some (.int .u8 0) := hown.cellAt 0 (by decide)
  have h1 : w1.cell? ⟨g, 1, none⟩ = some (.int .u64 3) := hown.cellAt 1 (by decide)
  have h2 : w1.cell? ⟨g, 2, none⟩ = some (.int .u8 2) := hown.cellAt 2 (by decide)
  have h3 : w1.cell? ⟨g, 3, none⟩ = some (.int .u64 1) := hown.cellAt 3 (by decide)
  clear c hown
  simp only [List.length_cons, List.length_nil] at *
  go_wp2
  go_ret
  exact ⟨rfl, hb⟩
end Go.Proofs.YthogidnbjdmaaaaDoor
