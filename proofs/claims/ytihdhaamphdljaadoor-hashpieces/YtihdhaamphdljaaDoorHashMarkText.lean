/- The mark behind a row. -/
import Derived.Test.YtihdhaamphdljaaDoorHashGiven
namespace Go.Proofs.YtihdhaamphdljaaDoor
open Go.RowKit
set_option maxRecDepth 100000

theorem mark_text (g n c' B : Nat) (l : List Nat) (hl : l.length = n) (hn : n < 2 ^ 40) (hc : n + 1 ≤ c') (w : World) (hr : w.ownsRow B 5 1 (.slice (some ⟨g, 0, none⟩) (n + 1) c') (n + 1) (BY (l ++ [171]))) : Calls Tryd.prog 9 #[.slice (some ⟨g, 0, none⟩) n c'] w fun e w' => e = .returned (.bool true) ∧ w = w' := by
  have x0 : w.cell? ⟨g, n, none⟩ = some (.int .u8 171) := by
    rw [hr.cellAt n (by omega), BY_get _ _ (by rw [List.length_append]; simp; omega), List.getD_eq_getElem?_getD, List.getElem?_append_right (by omega), hl]
    simp
  have e1 : wrap64 ((n : Int) + 1) = ((n + 1 : Nat) : Int) := by unfold wrap64; omega
  have hsl := slice_front (some ⟨g, 0, none⟩) n c' (n + 1) hc
  have h1 : (n : Int) < ((n + 1 : Nat) : Int) := by omega
  obtain ⟨m, hm⟩ : ∃ m, n + 1 = m := ⟨_, rfl⟩
  rw [hm] at e1 hsl h1
  clear hm hc hn hr hl
  go_enter Tryd.func9, Tryd.ntmps9
  go_wp2
  go_ret
  exact ⟨rfl, rfl⟩
theorem row_text {w : World} {B g n c' : Nat} {l : List Nat} (hl : l.length = n) (hs : Small8 l) (hr : w.ownsRow B 5 1 (.slice (some ⟨g, 0, none⟩) (n + 1) c') (n + 1) (BY (l ++ [171]))) : Text w (some ⟨g, 0, none⟩) n l ∧ n + 1 ≤ c' ∧ g < w.heap.size := by
  refine ⟨⟨hl, fun _ => ⟨g, 0, rfl, (hr.lt g rfl).2, fun i hi => ?_⟩, hs⟩, ?_, (hr.lt g rfl).2⟩
  · rw [Nat.zero_add, hr.cellAt i (by omega), BY_get _ _ (by rw [List.length_append]; simp; omega), List.getD_eq_getElem?_getD, List.getElem?_append_left (by omega), ← List.getD_eq_getElem?_getD]
  · rcases hr.2 with ⟨h, _⟩ | ⟨g2, cap, cur, h, _, _, h2, _⟩
    · cases h
    · cases h; exact h2
end Go.Proofs.YtihdhaamphdljaaDoor
