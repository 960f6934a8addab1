/- What text of package hash answers. -/
import Derived.Test.YtihdhaamphdljaaDoorHashRow
namespace Go.Proofs.YtihdhaamphdljaaDoor
open Go.RowKit
set_option maxRecDepth 100000

theorem make_room (q : Nat) (hq : q ≤ 1000000) (w : World) : (Instr.makeSlice 23 (.int .i64 0) (.int .i64 (q : Int))).run Tryd.prog w = .ok (.slice (some ⟨w.heap.size, 0, none⟩) 0 q) (w.alloc (.cells (BARR q fun _ => 0) 5)) := by
  obtain ⟨i8, hi, h8⟩ := Option.map_eq_some_iff.1 info_u8
  simp only [Prod.mk.injEq] at h8
  have h := run_make (P := Tryd.prog) w 23 5 i8 (.int .u8 0) Tryd.underlying23 hi h8.1 .i64 .i64 0 (q : Int) (by omega) (by omega) (by rw [h8.2.2]; omega) (by omega)
  rw [h8.2.1] at h
  have e : madeCells (Value.int .u8 0).cells (((q : Int).toNat) * 1) = BARR q fun _ => 0 := by
    rw [Int.toNat_natCast, Nat.mul_one]
    exact BARR_made q
  rw [e] at h
  exact h
theorem owns_room (w : World) (q : Nat) (hq : q ≤ 1000000) : (w.alloc (.cells (BARR q fun _ => 0) 5)).ownsRow w.heap.size 5 1 (.slice (some ⟨w.heap.size, 0, none⟩) 0 q) 0 (CELLS (INTS [])) :=
  ⟨by simp [CELLS, INTS], Or.inr ⟨w.heap.size, q, BARR q fun _ => 0, rfl, Nat.le_refl _, Has.new w _ _, Nat.zero_le _, by simp only [maxLen]; omega, by rw [BARR_size]; omega, by simp [CELLS, INTS]⟩⟩
theorem Parts.at {w : World} {a : Option Addr} {k : Nat} {ps : List PART} (h : Parts w a k ps) {i : Nat} (hi : i < k) : ∃ b off p, a = some ⟨b, off, none⟩ ∧ b < w.heap.size ∧ ps[i]? = some p ∧ w.cell? ⟨b, off + i, none⟩ = some (.slice p.a p.n p.c) ∧ Text w p.a p.n p.l ∧ ps.take (i + 1) = ps.take i ++ [p] ∧ p ∈ ps := by
  obtain ⟨b, off, e, hl, hc⟩ := h.2.1 (by omega)
  have hp : ps[i]? = some (ps[i]'(by have := h.1; omega)) := List.getElem?_eq_getElem _
  exact ⟨b, off, _, e, hl, hp, hc i _ hp, (h.2.2 _ (List.mem_of_getElem? hp)).1, by rw [List.take_add_one, hp, Option.toList_some], List.mem_of_getElem? hp⟩

end Go.Proofs.YtihdhaamphdljaaDoor
