/- Arrays of 64 ints: their cells by a function; whole rows in the written-out worlds. -/
import Derived.Test.YtlklnljgmkagoaaDoorProg
import Derived.Test.YtlklnljgmkagoaaDoorNumTurnPlain
import Derived.WalkKit
import Derived.WalkLawsBesides
import Derived.Deep.WholeRow
import Derived.Deep.LoopGhost
import Derived.Laws.ResultCell
namespace Go.Proofs.YtlklnljgmkagoaaDoor
open Go.RowKit

/-- 64 cells, each an int. -/
def ARR (f : Nat → Int) : Array Value := ((List.range 64).map fun i => Value.int .i64 (f i)).toArray
theorem ARR_size (f : Nat → Int) : (ARR f).size = 64 := by simp [ARR]
theorem ARR_get (f : Nat → Int) (i : Nat) (h : i < 64) : (ARR f)[i]? = some (.int .i64 (f i)) := by simp [ARR, h]
theorem ARR_ext {f g : Nat → Int} (h : ∀ i, i < 64 → f i = g i) : ARR f = ARR g := by
  unfold ARR
  congr 1
  apply List.map_congr_left
  intro i hi
  rw [h i (by simpa using hi)]
theorem ARR_set (f : Nat → Int) (i : Nat) (v : Int) : (ARR f).setIfInBounds i (.int .i64 v) = ARR fun j => if j = i then v else f j := by
  apply Array.ext_getElem?
  intro j
  by_cases hj : j < 64
  · rw [ARR_get _ j hj, Array.getElem?_setIfInBounds]
    by_cases h : i = j
    · subst h
      simp [ARR_size, hj]
    · have h' : ¬ j = i := fun e => h e.symm
      simp [h, h', ARR_get _ j hj]
  · rw [Array.getElem?_eq_none (by simp [ARR_size]; omega), Array.getElem?_eq_none (by simp [ARR_size]; omega)]
theorem ARR_one (f : Nat → Int) : (ARR f).all (·.oneCell') = true := by
  apply Array.all_eq_true_iff_forall_mem.2
  intro v hv
  simp [ARR] at hv
  obtain ⟨i, _, rfl⟩ := hv
  rfl
theorem ARR_zero : (#[.int .i64 0, .int .i64 0, .int .i64 0, .int .i64 0, .int .i64 0, .int .i64 0, .int .i64 0, .int .i64 0, .int .i64 0, .int .i64 0, .int .i64 0, .int .i64 0, .int .i64 0, .int .i64 0, .int .i64 0, .int .i64 0, .int .i64 0, .int .i64 0, .int .i64 0, .int .i64 0, .int .i64 0, .int .i64 0, .int .i64 0, .int .i64 0, .int .i64 0, .int .i64 0, .int .i64 0, .int .i64 0, .int .i64 0, .int .i64 0, .int .i64 0, .int .i64 0, .int .i64 0, .int .i64 0, .int .i64 0, .int .i64 0, .int .i64 0, .int .i64 0, .int .i64 0, .int .i64 0, .int .i64 0, .int .i64 0, .int .i64 0, .int .i64 0, .int .i64 0, .int .i64 0, .int .i64 0, .int .i64 0, .int .i64 0, .int .i64 0, .int .i64 0, .int .i64 0, .int .i64 0, .int .i64 0, .int .i64 0, .int .i64 0, .int .i64 0, .int .i64 0, .int .i64 0, .int .i64 0, .int .i64 0, .int .i64 0, .int .i64 0, .int .i64 0] : Array Value) = ARR fun _ => 0 := rfl
theorem info_arr : (Tryd.prog.info? 29).map (·.size) = some 64 := by kernel_rfl
theorem info_ARR (f : Nat → Int) : (Tryd.prog.info? 29).map (·.size) = some (ARR f).size := by rw [ARR_size]; exact info_arr

theorem setRow_past (w : World) (o : Obj) (n : Nat) (c : Array Value) (h : n < w.heap.size) : (w.alloc o).setRow n c = (w.setRow n c).alloc o := by
  simp only [World.setRow, World.alloc]
  congr 1
  apply Array.ext_getElem?
  intro i
  rw [Array.getElem?_modify, Array.getElem?_push, Array.getElem?_push, Array.size_modify, Array.getElem?_modify]
  by_cases h1 : i = w.heap.size
  · subst h1
    have : ¬ n = w.heap.size := by omega
    simp [this]
  · simp [h1]
theorem setRow_two (w : World) (c c' : Array Value) (t : TypeId) (o : Obj) : ((w.alloc (.cells c t)).alloc o).setRow w.heap.size c' = (w.alloc (.cells c' t)).alloc o := by
  rw [setRow_past _ _ _ _ (by simp), World.setRow_alloc_new]
theorem heap_one (w : World) (o : Obj) : (w.alloc o).heap[w.heap.size]? = some o := heap_alloc_new w o
theorem heap_two (w : World) (o o' : Obj) : ((w.alloc o).alloc o').heap[w.heap.size]? = some o := heap_alloc2_old w o o'
theorem heap_two' (w : World) (o o' : Obj) : ((w.alloc o).alloc o').heap[w.heap.size + 1]? = some o' := heap_alloc2_new w o o'
/-- new blocks at most, none of them frozen; what was there stands. -/
def Fine (w w' : World) : Prop := Grown w w' ∧ Below w.heap.size w w'
theorem Fine.refl (w : World) : Fine w w := ⟨Grown.refl _, Below.refl _ _⟩
theorem Fine.alloc {w w' : World} (h : Fine w w') (c : Array Value) (t : TypeId) : Fine w (w'.alloc (.cells c t)) := ⟨h.1.alloc c t, h.2.alloc h.2.size _⟩
theorem Fine.trans {a b c : World} (h : Fine a b) (k : Fine b c) : Fine a c :=
  ⟨⟨World.keptBut_trans h.1.1 k.1.1, fun x => (k.1.2.1 x).trans (h.1.2.1 x), Nat.le_trans h.1.2.2 k.1.2.2⟩, h.2.trans (k.2.mono h.2.size)⟩
end Go.Proofs.YtlklnljgmkagoaaDoor
