/- Arrays of small numbers by a function; blocks of one's own in a world that is a variable. -/
import Derived.Test.YtkmcmngdainofaaProg
import Derived.Test.YtkmcmngdainofaaHashWordCalls
import Derived.WalkKit
import Derived.WalkLawsBesides
import Derived.Deep.WholeRow
import Derived.Deep.LoopGhost
import Derived.Laws.ResultCell
import Derived.Laws.Rows
import Derived.Laws.Tables
namespace Go.Proofs.Ytkmcmngdainofaa
open Go.RowKit

/-- n cells, each a number of the kind k. -/
def UARR (k : IntKind) (n : Nat) (f : Nat → Nat) : Array Value := ((List.range n).map fun i => Value.int k ((f i : Nat) : Int)).toArray
theorem UARR_size (k : IntKind) (n : Nat) (f : Nat → Nat) : (UARR k n f).size = n := by simp [UARR]
theorem UARR_get (k : IntKind) (n : Nat) (f : Nat → Nat) (i : Nat) (h : i < n) : (UARR k n f)[i]? = some (.int k ((f i : Nat) : Int)) := by simp [UARR, h]
theorem UARR_ext {k : IntKind} {n : Nat} {f g : Nat → Nat} (h : ∀ i, i < n → f i = g i) : UARR k n f = UARR k n g := by
  unfold UARR
  congr 1
  apply List.map_congr_left
  intro i hi
  rw [h i (by simpa using hi)]
theorem UARR_set (k : IntKind) (n : Nat) (f : Nat → Nat) (i : Nat) (v : Nat) : (UARR k n f).setIfInBounds i (.int k (v : Int)) = UARR k n fun j => if j = i then v else f j := by
  apply Array.ext_getElem?
  intro j
  by_cases hj : j < n
  · rw [UARR_get _ _ _ j hj, Array.getElem?_setIfInBounds]
    by_cases h : i = j
    · subst h
      simp [UARR_size, hj]
    · have h' : ¬ j = i := fun e => h e.symm
      simp [h, h', UARR_get _ _ _ j hj]
  · rw [Array.getElem?_eq_none (by simp [UARR_size]; omega), Array.getElem?_eq_none (by simp [UARR_size]; omega)]
theorem UARR_one (k : IntKind) (n : Nat) (f : Nat → Nat) : (UARR k n f).all (·.oneCell') = true := by
  apply Array.all_eq_true_iff_forall_mem.2
  intro v hv
  simp [UARR] at hv
  obtain ⟨i, _, rfl⟩ := hv
  rfl
theorem info_hash : (Try.prog.info? 33).map (·.size) = some 32 := by kernel_rfl
theorem info_HASH (f : Nat → Nat) : (Try.prog.info? 33).map (·.size) = some (UARR .u8 32 f).size := by rw [UARR_size]; exact info_hash
/-- the block g holds the cells c. -/
def Has (w : World) (g : Nat) (c : Array Value) (t : TypeId) : Prop := w.heap[g]? = some (.cells c t)
theorem Has.cell {w : World} {g : Nat} {c : Array Value} {t : TypeId} (h : Has w g c t) (i : Nat) : w.cell? ⟨g, i, none⟩ = c[i]? := cell_of_row w g i c t _ h
theorem Has.lt {w : World} {g : Nat} {c : Array Value} {t : TypeId} (h : Has w g c t) : g < w.heap.size := (Array.getElem?_eq_some_iff.1 h).1
theorem Has.frozen {w : World} {g : Nat} {c : Array Value} {t : TypeId} (h : Has w g c t) (i : Nat) : w.frozen? ⟨g, i, none⟩ = false := by
  have e : w.heap[g]? = some (.cells c t) := h
  simp [World.frozen?, e]
theorem Has.set {w : World} {g : Nat} {c : Array Value} {t : TypeId} (h : Has w g c t) (i : Nat) (v : Value) : Has (w.setCell ⟨g, i, none⟩ v) g (c.setIfInBounds i v) t := by
  have e : w.heap[g]? = some (.cells c t) := h
  unfold Has
  rw [setCell_eq_setRow w g i c t _ v e, setRow_heap w g c _ t _ e]
theorem Has.other {w : World} {g : Nat} {c : Array Value} {t : TypeId} (h : Has w g c t) {a : Addr} (ha : g ≠ a.block) (v : Value) : Has (w.setCell a v) g c t := by
  have e : w.heap[g]? = some (.cells c t) := h
  unfold Has
  rw [Below.heap_setCell w a v g ha, e]
theorem Has.below {B : Nat} {w w' : World} {g : Nat} {c : Array Value} {t : TypeId} (h : Has w g c t) (hb : Below B w w') (hg : g < B) : Has w' g c t := (hb.block g hg).trans h
theorem Has.keep {w w' : World} {g : Nat} {c : Array Value} {t : TypeId} (h : Has w g c t) (hb : Below w.heap.size w w') : Has w' g c t := h.below hb h.lt
theorem Has.alloc {w : World} {g : Nat} {c : Array Value} {t : TypeId} (h : Has w g c t) (o : Obj) : Has (w.alloc o) g c t := by
  have e : w.heap[g]? = some (.cells c t) := h
  unfold Has
  rw [Below.heap_alloc w o g h.lt, e]
theorem Has.new (w : World) (c : Array Value) (t : TypeId) : Has (w.alloc (.cells c t)) w.heap.size c t := heap_alloc_new w _
theorem Has.at (w : World) (c : Array Value) (t : TypeId) {g : Nat} (hg : g = w.heap.size) : Has (w.alloc (.cells c t)) g c t := by subst hg; exact Has.new w c t
theorem Has.row {w : World} {g : Nat} {c : Array Value} {t : TypeId} (h : Has w g c t) (c' : Array Value) : Has (w.setRow g c') g c' t := setRow_heap w g c c' t _ h
theorem Has.row_other {w : World} {g k : Nat} {c : Array Value} {t : TypeId} (h : Has w g c t) (hk : g ≠ k) (c' : Array Value) : Has (w.setRow k c') g c t := by
  have e : w.heap[g]? = some (.cells c t) := h
  unfold Has
  rw [setRow_other w k g c' hk, e]
theorem Has.drewN {w : World} {g : Nat} {c : Array Value} {t : TypeId} (h : Has w g c t) (n : Nat) : Has (w.drewN n) g c t := h
theorem set_off {w : World} {b i j : Nat} (h : i ≠ j) (v : Value) : (w.setCell ⟨b, i, none⟩ v).cell? ⟨b, j, none⟩ = w.cell? ⟨b, j, none⟩ := World.cell?_setCell_other w _ _ v (fun e => h (congrArg Addr.off e))
theorem below_row {B g : Nat} {w0 w : World} (hb : Below B w0 w) (hBg : B ≤ g) (cs : Array Value) : Below B w0 (w.setRow g cs) :=
  ⟨hb.os, hb.tape, hb.output, by have := hb.size; simpa [World.setRow] using this, fun k hk => by rw [setRow_other w g k cs (by omega)]; exact hb.block k hk⟩

/-- what stands in an array from a place on, as a slice. -/
theorem slice_hash (b i : Nat) (h : i < 32) (l : Int) (hl : l = (i : Int)) (w : World) : (Instr.sliceAt 33 (.pointer (some ⟨b, 0, none⟩)) (some (.int .i64 l)) none none).run Try.prog w = .ok (.slice (some ⟨b, i, none⟩) (32 - i) (32 - i)) w := by
  subst hl
  have hn : Try.prog.arrayLen 33 = 32 := by kernel_rfl
  rw [run_sliceAt_array_l w 33 ⟨b, 0, none⟩ (by kernel_rfl) .i64 (i : Int) (by omega) (by rw [hn]; omega), hn]
  have he : Try.prog.elem 33 = 5 := by kernel_rfl
  obtain ⟨i8, hi, h8⟩ := Option.map_eq_some_iff.1 info_u8
  simp only [Prod.mk.injEq] at h8
  rw [he]
  simp [sizeOf, typeInfo, hi, h8.2.1, slicedAt]
  rw [if_neg (by omega)]
  simp [Addr.add]
  omega
/-- an array that is filled from 0 on. -/
theorem ufill {k : IntKind} {n i : Nat} {F f : Nat → Nat} (hf : ∀ j, f j = if j < i then F j else 0) (v : Nat) (hv : v = F i) : (UARR k n f).setIfInBounds i (.int k (v : Int)) = UARR k n fun j => if j < i + 1 then F j else 0 := by
  rw [UARR_set]
  apply UARR_ext
  intro j _
  by_cases e : j = i
  · subst e
    simp [hv]
  · rw [if_neg e, hf j]
    by_cases e2 : j < i
    · rw [if_pos e2, if_pos (by omega)]
    · rw [if_neg e2, if_neg (by omega)]
end Go.Proofs.Ytkmcmngdainofaa
