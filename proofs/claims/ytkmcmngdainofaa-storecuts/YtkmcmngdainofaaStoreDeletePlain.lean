/- A row of one's own, of which one element is taken: what slices.Delete leaves. -/
import Derived.Deep.RegionLaw
import Derived.Test.YtkmcmngdainofaaStorePin
namespace Go.Proofs.Ytkmcmngdainofaa
open Go.RowKit Go.Maps
set_option maxRecDepth 100000

/-- cells written over. -/
theorem cells_over {g : Nat} {t : TypeId} {fr : Nat × Nat} : ∀ (vs : List Value) (o : Nat) (w : World) (cur : Array Value), w.heap[g]? = some (.cells cur t fr) → ∃ cur', (w.setCells g o vs).heap[g]? = some (.cells cur' t fr) ∧ cur'.size = cur.size ∧ ∀ j, j < cur.size → cur'[j]? = if o ≤ j ∧ j < o + vs.length then vs[j - o]? else cur[j]?
  | [], o, w, cur, h => ⟨cur, h, rfl, fun j _ => by rw [if_neg (by simp)]⟩
  | v :: vs, o, w, cur, h => by
    have h1 : (w.setCell ⟨g, o, none⟩ v).heap[g]? = some (.cells (cur.setIfInBounds o v) t fr) := by simp [World.setCell, Array.getElem?_modify, h]
    obtain ⟨cur', a, b, c⟩ := cells_over vs (o + 1) _ _ h1
    refine ⟨cur', a, by rw [b]; simp, fun j hj => ?_⟩
    rw [c j (by simpa using hj)]
    by_cases e1 : o = j
    · subst e1
      rw [if_neg (by omega), if_pos (by simp), Nat.sub_self, Array.getElem?_setIfInBounds_self_of_lt hj]
      rfl
    · rw [Array.getElem?_setIfInBounds_ne e1]
      by_cases e2 : o + 1 ≤ j ∧ j < o + 1 + vs.length
      · rw [if_pos e2, if_pos (by simp; omega), show j - o = (j - (o + 1)) + 1 by omega, List.getElem?_cons_succ]
      · rw [if_neg e2, if_neg (by simp; omega)]
/-- the cells behind a Delete of the s cells from a on. -/
theorem del_list {cur cur1 cur2 : Array Value} {xs zs : List Value} {a s c : Nat} (hx : cur.toList.take (c + s) = xs) (hac : a ≤ c) (hsz : c + s ≤ cur.size) (z1 : cur1.size = cur.size) (z2 : cur2.size = cur1.size)
    (h1 : ∀ j, j < cur.size → cur1[j]? = if a ≤ j ∧ j < a + (xs.drop (a + s)).length then (xs.drop (a + s))[j - a]? else cur[j]?) (h2 : ∀ j, j < cur1.size → cur2[j]? = if c ≤ j ∧ j < c + zs.length then zs[j - c]? else cur1[j]?) : cur2.toList.take c = xs.take a ++ xs.drop (a + s) := by
  have hl : xs.length = c + s := by rw [← hx]; simp; omega
  have hd : (xs.drop (a + s)).length = c - a := by simp; omega
  have hxj : ∀ j, j < c + s → xs[j]? = cur[j]? := fun j hj => by rw [← hx, List.getElem?_take, if_pos hj, Array.getElem?_toList]
  apply List.ext_getElem?
  intro j
  by_cases hj : j < c
  · rw [List.getElem?_take, if_pos hj, Array.getElem?_toList, h2 j (by omega), if_neg (by omega), h1 j (by omega), hd]
    by_cases e : j < a
    · rw [if_neg (by omega), List.getElem?_append_left (by simp; omega), List.getElem?_take, if_pos e, hxj j (by omega)]
    · rw [if_pos (by omega), List.getElem?_append_right (by simp; omega)]
      congr 1
      simp
      omega
  · rw [List.getElem?_eq_none (by simp; omega), List.getElem?_eq_none (by simp; omega)]
/-- the row behind slices.Delete of its i-th element: the row is as it was without it. -/
theorem own_deleted {w : World} {B g n cap i s c : Nat} {t : TypeId} {xs zs : List Value} (h : w.ownsRow B t s (.slice (some ⟨g, 0, none⟩) n cap) n xs) (hi : i < n) (hc : (n - 1) * s = c) :
    ((w.setCells g (i * s) (xs.drop (i * s + s))).setCells g c zs).ownsRow B t s (.slice (some ⟨g, 0, none⟩) (n - 1) cap) (n - 1) (xs.take (i * s) ++ xs.drop (i * s + s)) := by
  obtain ⟨hl, h | ⟨g', cap', cur, e, hB, hg, hn, hm, hz, hx⟩⟩ := h
  · obtain ⟨h, _⟩ := h; cases h
  · cases e
    have hcs : n * s = c + s := by rw [← hc, ← Nat.succ_mul]; congr 1; omega
    have hac : i * s ≤ c := by rw [← hc]; exact Nat.mul_le_mul_right _ (by omega)
    have hcap : c + s ≤ cap * s := by rw [← hcs]; exact Nat.mul_le_mul_right _ hn
    obtain ⟨cur1, a1, a2, a3⟩ := cells_over (xs.drop (i * s + s)) (i * s) w cur hg
    obtain ⟨cur2, b1, b2, b3⟩ := cells_over zs c _ cur1 a1
    have hD := del_list (zs := zs) (by rw [← hcs]; exact hx) hac (by rw [hz]; exact hcap) a2 b2 a3 b3
    refine ⟨?_, .inr ⟨g, cap, cur2, rfl, hB, b1, by omega, hm, by rw [b2, a2, hz], ?_⟩⟩
    · rw [hc]
      simp
      omega
    · rw [hc]
      exact hD
theorem own_cell {w : World} {B g n cap s : Nat} {t : TypeId} {xs : List Value} (h : w.ownsRow B t s (.slice (some ⟨g, 0, none⟩) n cap) n xs) : (∀ j, j < cap * s → (w.cell? ⟨g, j, none⟩).isSome = true ∧ w.frozen? ⟨g, j, none⟩ = false) ∧ (∀ j u, xs[j]? = some u → w.cell? ⟨g, j, none⟩ = some u) ∧ n ≤ cap ∧ cap ≤ maxLen ∧ g < w.heap.size ∧ B ≤ g := by
  obtain ⟨hl, h | ⟨g', cap', cur, e, hB, hg, hn, hm, hz, hx⟩⟩ := h
  · obtain ⟨h, _⟩ := h; cases h
  · cases e
    have hc : ∀ j, w.cell? ⟨g, j, none⟩ = cur[j]? := fun j => cell_of_row w g j cur t _ hg
    refine ⟨fun j hj => ⟨by rw [hc, Array.getElem?_eq_getElem (by omega)]; rfl, by simp [World.frozen?, hg]⟩, fun j u hu => ?_, hn, hm, (Array.getElem?_eq_some_iff.1 hg).1, hB⟩
    rw [hc, ← hu, ← hx, List.getElem?_take, Array.getElem?_toList]
    have : j < n * s := by
      have := (List.getElem?_eq_some_iff.1 hu).1
      omega
    rw [if_pos this]
theorem cells_heap (g : Nat) : ∀ (vs : List Value) (o : Nat) (w : World) (x : Nat), x ≠ g → (w.setCells g o vs).heap[x]? = w.heap[x]?
  | [], _, _, _, _ => rfl
  | v :: vs, o, w, x, h => (cells_heap g vs (o + 1) _ x h).trans (Below.heap_setCell _ _ _ x (by exact h))
/-- clear of one element of some cells. -/
theorem clear_one {P : Program} (w : World) (t e ty : TypeId) (z : Value) (zs : List Value) (ht : P.underlying t = some (.slice e)) (hv : ∀ w, (zeroValue e).run P w = .ok z w) (hz : (Builtin.zeroCells z.cells 1).toList = zs) (h1 : ∀ v ∈ zs, v.oneCell' = true) (b o c : Nat)
    (hc : ∀ j, j < zs.length → (w.cell? ⟨b, o + j, none⟩).isSome = true) (hf : ∀ j, j < zs.length → w.frozen? ⟨b, o + j, none⟩ = false) :
    (Builtin.clear_ #[t] ty #[.slice (some ⟨b, o, none⟩) 1 c]).run P w = .ok (.tuple #[]) (w.setCells b o zs) := by
  have hst := run_storeCells_cells (P := P) b o zs 0 w (by simpa using hc) (by simpa using hf) h1
  simp only [Nat.add_zero] at hst
  simp [Builtin.clear_, run_underlying ht, hv, hz, hst]
end Go.Proofs.Ytkmcmngdainofaa
