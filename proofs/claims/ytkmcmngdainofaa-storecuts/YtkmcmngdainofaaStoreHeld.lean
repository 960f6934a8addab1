/- A store whose blocks are as they were; two stores that have no block in common. -/
import Derived.Test.YtkmcmngdainofaaStoreTree
namespace Go.Proofs.Ytkmcmngdainofaa
open Go.RowKit
set_option maxRecDepth 100000

/-- all blocks of the store are as they were. -/
theorem STORE.held {w w' : World} {B g log len alive N : Nat} {C : CHUNKS} (hS : STORE w B g log len alive N C) (hg : w'.heap[g]? = w.heap[g]?) (hblk : ∀ x, FOOT w g C x → w'.heap[x]? = w.heap[x]?) : STORE w' B g log len alive N C ∧ (∀ x, FOOT w' g C x → FOOT w g C x) ∧ ∀ i, w'.cell? ⟨g, i, none⟩ = w.cell? ⟨g, i, none⟩ := by
  have cell : ∀ i, w'.cell? ⟨g, i, none⟩ = w.cell? ⟨g, i, none⟩ := fun i => World.cell?_of_block (w := w) (by exact hg)
  have hch : ∀ k gc rk, C k = some (gc, rk) → w'.heap[gc]? = w.heap[gc]? ∧ (∀ v x, w.cell? ⟨gc, 0, none⟩ = some v → v.ownBlock = some x → w'.heap[x]? = w.heap[x]?) ∧ ∀ r ∈ rk, w'.heap[r.gh]? = w.heap[r.gh]? := fun k gc rk e =>
    ⟨hblk _ (.inr ⟨k, gc, rk, e, .inl rfl⟩), fun v x hv hx => hblk _ (.inr ⟨k, gc, rk, e, .inr (.inl ⟨v, hv, hx⟩)⟩), fun r hr => hblk _ (.inr ⟨k, gc, rk, e, .inr (.inr ⟨r, hr, rfl⟩)⟩)⟩
  have hcc : ∀ k gc rk, C k = some (gc, rk) → w'.cell? ⟨gc, 0, none⟩ = w.cell? ⟨gc, 0, none⟩ := fun k gc rk e => World.cell?_of_block (w := w) (by exact (hch k gc rk e).1)
  refine ⟨⟨hS.small, hS.short, (cell 0).trans hS.c0, (cell 1).trans hS.c1, (cell 2).trans hS.c2, fun i hi => ?_, ?_, ?_, ?_, ?_⟩, fun x h => ?_, cell⟩
  · have := hS.live i hi
    unfold World.frozen? at this ⊢
    rw [show w'.heap[g]? = w.heap[g]? from hg]
    exact this
  · obtain ⟨cs, t, fr, k1, k2⟩ := hS.kind
    exact ⟨cs, t, fr, hg.trans k1, k2⟩
  · obtain ⟨mv, m1, m2, m3⟩ := hS.map
    refine ⟨mv, (cell 3).trans m1, m2, fun x e => ?_⟩
    obtain ⟨c1, n, c2, c3⟩ := m3 x e
    refine ⟨c1, n, c2, c3.at (hblk x (.inl (by rw [m1, e])))⟩
  · intro k gc rk e
    obtain ⟨b1, b2, b3⟩ := hS.chunk k gc rk e
    obtain ⟨d1, d2, d3⟩ := hch k gc rk e
    exact ⟨b1, b2.at d1 d2 d3, b3⟩
  · intro k k' gc gc' rs rs' hne e e'
    obtain ⟨o1, o2, o3⟩ := hS.one k k' gc gc' rs rs' hne e e'
    exact ⟨o1, o2, fun v v' hv hv' => o3 v v' (by rw [← hcc k gc rs e]; exact hv) (by rw [← hcc k' gc' rs' e']; exact hv')⟩
  · rcases h with h | ⟨k, gc, rs, e, h⟩
    · left; rw [← cell 3]; exact h
    · refine .inr ⟨k, gc, rs, e, ?_⟩
      rcases h with h | ⟨v, hv, h⟩ | h
      · exact .inl h
      · exact .inr (.inl ⟨v, by rw [← hcc k gc rs e]; exact hv, h⟩)
      · exact .inr (.inr h)
/-- two stores without a common block. -/
def APART (w : World) (g : Nat) (C : CHUNKS) (g' : Nat) (C' : CHUNKS) : Prop := ∀ x, (x = g ∨ FOOT w g C x) → (x = g' ∨ FOOT w g' C' x) → False
theorem APART.symm {w : World} {g g' : Nat} {C C' : CHUNKS} (h : APART w g C g' C') : APART w g' C' g C := fun x a b => h x b a
/-- something is done to the one: the other is as it was. -/
theorem STORE.beside {w w' : World} {B' g g' log' len' alive' N' : Nat} {C C' D : CHUNKS} (h' : STORE w B' g' log' len' alive' N' C') (ha : APART w g C g' C') (hst : STEP w w' g C D) : STORE w' B' g' log' len' alive' N' C' ∧ APART w' g D g' C' := by
  have hg' : g' < w.heap.size := h'.lt
  have one : ∀ x, x < w.heap.size → (x = g' ∨ FOOT w g' C' x) → w'.heap[x]? = w.heap[x]? := fun x hx hf => hst.same x hx (fun e => ha x (.inl e) hf) (fun e => ha x (.inr e) hf)
  obtain ⟨k1, k2, _⟩ := h'.held (one g' hg' (.inl rfl)) (fun x hf => one x (h'.foot_lt hf) (.inr hf))
  refine ⟨k1, fun x hx hx' => ?_⟩
  have hx2 : x = g' ∨ FOOT w g' C' x := hx'.imp id (k2 x)
  have hlt : x < w.heap.size := by
    rcases hx2 with rfl | hf
    · exact hg'
    · exact h'.foot_lt hf
  rcases hx with e | hf
  · exact ha x (.inl e) hx2
  · rcases hst.foot x hf with h1 | h1
    · exact ha x (.inr h1) hx2
    · omega
/-- where the blocks of a store lie. -/
theorem STORE.foot_base {w : World} {B g log len alive N b : Nat} {C : CHUNKS} (hS : STORE w B g log len alive N C) (hb : FOOT w g C b) : B ≤ b := by
  rcases hb with e | ⟨k, gc, rs, e, h⟩
  · obtain ⟨mv, m1, m2, m3⟩ := hS.map
    rw [e] at m1
    have hm : mv = some b := by cases Option.some.inj m1; rfl
    exact (m3 b hm).1
  · have hC := (hS.chunk k gc rs e).2.1
    rcases h with rfl | ⟨v, hv, h⟩ | ⟨r, hr, rfl⟩
    · exact hC.far
    · obtain ⟨v0, h1, h2⟩ := hC.box
      rw [h1.cell 0] at hv
      cases Option.some.inj hv
      exact (h2.lt b h).1
    · exact ((hC.row r hr).2.2.2.2.lt r.gh rfl).1
/-- a store that was made later. -/
theorem STORE.later {w w' : World} {B g g' log len alive N log' len' alive' N' : Nat} {C C' : CHUNKS} (h : STORE w B g log len alive N C) (hb : Below w.heap.size w w') (h' : STORE w' w.heap.size g' log' len' alive' N' C') (hg' : w.heap.size ≤ g') : APART w' g C g' C' := fun x hx hx' => by
  have h1 : x < w.heap.size := by
    rcases hx with rfl | hf
    · exact h.lt
    · exact h.foot_lt (h.foot_below hb hf)
  rcases hx' with rfl | hf
  · omega
  · have := h'.foot_base hf
    omega
end Go.Proofs.Ytkmcmngdainofaa
