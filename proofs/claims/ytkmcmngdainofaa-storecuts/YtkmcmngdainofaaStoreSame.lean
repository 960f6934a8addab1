/- A store whose blocks are as they were. -/
import Derived.Test.YtkmcmngdainofaaStorePush
namespace Go.Proofs.Ytkmcmngdainofaa
open Go.RowKit
set_option maxRecDepth 100000

/-- a block that is none of the store's has changed. -/
theorem STORE.same {w w' : World} {B g log len alive N b : Nat} {C : CHUNKS} (hS : STORE w B g log len alive N C) (hblk : ∀ x, x < w.heap.size → x ≠ b → w'.heap[x]? = w.heap[x]?) (hb : ¬ FOOT w g C b) (hbg : g ≠ b) : STORE w' B g log len alive N C ∧ (∀ x, FOOT w' g C x → FOOT w g C x) ∧ ∀ i, w'.cell? ⟨g, i, none⟩ = w.cell? ⟨g, i, none⟩ := by
  have hg : w'.heap[g]? = w.heap[g]? := hblk g hS.lt hbg
  have cell : ∀ i, w'.cell? ⟨g, i, none⟩ = w.cell? ⟨g, i, none⟩ := fun i => World.cell?_of_block (w := w) (by exact hg)
  have hlt : ∀ {b' : Nat} {o : Obj}, w.heap[b']? = some o → b' < w.heap.size := fun h => (Array.getElem?_eq_some_iff.1 h).1
  have hch : ∀ k gc rk, C k = some (gc, rk) → w'.heap[gc]? = w.heap[gc]? ∧ (∀ v x, w.cell? ⟨gc, 0, none⟩ = some v → v.ownBlock = some x → w'.heap[x]? = w.heap[x]?) ∧ ∀ r ∈ rk, w'.heap[r.gh]? = w.heap[r.gh]? := fun k gc rk e => by
    obtain ⟨⟨_, z1⟩, z2, z3⟩ := (hS.chunk k gc rk e).2.1.kinds
    refine ⟨hblk _ (hlt z1) (fun h => hb (.inr ⟨k, gc, rk, e, .inl h.symm⟩)), fun v x hv hx => ?_, fun r hr => ?_⟩
    · obtain ⟨_, hc⟩ := z2 v x hv hx
      exact hblk _ (hlt hc) (fun h => hb (.inr ⟨k, gc, rk, e, .inr (.inl ⟨v, hv, by rw [← h]; exact hx⟩)⟩))
    · obtain ⟨_, hc⟩ := z3 r hr
      exact hblk _ (hlt hc) (fun h => hb (.inr ⟨k, gc, rk, e, .inr (.inr ⟨r, hr, h⟩)⟩))
  have hcc : ∀ k gc rk, C k = some (gc, rk) → w'.cell? ⟨gc, 0, none⟩ = w.cell? ⟨gc, 0, none⟩ := fun k gc rk e => World.cell?_of_block (w := w) (by exact (hch k gc rk e).1)
  refine ⟨⟨hS.small, hS.short, (cell 0).trans hS.c0, (cell 1).trans hS.c1, (cell 2).trans hS.c2, fun i hi => ?_, ?_, ?_, ?_, ?_⟩, fun x h => ?_, cell⟩
  · have := hS.live i hi
    unfold World.frozen? at this ⊢
    rw [show w'.heap[g]? = w.heap[g]? from hg]
    exact this
  · obtain ⟨cs, t, fr, k1, k2⟩ := hS.kind
    exact ⟨cs, t, fr, hg.trans k1, k2⟩
  · obtain ⟨mv, m1, m2, m3⟩ := hS.map
    refine ⟨mv, (cell 3).trans m1, m2, fun x e => ?_⟩
    obtain ⟨c1, n, c2, c3⟩ := m3 x e
    refine ⟨c1, n, c2, c3.at (hblk x c3.lt (fun h => hb (.inl (by rw [m1, e, h]))))⟩
  · intro k gc rk e
    obtain ⟨b1, b2, b3⟩ := hS.chunk k gc rk e
    obtain ⟨d1, d2, d3⟩ := hch k gc rk e
    exact ⟨b1, b2.at d1 d2 d3, b3⟩
  · intro k k' gc gc' rs rs' hne e e'
    obtain ⟨o1, o2, o3⟩ := hS.one k k' gc gc' rs rs' hne e e'
    exact ⟨o1, o2, fun v v' hv hv' => o3 v v' (by rw [← hcc k gc rs e]; exact hv) (by rw [← hcc k' gc' rs' e']; exact hv')⟩
  · rcases h with h | ⟨k, gc, rs, e, h⟩
    · left; rw [← cell 3]; exact h
    · refine .inr ⟨k, gc, rs, e, ?_⟩
      rcases h with h | ⟨v, hv, h⟩ | h
      · exact .inl h
      · exact .inr (.inl ⟨v, by rw [← hcc k gc rs e]; exact hv, h⟩)
      · exact .inr (.inr h)
end Go.Proofs.Ytkmcmngdainofaa
