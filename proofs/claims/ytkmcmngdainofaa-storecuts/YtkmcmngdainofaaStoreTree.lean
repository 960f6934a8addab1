/- A store inside a larger struct: what lies behind it in its block. -/
import Derived.Test.YtkmcmngdainofaaStorePush
import Derived.Test.YtkmcmngdainofaaStoreSame
namespace Go.Proofs.Ytkmcmngdainofaa
open Go.RowKit
set_option maxRecDepth 100000

theorem STORE.foot_lt {w : World} {B g log len alive N b : Nat} {C : CHUNKS} (hS : STORE w B g log len alive N C) (hb : FOOT w g C b) : b < w.heap.size := by
  rcases hb with e | ⟨k, gc, rs, e, h⟩
  · obtain ⟨mv, m1, m2, m3⟩ := hS.map
    rw [e] at m1
    have hm : mv = some b := by cases Option.some.inj m1; rfl
    obtain ⟨_, n, _, hc⟩ := m3 b hm
    exact hc.lt
  · obtain ⟨⟨_, z1⟩, z2, z3⟩ := (hS.chunk k gc rs e).2.1.kinds
    rcases h with rfl | ⟨v, hv, h⟩ | ⟨r, hr, rfl⟩
    · exact (Array.getElem?_eq_some_iff.1 z1).1
    · obtain ⟨_, hc⟩ := z2 v b hv h
      exact (Array.getElem?_eq_some_iff.1 hc).1
    · obtain ⟨_, hc⟩ := z3 r hr
      exact (Array.getElem?_eq_some_iff.1 hc).1
theorem STORE.foot_below {w w' : World} {B g log len alive N b : Nat} {C : CHUNKS} (hS : STORE w B g log len alive N C) (hb : Below w.heap.size w w') (hf : FOOT w' g C b) : FOOT w g C b := by
  have hg := hS.lt
  have cell : ∀ i, w'.cell? ⟨g, i, none⟩ = w.cell? ⟨g, i, none⟩ := fun i => hb.cell (by exact hg)
  rcases hf with h | ⟨k, gc, rs, e, h⟩
  · left; rw [← cell 3]; exact h
  · refine .inr ⟨k, gc, rs, e, ?_⟩
    rcases h with h | ⟨v, hv, h⟩ | h
    · exact .inl h
    · obtain ⟨x, hx, _⟩ := (hS.chunk k gc rs e).2.1.box
      exact .inr (.inl ⟨v, by rw [← hv]; exact (hb.cell (by exact hx.lt)).symm, h⟩)
    · exact .inr (.inr h)
/-- a step that may write what lies behind the store in its block. -/
structure TSTEP (w w' : World) (g : Nat) (C C' : CHUNKS) : Prop where
  foot : ∀ b, FOOT w' g C' b → FOOT w g C b ∨ w.heap.size ≤ b
  same : ∀ b, b < w.heap.size → b ≠ g → ¬ FOOT w g C b → w'.heap[b]? = w.heap[b]?
  size : w.heap.size ≤ w'.heap.size
theorem STEP.tree {w w' : World} {g : Nat} {C C' : CHUNKS} (h : STEP w w' g C C') : TSTEP w w' g C C' := ⟨h.foot, h.same, h.size⟩
theorem TSTEP.trans {w w' w'' : World} {g : Nat} {C C' C'' : CHUNKS} (h : TSTEP w w' g C C') (h' : TSTEP w' w'' g C' C'') : TSTEP w w'' g C C'' := by
  have hs := h.size
  refine ⟨fun b hb => ?_, fun b hb hg hf => ?_, Nat.le_trans h.size h'.size⟩
  · rcases h'.foot b hb with h1 | h1
    · exact h.foot b h1
    · exact .inr (by omega)
  · refine (h'.same b (by omega) hg (fun hf' => ?_)).trans (h.same b hb hg hf)
    rcases h.foot b hf' with h1 | h1
    · exact hf h1
    · omega
theorem STORE.side {w : World} {B g log len alive N : Nat} {C : CHUNKS} (hS : STORE w B g log len alive N C) (i0 : Nat) (hi0 : 5 ≤ i0) (u : Value) : STORE (w.setCell ⟨g, i0, none⟩ u) B g log len alive N C ∧ TSTEP w (w.setCell ⟨g, i0, none⟩ u) g C C := by
  obtain ⟨cs, t, fr, k1, k2, k3, k4⟩ := hS.kind
  obtain ⟨w2, hw2⟩ : ∃ w2, w.setCell ⟨g, i0, none⟩ u = w2 := ⟨_, rfl⟩
  rw [hw2]
  have hset : ∀ b, b ≠ g → w2.heap[b]? = w.heap[b]? := fun b hb => by rw [← hw2]; exact Below.heap_setCell _ _ _ b (by exact hb)
  have cell : ∀ i, i ≠ i0 → w2.cell? ⟨g, i, none⟩ = w.cell? ⟨g, i, none⟩ := fun i hi => by rw [← hw2, set_off (fun e => hi e.symm)]
  have hch : ∀ k gc rk, C k = some (gc, rk) → gc ≠ g ∧ (∀ v x, w.cell? ⟨gc, 0, none⟩ = some v → v.ownBlock = some x → x ≠ g) ∧ ∀ r ∈ rk, r.gh ≠ g := fun k gc rk e => by
    obtain ⟨⟨_, z1⟩, z2, z3⟩ := (hS.chunk k gc rk e).2.1.kinds
    refine ⟨fun e => other_kind k1 z1 k2 e.symm, fun v x hv hx => ?_, fun r hr => ?_⟩
    · obtain ⟨_, hc⟩ := z2 v x hv hx
      exact fun e => other_kind k1 hc k3 e.symm
    · obtain ⟨_, hc⟩ := z3 r hr
      exact fun e => other_kind k1 hc k4 e.symm
  have hcc : ∀ k gc rk, C k = some (gc, rk) → w2.cell? ⟨gc, 0, none⟩ = w.cell? ⟨gc, 0, none⟩ := fun k gc rk e => World.cell?_of_block (w := w) (by exact hset gc (hch k gc rk e).1)
  refine ⟨⟨hS.small, hS.short, (cell 0 (by omega)).trans hS.c0, ?_, (cell 2 (by omega)).trans hS.c2, fun i hi => ?_, ?_, ?_, ?_, ?_⟩, ?_⟩
  · exact (cell 1 (by omega)).trans hS.c1
  · rw [← hw2, World.frozen?_setCell]
    exact hS.live i hi
  · obtain ⟨cs', h1⟩ := set_kind (i := i0) k1 u
    exact ⟨cs', t, fr, by rw [← hw2]; exact h1, k2, k3, k4⟩
  · obtain ⟨mv, m1, m2, m3⟩ := hS.map
    refine ⟨mv, (cell 3 (by omega)).trans m1, m2, fun b e => ?_⟩
    obtain ⟨c1, n, c2, c3⟩ := m3 b e
    refine ⟨c1, n, c2, c3.at (hset b (fun e => ?_))⟩
    obtain ⟨D, ⟨es, clock, h1, _⟩, _⟩ := c3
    rw [e, k1] at h1
    cases h1
  · intro k gc rk e
    obtain ⟨b1, b2, b3⟩ := hS.chunk k gc rk e
    obtain ⟨d1, d2, d3⟩ := hch k gc rk e
    exact ⟨b1, b2.at (hset _ d1) (fun v x hv hx => hset _ (d2 v x hv hx)) (fun r hr => hset _ (d3 r hr)), b3⟩
  · intro k k' gc gc' rs rs' hne e e'
    obtain ⟨o1, o2, o3⟩ := hS.one k k' gc gc' rs rs' hne e e'
    exact ⟨o1, o2, fun v v' hv hv' => o3 v v' (by rw [← hcc k gc rs e]; exact hv) (by rw [← hcc k' gc' rs' e']; exact hv')⟩
  · refine ⟨fun b h => .inl ?_, fun b _ hbg _ => hset b hbg, by rw [← hw2]; simp⟩
    rcases h with h | ⟨k, gc, rs, e, h⟩
    · left; rw [← cell 3 (by omega)]; exact h
    · refine .inr ⟨k, gc, rs, e, ?_⟩
      rcases h with h | ⟨v, hv, h⟩ | h
      · exact .inl h
      · exact .inr (.inl ⟨v, by rw [← hcc k gc rs e]; exact hv, h⟩)
      · exact .inr (.inr h)
end Go.Proofs.Ytkmcmngdainofaa
