/- A store of which one chunk is changed: what is left of it lived there ahead. -/
import Derived.Test.YtkmcmngdainofaaStoreSputTurn
namespace Go.Proofs.Ytkmcmngdainofaa
open Go.RowKit Go.Maps
set_option maxRecDepth 100000

/-- a chunk that has lost some nodes. -/
def CHGS (w : World) (B g : Nat) (rs rs' : List ROW) (w' : World) : Prop :=
  CHUNK w' B g rs' ∧ (∀ r ∈ rs', ∀ j, j < 64 → r.live.testBit j = true → ∃ r0 ∈ rs, r0.num = r.num ∧ r0.live.testBit j = true) ∧
    (∀ r ∈ rs', (∃ r0 ∈ rs, r0.gh = r.gh) ∨ w.heap.size ≤ r.gh) ∧
    (∀ v v', w.cell? ⟨g, 0, none⟩ = some v → w'.cell? ⟨g, 0, none⟩ = some v' → v'.ownBlock = v.ownBlock ∨ ∃ b, v'.ownBlock = some b ∧ w.heap.size ≤ b) ∧
    w.heap.size ≤ w'.heap.size ∧
    ∀ b, b < w.heap.size → b ≠ g → (∀ v, w.cell? ⟨g, 0, none⟩ = some v → v.ownBlock ≠ some b) → (∀ r ∈ rs, r.gh ≠ b) → w'.heap[b]? = w.heap[b]?
theorem STORE.change {W W' : World} {B g log len alive N K gc : Nat} (al : Nat) {C : CHUNKS} {rs rs' : List ROW} (hS : STORE W B g log len alive N C) (hK : C K = some (gc, rs)) (hP : CHGS W B gc rs rs' W') :
    STORE (W'.setCell ⟨g, 2, none⟩ (.int .u64 (al : Int))) B g log len al N (WITH C K gc rs') ∧ (∀ b, FOOT (W'.setCell ⟨g, 2, none⟩ (.int .u64 (al : Int))) g (WITH C K gc rs') b → FOOT W g C b ∨ W.heap.size ≤ b) ∧ (∀ b, b < W.heap.size → b ≠ g → ¬ FOOT W g C b → (W'.setCell ⟨g, 2, none⟩ (.int .u64 (al : Int))).heap[b]? = W.heap[b]?) ∧
      (∀ i, i ≠ 2 → (W'.setCell ⟨g, 2, none⟩ (.int .u64 (al : Int))).cell? ⟨g, i, none⟩ = W.cell? ⟨g, i, none⟩) ∧ W.heap.size ≤ (W'.setCell ⟨g, 2, none⟩ (.int .u64 (al : Int))).heap.size := by
  obtain ⟨q1, q3, q4, q5, q6, q8⟩ := hP
  obtain ⟨cs, t, fr, k1, k2, k3, k4⟩ := hS.kind
  obtain ⟨a1, a2, a3⟩ := hS.chunk K gc rs hK
  obtain ⟨⟨_, y1⟩, y2, y3⟩ := a2.kinds
  have hgl := hS.lt
  -- the block of the store
  have hg : W'.heap[g]? = W.heap[g]? := q8 g hgl (other_kind k1 y1 k2) (fun v hv e => by obtain ⟨_, hc⟩ := y2 v g hv e; exact other_kind k1 hc k3 rfl) (fun r hr e => by obtain ⟨_, hc⟩ := y3 r hr; rw [e] at hc; exact other_kind k1 hc k4 rfl)
  have hcell : ∀ i, W'.cell? ⟨g, i, none⟩ = W.cell? ⟨g, i, none⟩ := fun i => World.cell?_of_block (w := W) (by exact hg)
  obtain ⟨w5, hw5⟩ : ∃ w5, W'.setCell ⟨g, 2, none⟩ (.int .u64 (al : Int)) = w5 := ⟨_, rfl⟩
  rw [hw5]
  have hset : ∀ b, b ≠ g → w5.heap[b]? = W'.heap[b]? := fun b hb => by rw [← hw5]; exact Below.heap_setCell _ _ _ b (by exact hb)
  have hc5 : ∀ i, i ≠ 2 → w5.cell? ⟨g, i, none⟩ = W.cell? ⟨g, i, none⟩ := fun i hi => by rw [← hw5, set_off (fun e => hi e.symm)]; exact hcell i
  have hs5 : w5.heap.size = W'.heap.size := by rw [← hw5]; simp
  obtain ⟨mv, m1, m2, m3⟩ := hS.map
  -- blocks of another kind keep
  have keep : ∀ b c t' fr', W.heap[b]? = some (.cells c t' fr') → b ≠ g → b ≠ gc → (∀ v, W.cell? ⟨gc, 0, none⟩ = some v → v.ownBlock ≠ some b) → (∀ r ∈ rs, r.gh ≠ b) → w5.heap[b]? = W.heap[b]? := fun b c t' fr' hb e1 e2 e3 e4 => (hset b e1).trans (q8 b (Array.getElem?_eq_some_iff.1 hb).1 e2 e3 e4)
  -- the other chunks
  have hother : ∀ k gc' rk, k ≠ K → C k = some (gc', rk) → w5.heap[gc']? = W.heap[gc']? ∧ (∀ v b, W.cell? ⟨gc', 0, none⟩ = some v → v.ownBlock = some b → w5.heap[b]? = W.heap[b]?) ∧ ∀ r ∈ rk, w5.heap[r.gh]? = W.heap[r.gh]? := fun k gc' rk hk e => by
    obtain ⟨b1, b2, b3⟩ := hS.chunk k gc' rk e
    obtain ⟨⟨_, z1⟩, z2, z3⟩ := b2.kinds
    obtain ⟨o1, o2, o3⟩ := hS.one k K gc' gc rk rs hk e hK
    refine ⟨keep gc' _ _ _ z1 (fun e => other_kind k1 z1 k2 e.symm) o1 (fun v hv e => by obtain ⟨_, hc⟩ := y2 v _ hv e; exact other_kind z1 hc (by decide) rfl) (fun r hr e => by obtain ⟨_, hc⟩ := y3 r hr; rw [e] at hc; exact other_kind z1 hc (by decide) rfl), fun v b hv hb => ?_, fun r hr => ?_⟩
    · obtain ⟨_, hcb⟩ := z2 v b hv hb
      refine keep b _ _ _ hcb (fun e => other_kind k1 hcb k3 e.symm) (other_kind hcb y1 (by decide)) (fun v' hv' e => ?_) (fun r hr e => by obtain ⟨_, hc⟩ := y3 r hr; rw [e] at hc; exact other_kind hcb hc (by decide) rfl)
      rcases o3 v v' hv hv' with h | h
      · rw [hb] at h; cases h
      · exact h (hb.trans e.symm)
    · obtain ⟨_, hcr⟩ := z3 r hr
      exact keep r.gh _ _ _ hcr (fun e => other_kind k1 hcr k4 e.symm) (other_kind hcr y1 (by decide)) (fun v hv e => by obtain ⟨_, hc⟩ := y2 v _ hv e; exact other_kind hcr hc (by decide) rfl) (fun r' hr' e => o2 r hr r' hr' e.symm)
  have hocell : ∀ k gc' rk, k ≠ K → C k = some (gc', rk) → ∀ i, w5.cell? ⟨gc', i, none⟩ = W.cell? ⟨gc', i, none⟩ := fun k gc' rk hk e i => World.cell?_of_block (w := W) (by exact (hother k gc' rk hk e).1)
  -- the chunk itself
  obtain ⟨⟨_, x1⟩, x2, x3⟩ := q1.kinds
  have k1' : W'.heap[g]? = some (.cells cs t fr) := hg.trans k1
  have hgcg : gc ≠ g := fun e => other_kind k1' x1 k2 e.symm
  have hgcell : w5.cell? ⟨gc, 0, none⟩ = W'.cell? ⟨gc, 0, none⟩ := World.cell?_of_block (w := W') (by exact hset gc hgcg)
  have q1' : CHUNK w5 B gc rs' := q1.at (hset gc hgcg) (fun v b hv hb => by obtain ⟨_, hc⟩ := x2 v b hv hb; exact hset b (fun e => other_kind k1' hc k3 e.symm)) (fun r hr => by obtain ⟨_, hc⟩ := x3 r hr; exact hset r.gh (fun e => other_kind k1' hc k4 e.symm))
  obtain ⟨v0, hv0, ho0⟩ := a2.box
  have hv0c : W.cell? ⟨gc, 0, none⟩ = some v0 := hv0.cell 0
  have hone : ∀ k' gc' rk, k' ≠ K → C k' = some (gc', rk) → gc ≠ gc' ∧ (∀ r ∈ rs', ∀ r' ∈ rk, r.gh ≠ r'.gh) ∧ ∀ v v', w5.cell? ⟨gc, 0, none⟩ = some v → w5.cell? ⟨gc', 0, none⟩ = some v' → v.ownBlock = none ∨ v.ownBlock ≠ v'.ownBlock := fun k' gc' rk hk e => by
    obtain ⟨o1, o2, o3⟩ := hS.one K k' gc gc' rs rk (fun h => hk h.symm) hK e
    obtain ⟨_, z2, z3⟩ := (hS.chunk k' gc' rk e).2.1.kinds
    refine ⟨o1, fun r hr r' hr' => ?_, fun v v' hv hv' => ?_⟩
    · rcases q4 r hr with ⟨r0, h1, h2⟩ | h1
      · rw [← h2]; exact o2 r0 h1 r' hr'
      · obtain ⟨_, hc⟩ := z3 r' hr'
        have := (Array.getElem?_eq_some_iff.1 hc).1
        omega
    · rw [hgcell] at hv
      rw [hocell k' gc' rk hk e 0] at hv'
      rcases q5 v0 v hv0c hv with h1 | ⟨b, h1, h2⟩
      · rw [h1]; exact o3 v0 v' hv0c hv'
      · refine .inr (fun h => ?_)
        rw [h1] at h
        obtain ⟨_, hc⟩ := z2 v' b hv' h.symm
        have := (Array.getElem?_eq_some_iff.1 hc).1
        omega
  refine ⟨⟨hS.small, hS.short, (hc5 0 (by decide)).trans hS.c0, (hc5 1 (by decide)).trans hS.c1, ?_, fun i hi => ?_, ?_, ?_, ?_, ?_⟩, ?_, ?_, hc5, by rw [hs5]; exact q6⟩
  · rw [← hw5]
    exact World.cell?_setCell_same _ _ _ (by rw [hcell 2]; exact hS.c2)
  · rw [← hw5, World.frozen?_setCell]
    have := hS.live i hi
    unfold World.frozen? at this ⊢
    rw [show W'.heap[g]? = W.heap[g]? from hg]
    exact this
  · obtain ⟨cs', h1⟩ := set_kind (i := 2) k1' (.int .u64 (al : Int))
    exact ⟨cs', t, fr, by rw [← hw5]; exact h1, k2, k3, k4⟩
  · refine ⟨mv, (hc5 3 (by decide)).trans m1, fun e k => ?_, fun b e => ?_⟩
    · have := m2 e K
      rw [hK] at this
      cases this
    · obtain ⟨c1, n, c2, c3⟩ := m3 b e
      refine ⟨c1, n, c2, ?_⟩
      have hM : (fun k => (WITH C K gc rs' k).map Prod.fst) = fun k => (C k).map Prod.fst := funext fun k => by
        by_cases e : k = K
        · subst e; rw [WITH_at, hK]; rfl
        · rw [WITH_ne e]
      rw [hM]
      refine c3.at ?_
      obtain ⟨D, ⟨es, clock, h1, _⟩, _⟩ := c3
      have hbc : ∀ {b' c t' fr'}, W.heap[b']? = some (.cells c t' fr') → b ≠ b' := fun h2 e => by rw [← e, h1] at h2; cases h2
      refine (hset b (hbc k1)).trans (q8 b (Array.getElem?_eq_some_iff.1 h1).1 (hbc y1) (fun v hv e => ?_) (fun r hr e => ?_))
      · obtain ⟨_, hc⟩ := y2 v b hv e
        exact hbc hc rfl
      · obtain ⟨_, hc⟩ := y3 r hr
        exact hbc hc e.symm
  · intro k gc' rk e
    by_cases ek : k = K
    · subst ek
      rw [WITH_at] at e
      cases e
      refine ⟨a1, q1', fun r hr j hj hb => ?_⟩
      obtain ⟨r0, h1, h2, h3⟩ := q3 r hr j hj hb
      rw [← h2]
      exact a3 r0 h1 j hj h3
    · rw [WITH_ne ek] at e
      obtain ⟨b1, b2, b3⟩ := hS.chunk k gc' rk e
      obtain ⟨d1, d2, d3⟩ := hother k gc' rk ek e
      exact ⟨b1, b2.at d1 d2 d3, b3⟩
  · intro k k' gk gk' rk rk' hne e e'
    by_cases ek : k = K
    · subst ek
      rw [WITH_at] at e
      cases e
      rw [WITH_ne (fun h => hne h.symm)] at e'
      exact hone k' gk' rk' (fun h => hne h.symm) e'
    · rw [WITH_ne ek] at e
      by_cases ek' : k' = K
      · subst ek'
        rw [WITH_at] at e'
        cases e'
        obtain ⟨o1, o2, o3⟩ := hone k gk rk ek e
        refine ⟨fun h => o1 h.symm, fun r hr r' hr' h => o2 r' hr' r hr h.symm, fun v v' hv hv' => ?_⟩
        rcases o3 v' v hv' hv with h | h
        · by_cases hn : v.ownBlock = none
          · exact .inl hn
          · exact .inr (fun e => hn (e.trans h))
        · exact .inr (fun e => h e.symm)
      · rw [WITH_ne ek'] at e'
        obtain ⟨o1, o2, o3⟩ := hS.one k k' gk gk' rk rk' hne e e'
        refine ⟨o1, o2, fun v v' hv hv' => o3 v v' ?_ ?_⟩
        · rw [← hocell k gk rk ek e 0]; exact hv
        · rw [← hocell k' gk' rk' ek' e' 0]; exact hv'
  · intro b hb
    rcases hb with h1 | ⟨k, gc', rk, e, h1⟩
    · left; left
      rw [← hc5 3 (by decide)]
      exact h1
    · by_cases ek : k = K
      · subst ek
        rw [WITH_at] at e
        cases e
        rcases h1 with h1 | ⟨v, hv, h1⟩ | ⟨r, hr, h1⟩
        · exact .inl (.inr ⟨_, _, _, hK, .inl h1⟩)
        · rw [hgcell] at hv
          rcases q5 v0 v hv0c hv with h2 | ⟨b', h2, h3⟩
          · exact .inl (.inr ⟨_, _, _, hK, .inr (.inl ⟨v0, hv0c, by rw [← h2]; exact h1⟩)⟩)
          · rw [h1] at h2
            cases h2
            exact .inr h3
        · rcases q4 r hr with ⟨r0, h2, h3⟩ | h2
          · exact .inl (.inr ⟨_, _, _, hK, .inr (.inr ⟨r0, h2, by rw [h3]; exact h1⟩)⟩)
          · rw [h1] at h2
            exact .inr h2
      · rw [WITH_ne ek] at e
        rcases h1 with h1 | ⟨v, hv, h1⟩ | h1
        · exact .inl (.inr ⟨_, _, _, e, .inl h1⟩)
        · rw [hocell k gc' rk ek e 0] at hv
          exact .inl (.inr ⟨_, _, _, e, .inr (.inl ⟨v, hv, h1⟩)⟩)
        · exact .inl (.inr ⟨_, _, _, e, .inr (.inr h1)⟩)
  · intro b hb hbg hf
    exact (hset b hbg).trans (q8 b hb (fun e => hf (.inr ⟨_, _, _, hK, .inl e⟩)) (fun v hv e => hf (.inr ⟨_, _, _, hK, .inr (.inl ⟨v, hv, e⟩)⟩)) (fun r hr e => hf (.inr ⟨_, _, _, hK, .inr (.inr ⟨r, hr, e⟩)⟩)))
end Go.Proofs.Ytkmcmngdainofaa
