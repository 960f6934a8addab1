/- A store that gets its map, or one chunk more; steps of a store. -/
import Derived.Test.YtkmcmngdainofaaStoreSputPlain
namespace Go.Proofs.Ytkmcmngdainofaa
open Go.RowKit Go.Maps
set_option maxRecDepth 100000

/-- what a step of a store leaves alone: all that is not its own. -/
structure STEP0 (w w' : World) (g : Nat) (C C' : CHUNKS) : Prop where
  foot : ∀ b, FOOT w' g C' b → FOOT w g C b ∨ w.heap.size ≤ b
  same : ∀ b, b < w.heap.size → b ≠ g → ¬ FOOT w g C b → w'.heap[b]? = w.heap[b]?
  size : w.heap.size ≤ w'.heap.size
  pins : ∀ i, 4 ≤ i → w'.cell? ⟨g, i, none⟩ = w.cell? ⟨g, i, none⟩
theorem STEP0.trans {w w' w'' : World} {g : Nat} {C C' C'' : CHUNKS} (h : STEP0 w w' g C C') (h' : STEP0 w' w'' g C' C'') : STEP0 w w'' g C C'' := by
  have hs := h.size
  refine ⟨fun b hb => ?_, fun b hb hg hf => ?_, Nat.le_trans h.size h'.size, fun i hi => (h'.pins i hi).trans (h.pins i hi)⟩
  · rcases h'.foot b hb with h1 | h1
    · exact h.foot b h1
    · exact .inr (by omega)
  · refine (h'.same b (by omega) hg (fun hf' => ?_)).trans (h.same b hb hg hf)
    rcases h.foot b hf' with h1 | h1
    · exact hf h1
    · omega
/-- the same, and no chunk is left without a row. -/
structure STEP (w w' : World) (g : Nat) (C C' : CHUNKS) : Prop extends STEP0 w w' g C C' where
  full : FULL C → FULL C'
theorem STEP.trans {w w' w'' : World} {g : Nat} {C C' C'' : CHUNKS} (h : STEP w w' g C C') (h' : STEP w' w'' g C' C'') : STEP w w'' g C C'' := ⟨h.toSTEP0.trans h'.toSTEP0, fun x => h'.full (h.full x)⟩
theorem STEP.of_with {w w' w'' : World} {g K gc : Nat} {C C' : CHUNKS} (h : STEP0 w w' g C (WITH C K gc [])) (h' : STEP w' w'' g (WITH C K gc []) C') (hF : FULLB (WITH C K gc []) K → FULL C') : STEP w w'' g C C' := ⟨h.trans h'.toSTEP0, fun x => hF (x.but K).with⟩
theorem STEP.below {w w' : World} {B g log len alive N : Nat} {C : CHUNKS} (hS : STORE w B g log len alive N C) (hb : Below w.heap.size w w') : STEP w w' g C C := by
  have hg := hS.lt
  have cell : ∀ i, w'.cell? ⟨g, i, none⟩ = w.cell? ⟨g, i, none⟩ := fun i => hb.cell (by exact hg)
  refine ⟨⟨fun b h => .inl ?_, fun b h _ _ => hb.block b h, hb.size, fun i _ => cell i⟩, id⟩
  rcases h with h | ⟨k, gc, rs, e, h⟩
  · left; rw [← cell 3]; exact h
  · refine .inr ⟨k, gc, rs, e, ?_⟩
    rcases h with h | ⟨v, hv, h⟩ | h
    · exact .inl h
    · obtain ⟨x, hx, _⟩ := (hS.chunk k gc rs e).2.1.box
      exact .inr (.inl ⟨v, by rw [← hv]; exact (hb.cell (by exact hx.lt)).symm, h⟩)
    · exact .inr (.inr h)
theorem STORE.put_step {W W' : World} {B g log len alive N K gc p : Nat} {C : CHUNKS} {rs : List ROW} {h : Nat → Nat} (hS : STORE W B g log len alive N C) (hK : C K = some (gc, rs)) (hp : p / 2 ^ log = K) (hpl : p < len) (hP : PUTS W B gc p rs h W') :
    ∃ C', STORE (W'.setCell ⟨g, 2, none⟩ (.int .u64 ((alive + 1 : Nat) : Int))) B g log len (alive + 1) N C' ∧ (∀ p', AT C' log p' = if p' = p then some h else AT C log p') ∧ (TOP C p → TOP C' (p + 1)) ∧ STEP W (W'.setCell ⟨g, 2, none⟩ (.int .u64 ((alive + 1 : Nat) : Int))) g C C' ∧ (FULLB C K → FULL C') := by
  obtain ⟨C', h1, h2, h3, h4, h5, h6, h7, h8⟩ := hS.put hK hp hpl hP
  exact ⟨C', h1, h2, h3, ⟨⟨h4, h5, h7, fun i hi => h6 i (by omega)⟩, fun x => h8 (x.but K)⟩, h8⟩
/-- one chunk more. -/
theorem STORE.turn {W w2 : World} {B g log len alive N K gc b : Nat} {C : CHUNKS} (hS : STORE W B g log len alive N C) (hm : W.cell? ⟨g, 3, none⟩ = some (.map (some b))) (hblk : ∀ x, x < W.heap.size → x ≠ b → w2.heap[x]? = W.heap[x]?) (hsz : W.heap.size ≤ w2.heap.size) (hgc : W.heap.size ≤ gc) (hbox : Has w2 gc #[.slice none 0 0] 70)
    (hM : ∃ n, n ≤ N + 1 ∧ ChunkMap w2 b n (fun j => if j = K then some gc else (C j).map Prod.fst)) (hCK : C K = none) (hK : K < 2 ^ 64) : STORE w2 B g log len alive (N + 1) (WITH C K gc []) ∧ (∀ p', AT (WITH C K gc []) log p' = AT C log p') ∧ (∀ p, TOP C p → TOP (WITH C K gc []) p) ∧ STEP0 W w2 g C (WITH C K gc []) := by
  obtain ⟨cs, t, fr, k1, k2, k3, k4⟩ := hS.kind
  obtain ⟨mv, m1, m2, m3⟩ := hS.map
  rw [hm] at m1
  have hmv : mv = some b := by cases Option.some.inj m1; rfl
  subst hmv
  obtain ⟨hBb, n0, _, hcm⟩ := m3 b rfl
  have hbl := hcm.lt
  obtain ⟨D, ⟨es, clock, hbm, _⟩, _⟩ := hcm
  have hbc : ∀ {b' c t' fr'}, W.heap[b']? = some (.cells c t' fr') → b' ≠ b := fun h2 e => by rw [e, hbm] at h2; cases h2
  have hlt : ∀ {b' : Nat} {o : Obj}, W.heap[b']? = some o → b' < W.heap.size := fun h => (Array.getElem?_eq_some_iff.1 h).1
  have hgb : w2.heap[g]? = W.heap[g]? := hblk g hS.lt (hbc k1)
  have cell : ∀ i, w2.cell? ⟨g, i, none⟩ = W.cell? ⟨g, i, none⟩ := fun i => World.cell?_of_block (w := W) (by exact hgb)
  have hch : ∀ k gc' rk, C k = some (gc', rk) → (w2.heap[gc']? = W.heap[gc']? ∧ (∀ v x, W.cell? ⟨gc', 0, none⟩ = some v → v.ownBlock = some x → w2.heap[x]? = W.heap[x]?) ∧ ∀ r ∈ rk, w2.heap[r.gh]? = W.heap[r.gh]?) ∧ gc' < W.heap.size := fun k gc' rk e => by
    obtain ⟨⟨_, z1⟩, z2, z3⟩ := (hS.chunk k gc' rk e).2.1.kinds
    refine ⟨⟨hblk _ (hlt z1) (hbc z1), fun v x hv hx => ?_, fun r hr => ?_⟩, hlt z1⟩
    · obtain ⟨_, hc⟩ := z2 v x hv hx
      exact hblk _ (hlt hc) (hbc hc)
    · obtain ⟨_, hc⟩ := z3 r hr
      exact hblk _ (hlt hc) (hbc hc)
  have hcc : ∀ k gc' rk, C k = some (gc', rk) → ∀ i, w2.cell? ⟨gc', i, none⟩ = W.cell? ⟨gc', i, none⟩ := fun k gc' rk e i => World.cell?_of_block (w := W) (by exact (hch k gc' rk e).1.1)
  have hgcell : w2.cell? ⟨gc, 0, none⟩ = some (.slice none 0 0) := hbox.cell 0
  have hC0 : CHUNK w2 B gc [] := ⟨⟨_, hbox, World.ownsRow_nil _ _ _ _⟩, by omega, by decide, fun i j r s _ h => (by simp at h), fun r hr => (by cases hr), fun i j r s _ h => (by simp at h), fun r hr => by cases hr⟩
  refine ⟨⟨hS.small, hS.short, (cell 0).trans hS.c0, (cell 1).trans hS.c1, (cell 2).trans hS.c2, fun i hi => ?_, ⟨cs, t, fr, hgb.trans k1, k2, k3, k4⟩, ?_, ?_, ?_⟩, ?_, ?_, ?_⟩
  · have := hS.live i hi
    unfold World.frozen? at this ⊢
    rw [show w2.heap[g]? = W.heap[g]? from hgb]
    exact this
  · refine ⟨some b, (cell 3).trans hm, (fun e => by cases e), fun b' e => ?_⟩
    cases e
    obtain ⟨n, h1, h2⟩ := hM
    refine ⟨hBb, n, h1, ?_⟩
    have hE : (fun k => (WITH C K gc [] k).map Prod.fst) = fun j => if j = K then some gc else (C j).map Prod.fst := funext fun j => by
      by_cases e : j = K
      · subst e; rw [WITH_at, if_pos rfl]; rfl
      · rw [WITH_ne e, if_neg e]
    rw [hE]
    exact h2
  · intro k gc' rk e
    by_cases ek : k = K
    · subst ek
      rw [WITH_at] at e
      cases e
      exact ⟨hK, hC0, fun r hr => by cases hr⟩
    · rw [WITH_ne ek] at e
      obtain ⟨b1, b2, b3⟩ := hS.chunk k gc' rk e
      obtain ⟨⟨d1, d2, d3⟩, _⟩ := hch k gc' rk e
      exact ⟨b1, b2.at d1 d2 d3, b3⟩
  · intro k k' gk gk' rk rk' hne e e'
    by_cases ek : k = K
    · subst ek
      rw [WITH_at] at e
      cases e
      rw [WITH_ne (fun h => hne h.symm)] at e'
      refine ⟨by have := (hch _ _ _ e').2; omega, fun r hr => (by cases hr), fun v v' hv _ => .inl ?_⟩
      rw [hgcell] at hv
      cases Option.some.inj hv
      rfl
    · rw [WITH_ne ek] at e
      by_cases ek' : k' = K
      · subst ek'
        rw [WITH_at] at e'
        cases e'
        refine ⟨by have := (hch _ _ _ e).2; omega, fun r _ r' hr' => (by cases hr'), fun v v' hv hv' => ?_⟩
        rw [hgcell] at hv'
        cases Option.some.inj hv'
        by_cases hn : v.ownBlock = none
        · exact .inl hn
        · exact .inr hn
      · rw [WITH_ne ek'] at e'
        obtain ⟨o1, o2, o3⟩ := hS.one k k' gk gk' rk rk' hne e e'
        refine ⟨o1, o2, fun v v' hv hv' => o3 v v' ?_ ?_⟩
        · rw [← hcc k gk rk e 0]; exact hv
        · rw [← hcc k' gk' rk' e' 0]; exact hv'
  · intro p'
    unfold AT
    by_cases ek : p' / 2 ^ log = K
    · rw [ek, WITH_at, hCK]
      rfl
    · rw [WITH_ne ek]
  · intro p hT k gc' rk e r hr j hj hb
    by_cases ek : k = K
    · subst ek
      rw [WITH_at] at e
      cases e
      cases hr
    · rw [WITH_ne ek] at e
      exact hT _ _ _ e r hr j hj hb
  · refine ⟨fun x hx => ?_, fun x hx hxg hf => hblk x hx (fun e => hf (.inl (by rw [e]; exact hm))), hsz, fun i _ => cell i⟩
    rcases hx with h | ⟨k, gc', rk, e, h⟩
    · left; left; rw [← cell 3]; exact h
    · by_cases ek : k = K
      · subst ek
        rw [WITH_at] at e
        cases e
        rcases h with h | ⟨v, hv, h⟩ | ⟨r, hr, _⟩
        · exact .inr (by omega)
        · rw [hgcell] at hv
          cases Option.some.inj hv
          cases h
        · cases hr
      · rw [WITH_ne ek] at e
        refine .inl (.inr ⟨k, gc', rk, e, ?_⟩)
        rcases h with h | ⟨v, hv, h⟩ | h
        · exact .inl h
        · exact .inr (.inl ⟨v, by rw [← hcc k gc' rk e 0]; exact hv, h⟩)
        · exact .inr (.inr h)
/-- the map of a store that had none. -/
theorem STORE.mapped {W : World} {B g log len alive N : Nat} {C : CHUNKS} (hS : STORE W B g log len alive N C) (hm : W.cell? ⟨g, 3, none⟩ = some (.map none)) (hB : B ≤ W.heap.size) : (∀ k, C k = none) ∧ STORE ((W.alloc (.map #[] 0)).setCell ⟨g, 3, none⟩ (.map (some W.heap.size))) B g log len alive N C ∧ STEP W ((W.alloc (.map #[] 0)).setCell ⟨g, 3, none⟩ (.map (some W.heap.size))) g C C := by
  obtain ⟨cs, t, fr, k1, k2, k3, k4⟩ := hS.kind
  obtain ⟨mv, m1, m2, m3⟩ := hS.map
  rw [hm] at m1
  have hmv : mv = none := by cases Option.some.inj m1; rfl
  have hC := m2 hmv
  have hg := hS.lt
  have hb : Below W.heap.size W (W.alloc (.map #[] 0)) := (Below.refl _ _).alloc (Nat.le_refl _) _
  have hS1 := hS.below hb
  obtain ⟨w2, hw2⟩ : ∃ w2, (W.alloc (.map #[] 0)).setCell ⟨g, 3, none⟩ (.map (some W.heap.size)) = w2 := ⟨_, rfl⟩
  rw [hw2]
  have hset : ∀ b, b ≠ g → w2.heap[b]? = (W.alloc (.map #[] 0)).heap[b]? := fun b hb => by rw [← hw2]; exact Below.heap_setCell _ _ _ b (by exact hb)
  have cell : ∀ i, i ≠ 3 → w2.cell? ⟨g, i, none⟩ = W.cell? ⟨g, i, none⟩ := fun i hi => by rw [← hw2, set_off (fun e => hi e.symm)]; exact hb.cell (by exact hg)
  have c3 : w2.cell? ⟨g, 3, none⟩ = some (.map (some W.heap.size)) := by rw [← hw2]; exact World.cell?_setCell_same _ _ _ ((hb.cell (by exact hg)).trans hm)
  refine ⟨hC, ⟨hS.small, hS.short, (cell 0 (by decide)).trans hS.c0, (cell 1 (by decide)).trans hS.c1, (cell 2 (by decide)).trans hS.c2, fun i hi => ?_, ?_, ?_, fun k gc rs e => (by rw [hC k] at e; cases e), fun k k' gc gc' rs rs' _ e => by rw [hC k] at e; cases e⟩, ?_⟩
  · rw [← hw2, World.frozen?_setCell]
    exact hS1.live i hi
  · obtain ⟨cs', h1⟩ := set_kind (i := 3) ((hb.block g hg).trans k1) (.map (some W.heap.size))
    exact ⟨cs', t, fr, by rw [← hw2]; exact h1, k2, k3, k4⟩
  · refine ⟨_, c3, (fun e => by cases e), fun b e => ?_⟩
    cases e
    refine ⟨hB, 0, Nat.zero_le _, ?_⟩
    have hE : (fun k => (C k).map Prod.fst) = fun _ => none := funext fun k => by rw [hC k]; rfl
    rw [hE]
    exact (ChunkMap.made W).at (hset _ (by omega))
  · refine ⟨⟨fun b h => ?_, fun b hb' hbg _ => (hset b hbg).trans (hb.block b hb'), ?_, fun i hi => cell i (by omega)⟩, id⟩
    · rcases h with h | ⟨k, gc, rs, e, _⟩
      · rw [c3] at h
        have h2 := Option.some.inj h
        cases h2
        exact .inr (Nat.le_refl _)
      · rw [hC k] at e; cases e
    · rw [← hw2]
      simp
end Go.Proofs.Ytkmcmngdainofaa
