/- Texts of PartOne, one behind the other: StoreSputPlain, StoreSputTurn. -/
import Derived.Test.YtnplhejopmoopaaDoorPartOneP15
/- A store in which one place more lives: what it is then. -/
namespace Go.Proofs.YtnplhejopmoopaaDoor.HX
open Go.RowKit Go.Maps
set_option maxRecDepth 100000

theorem set_kind {w : World} {g i : Nat} {cs : Array Value} {t : TypeId} {fr : Nat × Nat} (h : w.heap[g]? = some (.cells cs t fr)) (v : Value) : ∃ cs', (w.setCell ⟨g, i, none⟩ v).heap[g]? = some (.cells cs' t fr) := by
  refine ⟨cs.setIfInBounds i v, ?_⟩
  simp [World.setCell, Array.getElem?_modify, h]
/-- the blocks that a store has beside its own. -/
def FOOT (w : World) (g : Nat) (C : CHUNKS) (b : Nat) : Prop := w.cell? ⟨g, 3, none⟩ = some (.map (some b)) ∨ ∃ k gc rs, C k = some (gc, rs) ∧ (b = gc ∨ (∃ v, w.cell? ⟨gc, 0, none⟩ = some v ∧ v.ownBlock = some b) ∨ ∃ r ∈ rs, r.gh = b)
/-- all that lives lies ahead of p. -/
def TOP (C : CHUNKS) (p : Nat) : Prop := ∀ k gc rs, C k = some (gc, rs) → ∀ r ∈ rs, ∀ j, j < 64 → r.live.testBit j = true → r.num * 64 + j < p
theorem CHUNK.kinds {w : World} {B g : Nat} {rs : List ROW} (h : CHUNK w B g rs) : (∃ c, w.heap[g]? = some (.cells c 115 (0, 0))) ∧ (∀ v b, w.cell? ⟨g, 0, none⟩ = some v → v.ownBlock = some b → ∃ c, w.heap[b]? = some (.cells c 124 (0, 0))) ∧ ∀ r ∈ rs, ∃ c, w.heap[r.gh]? = some (.cells c 27 (0, 0)) := by
  obtain ⟨v, hv, ho⟩ := h.box
  refine ⟨⟨_, hv⟩, fun u b hu hb => ?_, fun r hr => ?_⟩
  · rw [hv.cell 0] at hu
    cases Option.some.inj hu
    obtain ⟨c, hc, _⟩ := own_block ho hb
    exact ⟨c, hc⟩
  · obtain ⟨c, hc, _⟩ := own_block (h.row r hr).2.2.2.2 (b := r.gh) rfl
    exact ⟨c, hc⟩
theorem CHUNK.at {w w' : World} {B g : Nat} {rs : List ROW} (h : CHUNK w B g rs) (e1 : w'.heap[g]? = w.heap[g]?) (e2 : ∀ v b, w.cell? ⟨g, 0, none⟩ = some v → v.ownBlock = some b → w'.heap[b]? = w.heap[b]?) (e3 : ∀ r ∈ rs, w'.heap[r.gh]? = w.heap[r.gh]?) : CHUNK w' B g rs := by
  obtain ⟨v, hv, ho⟩ := h.box
  exact ⟨⟨v, e1.trans hv, own_same ho fun b hb => e2 v b (hv.cell 0) hb⟩, h.far, h.few, h.rise, fun r hr => by
    obtain ⟨a, b, c, d, e⟩ := h.row r hr
    exact ⟨a, b, c, d, own_same e fun b hb => by cases hb; exact e3 r hr⟩, h.apart, h.lives⟩
theorem TOP.next {w : World} {B g p : Nat} {rs : List ROW} (hC : CHUNK w B g rs) (h : ∀ r ∈ rs, ∀ j, j < 64 → r.live.testBit j = true → r.num * 64 + j < p) : NEXT rs p := fun r hr => by
  obtain ⟨j, hj, hb⟩ := hC.lives r hr
  have h1 := h r hr j hj hb
  by_cases e : r.num < p / 64
  · exact .inl e
  · refine .inr ⟨by omega, fun i hi hb' => ?_⟩
    have := h r hr i hi hb'
    omega
/-- the chunk K has other rows now. -/
def WITH (C : CHUNKS) (K gc : Nat) (rs : List ROW) : CHUNKS := fun j => if j = K then some (gc, rs) else C j
theorem WITH_at {C : CHUNKS} {K gc : Nat} {rs : List ROW} : WITH C K gc rs K = some (gc, rs) := if_pos rfl
theorem WITH_ne {C : CHUNKS} {K gc j : Nat} {rs : List ROW} (h : j ≠ K) : WITH C K gc rs j = C j := if_neg h
theorem other_kind {w : World} {b b' : Nat} {c c' : Array Value} {t t' : TypeId} {fr fr' : Nat × Nat} (h : w.heap[b]? = some (.cells c t fr)) (h' : w.heap[b']? = some (.cells c' t' fr')) (ht : t ≠ t') : b ≠ b' := fun e => by
  rw [e, h'] at h
  cases h
  exact ht rfl
/-- no chunk without a row. -/
def FULL (C : CHUNKS) : Prop := ∀ k gc rs, C k = some (gc, rs) → rs ≠ []
/-- the same but for the chunk K. -/
def FULLB (C : CHUNKS) (K : Nat) : Prop := ∀ k gc rs, k ≠ K → C k = some (gc, rs) → rs ≠ []
theorem FULL.but {C : CHUNKS} (h : FULL C) (K : Nat) : FULLB C K := fun k gc rs _ e => h k gc rs e
theorem FULLB.with {C : CHUNKS} {K gc : Nat} {rs : List ROW} (h : FULLB C K) : FULLB (WITH C K gc rs) K := fun k gc rs hk e => h k gc rs hk (by rw [WITH_ne hk] at e; exact e)
theorem FULLB.full {C : CHUNKS} {K gc : Nat} {rs : List ROW} (h : FULLB C K) (hr : rs ≠ []) : FULL (WITH C K gc rs) := fun k gc' rs' e => by
  by_cases hk : k = K
  · subst hk
    rw [WITH_at] at e
    cases e
    exact hr
  · rw [WITH_ne hk] at e
    exact h k gc' rs' hk e
theorem STORE.put {W W' : World} {B g log len alive N K gc p : Nat} {C : CHUNKS} {rs : List ROW} {h : Nat → Nat} (hS : STORE W B g log len alive N C) (hK : C K = some (gc, rs)) (hp : p / 2 ^ log = K) (hpl : p < len) (hP : PUTS W B gc p rs h W') :
    ∃ C', STORE (W'.setCell ⟨g, 2, none⟩ (.int .u64 ((alive + 1 : Nat) : Int))) B g log len (alive + 1) N C' ∧ (∀ p', AT C' log p' = if p' = p then some h else AT C log p') ∧ (TOP C p → TOP C' (p + 1)) ∧
      (∀ b, FOOT (W'.setCell ⟨g, 2, none⟩ (.int .u64 ((alive + 1 : Nat) : Int))) g C' b → FOOT W g C b ∨ W.heap.size ≤ b) ∧ (∀ b, b < W.heap.size → b ≠ g → ¬ FOOT W g C b → (W'.setCell ⟨g, 2, none⟩ (.int .u64 ((alive + 1 : Nat) : Int))).heap[b]? = W.heap[b]?) ∧
      (∀ i, i ≠ 2 → (W'.setCell ⟨g, 2, none⟩ (.int .u64 ((alive + 1 : Nat) : Int))).cell? ⟨g, i, none⟩ = W.cell? ⟨g, i, none⟩) ∧ W.heap.size ≤ (W'.setCell ⟨g, 2, none⟩ (.int .u64 ((alive + 1 : Nat) : Int))).heap.size ∧ (FULLB C K → FULL C') := by
  obtain ⟨rs', q1, q2, q3, q4, q5, q6, q7, q8⟩ := hP
  obtain ⟨cs, t, fr, k1, k2, k3, k4⟩ := hS.kind
  obtain ⟨a1, a2, a3⟩ := hS.chunk K gc rs hK
  obtain ⟨⟨_, y1⟩, y2, y3⟩ := a2.kinds
  have hgl := hS.lt
  -- the block of the store
  have hg : W'.heap[g]? = W.heap[g]? := q8 g hgl (other_kind k1 y1 k2) (fun v hv e => by obtain ⟨_, hc⟩ := y2 v g hv e; exact other_kind k1 hc k3 rfl) (fun r hr e => by obtain ⟨_, hc⟩ := y3 r hr; rw [e] at hc; exact other_kind k1 hc k4 rfl)
  have hcell : ∀ i, W'.cell? ⟨g, i, none⟩ = W.cell? ⟨g, i, none⟩ := fun i => World.cell?_of_block (w := W) (by exact hg)
  obtain ⟨w5, hw5⟩ : ∃ w5, W'.setCell ⟨g, 2, none⟩ (.int .u64 ((alive + 1 : Nat) : Int)) = w5 := ⟨_, rfl⟩
  rw [hw5]
  have hset : ∀ b, b ≠ g → w5.heap[b]? = W'.heap[b]? := fun b hb => by rw [← hw5]; exact Below.heap_setCell _ _ _ b (by exact hb)
  have hc5 : ∀ i, i ≠ 2 → w5.cell? ⟨g, i, none⟩ = W.cell? ⟨g, i, none⟩ := fun i hi => by rw [← hw5, set_off (fun e => hi e.symm)]; exact hcell i
  have hs5 : w5.heap.size = W'.heap.size := by rw [← hw5]; simp
  obtain ⟨mv, m1, m2, m3⟩ := hS.map
  -- blocks of another kind keep
  have keep : ∀ b c t' fr', W.heap[b]? = some (.cells c t' fr') → b ≠ g → b ≠ gc → (∀ v, W.cell? ⟨gc, 0, none⟩ = some v → v.ownBlock ≠ some b) → (∀ r ∈ rs, r.gh ≠ b) → w5.heap[b]? = W.heap[b]? := fun b c t' fr' hb e1 e2 e3 e4 => (hset b e1).trans (q8 b (Array.getElem?_eq_some_iff.1 hb).1 e2 e3 e4)
  -- the other chunks
  have hother : ∀ k gc' rk, k ≠ K → C k = some (gc', rk) → w5.heap[gc']? = W.heap[gc']? ∧ (∀ v b, W.cell? ⟨gc', 0, none⟩ = some v → v.ownBlock = some b → w5.heap[b]? = W.heap[b]?) ∧ ∀ r ∈ rk, w5.heap[r.gh]? = W.heap[r.gh]? := fun k gc' rk hk e => by
    obtain ⟨b1, b2, b3⟩ := hS.chunk k gc' rk e
    obtain ⟨⟨_, z1⟩, z2, z3⟩ := b2.kinds
    obtain ⟨o1, o2, o3⟩ := hS.one k K gc' gc rk rs hk e hK
    refine ⟨keep gc' _ _ _ z1 (fun e => other_kind k1 z1 k2 e.symm) o1 (fun v hv e => by obtain ⟨_, hc⟩ := y2 v _ hv e; exact other_kind z1 hc (by decide) rfl) (fun r hr e => by obtain ⟨_, hc⟩ := y3 r hr; rw [e] at hc; exact other_kind z1 hc (by decide) rfl), fun v b hv hb => ?_, fun r hr => ?_⟩
    · obtain ⟨_, hcb⟩ := z2 v b hv hb
      refine keep b _ _ _ hcb (fun e => other_kind k1 hcb k3 e.symm) (other_kind hcb y1 (by decide)) (fun v' hv' e => ?_) (fun r hr e => by obtain ⟨_, hc⟩ := y3 r hr; rw [e] at hc; exact other_kind hcb hc (by decide) rfl)
      rcases o3 v v' hv hv' with h | h
      · rw [hb] at h; cases h
      · exact h (hb.trans e.symm)
    · obtain ⟨_, hcr⟩ := z3 r hr
      exact keep r.gh _ _ _ hcr (fun e => other_kind k1 hcr k4 e.symm) (other_kind hcr y1 (by decide)) (fun v hv e => by obtain ⟨_, hc⟩ := y2 v _ hv e; exact other_kind hcr hc (by decide) rfl) (fun r' hr' e => o2 r hr r' hr' e.symm)
  have hocell : ∀ k gc' rk, k ≠ K → C k = some (gc', rk) → ∀ i, w5.cell? ⟨gc', i, none⟩ = W.cell? ⟨gc', i, none⟩ := fun k gc' rk hk e i => World.cell?_of_block (w := W) (by exact (hother k gc' rk hk e).1)
  -- the chunk itself
  obtain ⟨⟨_, x1⟩, x2, x3⟩ := q1.kinds
  have k1' : W'.heap[g]? = some (.cells cs t fr) := hg.trans k1
  have hgcg : gc ≠ g := fun e => other_kind k1' x1 k2 e.symm
  have hgcell : w5.cell? ⟨gc, 0, none⟩ = W'.cell? ⟨gc, 0, none⟩ := World.cell?_of_block (w := W') (by exact hset gc hgcg)
  have q1' : CHUNK w5 B gc rs' := q1.at (hset gc hgcg) (fun v b hv hb => by obtain ⟨_, hc⟩ := x2 v b hv hb; exact hset b (fun e => other_kind k1' hc k3 e.symm)) (fun r hr => by obtain ⟨_, hc⟩ := x3 r hr; exact hset r.gh (fun e => other_kind k1' hc k4 e.symm))
  obtain ⟨v0, hv0, ho0⟩ := a2.box
  have hv0c : W.cell? ⟨gc, 0, none⟩ = some v0 := hv0.cell 0
  have hone : ∀ k' gc' rk, k' ≠ K → C k' = some (gc', rk) → gc ≠ gc' ∧ (∀ r ∈ rs', ∀ r' ∈ rk, r.gh ≠ r'.gh) ∧ ∀ v v', w5.cell? ⟨gc, 0, none⟩ = some v → w5.cell? ⟨gc', 0, none⟩ = some v' → v.ownBlock = none ∨ v.ownBlock ≠ v'.ownBlock := fun k' gc' rk hk e => by
    obtain ⟨o1, o2, o3⟩ := hS.one K k' gc gc' rs rk (fun h => hk h.symm) hK e
    obtain ⟨_, z2, z3⟩ := (hS.chunk k' gc' rk e).2.1.kinds
    refine ⟨o1, fun r hr r' hr' => ?_, fun v v' hv hv' => ?_⟩
    · rcases q4 r hr with ⟨r0, h1, h2⟩ | h1
      · rw [← h2]; exact o2 r0 h1 r' hr'
      · obtain ⟨_, hc⟩ := z3 r' hr'
        have := (Array.getElem?_eq_some_iff.1 hc).1
        omega
    · rw [hgcell] at hv
      rw [hocell k' gc' rk hk e 0] at hv'
      rcases q5 v0 v hv0c hv with h1 | ⟨b, h1, h2⟩
      · rw [h1]; exact o3 v0 v' hv0c hv'
      · refine .inr (fun h => ?_)
        rw [h1] at h
        obtain ⟨_, hc⟩ := z2 v' b hv' h.symm
        have := (Array.getElem?_eq_some_iff.1 hc).1
        omega
  refine ⟨WITH C K gc rs', ⟨hS.small, hS.short, (hc5 0 (by decide)).trans hS.c0, (hc5 1 (by decide)).trans hS.c1, ?_, fun i hi => ?_, ?_, ?_, ?_, ?_⟩, ?_, ?_, ?_, ?_, hc5, by rw [hs5]; exact q6, fun hF => hF.full (fun e => by have := q2 p; rw [e, if_pos rfl] at this; cases this)⟩
  · rw [← hw5]
    exact World.cell?_setCell_same _ _ _ (by rw [hcell 2]; exact hS.c2)
  · rw [← hw5, World.frozen?_setCell]
    have := hS.live i hi
    unfold World.frozen? at this ⊢
    rw [show W'.heap[g]? = W.heap[g]? from hg]
    exact this
  · obtain ⟨cs', h1⟩ := set_kind (i := 2) k1' (.int .u64 ((alive + 1 : Nat) : Int))
    exact ⟨cs', t, fr, by rw [← hw5]; exact h1, k2, k3, k4⟩
  · refine ⟨mv, (hc5 3 (by decide)).trans m1, fun e k => ?_, fun b e => ?_⟩
    · have := m2 e K
      rw [hK] at this
      cases this
    · obtain ⟨c1, n, c2, c3⟩ := m3 b e
      refine ⟨c1, n, c2, ?_⟩
      have hM : (fun k => (WITH C K gc rs' k).map Prod.fst) = fun k => (C k).map Prod.fst := funext fun k => by
        by_cases e : k = K
        · subst e; rw [WITH_at, hK]; rfl
        · rw [WITH_ne e]
      rw [hM]
      refine c3.at ?_
      obtain ⟨D, ⟨es, clock, h1, _⟩, _⟩ := c3
      have hbc : ∀ {b' c t' fr'}, W.heap[b']? = some (.cells c t' fr') → b ≠ b' := fun h2 e => by rw [← e, h1] at h2; cases h2
      refine (hset b (hbc k1)).trans (q8 b (Array.getElem?_eq_some_iff.1 h1).1 (hbc y1) (fun v hv e => ?_) (fun r hr e => ?_))
      · obtain ⟨_, hc⟩ := y2 v b hv e
        exact hbc hc rfl
      · obtain ⟨_, hc⟩ := y3 r hr
        exact hbc hc e.symm
  · intro k gc' rk e
    by_cases ek : k = K
    · subst ek
      rw [WITH_at] at e
      cases e
      refine ⟨a1, q1', fun r hr j hj hb => ?_⟩
      rcases q3 r hr j hj hb with h1 | ⟨r0, h1, h2, h3⟩
      · rw [h1]; exact ⟨hp, hpl⟩
      · rw [← h2]; exact a3 r0 h1 j hj h3
    · rw [WITH_ne ek] at e
      obtain ⟨b1, b2, b3⟩ := hS.chunk k gc' rk e
      obtain ⟨d1, d2, d3⟩ := hother k gc' rk ek e
      exact ⟨b1, b2.at d1 d2 d3, b3⟩
  · intro k k' gk gk' rk rk' hne e e'
    by_cases ek : k = K
    · subst ek
      rw [WITH_at] at e
      cases e
      rw [WITH_ne (fun h => hne h.symm)] at e'
      exact hone k' gk' rk' (fun h => hne h.symm) e'
    · rw [WITH_ne ek] at e
      by_cases ek' : k' = K
      · subst ek'
        rw [WITH_at] at e'
        cases e'
        obtain ⟨o1, o2, o3⟩ := hone k gk rk ek e
        refine ⟨fun h => o1 h.symm, fun r hr r' hr' h => o2 r' hr' r hr h.symm, fun v v' hv hv' => ?_⟩
        rcases o3 v' v hv' hv with h | h
        · by_cases hn : v.ownBlock = none
          · exact .inl hn
          · exact .inr (fun e => hn (e.trans h))
        · exact .inr (fun e => h e.symm)
      · rw [WITH_ne ek'] at e'
        obtain ⟨o1, o2, o3⟩ := hS.one k k' gk gk' rk rk' hne e e'
        refine ⟨o1, o2, fun v v' hv hv' => o3 v v' ?_ ?_⟩
        · rw [← hocell k gk rk ek e 0]; exact hv
        · rw [← hocell k' gk' rk' ek' e' 0]; exact hv'
  · intro p'
    unfold AT
    by_cases ek : p' / 2 ^ log = K
    · rw [ek, WITH_at, hK]
      exact q2 p'
    · rw [WITH_ne ek, if_neg (fun e => ek (by rw [e]; exact hp))]
  · intro hT k gc' rk e r hr j hj hb
    by_cases ek : k = K
    · subst ek
      rw [WITH_at] at e
      cases e
      rcases q3 r hr j hj hb with h1 | ⟨r0, h1, h2, h3⟩
      · omega
      · rw [← h2]
        have := hT _ _ _ hK r0 h1 j hj h3
        omega
    · rw [WITH_ne ek] at e
      have := hT _ _ _ e r hr j hj hb
      omega
  · intro b hb
    rcases hb with h1 | ⟨k, gc', rk, e, h1⟩
    · left; left
      rw [← hc5 3 (by decide)]
      exact h1
    · by_cases ek : k = K
      · subst ek
        rw [WITH_at] at e
        cases e
        rcases h1 with h1 | ⟨v, hv, h1⟩ | ⟨r, hr, h1⟩
        · exact .inl (.inr ⟨_, _, _, hK, .inl h1⟩)
        · rw [hgcell] at hv
          rcases q5 v0 v hv0c hv with h2 | ⟨b', h2, h3⟩
          · exact .inl (.inr ⟨_, _, _, hK, .inr (.inl ⟨v0, hv0c, by rw [← h2]; exact h1⟩)⟩)
          · rw [h1] at h2
            cases h2
            exact .inr h3
        · rcases q4 r hr with ⟨r0, h2, h3⟩ | h2
          · exact .inl (.inr ⟨_, _, _, hK, .inr (.inr ⟨r0, h2, by rw [h3]; exact h1⟩)⟩)
          · rw [h1] at h2
            exact .inr h2
      · rw [WITH_ne ek] at e
        rcases h1 with h1 | ⟨v, hv, h1⟩ | h1
        · exact .inl (.inr ⟨_, _, _, e, .inl h1⟩)
        · rw [hocell k gc' rk ek e 0] at hv
          exact .inl (.inr ⟨_, _, _, e, .inr (.inl ⟨v, hv, h1⟩)⟩)
        · exact .inl (.inr ⟨_, _, _, e, .inr (.inr h1)⟩)
  · intro b hb hbg hf
    exact (hset b hbg).trans (q8 b hb (fun e => hf (.inr ⟨_, _, _, hK, .inl e⟩)) (fun v hv e => hf (.inr ⟨_, _, _, hK, .inr (.inl ⟨v, hv, e⟩)⟩)) (fun r hr e => hf (.inr ⟨_, _, _, hK, .inr (.inr ⟨r, hr, e⟩)⟩)))
end Go.Proofs.YtnplhejopmoopaaDoor.HX

/- A store that gets its map, or one chunk more; steps of a store. -/
namespace Go.Proofs.YtnplhejopmoopaaDoor.HX
open Go.RowKit Go.Maps
set_option maxRecDepth 100000

/-- what a step of a store leaves alone: all that is not its own. -/
structure STEP0 (w w' : World) (g : Nat) (C C' : CHUNKS) : Prop where
  foot : ∀ b, FOOT w' g C' b → FOOT w g C b ∨ w.heap.size ≤ b
  same : ∀ b, b < w.heap.size → b ≠ g → ¬ FOOT w g C b → w'.heap[b]? = w.heap[b]?
  size : w.heap.size ≤ w'.heap.size
  pins : ∀ i, 4 ≤ i → w'.cell? ⟨g, i, none⟩ = w.cell? ⟨g, i, none⟩
theorem STEP0.trans {w w' w'' : World} {g : Nat} {C C' C'' : CHUNKS} (h : STEP0 w w' g C C') (h' : STEP0 w' w'' g C' C'') : STEP0 w w'' g C C'' := by
  have hs := h.size
  refine ⟨fun b hb => ?_, fun b hb hg hf => ?_, Nat.le_trans h.size h'.size, fun i hi => (h'.pins i hi).trans (h.pins i hi)⟩
  · rcases h'.foot b hb with h1 | h1
    · exact h.foot b h1
    · exact .inr (by omega)
  · refine (h'.same b (by omega) hg (fun hf' => ?_)).trans (h.same b hb hg hf)
    rcases h.foot b hf' with h1 | h1
    · exact hf h1
    · omega
/-- the same, and no chunk is left without a row. -/
structure STEP (w w' : World) (g : Nat) (C C' : CHUNKS) : Prop extends STEP0 w w' g C C' where
  full : FULL C → FULL C'
theorem STEP.trans {w w' w'' : World} {g : Nat} {C C' C'' : CHUNKS} (h : STEP w w' g C C') (h' : STEP w' w'' g C' C'') : STEP w w'' g C C'' := ⟨h.toSTEP0.trans h'.toSTEP0, fun x => h'.full (h.full x)⟩
theorem STEP.of_with {w w' w'' : World} {g K gc : Nat} {C C' : CHUNKS} (h : STEP0 w w' g C (WITH C K gc [])) (h' : STEP w' w'' g (WITH C K gc []) C') (hF : FULLB (WITH C K gc []) K → FULL C') : STEP w w'' g C C' := ⟨h.trans h'.toSTEP0, fun x => hF (x.but K).with⟩
theorem STEP.below {w w' : World} {B g log len alive N : Nat} {C : CHUNKS} (hS : STORE w B g log len alive N C) (hb : Below w.heap.size w w') : STEP w w' g C C := by
  have hg := hS.lt
  have cell : ∀ i, w'.cell? ⟨g, i, none⟩ = w.cell? ⟨g, i, none⟩ := fun i => hb.cell (by exact hg)
  refine ⟨⟨fun b h => .inl ?_, fun b h _ _ => hb.block b h, hb.size, fun i _ => cell i⟩, id⟩
  rcases h with h | ⟨k, gc, rs, e, h⟩
  · left; rw [← cell 3]; exact h
  · refine .inr ⟨k, gc, rs, e, ?_⟩
    rcases h with h | ⟨v, hv, h⟩ | h
    · exact .inl h
    · obtain ⟨x, hx, _⟩ := (hS.chunk k gc rs e).2.1.box
      exact .inr (.inl ⟨v, by rw [← hv]; exact (hb.cell (by exact hx.lt)).symm, h⟩)
    · exact .inr (.inr h)
theorem STORE.put_step {W W' : World} {B g log len alive N K gc p : Nat} {C : CHUNKS} {rs : List ROW} {h : Nat → Nat} (hS : STORE W B g log len alive N C) (hK : C K = some (gc, rs)) (hp : p / 2 ^ log = K) (hpl : p < len) (hP : PUTS W B gc p rs h W') :
    ∃ C', STORE (W'.setCell ⟨g, 2, none⟩ (.int .u64 ((alive + 1 : Nat) : Int))) B g log len (alive + 1) N C' ∧ (∀ p', AT C' log p' = if p' = p then some h else AT C log p') ∧ (TOP C p → TOP C' (p + 1)) ∧ STEP W (W'.setCell ⟨g, 2, none⟩ (.int .u64 ((alive + 1 : Nat) : Int))) g C C' ∧ (FULLB C K → FULL C') := by
  obtain ⟨C', h1, h2, h3, h4, h5, h6, h7, h8⟩ := hS.put hK hp hpl hP
  exact ⟨C', h1, h2, h3, ⟨⟨h4, h5, h7, fun i hi => h6 i (by omega)⟩, fun x => h8 (x.but K)⟩, h8⟩
/-- one chunk more. -/
theorem STORE.turn {W w2 : World} {B g log len alive N K gc b : Nat} {C : CHUNKS} (hS : STORE W B g log len alive N C) (hm : W.cell? ⟨g, 3, none⟩ = some (.map (some b))) (hblk : ∀ x, x < W.heap.size → x ≠ b → w2.heap[x]? = W.heap[x]?) (hsz : W.heap.size ≤ w2.heap.size) (hgc : W.heap.size ≤ gc) (hbox : Has w2 gc #[.slice none 0 0] 115)
    (hM : ∃ n, n ≤ N + 1 ∧ ChunkMap w2 b n (fun j => if j = K then some gc else (C j).map Prod.fst)) (hCK : C K = none) (hK : K < 2 ^ 64) : STORE w2 B g log len alive (N + 1) (WITH C K gc []) ∧ (∀ p', AT (WITH C K gc []) log p' = AT C log p') ∧ (∀ p, TOP C p → TOP (WITH C K gc []) p) ∧ STEP0 W w2 g C (WITH C K gc []) := by
  obtain ⟨cs, t, fr, k1, k2, k3, k4⟩ := hS.kind
  obtain ⟨mv, m1, m2, m3⟩ := hS.map
  rw [hm] at m1
  have hmv : mv = some b := by cases Option.some.inj m1; rfl
  subst hmv
  obtain ⟨hBb, n0, _, hcm⟩ := m3 b rfl
  have hbl := hcm.lt
  obtain ⟨D, ⟨es, clock, hbm, _⟩, _⟩ := hcm
  have hbc : ∀ {b' c t' fr'}, W.heap[b']? = some (.cells c t' fr') → b' ≠ b := fun h2 e => by rw [e, hbm] at h2; cases h2
  have hlt : ∀ {b' : Nat} {o : Obj}, W.heap[b']? = some o → b' < W.heap.size := fun h => (Array.getElem?_eq_some_iff.1 h).1
  have hgb : w2.heap[g]? = W.heap[g]? := hblk g hS.lt (hbc k1)
  have cell : ∀ i, w2.cell? ⟨g, i, none⟩ = W.cell? ⟨g, i, none⟩ := fun i => World.cell?_of_block (w := W) (by exact hgb)
  have hch : ∀ k gc' rk, C k = some (gc', rk) → (w2.heap[gc']? = W.heap[gc']? ∧ (∀ v x, W.cell? ⟨gc', 0, none⟩ = some v → v.ownBlock = some x → w2.heap[x]? = W.heap[x]?) ∧ ∀ r ∈ rk, w2.heap[r.gh]? = W.heap[r.gh]?) ∧ gc' < W.heap.size := fun k gc' rk e => by
    obtain ⟨⟨_, z1⟩, z2, z3⟩ := (hS.chunk k gc' rk e).2.1.kinds
    refine ⟨⟨hblk _ (hlt z1) (hbc z1), fun v x hv hx => ?_, fun r hr => ?_⟩, hlt z1⟩
    · obtain ⟨_, hc⟩ := z2 v x hv hx
      exact hblk _ (hlt hc) (hbc hc)
    · obtain ⟨_, hc⟩ := z3 r hr
      exact hblk _ (hlt hc) (hbc hc)
  have hcc : ∀ k gc' rk, C k = some (gc', rk) → ∀ i, w2.cell? ⟨gc', i, none⟩ = W.cell? ⟨gc', i, none⟩ := fun k gc' rk e i => World.cell?_of_block (w := W) (by exact (hch k gc' rk e).1.1)
  have hgcell : w2.cell? ⟨gc, 0, none⟩ = some (.slice none 0 0) := hbox.cell 0
  have hC0 : CHUNK w2 B gc [] := ⟨⟨_, hbox, World.ownsRow_nil _ _ _ _⟩, by omega, by decide, fun i j r s _ h => (by simp at h), fun r hr => (by cases hr), fun i j r s _ h => (by simp at h), fun r hr => by cases hr⟩
  refine ⟨⟨hS.small, hS.short, (cell 0).trans hS.c0, (cell 1).trans hS.c1, (cell 2).trans hS.c2, fun i hi => ?_, ⟨cs, t, fr, hgb.trans k1, k2, k3, k4⟩, ?_, ?_, ?_⟩, ?_, ?_, ?_⟩
  · have := hS.live i hi
    unfold World.frozen? at this ⊢
    rw [show w2.heap[g]? = W.heap[g]? from hgb]
    exact this
  · refine ⟨some b, (cell 3).trans hm, (fun e => by cases e), fun b' e => ?_⟩
    cases e
    obtain ⟨n, h1, h2⟩ := hM
    refine ⟨hBb, n, h1, ?_⟩
    have hE : (fun k => (WITH C K gc [] k).map Prod.fst) = fun j => if j = K then some gc else (C j).map Prod.fst := funext fun j => by
      by_cases e : j = K
      · subst e; rw [WITH_at, if_pos rfl]; rfl
      · rw [WITH_ne e, if_neg e]
    rw [hE]
    exact h2
  · intro k gc' rk e
    by_cases ek : k = K
    · subst ek
      rw [WITH_at] at e
      cases e
      exact ⟨hK, hC0, fun r hr => by cases hr⟩
    · rw [WITH_ne ek] at e
      obtain ⟨b1, b2, b3⟩ := hS.chunk k gc' rk e
      obtain ⟨⟨d1, d2, d3⟩, _⟩ := hch k gc' rk e
      exact ⟨b1, b2.at d1 d2 d3, b3⟩
  · intro k k' gk gk' rk rk' hne e e'
    by_cases ek : k = K
    · subst ek
      rw [WITH_at] at e
      cases e
      rw [WITH_ne (fun h => hne h.symm)] at e'
      refine ⟨by have := (hch _ _ _ e').2; omega, fun r hr => (by cases hr), fun v v' hv _ => .inl ?_⟩
      rw [hgcell] at hv
      cases Option.some.inj hv
      rfl
    · rw [WITH_ne ek] at e
      by_cases ek' : k' = K
      · subst ek'
        rw [WITH_at] at e'
        cases e'
        refine ⟨by have := (hch _ _ _ e).2; omega, fun r _ r' hr' => (by cases hr'), fun v v' hv hv' => ?_⟩
        rw [hgcell] at hv'
        cases Option.some.inj hv'
        by_cases hn : v.ownBlock = none
        · exact .inl hn
        · exact .inr hn
      · rw [WITH_ne ek'] at e'
        obtain ⟨o1, o2, o3⟩ := hS.one k k' gk gk' rk rk' hne e e'
        refine ⟨o1, o2, fun v v' hv hv' => o3 v v' ?_ ?_⟩
        · rw [← hcc k gk rk e 0]; exact hv
        · rw [← hcc k' gk' rk' e' 0]; exact hv'
  · intro p'
    unfold AT
    by_cases ek : p' / 2 ^ log = K
    · rw [ek, WITH_at, hCK]
      rfl
    · rw [WITH_ne ek]
  · intro p hT k gc' rk e r hr j hj hb
    by_cases ek : k = K
    · subst ek
      rw [WITH_at] at e
      cases e
      cases hr
    · rw [WITH_ne ek] at e
      exact hT _ _ _ e r hr j hj hb
  · refine ⟨fun x hx => ?_, fun x hx hxg hf => hblk x hx (fun e => hf (.inl (by rw [e]; exact hm))), hsz, fun i _ => cell i⟩
    rcases hx with h | ⟨k, gc', rk, e, h⟩
    · left; left; rw [← cell 3]; exact h
    · by_cases ek : k = K
      · subst ek
        rw [WITH_at] at e
        cases e
        rcases h with h | ⟨v, hv, h⟩ | ⟨r, hr, _⟩
        · exact .inr (by omega)
        · rw [hgcell] at hv
          cases Option.some.inj hv
          cases h
        · cases hr
      · rw [WITH_ne ek] at e
        refine .inl (.inr ⟨k, gc', rk, e, ?_⟩)
        rcases h with h | ⟨v, hv, h⟩ | h
        · exact .inl h
        · exact .inr (.inl ⟨v, by rw [← hcc k gc' rk e 0]; exact hv, h⟩)
        · exact .inr (.inr h)
/-- the map of a store that had none. -/
theorem STORE.mapped {W : World} {B g log len alive N : Nat} {C : CHUNKS} (hS : STORE W B g log len alive N C) (hm : W.cell? ⟨g, 3, none⟩ = some (.map none)) (hB : B ≤ W.heap.size) : (∀ k, C k = none) ∧ STORE ((W.alloc (.map #[] 0)).setCell ⟨g, 3, none⟩ (.map (some W.heap.size))) B g log len alive N C ∧ STEP W ((W.alloc (.map #[] 0)).setCell ⟨g, 3, none⟩ (.map (some W.heap.size))) g C C := by
  obtain ⟨cs, t, fr, k1, k2, k3, k4⟩ := hS.kind
  obtain ⟨mv, m1, m2, m3⟩ := hS.map
  rw [hm] at m1
  have hmv : mv = none := by cases Option.some.inj m1; rfl
  have hC := m2 hmv
  have hg := hS.lt
  have hb : Below W.heap.size W (W.alloc (.map #[] 0)) := (Below.refl _ _).alloc (Nat.le_refl _) _
  have hS1 := hS.below hb
  obtain ⟨w2, hw2⟩ : ∃ w2, (W.alloc (.map #[] 0)).setCell ⟨g, 3, none⟩ (.map (some W.heap.size)) = w2 := ⟨_, rfl⟩
  rw [hw2]
  have hset : ∀ b, b ≠ g → w2.heap[b]? = (W.alloc (.map #[] 0)).heap[b]? := fun b hb => by rw [← hw2]; exact Below.heap_setCell _ _ _ b (by exact hb)
  have cell : ∀ i, i ≠ 3 → w2.cell? ⟨g, i, none⟩ = W.cell? ⟨g, i, none⟩ := fun i hi => by rw [← hw2, set_off (fun e => hi e.symm)]; exact hb.cell (by exact hg)
  have c3 : w2.cell? ⟨g, 3, none⟩ = some (.map (some W.heap.size)) := by rw [← hw2]; exact World.cell?_setCell_same _ _ _ ((hb.cell (by exact hg)).trans hm)
  refine ⟨hC, ⟨hS.small, hS.short, (cell 0 (by decide)).trans hS.c0, (cell 1 (by decide)).trans hS.c1, (cell 2 (by decide)).trans hS.c2, fun i hi => ?_, ?_, ?_, fun k gc rs e => (by rw [hC k] at e; cases e), fun k k' gc gc' rs rs' _ e => by rw [hC k] at e; cases e⟩, ?_⟩
  · rw [← hw2, World.frozen?_setCell]
    exact hS1.live i hi
  · obtain ⟨cs', h1⟩ := set_kind (i := 3) ((hb.block g hg).trans k1) (.map (some W.heap.size))
    exact ⟨cs', t, fr, by rw [← hw2]; exact h1, k2, k3, k4⟩
  · refine ⟨_, c3, (fun e => by cases e), fun b e => ?_⟩
    cases e
    refine ⟨hB, 0, Nat.zero_le _, ?_⟩
    have hE : (fun k => (C k).map Prod.fst) = fun _ => none := funext fun k => by rw [hC k]; rfl
    rw [hE]
    exact (ChunkMap.made W).at (hset _ (by omega))
  · refine ⟨⟨fun b h => ?_, fun b hb' hbg _ => (hset b hbg).trans (hb.block b hb'), ?_, fun i hi => cell i (by omega)⟩, id⟩
    · rcases h with h | ⟨k, gc, rs, e, _⟩
      · rw [c3] at h
        have h2 := Option.some.inj h
        cases h2
        exact .inr (Nat.le_refl _)
      · rw [hC k] at e; cases e
    · rw [← hw2]
      simp
end Go.Proofs.YtnplhejopmoopaaDoor.HX
