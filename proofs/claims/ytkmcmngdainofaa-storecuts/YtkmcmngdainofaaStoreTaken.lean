/- A store of which one node is taken. -/
import Derived.Test.YtkmcmngdainofaaStoreTakeOk
namespace Go.Proofs.Ytkmcmngdainofaa
open Go.RowKit Go.Maps
set_option maxRecDepth 100000

theorem STORE.take {W W' : World} {B g log len alive N K gc p : Nat} (a : Nat) {C : CHUNKS} {rs : List ROW} (hS : STORE W B g log len alive N C) (hK : C K = some (gc, rs)) (hp : p / 2 ^ log = K) (hpl : p < len) (hP : TAKES W B gc p rs W') :
    ∃ rs', STORE (W'.setCell ⟨g, 2, none⟩ (.int .u64 ((a : Nat) : Int))) B g log len a N (WITH C K gc rs') ∧ (∀ p', AT (WITH C K gc rs') log p' = if p' = p then none else AT C log p') ∧
      (∀ b, FOOT (W'.setCell ⟨g, 2, none⟩ (.int .u64 ((a : Nat) : Int))) g (WITH C K gc rs') b → FOOT W g C b ∨ W.heap.size ≤ b) ∧ (∀ b, b < W.heap.size → b ≠ g → ¬ FOOT W g C b → (W'.setCell ⟨g, 2, none⟩ (.int .u64 ((a : Nat) : Int))).heap[b]? = W.heap[b]?) ∧
      (∀ i, i ≠ 2 → (W'.setCell ⟨g, 2, none⟩ (.int .u64 ((a : Nat) : Int))).cell? ⟨g, i, none⟩ = W.cell? ⟨g, i, none⟩) ∧ W.heap.size ≤ (W'.setCell ⟨g, 2, none⟩ (.int .u64 ((a : Nat) : Int))).heap.size := by
  obtain ⟨rs', q1, q2, q0, q9, q6, q7, q8⟩ := hP
  have q3 : ∀ r ∈ rs', ∀ j, j < 64 → r.live.testBit j = true → r.num * 64 + j = p ∨ ∃ r0 ∈ rs, r0.num = r.num ∧ r0.live.testBit j = true := fun r hr j hj hb => by
    obtain ⟨r0, h1, h2, _, h4⟩ := q0 r hr
    exact .inr ⟨r0, h1, h2, h4 j hj hb⟩
  have q4 : ∀ r ∈ rs', (∃ r0 ∈ rs, r0.gh = r.gh) ∨ W.heap.size ≤ r.gh := fun r hr => by
    obtain ⟨r0, h1, _, h3, _⟩ := q0 r hr
    exact .inl ⟨r0, h1, h3⟩
  have q5 : ∀ v v', W.cell? ⟨gc, 0, none⟩ = some v → W'.cell? ⟨gc, 0, none⟩ = some v' → v'.ownBlock = v.ownBlock ∨ ∃ b, v'.ownBlock = some b ∧ W.heap.size ≤ b := fun v v' h1 h2 => .inl (q9 v v' h1 h2)
  obtain ⟨cs, t, fr, k1, k2, k3, k4⟩ := hS.kind
  obtain ⟨a1, a2, a3⟩ := hS.chunk K gc rs hK
  obtain ⟨⟨_, y1⟩, y2, y3⟩ := a2.kinds
  have hgl := hS.lt
  -- the block of the store
  have hg : W'.heap[g]? = W.heap[g]? := q8 g hgl (other_kind k1 y1 k2) (fun v hv e => by obtain ⟨_, hc⟩ := y2 v g hv e; exact other_kind k1 hc k3 rfl) (fun r hr e => by obtain ⟨_, hc⟩ := y3 r hr; rw [e] at hc; exact other_kind k1 hc k4 rfl)
  have hcell : ∀ i, W'.cell? ⟨g, i, none⟩ = W.cell? ⟨g, i, none⟩ := fun i => World.cell?_of_block (w := W) (by exact hg)
  obtain ⟨w5, hw5⟩ : ∃ w5, W'.setCell ⟨g, 2, none⟩ (.int .u64 ((a : Nat) : Int)) = w5 := ⟨_, rfl⟩
  rw [hw5]
  have hset : ∀ b, b ≠ g → w5.heap[b]? = W'.heap[b]? := fun b hb => by rw [← hw5]; exact Below.heap_setCell _ _ _ b (by exact hb)
  have hc5 : ∀ i, i ≠ 2 → w5.cell? ⟨g, i, none⟩ = W.cell? ⟨g, i, none⟩ := fun i hi => by rw [← hw5, set_off (fun e => hi e.symm)]; exact hcell i
  have hs5 : w5.heap.size = W'.heap.size := by rw [← hw5]; simp
  obtain ⟨mv, m1, m2, m3⟩ := hS.map
  -- blocks of another kind keep
  have keep : ∀ b c t' fr', W.heap[b]? = some (.cells c t' fr') → b ≠ g → b ≠ gc → (∀ v, W.cell? ⟨gc, 0, none⟩ = some v → v.ownBlock ≠ some b) → (∀ r ∈ rs, r.gh ≠ b) → w5.heap[b]? = W.heap[b]? := fun b c t' fr' hb e1 e2 e3 e4 => (hset b e1).trans (q8 b (Array.getElem?_eq_some_iff.1 hb).1 e2 e3 e4)
  -- the other chunks
  have hother : ∀ k gc' rk, k ≠ K → C k = some (gc', rk) → w5.heap[gc']? = W.heap[gc']? ∧ (∀ v b, W.cell? ⟨gc', 0, none⟩ = some v → v.ownBlock = some b → w5.heap[b]? = W.heap[b]?) ∧ ∀ r ∈ rk, w5.heap[r.gh]? = W.heap[r.gh]? := fun k gc' rk hk e => by
    obtain ⟨b1, b2, b3⟩ := hS.chunk k gc' rk e
    obtain ⟨⟨_, z1⟩, z2, z3⟩ := b2.kinds
    obtain ⟨o1, o2, o3⟩ := hS.one k K gc' gc rk rs hk e hK
    refine ⟨keep gc' _ _ _ z1 (fun e => other_kind k1 z1 k2 e.symm) o1 (fun v hv e => by obtain ⟨_, hc⟩ := y2 v _ hv e; exact other_kind z1 hc (by decide) rfl) (fun r hr e => by obtain ⟨_, hc⟩ := y3 r hr; rw [e] at hc; exact other_kind z1 hc (by decide) rfl), fun v b hv hb => ?_, fun r hr => ?_⟩
    · obtain ⟨_, hcb⟩ := z2 v b hv hb
      refine keep b _ _ _ hcb (fun e => other_kind k1 hcb k3 e.symm) (other_kind hcb y1 (by decide)) (fun v' hv' e => ?_) (fun r hr e => by obtain ⟨_, hc⟩ := y3 r hr; rw [e] at hc; exact other_kind hcb hc (by decide) rfl)
      rcases o3 v v' hv hv' with h | h
      · rw [hb] at h; cases h
      · exact h (hb.trans e.symm)
    · obtain ⟨_, hcr⟩ := z3 r hr
      exact keep r.gh _ _ _ hcr (fun e => other_kind k1 hcr k4 e.symm) (other_kind hcr y1 (by decide)) (fun v hv e => by obtain ⟨_, hc⟩ := y2 v _ hv e; exact other_kind hcr hc (by decide) rfl) (fun r' hr' e => o2 r hr r' hr' e.symm)
  have hocell : ∀ k gc' rk, k ≠ K → C k = some (gc', rk) → ∀ i, w5.cell? ⟨gc', i, none⟩ = W.cell? ⟨gc', i, none⟩ := fun k gc' rk hk e i => World.cell?_of_block (w := W) (by exact (hother k gc' rk hk e).1)
  -- the chunk itself
  obtain ⟨⟨_, x1⟩, x2, x3⟩ := q1.kinds
  have k1' : W'.heap[g]? = some (.cells cs t fr) := hg.trans k1
  have hgcg : gc ≠ g := fun e => other_kind k1' x1 k2 e.symm
  have hgcell : w5.cell? ⟨gc, 0, none⟩ = W'.cell? ⟨gc, 0, none⟩ := World.cell?_of_block (w := W') (by exact hset gc hgcg)
  have q1' : CHUNK w5 B gc rs' := q1.at (hset gc hgcg) (fun v b hv hb => by obtain ⟨_, hc⟩ := x2 v b hv hb; exact hset b (fun e => other_kind k1' hc k3 e.symm)) (fun r hr => by obtain ⟨_, hc⟩ := x3 r hr; exact hset r.gh (fun e => other_kind k1' hc k4 e.symm))
  obtain ⟨v0, hv0, ho0⟩ := a2.box
  have hv0c : W.cell? ⟨gc, 0, none⟩ = some v0 := hv0.cell 0
  have hone : ∀ k' gc' rk, k' ≠ K → C k' = some (gc', rk) → gc ≠ gc' ∧ (∀ r ∈ rs', ∀ r' ∈ rk, r.gh ≠ r'.gh) ∧ ∀ v v', w5.cell? ⟨gc, 0, none⟩ = some v → w5.cell? ⟨gc', 0, none⟩ = some v' → v.ownBlock = none ∨ v.ownBlock ≠ v'.ownBlock := fun k' gc' rk hk e => by
    obtain ⟨o1, o2, o3⟩ := hS.one K k' gc gc' rs rk (fun h => hk h.symm) hK e
    obtain ⟨_, z2, z3⟩ := (hS.chunk k' gc' rk e).2.1.kinds
    refine ⟨o1, fun r hr r' hr' => ?_, fun v v' hv hv' => ?_⟩
    · rcases q4 r hr with ⟨r0, h1, h2⟩ | h1
      · rw [← h2]; exact o2 r0 h1 r' hr'
      · obtain ⟨_, hc⟩ := z3 r' hr'
        have := (Array.getElem?_eq_some_iff.1 hc).1
        omega
    · rw [hgcell] at hv
      rw [hocell k' gc' rk hk e 0] at hv'
      rcases q5 v0 v hv0c hv with h1 | ⟨b, h1, h2⟩
      · rw [h1]; exact o3 v0 v' hv0c hv'
      · refine .inr (fun h => ?_)
        rw [h1] at h
        obtain ⟨_, hc⟩ := z2 v' b hv' h.symm
        have := (Array.getElem?_eq_some_iff.1 hc).1
        omega
  refine ⟨rs', ⟨hS.small, hS.short, (hc5 0 (by decide)).trans hS.c0, (hc5 1 (by decide)).trans hS.c1, ?_, fun i hi => ?_, ?_, ?_, ?_, ?_⟩, ?_, ?_, ?_, hc5, by rw [hs5]; exact q6⟩
  · rw [← hw5]
    exact World.cell?_setCell_same _ _ _ (by rw [hcell 2]; exact hS.c2)
  · rw [← hw5, World.frozen?_setCell]
    have := hS.live i hi
    unfold World.frozen? at this ⊢
    rw [show W'.heap[g]? = W.heap[g]? from hg]
    exact this
  · obtain ⟨cs', h1⟩ := set_kind (i := 2) k1' (.int .u64 ((a : Nat) : Int))
    exact ⟨cs', t, fr, by rw [← hw5]; exact h1, k2, k3, k4⟩
  · refine ⟨mv, (hc5 3 (by decide)).trans m1, fun e k => ?_, fun b e => ?_⟩
    · have := m2 e K
      rw [hK] at this
      cases this
    · obtain ⟨c1, n, c2, c3⟩ := m3 b e
      refine ⟨c1, n, c2, ?_⟩
      have hM : (fun k => (WITH C K gc rs' k).map Prod.fst) = fun k => (C k).map Prod.fst := funext fun k => by
        by_cases e : k = K
        · subst e; rw [WITH_at, hK]; rfl
        · rw [WITH_ne e]
      rw [hM]
      refine c3.at ?_
      obtain ⟨D, ⟨es, clock, h1, _⟩, _⟩ := c3
      have hbc : ∀ {b' c t' fr'}, W.heap[b']? = some (.cells c t' fr') → b ≠ b' := fun h2 e => by rw [← e, h1] at h2; cases h2
      refine (hset b (hbc k1)).trans (q8 b (Array.getElem?_eq_some_iff.1 h1).1 (hbc y1) (fun v hv e => ?_) (fun r hr e => ?_))
      · obtain ⟨_, hc⟩ := y2 v b hv e
        exact hbc hc rfl
      · obtain ⟨_, hc⟩ := y3 r hr
        exact hbc hc e.symm
  · intro k gc' rk e
    by_cases ek : k = K
    · subst ek
      rw [WITH_at] at e
      cases e
      refine ⟨a1, q1', fun r hr j hj hb => ?_⟩
      rcases q3 r hr j hj hb with h1 | ⟨r0, h1, h2, h3⟩
      · rw [h1]; exact ⟨hp, hpl⟩
      · rw [← h2]; exact a3 r0 h1 j hj h3
    · rw [WITH_ne ek] at e
      obtain ⟨b1, b2, b3⟩ := hS.chunk k gc' rk e
      obtain ⟨d1, d2, d3⟩ := hother k gc' rk ek e
      exact ⟨b1, b2.at d1 d2 d3, b3⟩
  · intro k k' gk gk' rk rk' hne e e'
    by_cases ek : k = K
    · subst ek
      rw [WITH_at] at e
      cases e
      rw [WITH_ne (fun h => hne h.symm)] at e'
      exact hone k' gk' rk' (fun h => hne h.symm) e'
    · rw [WITH_ne ek] at e
      by_cases ek' : k' = K
      · subst ek'
        rw [WITH_at] at e'
        cases e'
        obtain ⟨o1, o2, o3⟩ := hone k gk rk ek e
        refine ⟨fun h => o1 h.symm, fun r hr r' hr' h => o2 r' hr' r hr h.symm, fun v v' hv hv' => ?_⟩
        rcases o3 v' v hv' hv with h | h
        · by_cases hn : v.ownBlock = none
          · exact .inl hn
          · exact .inr (fun e => hn (e.trans h))
        · exact .inr (fun e => h e.symm)
      · rw [WITH_ne ek'] at e'
        obtain ⟨o1, o2, o3⟩ := hS.one k k' gk gk' rk rk' hne e e'
        refine ⟨o1, o2, fun v v' hv hv' => o3 v v' ?_ ?_⟩
        · rw [← hocell k gk rk ek e 0]; exact hv
        · rw [← hocell k' gk' rk' ek' e' 0]; exact hv'
  · intro p'
    unfold AT
    by_cases ek : p' / 2 ^ log = K
    · rw [ek, WITH_at, hK]
      exact q2 p'
    · rw [WITH_ne ek, if_neg (fun e => ek (by rw [e]; exact hp))]
  · intro b hb
    rcases hb with h1 | ⟨k, gc', rk, e, h1⟩
    · left; left
      rw [← hc5 3 (by decide)]
      exact h1
    · by_cases ek : k = K
      · subst ek
        rw [WITH_at] at e
        cases e
        rcases h1 with h1 | ⟨v, hv, h1⟩ | ⟨r, hr, h1⟩
        · exact .inl (.inr ⟨_, _, _, hK, .inl h1⟩)
        · rw [hgcell] at hv
          rcases q5 v0 v hv0c hv with h2 | ⟨b', h2, h3⟩
          · exact .inl (.inr ⟨_, _, _, hK, .inr (.inl ⟨v0, hv0c, by rw [← h2]; exact h1⟩)⟩)
          · rw [h1] at h2
            cases h2
            exact .inr h3
        · rcases q4 r hr with ⟨r0, h2, h3⟩ | h2
          · exact .inl (.inr ⟨_, _, _, hK, .inr (.inr ⟨r0, h2, by rw [h3]; exact h1⟩)⟩)
          · rw [h1] at h2
            exact .inr h2
      · rw [WITH_ne ek] at e
        rcases h1 with h1 | ⟨v, hv, h1⟩ | h1
        · exact .inl (.inr ⟨_, _, _, e, .inl h1⟩)
        · rw [hocell k gc' rk ek e 0] at hv
          exact .inl (.inr ⟨_, _, _, e, .inr (.inl ⟨v, hv, h1⟩)⟩)
        · exact .inl (.inr ⟨_, _, _, e, .inr (.inr h1)⟩)
  · intro b hb hbg hf
    exact (hset b hbg).trans (q8 b hb (fun e => hf (.inr ⟨_, _, _, hK, .inl e⟩)) (fun v hv e => hf (.inr ⟨_, _, _, hK, .inr (.inl ⟨v, hv, e⟩)⟩)) (fun r hr e => hf (.inr ⟨_, _, _, hK, .inr (.inr ⟨r, hr, e⟩)⟩)))
theorem ChunkMap.drop {w : World} {b n k : Nat} {M : Nat → Option Nat} (h : ChunkMap w b n M) (hk : k < 2 ^ 64) (ty : TypeId) : ∃ w', (Builtin.delete_ #[44, 51] ty #[.map (some b), KEY k]).run Try.prog w = .ok (.tuple #[]) w' ∧ ChunkMap w' b n (fun j => if j = k then none else M j) ∧ w.mapTurned w' b := by
  obtain ⟨D, h1, h2⟩ := h
  obtain ⟨w', r1, r2, r3⟩ := h1.drop lawKey Try.underlying44 (keyk_ok hk) ty
  refine ⟨w', r1, ⟨_, r2, fun j hj => ?_⟩, r3⟩
  dsimp only
  by_cases e : j = k
  · subst e
    rw [if_pos rfl]
    exact ⟨by rw [Maps.has_del_same]; rfl, fun g' hg' => by cases hg'⟩
  · have hne : KK j ≠ KK k := fun h => e (KK_inj hj hk h)
    rw [if_neg e, Maps.has_del_other hne, Maps.atKey_del_other hne]
    exact h2 j hj
/-- without a chunk. -/
def WITHOUT (C : CHUNKS) (K : Nat) : CHUNKS := fun j => if j = K then none else C j
theorem WITHOUT_at {C : CHUNKS} {K : Nat} : WITHOUT C K K = none := if_pos rfl
theorem WITHOUT_ne {C : CHUNKS} {K j : Nat} (h : j ≠ K) : WITHOUT C K j = C j := if_neg h
theorem WITHOUT_some {C : CHUNKS} {K j : Nat} {x : Nat × List ROW} (h : WITHOUT C K j = some x) : j ≠ K ∧ C j = some x := by
  by_cases e : j = K
  · subst e; rw [WITHOUT_at] at h; cases h
  · rw [WITHOUT_ne e] at h; exact ⟨e, h⟩
/-- one chunk less. -/
theorem STORE.drop {W w2 : World} {B g log len alive N K gc b : Nat} {C : CHUNKS} (hS : STORE W B g log len alive N C) (hK : C K = some (gc, [])) (hm : W.cell? ⟨g, 3, none⟩ = some (.map (some b))) (hblk : ∀ x, x < W.heap.size → x ≠ b → w2.heap[x]? = W.heap[x]?) (hsz : W.heap.size ≤ w2.heap.size)
    (hM : ∃ n, n ≤ N ∧ ChunkMap w2 b n (fun j => if j = K then none else (C j).map Prod.fst)) : STORE w2 B g log len alive N (WITHOUT C K) ∧ (∀ p', AT (WITHOUT C K) log p' = AT C log p') ∧ STEP0 W w2 g C (WITHOUT C K) := by
  obtain ⟨cs, t, fr, k1, k2, k3, k4⟩ := hS.kind
  obtain ⟨mv, m1, m2, m3⟩ := hS.map
  rw [hm] at m1
  have hmv : mv = some b := by cases Option.some.inj m1; rfl
  subst hmv
  obtain ⟨hBb, n0, _, hcm⟩ := m3 b rfl
  have hbl := hcm.lt
  obtain ⟨D, ⟨es, clock, hbm, _⟩, _⟩ := hcm
  have hbc : ∀ {b' c t' fr'}, W.heap[b']? = some (.cells c t' fr') → b' ≠ b := fun h2 e => by rw [e, hbm] at h2; cases h2
  have hlt : ∀ {b' : Nat} {o : Obj}, W.heap[b']? = some o → b' < W.heap.size := fun h => (Array.getElem?_eq_some_iff.1 h).1
  have hgb : w2.heap[g]? = W.heap[g]? := hblk g hS.lt (hbc k1)
  have cell : ∀ i, w2.cell? ⟨g, i, none⟩ = W.cell? ⟨g, i, none⟩ := fun i => World.cell?_of_block (w := W) (by exact hgb)
  have hch : ∀ k gc' rk, C k = some (gc', rk) → (w2.heap[gc']? = W.heap[gc']? ∧ (∀ v x, W.cell? ⟨gc', 0, none⟩ = some v → v.ownBlock = some x → w2.heap[x]? = W.heap[x]?) ∧ ∀ r ∈ rk, w2.heap[r.gh]? = W.heap[r.gh]?) ∧ gc' < W.heap.size := fun k gc' rk e => by
    obtain ⟨⟨_, z1⟩, z2, z3⟩ := (hS.chunk k gc' rk e).2.1.kinds
    refine ⟨⟨hblk _ (hlt z1) (hbc z1), fun v x hv hx => ?_, fun r hr => ?_⟩, hlt z1⟩
    · obtain ⟨_, hc⟩ := z2 v x hv hx
      exact hblk _ (hlt hc) (hbc hc)
    · obtain ⟨_, hc⟩ := z3 r hr
      exact hblk _ (hlt hc) (hbc hc)
  have hcc : ∀ k gc' rk, C k = some (gc', rk) → ∀ i, w2.cell? ⟨gc', i, none⟩ = W.cell? ⟨gc', i, none⟩ := fun k gc' rk e i => World.cell?_of_block (w := W) (by exact (hch k gc' rk e).1.1)
  refine ⟨⟨hS.small, hS.short, (cell 0).trans hS.c0, (cell 1).trans hS.c1, (cell 2).trans hS.c2, fun i hi => ?_, ⟨cs, t, fr, hgb.trans k1, k2, k3, k4⟩, ?_, ?_, ?_⟩, ?_, ?_⟩
  · have := hS.live i hi
    unfold World.frozen? at this ⊢
    rw [show w2.heap[g]? = W.heap[g]? from hgb]
    exact this
  · refine ⟨some b, (cell 3).trans hm, (fun e => by cases e), fun b' e => ?_⟩
    cases e
    obtain ⟨n, h1, h2⟩ := hM
    refine ⟨hBb, n, h1, ?_⟩
    have hE : (fun k => (WITHOUT C K k).map Prod.fst) = fun j => if j = K then none else (C j).map Prod.fst := funext fun j => by
      by_cases e : j = K
      · subst e; rw [WITHOUT_at, if_pos rfl]; rfl
      · rw [WITHOUT_ne e, if_neg e]
    rw [hE]
    exact h2
  · intro k gc' rk e
    obtain ⟨_, e⟩ := WITHOUT_some e
    obtain ⟨b1, b2, b3⟩ := hS.chunk k gc' rk e
    obtain ⟨⟨d1, d2, d3⟩, _⟩ := hch k gc' rk e
    exact ⟨b1, b2.at d1 d2 d3, b3⟩
  · intro k k' gk gk' rk rk' hne e e'
    obtain ⟨_, e⟩ := WITHOUT_some e
    obtain ⟨_, e'⟩ := WITHOUT_some e'
    obtain ⟨o1, o2, o3⟩ := hS.one k k' gk gk' rk rk' hne e e'
    refine ⟨o1, o2, fun v v' hv hv' => o3 v v' ?_ ?_⟩
    · rw [← hcc k gk rk e 0]; exact hv
    · rw [← hcc k' gk' rk' e' 0]; exact hv'
  · intro p'
    unfold AT
    by_cases ek : p' / 2 ^ log = K
    · rw [ek, WITHOUT_at, hK]
      rfl
    · rw [WITHOUT_ne ek]
  · refine ⟨fun x hx => .inl ?_, fun x hx hxg hf => hblk x hx (fun e => hf (.inl (by rw [e]; exact hm))), hsz, fun i _ => cell i⟩
    rcases hx with h | ⟨k, gc', rk, e, h⟩
    · left; rw [← cell 3]; exact h
    · obtain ⟨_, e⟩ := WITHOUT_some e
      refine .inr ⟨k, gc', rk, e, ?_⟩
      rcases h with h | ⟨v, hv, h⟩ | h
      · exact .inl h
      · exact .inr (.inl ⟨v, by rw [← hcc k gc' rk e 0]; exact hv, h⟩)
      · exact .inr (.inr h)
end Go.Proofs.Ytkmcmngdainofaa
