/- Texts of StoreBacks, one behind the other: StoreTaken, StoreTakeCall, StoreDrop, StoreCount. -/
import Derived.Maps.Ext
import Derived.Test.YtkhpaldbdpfpiaaStoreBacksP14
/- A store of which one node is taken. -/
namespace Go.Proofs.Ytkhpaldbdpfpiaa
open Go.RowKit Go.Maps
set_option maxRecDepth 100000

theorem STORE.take {W W' : World} {B g log len alive N K gc p : Nat} (a : Nat) {C : CHUNKS} {rs : List ROW} (hS : STORE W B g log len alive N C) (hK : C K = some (gc, rs)) (hp : p / 2 ^ log = K) (hpl : p < len) (hP : TAKES W B gc p rs W') :
    ∃ rs', STORE (W'.setCell ⟨g, 2, none⟩ (.int .u64 ((a : Nat) : Int))) B g log len a N (WITH C K gc rs') ∧ (∀ p', AT (WITH C K gc rs') log p' = if p' = p then none else AT C log p') ∧
      (∀ b, FOOT (W'.setCell ⟨g, 2, none⟩ (.int .u64 ((a : Nat) : Int))) g (WITH C K gc rs') b → FOOT W g C b ∨ W.heap.size ≤ b) ∧ (∀ b, b < W.heap.size → b ≠ g → ¬ FOOT W g C b → (W'.setCell ⟨g, 2, none⟩ (.int .u64 ((a : Nat) : Int))).heap[b]? = W.heap[b]?) ∧
      (∀ i, i ≠ 2 → (W'.setCell ⟨g, 2, none⟩ (.int .u64 ((a : Nat) : Int))).cell? ⟨g, i, none⟩ = W.cell? ⟨g, i, none⟩) ∧ W.heap.size ≤ (W'.setCell ⟨g, 2, none⟩ (.int .u64 ((a : Nat) : Int))).heap.size := by
  obtain ⟨rs', q1, q2, q0, q9, q6, q7, q8⟩ := hP
  have q3 : ∀ r ∈ rs', ∀ j, j < 64 → r.live.testBit j = true → r.num * 64 + j = p ∨ ∃ r0 ∈ rs, r0.num = r.num ∧ r0.live.testBit j = true := fun r hr j hj hb => by
    obtain ⟨r0, h1, h2, _, h4⟩ := q0 r hr
    exact .inr ⟨r0, h1, h2, h4 j hj hb⟩
  have q4 : ∀ r ∈ rs', (∃ r0 ∈ rs, r0.gh = r.gh) ∨ W.heap.size ≤ r.gh := fun r hr => by
    obtain ⟨r0, h1, _, h3, _⟩ := q0 r hr
    exact .inl ⟨r0, h1, h3⟩
  have q5 : ∀ v v', W.cell? ⟨gc, 0, none⟩ = some v → W'.cell? ⟨gc, 0, none⟩ = some v' → v'.ownBlock = v.ownBlock ∨ ∃ b, v'.ownBlock = some b ∧ W.heap.size ≤ b := fun v v' h1 h2 => .inl (q9 v v' h1 h2)
  obtain ⟨cs, t, fr, k1, k2, k3, k4⟩ := hS.kind
  obtain ⟨a1, a2, a3⟩ := hS.chunk K gc rs hK
  obtain ⟨⟨_, y1⟩, y2, y3⟩ := a2.kinds
  have hgl := hS.lt
  -- the block of the store
  have hg : W'.heap[g]? = W.heap[g]? := q8 g hgl (other_kind k1 y1 k2) (fun v hv e => by obtain ⟨_, hc⟩ := y2 v g hv e; exact other_kind k1 hc k3 rfl) (fun r hr e => by obtain ⟨_, hc⟩ := y3 r hr; rw [e] at hc; exact other_kind k1 hc k4 rfl)
  have hcell : ∀ i, W'.cell? ⟨g, i, none⟩ = W.cell? ⟨g, i, none⟩ := fun i => World.cell?_of_block (w := W) (by exact hg)
  obtain ⟨w5, hw5⟩ : ∃ w5, W'.setCell ⟨g, 2, none⟩ (.int .u64 ((a : Nat) : Int)) = w5 := ⟨_, rfl⟩
  rw [hw5]
  have hset : ∀ b, b ≠ g → w5.heap[b]? = W'.heap[b]? := fun b hb => by rw [← hw5]; exact Below.heap_setCell _ _ _ b (by exact hb)
  have hc5 : ∀ i, i ≠ 2 → w5.cell? ⟨g, i, none⟩ = W.cell? ⟨g, i, none⟩ := fun i hi => by rw [← hw5, set_off (fun e => hi e.symm)]; exact hcell i
  have hs5 : w5.heap.size = W'.heap.size := by rw [← hw5]; simp
  obtain ⟨mv, m1, m2, m3⟩ := hS.map
  -- blocks of another kind keep
  have keep : ∀ b c t' fr', W.heap[b]? = some (.cells c t' fr') → b ≠ g → b ≠ gc → (∀ v, W.cell? ⟨gc, 0, none⟩ = some v → v.ownBlock ≠ some b) → (∀ r ∈ rs, r.gh ≠ b) → w5.heap[b]? = W.heap[b]? := fun b c t' fr' hb e1 e2 e3 e4 => (hset b e1).trans (q8 b (Array.getElem?_eq_some_iff.1 hb).1 e2 e3 e4)
  -- the other chunks
  have hother : ∀ k gc' rk, k ≠ K → C k = some (gc', rk) → w5.heap[gc']? = W.heap[gc']? ∧ (∀ v b, W.cell? ⟨gc', 0, none⟩ = some v → v.ownBlock = some b → w5.heap[b]? = W.heap[b]?) ∧ ∀ r ∈ rk, w5.heap[r.gh]? = W.heap[r.gh]? := fun k gc' rk hk e => by
    obtain ⟨b1, b2, b3⟩ := hS.chunk k gc' rk e
    obtain ⟨⟨_, z1⟩, z2, z3⟩ := b2.kinds
    obtain ⟨o1, o2, o3⟩ := hS.one k K gc' gc rk rs hk e hK
    refine ⟨keep gc' _ _ _ z1 (fun e => other_kind k1 z1 k2 e.symm) o1 (fun v hv e => by obtain ⟨_, hc⟩ := y2 v _ hv e; exact other_kind z1 hc (by decide) rfl) (fun r hr e => by obtain ⟨_, hc⟩ := y3 r hr; rw [e] at hc; exact other_kind z1 hc (by decide) rfl), fun v b hv hb => ?_, fun r hr => ?_⟩
    · obtain ⟨_, hcb⟩ := z2 v b hv hb
      refine keep b _ _ _ hcb (fun e => other_kind k1 hcb k3 e.symm) (other_kind hcb y1 (by decide)) (fun v' hv' e => ?_) (fun r hr e => by obtain ⟨_, hc⟩ := y3 r hr; rw [e] at hc; exact other_kind hcb hc (by decide) rfl)
      rcases o3 v v' hv hv' with h | h
      · rw [hb] at h; cases h
      · exact h (hb.trans e.symm)
    · obtain ⟨_, hcr⟩ := z3 r hr
      exact keep r.gh _ _ _ hcr (fun e => other_kind k1 hcr k4 e.symm) (other_kind hcr y1 (by decide)) (fun v hv e => by obtain ⟨_, hc⟩ := y2 v _ hv e; exact other_kind hcr hc (by decide) rfl) (fun r' hr' e => o2 r hr r' hr' e.symm)
  have hocell : ∀ k gc' rk, k ≠ K → C k = some (gc', rk) → ∀ i, w5.cell? ⟨gc', i, none⟩ = W.cell? ⟨gc', i, none⟩ := fun k gc' rk hk e i => World.cell?_of_block (w := W) (by exact (hother k gc' rk hk e).1)
  -- the chunk itself
  obtain ⟨⟨_, x1⟩, x2, x3⟩ := q1.kinds
  have k1' : W'.heap[g]? = some (.cells cs t fr) := hg.trans k1
  have hgcg : gc ≠ g := fun e => other_kind k1' x1 k2 e.symm
  have hgcell : w5.cell? ⟨gc, 0, none⟩ = W'.cell? ⟨gc, 0, none⟩ := World.cell?_of_block (w := W') (by exact hset gc hgcg)
  have q1' : CHUNK w5 B gc rs' := q1.at (hset gc hgcg) (fun v b hv hb => by obtain ⟨_, hc⟩ := x2 v b hv hb; exact hset b (fun e => other_kind k1' hc k3 e.symm)) (fun r hr => by obtain ⟨_, hc⟩ := x3 r hr; exact hset r.gh (fun e => other_kind k1' hc k4 e.symm))
  obtain ⟨v0, hv0, ho0⟩ := a2.box
  have hv0c : W.cell? ⟨gc, 0, none⟩ = some v0 := hv0.cell 0
  have hone : ∀ k' gc' rk, k' ≠ K → C k' = some (gc', rk) → gc ≠ gc' ∧ (∀ r ∈ rs', ∀ r' ∈ rk, r.gh ≠ r'.gh) ∧ ∀ v v', w5.cell? ⟨gc, 0, none⟩ = some v → w5.cell? ⟨gc', 0, none⟩ = some v' → v.ownBlock = none ∨ v.ownBlock ≠ v'.ownBlock := fun k' gc' rk hk e => by
    obtain ⟨o1, o2, o3⟩ := hS.one K k' gc gc' rs rk (fun h => hk h.symm) hK e
    obtain ⟨_, z2, z3⟩ := (hS.chunk k' gc' rk e).2.1.kinds
    refine ⟨o1, fun r hr r' hr' => ?_, fun v v' hv hv' => ?_⟩
    · rcases q4 r hr with ⟨r0, h1, h2⟩ | h1
      · rw [← h2]; exact o2 r0 h1 r' hr'
      · obtain ⟨_, hc⟩ := z3 r' hr'
        have := (Array.getElem?_eq_some_iff.1 hc).1
        omega
    · rw [hgcell] at hv
      rw [hocell k' gc' rk hk e 0] at hv'
      rcases q5 v0 v hv0c hv with h1 | ⟨b, h1, h2⟩
      · rw [h1]; exact o3 v0 v' hv0c hv'
      · refine .inr (fun h => ?_)
        rw [h1] at h
        obtain ⟨_, hc⟩ := z2 v' b hv' h.symm
        have := (Array.getElem?_eq_some_iff.1 hc).1
        omega
  refine ⟨rs', ⟨hS.small, hS.short, (hc5 0 (by decide)).trans hS.c0, (hc5 1 (by decide)).trans hS.c1, ?_, fun i hi => ?_, ?_, ?_, ?_, ?_⟩, ?_, ?_, ?_, hc5, by rw [hs5]; exact q6⟩
  · rw [← hw5]
    exact World.cell?_setCell_same _ _ _ (by rw [hcell 2]; exact hS.c2)
  · rw [← hw5, World.frozen?_setCell]
    have := hS.live i hi
    unfold World.frozen? at this ⊢
    rw [show W'.heap[g]? = W.heap[g]? from hg]
    exact this
  · obtain ⟨cs', h1⟩ := set_kind (i := 2) k1' (.int .u64 ((a : Nat) : Int))
    exact ⟨cs', t, fr, by rw [← hw5]; exact h1, k2, k3, k4⟩
  · refine ⟨mv, (hc5 3 (by decide)).trans m1, fun e k => ?_, fun b e => ?_⟩
    · have := m2 e K
      rw [hK] at this
      cases this
    · obtain ⟨c1, n, c2, c3⟩ := m3 b e
      refine ⟨c1, n, c2, ?_⟩
      have hM : (fun k => (WITH C K gc rs' k).map Prod.fst) = fun k => (C k).map Prod.fst := funext fun k => by
        by_cases e : k = K
        · subst e; rw [WITH_at, hK]; rfl
        · rw [WITH_ne e]
      rw [hM]
      refine c3.at ?_
      obtain ⟨D, ⟨es, clock, h1, _⟩, _⟩ := c3
      have hbc : ∀ {b' c t' fr'}, W.heap[b']? = some (.cells c t' fr') → b ≠ b' := fun h2 e => by rw [← e, h1] at h2; cases h2
      refine (hset b (hbc k1)).trans (q8 b (Array.getElem?_eq_some_iff.1 h1).1 (hbc y1) (fun v hv e => ?_) (fun r hr e => ?_))
      · obtain ⟨_, hc⟩ := y2 v b hv e
        exact hbc hc rfl
      · obtain ⟨_, hc⟩ := y3 r hr
        exact hbc hc e.symm
  · intro k gc' rk e
    by_cases ek : k = K
    · subst ek
      rw [WITH_at] at e
      cases e
      refine ⟨a1, q1', fun r hr j hj hb => ?_⟩
      rcases q3 r hr j hj hb with h1 | ⟨r0, h1, h2, h3⟩
      · rw [h1]; exact ⟨hp, hpl⟩
      · rw [← h2]; exact a3 r0 h1 j hj h3
    · rw [WITH_ne ek] at e
      obtain ⟨b1, b2, b3⟩ := hS.chunk k gc' rk e
      obtain ⟨d1, d2, d3⟩ := hother k gc' rk ek e
      exact ⟨b1, b2.at d1 d2 d3, b3⟩
  · intro k k' gk gk' rk rk' hne e e'
    by_cases ek : k = K
    · subst ek
      rw [WITH_at] at e
      cases e
      rw [WITH_ne (fun h => hne h.symm)] at e'
      exact hone k' gk' rk' (fun h => hne h.symm) e'
    · rw [WITH_ne ek] at e
      by_cases ek' : k' = K
      · subst ek'
        rw [WITH_at] at e'
        cases e'
        obtain ⟨o1, o2, o3⟩ := hone k gk rk ek e
        refine ⟨fun h => o1 h.symm, fun r hr r' hr' h => o2 r' hr' r hr h.symm, fun v v' hv hv' => ?_⟩
        rcases o3 v' v hv' hv with h | h
        · by_cases hn : v.ownBlock = none
          · exact .inl hn
          · exact .inr (fun e => hn (e.trans h))
        · exact .inr (fun e => h e.symm)
      · rw [WITH_ne ek'] at e'
        obtain ⟨o1, o2, o3⟩ := hS.one k k' gk gk' rk rk' hne e e'
        refine ⟨o1, o2, fun v v' hv hv' => o3 v v' ?_ ?_⟩
        · rw [← hocell k gk rk ek e 0]; exact hv
        · rw [← hocell k' gk' rk' ek' e' 0]; exact hv'
  · intro p'
    unfold AT
    by_cases ek : p' / 2 ^ log = K
    · rw [ek, WITH_at, hK]
      exact q2 p'
    · rw [WITH_ne ek, if_neg (fun e => ek (by rw [e]; exact hp))]
  · intro b hb
    rcases hb with h1 | ⟨k, gc', rk, e, h1⟩
    · left; left
      rw [← hc5 3 (by decide)]
      exact h1
    · by_cases ek : k = K
      · subst ek
        rw [WITH_at] at e
        cases e
        rcases h1 with h1 | ⟨v, hv, h1⟩ | ⟨r, hr, h1⟩
        · exact .inl (.inr ⟨_, _, _, hK, .inl h1⟩)
        · rw [hgcell] at hv
          rcases q5 v0 v hv0c hv with h2 | ⟨b', h2, h3⟩
          · exact .inl (.inr ⟨_, _, _, hK, .inr (.inl ⟨v0, hv0c, by rw [← h2]; exact h1⟩)⟩)
          · rw [h1] at h2
            cases h2
            exact .inr h3
        · rcases q4 r hr with ⟨r0, h2, h3⟩ | h2
          · exact .inl (.inr ⟨_, _, _, hK, .inr (.inr ⟨r0, h2, by rw [h3]; exact h1⟩)⟩)
          · rw [h1] at h2
            exact .inr h2
      · rw [WITH_ne ek] at e
        rcases h1 with h1 | ⟨v, hv, h1⟩ | h1
        · exact .inl (.inr ⟨_, _, _, e, .inl h1⟩)
        · rw [hocell k gc' rk ek e 0] at hv
          exact .inl (.inr ⟨_, _, _, e, .inr (.inl ⟨v, hv, h1⟩)⟩)
        · exact .inl (.inr ⟨_, _, _, e, .inr (.inr h1)⟩)
  · intro b hb hbg hf
    exact (hset b hbg).trans (q8 b hb (fun e => hf (.inr ⟨_, _, _, hK, .inl e⟩)) (fun v hv e => hf (.inr ⟨_, _, _, hK, .inr (.inl ⟨v, hv, e⟩)⟩)) (fun r hr e => hf (.inr ⟨_, _, _, hK, .inr (.inr ⟨r, hr, e⟩)⟩)))
theorem ChunkMap.drop {w : World} {b n k : Nat} {M : Nat → Option Nat} (h : ChunkMap w b n M) (hk : k < 2 ^ 64) (ty : TypeId) : ∃ w', (Builtin.delete_ #[44, 53] ty #[.map (some b), KEY k]).run Try.prog w = .ok (.tuple #[]) w' ∧ ChunkMap w' b n (fun j => if j = k then none else M j) ∧ w.mapTurned w' b := by
  obtain ⟨D, h1, h2⟩ := h
  obtain ⟨w', r1, r2, r3⟩ := h1.drop lawKey Try.underlying44 (keyk_ok hk) ty
  refine ⟨w', r1, ⟨_, r2, fun j hj => ?_⟩, r3⟩
  dsimp only
  by_cases e : j = k
  · subst e
    rw [if_pos rfl]
    exact ⟨by rw [Maps.has_del_same]; rfl, fun g' hg' => by cases hg'⟩
  · have hne : KK j ≠ KK k := fun h => e (KK_inj hj hk h)
    rw [if_neg e, Maps.has_del_other hne, Maps.atKey_del_other hne]
    exact h2 j hj
/-- without a chunk. -/
def WITHOUT (C : CHUNKS) (K : Nat) : CHUNKS := fun j => if j = K then none else C j
theorem WITHOUT_at {C : CHUNKS} {K : Nat} : WITHOUT C K K = none := if_pos rfl
theorem WITHOUT_ne {C : CHUNKS} {K j : Nat} (h : j ≠ K) : WITHOUT C K j = C j := if_neg h
theorem WITHOUT_some {C : CHUNKS} {K j : Nat} {x : Nat × List ROW} (h : WITHOUT C K j = some x) : j ≠ K ∧ C j = some x := by
  by_cases e : j = K
  · subst e; rw [WITHOUT_at] at h; cases h
  · rw [WITHOUT_ne e] at h; exact ⟨e, h⟩
/-- one chunk less. -/
theorem STORE.drop {W w2 : World} {B g log len alive N K gc b : Nat} {C : CHUNKS} (hS : STORE W B g log len alive N C) (hK : C K = some (gc, [])) (hm : W.cell? ⟨g, 3, none⟩ = some (.map (some b))) (hblk : ∀ x, x < W.heap.size → x ≠ b → w2.heap[x]? = W.heap[x]?) (hsz : W.heap.size ≤ w2.heap.size)
    (hM : ∃ n, n ≤ N ∧ ChunkMap w2 b n (fun j => if j = K then none else (C j).map Prod.fst)) : STORE w2 B g log len alive N (WITHOUT C K) ∧ (∀ p', AT (WITHOUT C K) log p' = AT C log p') ∧ STEP0 W w2 g C (WITHOUT C K) := by
  obtain ⟨cs, t, fr, k1, k2, k3, k4⟩ := hS.kind
  obtain ⟨mv, m1, m2, m3⟩ := hS.map
  rw [hm] at m1
  have hmv : mv = some b := by cases Option.some.inj m1; rfl
  subst hmv
  obtain ⟨hBb, n0, _, hcm⟩ := m3 b rfl
  have hbl := hcm.lt
  obtain ⟨D, ⟨es, clock, hbm, _⟩, _⟩ := hcm
  have hbc : ∀ {b' c t' fr'}, W.heap[b']? = some (.cells c t' fr') → b' ≠ b := fun h2 e => by rw [e, hbm] at h2; cases h2
  have hlt : ∀ {b' : Nat} {o : Obj}, W.heap[b']? = some o → b' < W.heap.size := fun h => (Array.getElem?_eq_some_iff.1 h).1
  have hgb : w2.heap[g]? = W.heap[g]? := hblk g hS.lt (hbc k1)
  have cell : ∀ i, w2.cell? ⟨g, i, none⟩ = W.cell? ⟨g, i, none⟩ := fun i => World.cell?_of_block (w := W) (by exact hgb)
  have hch : ∀ k gc' rk, C k = some (gc', rk) → (w2.heap[gc']? = W.heap[gc']? ∧ (∀ v x, W.cell? ⟨gc', 0, none⟩ = some v → v.ownBlock = some x → w2.heap[x]? = W.heap[x]?) ∧ ∀ r ∈ rk, w2.heap[r.gh]? = W.heap[r.gh]?) ∧ gc' < W.heap.size := fun k gc' rk e => by
    obtain ⟨⟨_, z1⟩, z2, z3⟩ := (hS.chunk k gc' rk e).2.1.kinds
    refine ⟨⟨hblk _ (hlt z1) (hbc z1), fun v x hv hx => ?_, fun r hr => ?_⟩, hlt z1⟩
    · obtain ⟨_, hc⟩ := z2 v x hv hx
      exact hblk _ (hlt hc) (hbc hc)
    · obtain ⟨_, hc⟩ := z3 r hr
      exact hblk _ (hlt hc) (hbc hc)
  have hcc : ∀ k gc' rk, C k = some (gc', rk) → ∀ i, w2.cell? ⟨gc', i, none⟩ = W.cell? ⟨gc', i, none⟩ := fun k gc' rk e i => World.cell?_of_block (w := W) (by exact (hch k gc' rk e).1.1)
  refine ⟨⟨hS.small, hS.short, (cell 0).trans hS.c0, (cell 1).trans hS.c1, (cell 2).trans hS.c2, fun i hi => ?_, ⟨cs, t, fr, hgb.trans k1, k2, k3, k4⟩, ?_, ?_, ?_⟩, ?_, ?_⟩
  · have := hS.live i hi
    unfold World.frozen? at this ⊢
    rw [show w2.heap[g]? = W.heap[g]? from hgb]
    exact this
  · refine ⟨some b, (cell 3).trans hm, (fun e => by cases e), fun b' e => ?_⟩
    cases e
    obtain ⟨n, h1, h2⟩ := hM
    refine ⟨hBb, n, h1, ?_⟩
    have hE : (fun k => (WITHOUT C K k).map Prod.fst) = fun j => if j = K then none else (C j).map Prod.fst := funext fun j => by
      by_cases e : j = K
      · subst e; rw [WITHOUT_at, if_pos rfl]; rfl
      · rw [WITHOUT_ne e, if_neg e]
    rw [hE]
    exact h2
  · intro k gc' rk e
    obtain ⟨_, e⟩ := WITHOUT_some e
    obtain ⟨b1, b2, b3⟩ := hS.chunk k gc' rk e
    obtain ⟨⟨d1, d2, d3⟩, _⟩ := hch k gc' rk e
    exact ⟨b1, b2.at d1 d2 d3, b3⟩
  · intro k k' gk gk' rk rk' hne e e'
    obtain ⟨_, e⟩ := WITHOUT_some e
    obtain ⟨_, e'⟩ := WITHOUT_some e'
    obtain ⟨o1, o2, o3⟩ := hS.one k k' gk gk' rk rk' hne e e'
    refine ⟨o1, o2, fun v v' hv hv' => o3 v v' ?_ ?_⟩
    · rw [← hcc k gk rk e 0]; exact hv
    · rw [← hcc k' gk' rk' e' 0]; exact hv'
  · intro p'
    unfold AT
    by_cases ek : p' / 2 ^ log = K
    · rw [ek, WITHOUT_at, hK]
      rfl
    · rw [WITHOUT_ne ek]
  · refine ⟨fun x hx => .inl ?_, fun x hx hxg hf => hblk x hx (fun e => hf (.inl (by rw [e]; exact hm))), hsz, fun i _ => cell i⟩
    rcases hx with h | ⟨k, gc', rk, e, h⟩
    · left; rw [← cell 3]; exact h
    · obtain ⟨_, e⟩ := WITHOUT_some e
      refine .inr ⟨k, gc', rk, e, ?_⟩
      rcases h with h | ⟨v, hv, h⟩ | h
      · exact .inl h
      · exact .inr (.inl ⟨v, by rw [← hcc k gc' rk e 0]; exact hv, h⟩)
      · exact .inr (.inr h)
end Go.Proofs.Ytkhpaldbdpfpiaa

/- Store.take. -/
namespace Go.Proofs.Ytkhpaldbdpfpiaa
open Go.RowKit Go.Maps
set_option maxRecDepth 100000

theorem empty_ok (g : Nat) (a : Option Addr) (n cap : Nat) (w : World) (h : w.cell? ⟨g, 0, none⟩ = some (.slice a n cap)) : Calls Try.prog 22 #[.pointer (some ⟨g, 0, none⟩)] w fun e w' => e = .returned (.bool (decide (n = 0))) ∧ w = w' := by
  have hd : ((n : Int) == 0) = decide (n = 0) := by
    by_cases e : n = 0
    · simp [e]
    · simp [e]
  go_enter Try.func22, Try.ntmps22
  go_wp2
  go_ret
  exact ⟨rfl, rfl⟩
/-- what Store.take leaves. -/
def STAKES (w : World) (B g log len alive N p : Nat) (C : CHUNKS) (w' : World) : Prop := ∃ C', STORE w' B g log len alive N C' ∧ (∀ p', AT C' log p' = if p' = p then none else AT C log p') ∧ STEP w w' g C C' ∧ Below B w w'
theorem STORE.take_self {W W' : World} {B g log len alive N K gc p : Nat} {C : CHUNKS} {rs : List ROW} (hS : STORE W B g log len alive N C) (hK : C K = some (gc, rs)) (hP : TAKES W B gc p rs W') : W'.heap[g]? = W.heap[g]? := by
  obtain ⟨rs', q1, q2, q3, q5, q6, q7, q8⟩ := hP
  obtain ⟨cs, t, fr, k1, k2, k3, k4⟩ := hS.kind
  obtain ⟨a1, a2, a3⟩ := hS.chunk K gc rs hK
  obtain ⟨⟨_, y1⟩, y2, y3⟩ := a2.kinds
  exact q8 g hS.lt (other_kind k1 y1 k2) (fun v hv e => by obtain ⟨_, hc⟩ := y2 v g hv e; exact other_kind k1 hc k3 rfl) (fun r hr e => by obtain ⟨_, hc⟩ := y3 r hr; rw [e] at hc; exact other_kind k1 hc k4 rfl)
set_option maxHeartbeats 4000000 in
theorem stake_ok {w : World} {B g log len alive N : Nat} {C : CHUNKS} (hS : STORE w B g log len alive N C) (p al : Nat) (h : Nat → Nat) (hp : p < len) (hA : AT C log p = some h) (hal : al + 1 = alive) (hsm : alive < 2 ^ 40) (hBg : B ≤ g) : Calls Try.prog 17 #[.pointer (some ⟨g, 0, none⟩), .int .u64 (p : Int)] w fun e w' =>
    (∃ v, e = .returned v) ∧ STAKES w B g log len al N p C w' := by
  obtain ⟨K, hKe⟩ : ∃ K, p / 2 ^ log = K := ⟨_, rfl⟩
  obtain ⟨gc, rs, hK, hL⟩ : ∃ gc rs, C K = some (gc, rs) ∧ LOOK rs p = some h := by
    unfold AT at hA
    rw [hKe] at hA
    cases hc : C K with
    | none => rw [hc] at hA; cases hA
    | some x => rw [hc] at hA; exact ⟨x.1, x.2, rfl, hA⟩
  obtain ⟨mv, m1, m2, m3⟩ := hS.map
  obtain ⟨b, rfl⟩ : ∃ b, mv = some b := by
    cases mv with
    | none => rw [m2 rfl K] at hK; cases hK
    | some b => exact ⟨b, rfl⟩
  have hg := hS.lt
  have ck := hS.key p w (Below.refl _ _)
  have hz := zeroKey
  have hlen := hS.short
  have H : Aside (STORE w B g log len alive N C ∧ p < len ∧ al + 1 = alive ∧ alive < 2 ^ 40 ∧ C K = some (gc, rs) ∧ LOOK rs p = some h ∧ len < 2 ^ 40 ∧ g < w.heap.size ∧ w.cell? ⟨g, 3, none⟩ = some (.map (some b)) ∧ B ≤ g) := ⟨hS, hp, hal, hsm, hK, hL, hlen, hg, m1, hBg⟩
  have HK : Aside (p / 2 ^ log = K) := hKe
  rw [hKe] at ck
  clear hS hp hal hsm hK hL hlen hBg hKe m1 m2 m3 hA
  go_enter Try.func17, Try.ntmps17
  go_wp2_with fail
  refine ck.mono ?_
  rintro e w1 ⟨rfl, hb1⟩
  clear ck
  obtain ⟨a1, a2, a3, a4, a5, a6, a7, a8, a9, a10⟩ := H.out
  have hb2 : Below w.heap.size w (w1.alloc (.cells #[.int .u64 (K : Int)] 53)) := hb1.alloc hb1.size _
  have hK64 : K < 2 ^ 64 := (a1.chunk K gc rs a5).1
  have h3 : (w1.alloc (.cells #[.int .u64 (K : Int)] 53)).cell? ⟨g, 3, none⟩ = some (.map (some b)) := (hb2.cell (by exact a8)).trans a9
  have hS2 := a1.below hb2.drew
  have hlook : (Instr.lookup 44 (.map (some b)) (KEY K) false).run Try.prog (w1.alloc (.cells #[.int .u64 (K : Int)] 53)).drew = .ok (.pointer (some ⟨gc, 0, none⟩)) (w1.alloc (.cells #[.int .u64 (K : Int)] 53)).drew := by
    obtain ⟨mv, m1, m2, m3⟩ := hS2.map
    have h3' : (w1.alloc (.cells #[.int .u64 (K : Int)] 53)).drew.cell? ⟨g, 3, none⟩ = some (.map (some b)) := h3
    rw [h3'] at m1
    have hmv : mv = some b := by cases Option.some.inj m1; rfl
    obtain ⟨_, n, _, hcm⟩ := m3 b hmv
    exact hcm.get hK64 (by rw [a5]; rfl)
  have hC2 := (hS2.chunk K gc rs a5).2.1
  have cT := chunktake_ok B gc p rs h (by omega) _ hC2 a6
  have h42 : Has (w1.alloc (.cells #[.int .u64 (K : Int)] 53)).drew w1.heap.size #[.int .u64 (K : Int)] 53 := Has.new w1 _ _
  have hT2 := STEP.below a1 hb2.drew
  clear a2 a3 a4 a6 a7 a9 a10
  go_upto_region 1 with fail
  refine stake1 _ _ _ _ _ _ _ _ _ _ _ _ _ _ _ _ _ _ _ _ _ _ _ _ _ _ _ _ _ _ _ g w1.heap.size K (.map (some b)) (.pointer (some ⟨gc, 0, none⟩)) h3 (Has.new w1 _ _) hlook (fun _ _ _ _ _ h => h) ?_
  obtain ⟨W2, hW2⟩ : ∃ W2, (w1.alloc (.cells #[.int .u64 (K : Int)] 53)).drew = W2 := ⟨_, rfl⟩
  rw [hW2] at h42 hS2 hC2 hT2 cT ⊢
  have hB2 : Below w.heap.size w W2 := by rw [← hW2]; exact hb2.drew
  clear hW2 hlook h3 hb2
  go_wp2_with fail
  refine cT.mono ?_
  rintro e w3 ⟨⟨v3, rfl⟩, hP⟩
  clear cT
  obtain ⟨a1, a2, a3, a4, a5, a6, a7, a8, a9, a10⟩ := H.out
  have hself := hS2.take_self a5 hP
  have z2 : w3.cell? ⟨g, 2, none⟩ = some (.int .u64 (alive : Int)) := (World.cell?_of_block (w := W2) (by exact hself)).trans hS2.c2
  have zf : w3.frozen? ⟨g, 2, none⟩ = false := by
    have := hS2.live 2 (by decide)
    unfold World.frozen? at this ⊢
    rw [show w3.heap[g]? = W2.heap[g]? from hself]
    exact this
  have hwr : IntKind.u64.wrap ((alive : Int) - 1) = (al : Int) := wrap_nat (by omega) (by omega)
  have h43 : Has w3 w1.heap.size #[.int .u64 (K : Int)] 53 := by
    obtain ⟨rs', q1, q2, q3, q5, q6, q7, q8⟩ := hP
    obtain ⟨⟨_, y1⟩, y2, y3⟩ := hC2.kinds
    exact (q8 _ h42.lt (other_kind h42 y1 (by decide)) (fun v hv e => by obtain ⟨_, hc⟩ := y2 v _ hv e; exact other_kind h42 hc (by decide) rfl) (fun r hr e => by obtain ⟨_, hc⟩ := y3 r hr; rw [e] at hc; exact other_kind h42 hc (by decide) rfl)).trans h42
  have hBP : Below B W2 w3 := by obtain ⟨rs', q1, q2, q3, q5, q6, q7, q8⟩ := hP; exact q7
  obtain ⟨rs', s1, s2, s3, s4, s5, s6⟩ := hS2.take al a5 HK.out a2 hP
  have hst : STEP0 W2 (w3.setCell ⟨g, 2, none⟩ (.int .u64 (al : Int))) g C (WITH C K gc rs') := ⟨s3, s4, s6, fun i hi => s5 i (by omega)⟩
  obtain ⟨w4, hw4⟩ : ∃ w4, w3.setCell ⟨g, 2, none⟩ (.int .u64 (al : Int)) = w4 := ⟨_, rfl⟩
  have h44 : Has w4 w1.heap.size #[.int .u64 (K : Int)] 53 := by rw [← hw4]; exact h43.other (by show w1.heap.size ≠ g; have := hb1.size; omega) _
  have hB4 : Below B w w4 := by rw [← hw4]; exact ((hB2.mono (by omega)).trans hBP).setCell (p := ⟨g, 2, none⟩) a10 _
  rw [hw4] at s1 hst s5
  have hC4 := (s1.chunk K gc rs' WITH_at).2.1
  obtain ⟨a, cap, hbx, -, -, -⟩ := hC4.lies
  have cE := empty_ok gc a rs'.length cap w4 (hbx.cell 0)
  have hmap4 : w4.cell? ⟨g, 3, none⟩ = some (.map (some b)) := (s5 3 (by decide)).trans ((hB2.cell (by exact a8)).trans a9)
  have HF : Aside (STORE w4 B g log len al N (WITH C K gc rs') ∧ (∀ p', AT (WITH C K gc rs') log p' = if p' = p then none else AT C log p') ∧ STEP0 w w4 g C (WITH C K gc rs') ∧ Below B w w4 ∧ K < 2 ^ 64 ∧ B ≤ g ∧ g < w.heap.size) := ⟨s1, s2, hT2.toSTEP0.trans hst, hB4, hK64, a10, a8⟩
  clear a1 a2 a3 a4 a5 a6 a7 a9 a10 hS2 hC2 hT2 hB2 hself hBP s1 s2 s3 s4 s5 s6 hst hC4 hbx hB4 h42 h43 hP hb1 hg a8
  by_cases hn : rs'.length = 0
  · have hd : decide (rs'.length = 0) = true := decide_eq_true hn
    rw [hd] at cE
    have hnil : rs' = [] := List.eq_nil_of_length_eq_zero hn
    subst hnil
    obtain ⟨f1, f2, f3, f4, f5, f6, f7⟩ := HF.out
    obtain ⟨mv, m1, m2, m3⟩ := f1.map
    rw [hmap4] at m1
    have hmv : mv = some b := by cases Option.some.inj m1; rfl
    subst hmv
    obtain ⟨hBb, n, hnN, hcm⟩ := m3 b rfl
    have hbl := hcm.lt
    obtain ⟨w5, u1, u2, u3⟩ := (show ChunkMap w4.drew b n _ from hcm).drop f5 0
    have hgr := u3.grown
    have hdr := f1.drop (w2 := w5) WITH_at hmap4 (fun x hx hxb => (hgr.block x hx (fun e => hxb (by cases e; rfl)))) hgr.size ⟨n, hnN, u2⟩
    obtain ⟨g1, g2, g3⟩ := hdr
    have hB5 : Below B w w5 := f4.drew.grown hgr (by have := f4.size; show B ≤ w4.heap.size; omega) (fun x e => by cases e; exact hBb)
    have E : Aside (STAKES w B g log len al N p C w5) := ⟨_, g1, fun p' => (g2 p').trans (f2 p'), ⟨f3.trans g3, fun x k gc' rs' e => by obtain ⟨hk, e⟩ := WITHOUT_some e; rw [WITH_ne hk] at e; exact x k gc' rs' e⟩, hB5⟩
    clear f1 f2 f3 f4 f5 f6 f7 m2 m3 hcm u2 u3 hgr g1 g2 g3 hB5 hn hd hBb hbl
    go_wp2_with (refine cE.mono ?_; rintro e w' ⟨rfl, rfl⟩)
    go_upto_region 5 with fail
    refine stake5 _ _ _ _ _ _ _ _ _ _ _ _ _ _ _ _ _ _ _ _ _ _ _ _ _ _ _ _ _ _ _ g w1.heap.size K b w5 hmap4 h44 u1 (fun _ _ _ _ _ h => h) ?_
    go_wp2
    go_end0
    exact ⟨⟨_, rfl⟩, E.out⟩
  · have hd : decide (rs'.length = 0) = false := decide_eq_false hn
    rw [hd] at cE
    have hne : rs' ≠ [] := fun e => hn (by rw [e]; rfl)
    clear hn hd
    go_wp2_with (refine cE.mono ?_; rintro e w' ⟨rfl, rfl⟩)
    go_end0
    obtain ⟨f1, f2, f3, f4, -⟩ := HF.out
    exact ⟨⟨_, rfl⟩, _, f1, f2, ⟨f3, fun x => (x.but _).full hne⟩, f4⟩
end Go.Proofs.Ytkhpaldbdpfpiaa

/- Store.Drop. -/
namespace Go.Proofs.Ytkhpaldbdpfpiaa
open Go.RowKit Go.Maps
set_option maxRecDepth 100000

theorem drop_far {w : World} {B g log len alive N : Nat} {C : CHUNKS} (hS : STORE w B g log len alive N C) (p : Nat) (hp : len ≤ p) : Calls Try.prog 5 #[.pointer (some ⟨g, 0, none⟩), .int .u64 (p : Int)] w fun e w' => e = .returned (.int .i64 31) ∧ w = w' := by
  have hc1 := hS.c1
  have hge : (len : Int) ≤ (p : Int) := by omega
  clear hS
  go_enter Try.func5, Try.ntmps5
  go_wp2
  go_ret
  exact ⟨rfl, rfl⟩
/-- what Drop leaves of a node that lives and has no pin. -/
def DROPPED (w : World) (B g log len alive N n p : Nat) (C : CHUNKS) (P : Nat → Nat) (w' : World) : Prop := ∃ C', STORE w' B g log len alive N C' ∧ (∀ p', AT C' log p' = if p' = p then none else AT C log p') ∧ PINS w' B g n C' P ∧ STEP w w' g C C' ∧ Below B w w'
set_option maxHeartbeats 1000000 in
theorem drop_dead {w : World} {B g log len alive N n : Nat} {C : CHUNKS} {P : Nat → Nat} (hS : STORE w B g log len alive N C) (hP : PINS w B g n C P) (p : Nat) (hp : p < 2 ^ 64) (hl : p < len) (h0 : P p = 0) (hA : AT C log p = none) : Calls Try.prog 5 #[.pointer (some ⟨g, 0, none⟩), .int .u64 (p : Int)] w fun e w' => e = .returned (.int .i64 0) ∧ Below w.heap.size w w' := by
  have hc1 := hS.c1
  have hge : ¬ (len : Int) ≤ (p : Int) := by omega
  obtain ⟨mv, l1, l2⟩ := hP.look p hp
  rw [h0] at l2
  have cL := live_ok hS p hp
  rw [hA] at cL
  clear hS hP
  go_enter Try.func5, Try.ntmps5
  go_wp2_with (refine cL.mono ?_; rintro e w' ⟨rfl, hb⟩)
  go_ret
  exact ⟨rfl, hb⟩
set_option maxHeartbeats 1000000 in
theorem drop_live {w : World} {B g log len alive N n : Nat} {C : CHUNKS} {P : Nat → Nat} (hS : STORE w B g log len alive N C) (hP : PINS w B g n C P) (p al : Nat) (h : Nat → Nat) (hp : p < 2 ^ 64) (hl : p < len) (h0 : P p = 0) (hA : AT C log p = some h) (hal : al + 1 = alive) (hsm : alive < 2 ^ 40) (hBg : B ≤ g) : Calls Try.prog 5 #[.pointer (some ⟨g, 0, none⟩), .int .u64 (p : Int)] w fun e w' => e = .returned (.int .i64 0) ∧ DROPPED w B g log len al N n p C P w' := by
  have hc1 := hS.c1
  have hge : ¬ (len : Int) ≤ (p : Int) := by omega
  obtain ⟨mv, l1, l2⟩ := hP.look p hp
  rw [h0] at l2
  have cL := live_ok hS p hp
  rw [hA] at cL
  have H : Aside (STORE w B g log len alive N C ∧ PINS w B g n C P ∧ p < len ∧ AT C log p = some h ∧ al + 1 = alive ∧ alive < 2 ^ 40 ∧ B ≤ g ∧ g < w.heap.size) := ⟨hS, hP, hl, hA, hal, hsm, hBg, hS.lt⟩
  clear hS hP hl hA hal hsm hBg
  go_enter Try.func5, Try.ntmps5
  go_wp2_with (refine cL.mono ?_; rintro e w1 ⟨rfl, hb⟩; clear cL)
  obtain ⟨a1, a2, a3, a4, a5, a6, a7, a8⟩ := H.out
  have cT := stake_ok (a1.below hb) p al h a3 a4 a5 a6 a7
  have HB : Aside (Below w.heap.size w w1) := hb
  clear a1 a2 a3 a4 a5 a6 a7 a8 hb
  refine cT.mono ?_
  rintro e w2 ⟨⟨v, rfl⟩, hT⟩
  have HT : Aside (STAKES w1 B g log len al N p C w2) := hT
  clear hT cT
  go_wp2
  go_ret
  obtain ⟨a1, a2, a3, a4, a5, a6, a7, a8⟩ := H.out
  obtain ⟨C', c1, c2, c3, c4⟩ := HT.out
  have hst := (STEP.below a1 HB.out).trans c3
  obtain ⟨cs, t, fr, k1, _⟩ := a1.kind
  exact ⟨rfl, C', c1, c2, a2.step hst ⟨cs, t, fr, k1⟩, hst, (HB.out.mono (by omega)).trans c4⟩
end Go.Proofs.Ytkhpaldbdpfpiaa

/- In how many chunks a node lives: two stores with the same nodes have as many. -/
namespace Go.Proofs.Ytkhpaldbdpfpiaa
open Go.RowKit Go.Maps Go.WideShapes
open Go.WideElems (Fit rg rd_key rg_of)
set_option maxRecDepth 100000

theorem key_inv {v : Value} {l : Lit} (h : keyOf Try.prog 53 v = some l) : ∃ k, k < 2 ^ 64 ∧ l = KK k := by
  have c3 : Try.prog.cellsOf 53 = 1 := by kernel_rfl
  have c2 : Try.prog.cellsOf 27 = 1 := by kernel_rfl
  obtain ⟨m, hm⟩ : ∃ m, Try.prog.types.size = m + 1 := ⟨Try.prog.types.size - 1, (Nat.succ_pred_eq_of_pos (Nat.lt_of_le_of_lt (Nat.zero_le _) rowKey)).symm⟩
  unfold keyOf at h
  simp only [Try.underlying53, hm] at h
  split at h
  · rename_i hf
    simp only [Bool.and_eq_true] at hf
    obtain ⟨-, hf⟩ := hf
    cases hv : v.cells.toList with
    | nil => rw [hv] at h; simp [Program.keyLits, Try.underlying53, c3] at h
    | cons x xs =>
      cases xs with
      | cons y ys => rw [hv] at h; simp [Program.keyLits, Try.underlying53, c3] at h
      | nil =>
        rw [hv] at h
        simp [Program.keyLits, Try.underlying53, Try.underlying27, c2, c3] at h
        cases x with
        | int q n =>
          by_cases hq : q = .u64 ∧ (Lit.int .u64 n).wf = true
          · simp [hq] at h
            have hb := wf_u64 hq.2
            obtain ⟨k, rfl⟩ : ∃ k : Nat, n = (k : Int) := ⟨n.toNat, by omega⟩
            refine ⟨k, by omega, ?_⟩
            unfold KK
            rw [← h]
          · simp [hq] at h
        | _ => simp at h
  · cases h
theorem mem_keys {w : World} {b n : Nat} {es : List (Lit × DataW Unit)} (h : w.ownsMap Try.prog 53 PE b n (.map es)) : ∀ p ∈ es, ∃ k, k < 2 ^ 64 ∧ p.1 = KK k := by
  obtain ⟨es0, clock, _, F, _, e⟩ := h
  cases e
  intro p hp
  obtain ⟨v, hv⟩ := fit_keys F p ((sorted_perm _).mem_iff.1 hp)
  exact key_inv hv
theorem has_mem {es : List (Lit × DataW Unit)} {k : Nat} (hk : k < 2 ^ 64) : Maps.has (.map es) (KK k) = true ↔ ∃ p ∈ es, p.1 = KK k := by
  have hkey : WideAt.IsKeyLit (KK k) := lawKey.key (keyk_ok hk)
  rw [Maps.has_eq, List.any_eq_true]
  constructor
  · rintro ⟨p, hp, e⟩
    refine ⟨p, hp, Classical.byContradiction fun hne => ?_⟩
    rw [sameKey_ne hne] at e
    cases e
  · rintro ⟨p, hp, e⟩
    exact ⟨p, hp, by rw [e]; exact WideAt.sameKey_self hkey⟩
/-- what the map of a store reads as: its keys are the chunks. -/
def CHS (D : DataW Unit) (C : CHUNKS) : Prop := Canon D ∧ (∀ es, D = .map es → ∀ p ∈ es, ∃ k, k < 2 ^ 64 ∧ p.1 = KK k) ∧ ∀ k, k < 2 ^ 64 → Maps.has D (KK k) = (C k).isSome
theorem size_same {D D' : DataW Unit} {C C' : CHUNKS} (h : CHS D C) (h' : CHS D' C') (hC : ∀ k, (C k).isSome = (C' k).isSome) : Maps.size D = Maps.size D' := by
  obtain ⟨⟨es, rfl, h1, _⟩, h2, h3⟩ := h
  obtain ⟨⟨es', rfl, h1', _⟩, h2', h3'⟩ := h'
  have hh : ∀ k, k < 2 ^ 64 → ((∃ p ∈ es, p.1 = KK k) ↔ ∃ p ∈ es', p.1 = KK k) := fun k hk => by
    rw [← has_mem hk, ← has_mem hk, h3 k hk, h3' k hk, hC]
  have e : es.map (fun p => (p.1, (DataW.nil : DataW Unit))) = es'.map (fun p => (p.1, (DataW.nil : DataW Unit))) := by
    refine eq_of_mem_rising ?_ ?_ (fun p => ?_)
    · rw [List.pairwise_map]; exact h1
    · rw [List.pairwise_map]; exact h1'
    · rw [List.mem_map, List.mem_map]
      constructor
      · rintro ⟨q, hq, rfl⟩
        obtain ⟨k, hk, ek⟩ := h2 _ rfl q hq
        obtain ⟨q', hq', eq'⟩ := (hh k hk).1 ⟨q, hq, ek⟩
        exact ⟨q', hq', by rw [eq', ek]⟩
      · rintro ⟨q, hq, rfl⟩
        obtain ⟨k, hk, ek⟩ := h2' _ rfl q hq
        obtain ⟨q', hq', eq'⟩ := (hh k hk).2 ⟨q, hq, ek⟩
        exact ⟨q', hq', by rw [eq', ek]⟩
  have := congrArg List.length e
  simpa [Maps.size_eq] using this
/-- the number of chunks of a store. -/
def CNT (w : World) (g z : Nat) : Prop := ∃ mv, w.cell? ⟨g, 3, none⟩ = some mv ∧ ∀ ty, (Builtin.len_ #[44] ty #[mv]).run Try.prog w = .ok (.int .i64 (z : Int)) w
theorem STORE.cnt {w : World} {B g log len alive N : Nat} {C : CHUNKS} (h : STORE w B g log len alive N C) : ∃ D, CHS D C ∧ CNT w g (Maps.size D) := by
  obtain ⟨mv, m1, m2, m3⟩ := h.map
  cases mv with
  | none => exact ⟨.map [], ⟨canon_empty, fun es e p hp => (by cases e; cases hp), fun k _ => by rw [m2 rfl k]; rfl⟩, _, m1, fun ty => Maps.len_nil Try.underlying44 ty⟩
  | some b =>
    obtain ⟨_, n, _, D, h1, h2⟩ := m3 b rfl
    refine ⟨D, ⟨h1.canon lawKey, fun es e p hp => ?_, fun k hk => ?_⟩, _, m1, fun ty => h1.len Try.underlying44 ty⟩
    · subst e; exact mem_keys h1 p hp
    · rw [(h2 k hk).1]; show ((C k).map Prod.fst).isSome = _; cases C k <;> rfl
/-- a chunk is there where a node of it lives. -/
theorem FULL.some {w : World} {B g log len alive N : Nat} {C : CHUNKS} (h : STORE w B g log len alive N C) (hF : FULL C) (k : Nat) : (C k).isSome = true ↔ ∃ p, p / 2 ^ log = k ∧ (AT C log p).isSome = true := by
  constructor
  · intro hk
    cases hc : C k with
    | none => rw [hc] at hk; cases hk
    | some c =>
      obtain ⟨gc, rs⟩ := c
      obtain ⟨_, h2, h3⟩ := h.chunk k gc rs hc
      obtain ⟨r, hr⟩ := List.exists_mem_of_ne_nil _ (hF k gc rs hc)
      obtain ⟨j, hj, hb⟩ := h2.lives r hr
      obtain ⟨e, _⟩ := h3 r hr j hj hb
      refine ⟨r.num * 64 + j, e, ?_⟩
      unfold AT
      rw [e, hc]
      show (LOOK rs (r.num * 64 + j)).isSome = true
      have e1 : (r.num * 64 + j) / 64 = r.num := by omega
      have e2 : (r.num * 64 + j) % 64 = j := by omega
      rw [LOOK_mem (s := r) h2.rise hr e1.symm, e2, if_pos hb]
      obtain ⟨_, d2, d3, _⟩ := h2.row r hr
      have := RK_lt hj hb
      rw [List.getElem?_eq_getElem (by rw [d3]; exact this)]
      rfl
  · rintro ⟨p, rfl, hp⟩
    unfold AT at hp
    cases hc : C (p / 2 ^ log) with
    | none => rw [hc] at hp; cases hp
    | some c => rfl
theorem cnt_same {w w' : World} {B g log len alive N B' g' len' alive' N' : Nat} {C C' : CHUNKS} (h : STORE w B g log len alive N C) (h' : STORE w' B' g' log len' alive' N' C') (hF : FULL C) (hF' : FULL C') (hA : ∀ p, AT C log p = AT C' log p) : ∃ z, CNT w g z ∧ CNT w' g' z := by
  obtain ⟨D, h1, h2⟩ := h.cnt
  obtain ⟨D', h1', h2'⟩ := h'.cnt
  refine ⟨_, h2, ?_⟩
  rw [size_same h1 h1' (fun k => ?_)]
  · exact h2'
  · rw [Bool.eq_iff_iff, FULL.some h hF, FULL.some h' hF']
    simp only [hA]
theorem chunks_ok {w : World} {g z : Nat} (h : CNT w g z) : Calls Try.prog 12 #[.pointer (some ⟨g, 0, none⟩)] w fun e w' => e = .returned (.int .i64 (z : Int)) ∧ w = w' := by
  obtain ⟨mv, h1, h2⟩ := h
  have h3 := h2 3
  go_enter Try.func12, Try.ntmps12
  go_wp2
  go_ret
  exact ⟨rfl, rfl⟩
end Go.Proofs.Ytkhpaldbdpfpiaa
