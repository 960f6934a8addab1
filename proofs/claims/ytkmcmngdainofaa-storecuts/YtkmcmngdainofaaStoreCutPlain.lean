/- A store cut off: the number of places set back, the nodes that live counted. -/
import Derived.Test.YtkmcmngdainofaaStoreSince
import Derived.Test.YtkmcmngdainofaaStorePush
import Derived.Test.YtkmcmngdainofaaStoreTree
import Derived.Test.YtkmcmngdainofaaStorePin
namespace Go.Proofs.Ytkmcmngdainofaa
open Go.RowKit Go.Maps
set_option maxRecDepth 100000

theorem STORE.relen {w : World} {B g log len alive N : Nat} {C : CHUNKS} (hS : STORE w B g log len alive N C) (m : Nat) (hl : m < 2 ^ 40) (hT : TOP C m) : STORE (w.setCell ⟨g, 1, none⟩ (.int .u64 (m : Int))) B g log m alive N C ∧ STEP w (w.setCell ⟨g, 1, none⟩ (.int .u64 (m : Int))) g C C := by
  obtain ⟨cs, t, fr, k1, k2, k3, k4⟩ := hS.kind
  obtain ⟨w2, hw2⟩ : ∃ w2, w.setCell ⟨g, 1, none⟩ (.int .u64 (m : Int)) = w2 := ⟨_, rfl⟩
  rw [hw2]
  have hset : ∀ b, b ≠ g → w2.heap[b]? = w.heap[b]? := fun b hb => by rw [← hw2]; exact Below.heap_setCell _ _ _ b (by exact hb)
  have cell : ∀ i, i ≠ 1 → w2.cell? ⟨g, i, none⟩ = w.cell? ⟨g, i, none⟩ := fun i hi => by rw [← hw2, set_off (fun e => hi e.symm)]
  have hch : ∀ k gc rk, C k = some (gc, rk) → gc ≠ g ∧ (∀ v x, w.cell? ⟨gc, 0, none⟩ = some v → v.ownBlock = some x → x ≠ g) ∧ ∀ r ∈ rk, r.gh ≠ g := fun k gc rk e => by
    obtain ⟨⟨_, z1⟩, z2, z3⟩ := (hS.chunk k gc rk e).2.1.kinds
    refine ⟨fun e => other_kind k1 z1 k2 e.symm, fun v x hv hx => ?_, fun r hr => ?_⟩
    · obtain ⟨_, hc⟩ := z2 v x hv hx
      exact fun e => other_kind k1 hc k3 e.symm
    · obtain ⟨_, hc⟩ := z3 r hr
      exact fun e => other_kind k1 hc k4 e.symm
  have hcc : ∀ k gc rk, C k = some (gc, rk) → w2.cell? ⟨gc, 0, none⟩ = w.cell? ⟨gc, 0, none⟩ := fun k gc rk e => World.cell?_of_block (w := w) (by exact hset gc (hch k gc rk e).1)
  refine ⟨⟨hS.small, hl, (cell 0 (by decide)).trans hS.c0, ?_, (cell 2 (by decide)).trans hS.c2, fun i hi => ?_, ?_, ?_, ?_, ?_⟩, ?_⟩
  · rw [← hw2]
    exact World.cell?_setCell_same _ _ _ hS.c1
  · rw [← hw2, World.frozen?_setCell]
    exact hS.live i hi
  · obtain ⟨cs', h1⟩ := set_kind (i := 1) k1 (.int .u64 (m : Int))
    exact ⟨cs', t, fr, by rw [← hw2]; exact h1, k2, k3, k4⟩
  · obtain ⟨mv, m1, m2, m3⟩ := hS.map
    refine ⟨mv, (cell 3 (by decide)).trans m1, m2, fun b e => ?_⟩
    obtain ⟨c1, n, c2, c3⟩ := m3 b e
    refine ⟨c1, n, c2, c3.at (hset b (fun e => ?_))⟩
    obtain ⟨D, ⟨es, clock, h1, _⟩, _⟩ := c3
    rw [e, k1] at h1
    cases h1
  · intro k gc rk e
    obtain ⟨b1, b2, b3⟩ := hS.chunk k gc rk e
    obtain ⟨d1, d2, d3⟩ := hch k gc rk e
    exact ⟨b1, b2.at (hset _ d1) (fun v x hv hx => hset _ (d2 v x hv hx)) (fun r hr => hset _ (d3 r hr)), fun r hr j hj hb => by have := b3 r hr j hj hb; exact ⟨this.1, hT k gc rk e r hr j hj hb⟩⟩
  · intro k k' gc gc' rs rs' hne e e'
    obtain ⟨o1, o2, o3⟩ := hS.one k k' gc gc' rs rs' hne e e'
    exact ⟨o1, o2, fun v v' hv hv' => o3 v v' (by rw [← hcc k gc rs e]; exact hv) (by rw [← hcc k' gc' rs' e']; exact hv')⟩
  · refine ⟨⟨fun b h => .inl ?_, fun b _ hbg _ => hset b hbg, by rw [← hw2]; simp, fun i hi => cell i (by omega)⟩, id⟩
    rcases h with h | ⟨k, gc, rs, e, h⟩
    · left; rw [← cell 3 (by decide)]; exact h
    · refine .inr ⟨k, gc, rs, e, ?_⟩
      rcases h with h | ⟨v, hv, h⟩ | h
      · exact .inl h
      · exact .inr (.inl ⟨v, by rw [← hcc k gc rs e]; exact hv, h⟩)
      · exact .inr (.inr h)
/-- all that lives lies ahead of m, where no place from m on has a node. -/
theorem STORE.top_of {w : World} {B g log len alive N : Nat} {C : CHUNKS} (hS : STORE w B g log len alive N C) {m : Nat} (h : ∀ p, m ≤ p → AT C log p = none) : TOP C m := fun k gc rs e r hr j hj hb => by
  obtain ⟨_, hC, hin⟩ := hS.chunk k gc rs e
  have h1 := (hin r hr j hj hb).1
  rcases Nat.lt_or_ge (r.num * 64 + j) m with c | c
  · exact c
  · exfalso
    have h2 := h _ c
    have h3 := LOOK_any hC (r.num * 64 + j)
    have h4 : (rs.any fun s => HASP s (r.num * 64 + j)) = true := by
      rw [List.any_eq_true]
      refine ⟨r, hr, ?_⟩
      unfold HASP
      rw [show (r.num * 64 + j) / 64 = r.num by omega, show (r.num * 64 + j) % 64 = j by omega, hb]
      simp
    unfold AT at h2
    rw [h1, e] at h2
    rw [h4, show LOOK rs (r.num * 64 + j) = none from h2] at h3
    cases h3
theorem STORE.far {w : World} {B g log len alive N : Nat} {C : CHUNKS} (hS : STORE w B g log len alive N C) {p : Nat} (hp : len ≤ p) : AT C log p = none := by
  unfold AT
  cases hc : C (p / 2 ^ log) with
  | none => rfl
  | some c =>
    obtain ⟨gc, rs⟩ := c
    obtain ⟨_, hC, hin⟩ := hS.chunk _ gc rs hc
    show LOOK rs p = none
    have h3 := LOOK_any hC p
    have h4 : (rs.any fun s => HASP s p) = false := by
      rw [List.any_eq_false]
      intro r hr he
      unfold HASP at he
      simp at he
      have := (hin r hr (p % 64) (Nat.mod_lt _ (by decide)) he.2).2
      rw [he.1] at this
      omega
    rw [h4] at h3
    cases hl : LOOK rs p with
    | none => rfl
    | some x => rw [hl] at h3; cases h3
theorem LIVES_split (C : CHUNKS) (log K M : Nat) : LIVES C log M = LCT (fun p => decide (p / 2 ^ log = K) && (AT C log p).isSome) M + LCT (fun p => !decide (p / 2 ^ log = K) && (AT C log p).isSome) M := by
  unfold LIVES
  rw [← LCT_or]
  · exact LCT_congr fun p _ => by cases decide (p / 2 ^ log = K) <;> simp
  · intro p h1 h2
    cases hd : decide (p / 2 ^ log = K) <;> rw [hd] at h1 h2 <;> simp at h1 h2
/-- what is left when a chunk was thinned is counted right. -/
theorem ALV.thin {w w' : World} {B g log len alive N K gone gc : Nat} {C C' : CHUNKS} {rs rs' : List ROW} (hS : STORE w B g log len alive N C) (hS' : STORE w' B g log len (alive - gone) N C') (h : ALV C log len alive) (hK : C K = some (gc, rs)) (hsum : gone + SUMP rs' = SUMP rs) (hK' : (rs' = [] ∧ C' K = none) ∨ (rs' ≠ [] ∧ ∃ gc, C' K = some (gc, rs'))) (hA : ∀ p, p / 2 ^ log ≠ K → AT C' log p = AT C log p) : ALV C' log len (alive - gone) := by
  have h1 := SUMP_chunk hS hK (Nat.le_refl _)
  have h2 : SUMP rs' = LCT (fun p => decide (p / 2 ^ log = K) && (AT C' log p).isSome) len := by
    rcases hK' with ⟨e, hn⟩ | ⟨_, gc', e⟩
    · rw [e, LCT_none]
      · rfl
      · intro p _
        by_cases hp : p / 2 ^ log = K
        · unfold AT
          rw [hp, hn, decide_eq_true rfl]
          rfl
        · rw [decide_eq_false hp]
          rfl
    · exact SUMP_chunk hS' e (Nat.le_refl _)
  have h3 : LCT (fun p => !decide (p / 2 ^ log = K) && (AT C' log p).isSome) len = LCT (fun p => !decide (p / 2 ^ log = K) && (AT C log p).isSome) len := LCT_congr fun p _ => by
    by_cases hp : p / 2 ^ log = K
    · rw [decide_eq_true hp]
      rfl
    · rw [hA p hp]
  have h4 := LIVES_split C log K len
  have h5 := LIVES_split C' log K len
  unfold ALV at h ⊢
  omega
theorem ALV.cut {C : CHUNKS} {log len m alive : Nat} (h : ALV C log len alive) (hm : m ≤ len) (hA : ∀ p, m ≤ p → AT C log p = none) : ALV C log m alive := by
  obtain ⟨e, rfl⟩ : ∃ e, len = m + e := ⟨len - m, by omega⟩
  unfold ALV LIVES at h ⊢
  rw [LCT_add, LCT_none (n := e) fun p _ => by rw [hA _ (by omega)]; rfl] at h
  omega
theorem ALV.full {C : CHUNKS} {log len : Nat} (h : ∀ p, p < len → (AT C log p).isSome = true) : ALV C log len len := (LCT_all h).symm
/-- a chunk that has a row has a slice of them. -/
theorem CHUNK.slice {w : World} {B gc : Nat} {rs : List ROW} (h : CHUNK w B gc rs) (hr : rs ≠ []) : ∃ gr cap, Has w gc #[.slice (some ⟨gr, 0, none⟩) rs.length cap] 70 := by
  obtain ⟨v, hv, ho⟩ := h.box
  rcases ho.2 with ⟨_, h0⟩ | ⟨g, cap, cur, rfl, _⟩
  · exact absurd (List.eq_nil_of_length_eq_zero h0) hr
  · exact ⟨g, cap, hv⟩
end Go.Proofs.Ytkmcmngdainofaa
