/- Texts of StoreCuts, one behind the other: StoreCutPlain, StoreHeld, StoreCut, StoreFill, StoreCutRegion. -/
import Derived.Maps.RangeWalk
import Derived.Laws.IdiomRangeMap
import Derived.BigQuiet
import Derived.Test.YtkmcmngdainofaaStoreCutsP11
import Derived.Test.YtkmcmngdainofaaStoreCutsP12
import Derived.Test.YtkmcmngdainofaaStoreCutsP24
/- A store cut off: the number of places set back, the nodes that live counted. -/
namespace Go.Proofs.Ytkmcmngdainofaa
open Go.RowKit Go.Maps
set_option maxRecDepth 100000

theorem STORE.relen {w : World} {B g log len alive N : Nat} {C : CHUNKS} (hS : STORE w B g log len alive N C) (m : Nat) (hl : m < 2 ^ 40) (hT : TOP C m) : STORE (w.setCell ⟨g, 1, none⟩ (.int .u64 (m : Int))) B g log m alive N C ∧ STEP w (w.setCell ⟨g, 1, none⟩ (.int .u64 (m : Int))) g C C := by
  obtain ⟨cs, t, fr, k1, k2, k3, k4⟩ := hS.kind
  obtain ⟨w2, hw2⟩ : ∃ w2, w.setCell ⟨g, 1, none⟩ (.int .u64 (m : Int)) = w2 := ⟨_, rfl⟩
  rw [hw2]
  have hset : ∀ b, b ≠ g → w2.heap[b]? = w.heap[b]? := fun b hb => by rw [← hw2]; exact Below.heap_setCell _ _ _ b (by exact hb)
  have cell : ∀ i, i ≠ 1 → w2.cell? ⟨g, i, none⟩ = w.cell? ⟨g, i, none⟩ := fun i hi => by rw [← hw2, set_off (fun e => hi e.symm)]
  have hch : ∀ k gc rk, C k = some (gc, rk) → gc ≠ g ∧ (∀ v x, w.cell? ⟨gc, 0, none⟩ = some v → v.ownBlock = some x → x ≠ g) ∧ ∀ r ∈ rk, r.gh ≠ g := fun k gc rk e => by
    obtain ⟨⟨_, z1⟩, z2, z3⟩ := (hS.chunk k gc rk e).2.1.kinds
    refine ⟨fun e => other_kind k1 z1 k2 e.symm, fun v x hv hx => ?_, fun r hr => ?_⟩
    · obtain ⟨_, hc⟩ := z2 v x hv hx
      exact fun e => other_kind k1 hc k3 e.symm
    · obtain ⟨_, hc⟩ := z3 r hr
      exact fun e => other_kind k1 hc k4 e.symm
  have hcc : ∀ k gc rk, C k = some (gc, rk) → w2.cell? ⟨gc, 0, none⟩ = w.cell? ⟨gc, 0, none⟩ := fun k gc rk e => World.cell?_of_block (w := w) (by exact hset gc (hch k gc rk e).1)
  refine ⟨⟨hS.small, hl, (cell 0 (by decide)).trans hS.c0, ?_, (cell 2 (by decide)).trans hS.c2, fun i hi => ?_, ?_, ?_, ?_, ?_⟩, ?_⟩
  · rw [← hw2]
    exact World.cell?_setCell_same _ _ _ hS.c1
  · rw [← hw2, World.frozen?_setCell]
    exact hS.live i hi
  · obtain ⟨cs', h1⟩ := set_kind (i := 1) k1 (.int .u64 (m : Int))
    exact ⟨cs', t, fr, by rw [← hw2]; exact h1, k2, k3, k4⟩
  · obtain ⟨mv, m1, m2, m3⟩ := hS.map
    refine ⟨mv, (cell 3 (by decide)).trans m1, m2, fun b e => ?_⟩
    obtain ⟨c1, n, c2, c3⟩ := m3 b e
    refine ⟨c1, n, c2, c3.at (hset b (fun e => ?_))⟩
    obtain ⟨D, ⟨es, clock, h1, _⟩, _⟩ := c3
    rw [e, k1] at h1
    cases h1
  · intro k gc rk e
    obtain ⟨b1, b2, b3⟩ := hS.chunk k gc rk e
    obtain ⟨d1, d2, d3⟩ := hch k gc rk e
    exact ⟨b1, b2.at (hset _ d1) (fun v x hv hx => hset _ (d2 v x hv hx)) (fun r hr => hset _ (d3 r hr)), fun r hr j hj hb => by have := b3 r hr j hj hb; exact ⟨this.1, hT k gc rk e r hr j hj hb⟩⟩
  · intro k k' gc gc' rs rs' hne e e'
    obtain ⟨o1, o2, o3⟩ := hS.one k k' gc gc' rs rs' hne e e'
    exact ⟨o1, o2, fun v v' hv hv' => o3 v v' (by rw [← hcc k gc rs e]; exact hv) (by rw [← hcc k' gc' rs' e']; exact hv')⟩
  · refine ⟨⟨fun b h => .inl ?_, fun b _ hbg _ => hset b hbg, by rw [← hw2]; simp, fun i hi => cell i (by omega)⟩, id⟩
    rcases h with h | ⟨k, gc, rs, e, h⟩
    · left; rw [← cell 3 (by decide)]; exact h
    · refine .inr ⟨k, gc, rs, e, ?_⟩
      rcases h with h | ⟨v, hv, h⟩ | h
      · exact .inl h
      · exact .inr (.inl ⟨v, by rw [← hcc k gc rs e]; exact hv, h⟩)
      · exact .inr (.inr h)
/-- all that lives lies ahead of m, where no place from m on has a node. -/
theorem STORE.top_of {w : World} {B g log len alive N : Nat} {C : CHUNKS} (hS : STORE w B g log len alive N C) {m : Nat} (h : ∀ p, m ≤ p → AT C log p = none) : TOP C m := fun k gc rs e r hr j hj hb => by
  obtain ⟨_, hC, hin⟩ := hS.chunk k gc rs e
  have h1 := (hin r hr j hj hb).1
  rcases Nat.lt_or_ge (r.num * 64 + j) m with c | c
  · exact c
  · exfalso
    have h2 := h _ c
    have h3 := LOOK_any hC (r.num * 64 + j)
    have h4 : (rs.any fun s => HASP s (r.num * 64 + j)) = true := by
      rw [List.any_eq_true]
      refine ⟨r, hr, ?_⟩
      unfold HASP
      rw [show (r.num * 64 + j) / 64 = r.num by omega, show (r.num * 64 + j) % 64 = j by omega, hb]
      simp
    unfold AT at h2
    rw [h1, e] at h2
    rw [h4, show LOOK rs (r.num * 64 + j) = none from h2] at h3
    cases h3
theorem STORE.far {w : World} {B g log len alive N : Nat} {C : CHUNKS} (hS : STORE w B g log len alive N C) {p : Nat} (hp : len ≤ p) : AT C log p = none := by
  unfold AT
  cases hc : C (p / 2 ^ log) with
  | none => rfl
  | some c =>
    obtain ⟨gc, rs⟩ := c
    obtain ⟨_, hC, hin⟩ := hS.chunk _ gc rs hc
    show LOOK rs p = none
    have h3 := LOOK_any hC p
    have h4 : (rs.any fun s => HASP s p) = false := by
      rw [List.any_eq_false]
      intro r hr he
      unfold HASP at he
      simp at he
      have := (hin r hr (p % 64) (Nat.mod_lt _ (by decide)) he.2).2
      rw [he.1] at this
      omega
    rw [h4] at h3
    cases hl : LOOK rs p with
    | none => rfl
    | some x => rw [hl] at h3; cases h3
theorem LIVES_split (C : CHUNKS) (log K M : Nat) : LIVES C log M = LCT (fun p => decide (p / 2 ^ log = K) && (AT C log p).isSome) M + LCT (fun p => !decide (p / 2 ^ log = K) && (AT C log p).isSome) M := by
  unfold LIVES
  rw [← LCT_or]
  · exact LCT_congr fun p _ => by cases decide (p / 2 ^ log = K) <;> simp
  · intro p h1 h2
    cases hd : decide (p / 2 ^ log = K) <;> rw [hd] at h1 h2 <;> simp at h1 h2
/-- what is left when a chunk was thinned is counted right. -/
theorem ALV.thin {w w' : World} {B g log len alive N K gone gc : Nat} {C C' : CHUNKS} {rs rs' : List ROW} (hS : STORE w B g log len alive N C) (hS' : STORE w' B g log len (alive - gone) N C') (h : ALV C log len alive) (hK : C K = some (gc, rs)) (hsum : gone + SUMP rs' = SUMP rs) (hK' : (rs' = [] ∧ C' K = none) ∨ (rs' ≠ [] ∧ ∃ gc, C' K = some (gc, rs'))) (hA : ∀ p, p / 2 ^ log ≠ K → AT C' log p = AT C log p) : ALV C' log len (alive - gone) := by
  have h1 := SUMP_chunk hS hK (Nat.le_refl _)
  have h2 : SUMP rs' = LCT (fun p => decide (p / 2 ^ log = K) && (AT C' log p).isSome) len := by
    rcases hK' with ⟨e, hn⟩ | ⟨_, gc', e⟩
    · rw [e, LCT_none]
      · rfl
      · intro p _
        by_cases hp : p / 2 ^ log = K
        · unfold AT
          rw [hp, hn, decide_eq_true rfl]
          rfl
        · rw [decide_eq_false hp]
          rfl
    · exact SUMP_chunk hS' e (Nat.le_refl _)
  have h3 : LCT (fun p => !decide (p / 2 ^ log = K) && (AT C' log p).isSome) len = LCT (fun p => !decide (p / 2 ^ log = K) && (AT C log p).isSome) len := LCT_congr fun p _ => by
    by_cases hp : p / 2 ^ log = K
    · rw [decide_eq_true hp]
      rfl
    · rw [hA p hp]
  have h4 := LIVES_split C log K len
  have h5 := LIVES_split C' log K len
  unfold ALV at h ⊢
  omega
theorem ALV.cut {C : CHUNKS} {log len m alive : Nat} (h : ALV C log len alive) (hm : m ≤ len) (hA : ∀ p, m ≤ p → AT C log p = none) : ALV C log m alive := by
  obtain ⟨e, rfl⟩ : ∃ e, len = m + e := ⟨len - m, by omega⟩
  unfold ALV LIVES at h ⊢
  rw [LCT_add, LCT_none (n := e) fun p _ => by rw [hA _ (by omega)]; rfl] at h
  omega
theorem ALV.full {C : CHUNKS} {log len : Nat} (h : ∀ p, p < len → (AT C log p).isSome = true) : ALV C log len len := (LCT_all h).symm
/-- a chunk that has a row has a slice of them. -/
theorem CHUNK.slice {w : World} {B gc : Nat} {rs : List ROW} (h : CHUNK w B gc rs) (hr : rs ≠ []) : ∃ gr cap, Has w gc #[.slice (some ⟨gr, 0, none⟩) rs.length cap] 70 := by
  obtain ⟨v, hv, ho⟩ := h.box
  rcases ho.2 with ⟨_, h0⟩ | ⟨g, cap, cur, rfl, _⟩
  · exact absurd (List.eq_nil_of_length_eq_zero h0) hr
  · exact ⟨g, cap, hv⟩
end Go.Proofs.Ytkmcmngdainofaa

/- A store whose blocks are as they were; two stores that have no block in common. -/
namespace Go.Proofs.Ytkmcmngdainofaa
open Go.RowKit
set_option maxRecDepth 100000

/-- two stores without a common block. -/
def APART (w : World) (g : Nat) (C : CHUNKS) (g' : Nat) (C' : CHUNKS) : Prop := ∀ x, (x = g ∨ FOOT w g C x) → (x = g' ∨ FOOT w g' C' x) → False
theorem APART.symm {w : World} {g g' : Nat} {C C' : CHUNKS} (h : APART w g C g' C') : APART w g' C' g C := fun x a b => h x b a
/-- where the blocks of a store lie. -/
theorem STORE.foot_base {w : World} {B g log len alive N b : Nat} {C : CHUNKS} (hS : STORE w B g log len alive N C) (hb : FOOT w g C b) : B ≤ b := by
  rcases hb with e | ⟨k, gc, rs, e, h⟩
  · obtain ⟨mv, m1, m2, m3⟩ := hS.map
    rw [e] at m1
    have hm : mv = some b := by cases Option.some.inj m1; rfl
    exact (m3 b hm).1
  · have hC := (hS.chunk k gc rs e).2.1
    rcases h with rfl | ⟨v, hv, h⟩ | ⟨r, hr, rfl⟩
    · exact hC.far
    · obtain ⟨v0, h1, h2⟩ := hC.box
      rw [h1.cell 0] at hv
      cases Option.some.inj hv
      exact (h2.lt b h).1
    · exact ((hC.row r hr).2.2.2.2.lt r.gh rfl).1
end Go.Proofs.Ytkmcmngdainofaa

/- Store.Cut of a store that has all its nodes. -/
namespace Go.Proofs.Ytkmcmngdainofaa
open Go.RowKit Go.Maps
set_option maxRecDepth 100000

/-- the store while its chunks are thinned one by one: i of them are done. -/
def CUTI (w wx : World) (B g log len n N fi bn i : Nat) (kv : Value) (C : CHUNKS) : Prop := ∃ Ci al, STORE wx B g log len al N Ci ∧ ALV Ci log len al ∧ STEP w wx g C Ci ∧ (∀ p, AT Ci log p = if fi ≤ p / 2 ^ log ∧ p / 2 ^ log < fi + i ∧ n ≤ p then none else AT C log p) ∧ (∀ k, fi + i ≤ k → Ci k = C k) ∧ wx.cell? ⟨bn, 0, none⟩ = some (.int .u64 (n : Int)) ∧ ¬ FOOT wx g Ci bn ∧ bn ≠ g ∧ bn < wx.heap.size ∧ (∀ k, kv.ownBlock = some k → ¬ FOOT wx g Ci k ∧ k ≠ g ∧ k < wx.heap.size ∧ wx.heap[k]? = w.heap[k]?) ∧ OTO w wx
theorem CUTI.below {w wx w' : World} {B g log len n N fi bn i : Nat} {kv : Value} {C : CHUNKS} (h : CUTI w wx B g log len n N fi bn i kv C) (hb : Below wx.heap.size wx w') : CUTI w w' B g log len n N fi bn i kv C := by
  obtain ⟨Ci, al, h1, h2, h3, h4, h5, h6, h7, h8, h9, h10, h11⟩ := h
  refine ⟨Ci, al, h1.below hb, h2, h3.trans (STEP.below h1 hb), h4, h5, (hb.cell (p := ⟨bn, 0, none⟩) h9).trans h6, fun hf => h7 (h1.foot_below hb hf), h8, Nat.lt_of_lt_of_le h9 hb.size, fun k e => ?_, h11.trans (OTO.of_below hb)⟩
  obtain ⟨k1, k2, k3, k4⟩ := h10 k e
  exact ⟨fun hf => k1 (h1.foot_below hb hf), k2, Nat.lt_of_lt_of_le k3 hb.size, (hb.block k k3).trans k4⟩
/-- one chunk more. -/
theorem CUTI.next {w wx w' : World} {B g log len n N fi bn i : Nat} {kv : Value} {C Ci : CHUNKS} {al : Nat} {rs : List ROW} {gc : Nat} (h1 : STORE wx B g log len al N Ci) (h2 : ALV Ci log len al) (h3 : STEP w wx g C Ci) (h4 : ∀ p, AT Ci log p = if fi ≤ p / 2 ^ log ∧ p / 2 ^ log < fi + i ∧ n ≤ p then none else AT C log p) (h5 : ∀ k, fi + i ≤ k → Ci k = C k) (h6 : wx.cell? ⟨bn, 0, none⟩ = some (.int .u64 (n : Int))) (h7 : ¬ FOOT wx g Ci bn) (h8 : bn ≠ g) (h9 : bn < wx.heap.size) (h10 : ∀ k, kv.ownBlock = some k → ¬ FOOT wx g Ci k ∧ k ≠ g ∧ k < wx.heap.size ∧ wx.heap[k]? = w.heap[k]?) (h11 : OTO w wx)
    (hK : Ci (fi + i) = some (gc, rs)) (h : STHIN wx B g log len al N (fi + i) n Ci rs w') : CUTI w w' B g log len n N fi bn (i + 1) kv C := by
  obtain ⟨C', gone, rs', s1, s2, s3, s4, s5, s6, s7⟩ := h
  refine ⟨C', al - gone, s1, ALV.thin h1 s1 h2 hK s4 s5 (fun p hp => ?_), h3.trans s3, fun p => ?_, fun k hk => ?_, ?_, fun hf => ?_, h8, Nat.lt_of_lt_of_le h9 s3.size, fun k e => ?_, h11.trans s7⟩
  · rw [s2 p, if_neg (fun x => hp x.1)]
  · rw [s2 p, h4 p]
    by_cases e : p / 2 ^ log = fi + i ∧ n ≤ p
    · rw [if_pos e, if_pos ⟨by omega, by omega, e.2⟩]
    · rw [if_neg e]
      by_cases e2 : fi ≤ p / 2 ^ log ∧ p / 2 ^ log < fi + i ∧ n ≤ p
      · rw [if_pos e2, if_pos ⟨e2.1, by omega, e2.2.2⟩]
      · rw [if_neg e2, if_neg (fun x => by
          by_cases e3 : p / 2 ^ log = fi + i
          · exact e ⟨e3, x.2.2⟩
          · exact e2 ⟨x.1, by omega, x.2.2⟩)]
  · rw [s6 k (by omega), h5 k (by omega)]
  · exact (World.cell?_of_block (a := ⟨bn, 0, none⟩) (s3.same bn h9 h8 h7)).trans h6
  · rcases s3.foot bn hf with a | a
    · exact h7 a
    · omega
  · obtain ⟨k1, k2, k3, k4⟩ := h10 k e
    refine ⟨fun hf => ?_, k2, Nat.lt_of_lt_of_le k3 s3.size, (s3.same k k3 k2 k1).trans k4⟩
    rcases s3.foot k hf with a | a
    · exact k1 a
    · omega
/-- what Cut leaves where it goes through. -/
def CUTOK (w : World) (B g log n N : Nat) (C : CHUNKS) (w' : World) : Prop := ∃ C' al, STORE w' B g log n al N C' ∧ ALV C' log n al ∧ STEP w w' g C C' ∧ (∀ p, AT C' log p = if p < n then AT C log p else none) ∧ OTO w w'
theorem STEP.under {w w' : World} {B g log len alive N : Nat} {C C' : CHUNKS} (hS : STORE w B g log len alive N C) (hB : B ≤ g) (hBw : B ≤ w.heap.size) (h : STEP w w' g C C') (ho : OTO w w') : Below B w w' :=
  ⟨ho.1, ho.2.1, ho.2.2, h.size, fun b hb => h.same b (by omega) (by omega) (fun hf => by have := hS.foot_base hf; omega)⟩
/-- all chunks are thinned: the length is set back. -/
theorem CUTI.last {w wx : World} {B g log len n N fi la bn : Nat} {kv : Value} {C : CHUNKS} (h : CUTI w wx B g log len n N fi bn (la - fi + 1) kv C) (hS : STORE w B g log len len N C) (hn : n ≤ len) (hfi : n / 2 ^ log = fi) (hla : (len - 1) / 2 ^ log = la) (hfl : fi ≤ la) : wx.frozen? ⟨g, 1, none⟩ = false ∧ (∃ v, wx.cell? ⟨g, 1, none⟩ = some v) ∧ CUTOK w B g log n N C (wx.setCell ⟨g, 1, none⟩ (.int .u64 (n : Int))) := by
  obtain ⟨Ci, al, h1, h2, h3, h4, h5, h6, h7, h8, h9, h10, h11⟩ := h
  have hA : ∀ p, AT Ci log p = if p < n then AT C log p else none := fun p => by
    rw [h4 p]
    by_cases hp : p < n
    · rw [if_pos hp, if_neg (fun x => by omega)]
    · rw [if_neg hp]
      by_cases hl : len ≤ p
      · rw [hS.far hl]
        split <;> rfl
      · have e1 : fi ≤ p / 2 ^ log := by rw [← hfi]; exact Nat.div_le_div_right (by omega)
        have e2 : p / 2 ^ log ≤ la := by rw [← hla]; exact Nat.div_le_div_right (by omega)
        rw [if_pos ⟨e1, by omega, by omega⟩]
  have hnone : ∀ p, n ≤ p → AT Ci log p = none := fun p hp => by rw [hA p, if_neg (by omega)]
  obtain ⟨q1, q2⟩ := h1.relen n (by have := hS.short; omega) (h1.top_of hnone)
  exact ⟨h1.live 1 (by decide), ⟨_, h1.c1⟩, Ci, al, q1, h2.cut hn hnone, h3.trans q2, hA, h11.trans (OTO.cell _ _ _)⟩
end Go.Proofs.Ytkmcmngdainofaa

/- A store of a list of hashes: massiflaw5.fill. -/
namespace Go.Proofs.Ytkmcmngdainofaa
open Go.RowKit Go.Maps
set_option maxRecDepth 100000

/-- a slice of hashes lies there. -/
def HLIE (w : World) (a : Option Addr) (n : Nat) (hs : Nat → Nat → Nat) : Prop := 0 < n → ∃ b o, a = some ⟨b, o, none⟩ ∧ b < w.heap.size ∧ ∀ i, i < n → w.rangeAt b (o + i * 32) (ULIST .u8 32 (hs i))
theorem STORE.fresh (w : World) (log : Nat) (h : log ≤ 16) : STORE (w.alloc (.cells (FRESH log) 47)) w.heap.size w.heap.size log 0 0 0 (fun _ => none) ∧ PINS (w.alloc (.cells (FRESH log) 47)) w.heap.size w.heap.size 0 (fun _ => none) (fun _ => 0) := by
  have hh : Has (w.alloc (.cells (FRESH log) 47)) w.heap.size (FRESH log) 47 := Has.new w _ _
  refine ⟨⟨h, by decide, hh.cell 0, hh.cell 1, hh.cell 2, fun i _ => hh.frozen i, ⟨_, _, _, hh, by decide, by decide, by decide⟩, ⟨none, hh.cell 3, fun _ _ => rfl, fun b e => by cases e⟩, fun k gc rs e => (by cases e), fun k k' gc gc' rs rs' _ e => by cases e⟩, ⟨⟨none, hh.cell 4, fun _ _ => rfl, fun b e => by cases e⟩⟩⟩
/-- a store that has just these hashes, all living, none with a pin. -/
def FILLED (w : World) (B g log n : Nat) (hs : Nat → Nat → Nat) : Prop := ∃ C, STORE w B g log n n n C ∧ PINS w B g 0 C (fun _ => 0) ∧ (∀ p, AT C log p = if p < n then some (hs p) else none) ∧ FULL C
theorem FILLED.fresh (w : World) (log : Nat) (h : log ≤ 16) (hs : Nat → Nat → Nat) : FILLED (w.alloc (.cells (FRESH log) 47)) w.heap.size w.heap.size log 0 hs := by
  obtain ⟨h1, h2⟩ := STORE.fresh w log h
  exact ⟨_, h1, h2, fun p => rfl, fun k gc rs e => by cases e⟩
theorem FILLED.push {w w' : World} {B g log n : Nat} {hs : Nat → Nat → Nat} {C : CHUNKS} (hS : STORE w B g log n n n C) (hP : PINS w B g 0 C (fun _ => 0)) (hA : ∀ p, AT C log p = if p < n then some (hs p) else none) (hF : FULL C) (h : PUSHED w B g log n n n C (hs n) w') : FILLED w' B g log (n + 1) hs := by
  obtain ⟨C', c1, c2, c3, c4⟩ := h
  obtain ⟨cs, t, fr, k1, _⟩ := hS.kind
  refine ⟨C', c1, hP.step c3 ⟨cs, t, fr, k1⟩, fun p => ?_, c3.full hF⟩
  rw [c2, hA]
  by_cases e : p = n
  · subst e; rw [if_pos rfl, if_pos (by omega)]
  · rw [if_neg e]
    by_cases e2 : p < n
    · rw [if_pos e2, if_pos (by omega)]
    · rw [if_neg e2, if_neg (by omega)]
set_option maxHeartbeats 2000000 in
theorem fill_ok (log : Nat) (hlog : log ≤ 16) (a : Option Addr) (n c : Nat) (hn : n ≤ 200) (hs : Nat → Nat → Nat) (h8 : ∀ i, i < n → ∀ j, hs i j < 256) (w : World) (hL : HLIE w a n hs) : Calls Try.prog 5 #[.int .i64 (log : Int), .slice a n c] w fun e w' =>
    e = .returned (.tuple #[.pointer (some ⟨w.heap.size, 0, none⟩), .bool true]) ∧ FILLED w' w.heap.size w.heap.size log n hs ∧ Below w.heap.size w w' := by
  have cN := storenew_ok log hlog w
  have HF : Aside (FILLED (w.alloc (.cells (FRESH log) 47)) w.heap.size w.heap.size log 0 hs ∧ Below w.heap.size w (w.alloc (.cells (FRESH log) 47))) := ⟨FILLED.fresh w log hlog hs, (Below.refl _ _).alloc (Nat.le_refl _) _⟩
  have HL : Aside (HLIE w a n hs ∧ n ≤ 200 ∧ ∀ i, i < n → ∀ j, hs i j < 256) := ⟨hL, hn, h8⟩
  clear hL hn h8 hlog
  go_enter Try.func5, Try.ntmps5
  go_wp2_with fail
  refine cN.mono ?_
  rintro e w1 ⟨rfl, rfl⟩
  clear cN
  obtain ⟨w1, hw1⟩ : ∃ w1, w.alloc (.cells (FRESH log) 47) = w1 := ⟨_, rfl⟩
  rw [hw1] at HF ⊢
  clear hw1
  go_wp2
  go_loopg [8] n (fun g s8 wx => ∃ k : Nat, k + g = n ∧ s8 = .int .i64 k ∧ Aside (FILLED wx w.heap.size w.heap.size log k hs ∧ Below w.heap.size w wx))
  case atStart => exact ⟨0, by omega, rfl, HF.out⟩
  case round =>
    obtain ⟨i, hkg, rfl, A⟩ := hrel
    cases gk with
    | zero =>
      obtain rfl : i = n := by omega
      go_wp2
      go_ret2
      exact ⟨rfl, A.out⟩
    | succ g =>
      have hlt : (i : Int) < (n : Int) := by omega
      obtain ⟨l1, l2, l3⟩ := HL.out
      obtain ⟨b, o, rfl, hb, hr⟩ := l1 (by omega)
      obtain ⟨⟨C, f1, f2, f3, f5⟩, f4⟩ := A.out
      have hr2 : wr.rangeAt b (o + i * 32) (ULIST .u8 32 (hs i)) := fun j v hv => (f4.cell (by exact hb)).trans (hr i (by omega) j v hv)
      have cP := push_ok f1 (hs i) (l3 i (by omega)) (by omega) (by omega) (Nat.le_refl _) (by omega)
      have HB : Aside (STORE wr w.heap.size w.heap.size log i i i C ∧ PINS wr w.heap.size w.heap.size 0 C (fun _ => 0) ∧ (∀ p, AT C log p = if p < i then some (hs p) else none) ∧ Below w.heap.size w wr ∧ FULL C) := ⟨f1, f2, f3, f4, f5⟩
      have hi1 : wrap64 ((i : Int) + 1) = ((i + 1 : Nat) : Int) := by unfold wrap64; omega
      have hwu : IntKind.u64.wrap (i : Int) = (i : Int) := wrap_nat rfl (by omega)
      clear l1 l2 l3 hr f1 f2 f3 f4 f5
      go_wp2_with (first
        | (refine wpList_load_mid rfl 33 (.tmp 29) rfl b (o + i * 32) rfl (ULIST .u8 32 (hs i)) _ hr2 Try.underlying33 rfl (by rw [ULIST_length]; exact info_hash) ?_)
        | fail)
      rw [← UARR_list]
      refine cP.mono ?_
      rintro e w2 ⟨rfl, hP⟩
      have HP : Aside (FILLED w2 w.heap.size w.heap.size log (i + 1) hs ∧ Below w.heap.size w w2) := by
        obtain ⟨f1, f2, f3, f4, f5⟩ := HB.out
        obtain ⟨_, _, _, _, hb2⟩ := id hP
        exact ⟨FILLED.push f1 f2 f3 f5 hP, f4.trans hb2⟩
      clear cP hP hr2
      go_wp2
      go_roundg g
      case measure => omega
      case rel => exact ⟨i + 1, by omega, by first | rfl | (rw [hi1]), HP⟩
end Go.Proofs.Ytkmcmngdainofaa

/- The region of Store.Cut that draws its order, and one of the law StoreCuts. -/
namespace Go.Proofs.Ytkmcmngdainofaa
open Go.RowKit Go.Maps
set_option maxRecDepth 100000

def CT1OPS : Array Oper := #[{ dst := some 8, op := Op.load 29 (Operand.tmp 3), type := 29, pos := "store.go:155", after := #[], guard := none }, { dst := some 9, op := Op.move (Operand.tmp 0), type := 24, pos := "store.go:155", after := #[], guard := none }, { dst := some 10, op := Op.nilCheck (Operand.tmp 9), type := 0, pos := "store.go:155", after := #[{ on := 1, ground := Ground.data }], guard := none }, { dst := some 11, op := Op.fieldAddr 47 (Operand.tmp 10) 1, type := 0, pos := "store.go:155", after := #[{ on := 2, ground := Ground.data }], guard := none }, { dst := some 12, op := Op.load 29 (Operand.tmp 11), type := 29, pos := "store.go:155", after := #[{ on := 3, ground := Ground.data }], guard := none }, { dst := some 13, op := Op.binOp BinOp.gtr 29 (Operand.tmp 8) (Operand.tmp 12) 29, type := 4, pos := "store.go:155", after := #[{ on := 0, ground := Ground.data }, { on := 4, ground := Ground.data }], guard := none }]
set_option maxHeartbeats 2000000 in
theorem cut1 {Q : Exit → Act → World → Prop} {u1 u2 u4 u5 u6 u7 u8 u9 u10 u11 u12 u13 u14 u15 u16 u17 u18 u19 u20 u21 u22 u23 u24 u25 u26 u27 u28 u29 u30 u31 u32 u33 u34 u35 u36 u37 u38 u39 u40 u41 u42 : Value} (W : World) (g bn n ln : Nat) (t : Bool) (ht : decide (ln < n) = t) (J : World → Prop) (h0 : J W.drew) (hS : ∀ w, J w → (fun w : World => w.cell? ⟨bn, 0, none⟩ = some (.int .u64 (n : Int)) ∧ w.cell? ⟨g, 1, none⟩ = some (.int .u64 (ln : Int))) w) (hQ : ∀ c (a : Act) (t : Tmp) (v : Value) w, Q (.panic c) (a.put (some t) v) w → Q (.panic c) a w)
    (hfin : ∀ (w : World), (J w) → Q .normal { tmps := #[.pointer (some ⟨g, 0, none⟩), u1, u2, .pointer (some ⟨bn, 0, none⟩), u4, u5, u6, u7, .int .u64 (n : Int), .pointer (some ⟨g, 0, none⟩), .pointer (some ⟨g, 0, none⟩), .pointer (some ⟨g, 1, none⟩), .int .u64 (ln : Int), .bool t, u14, u15, u16, u17, u18, u19, u20, u21, u22, u23, u24, u25, u26, u27, u28, u29, u30, u31, u32, u33, u34, u35, u36, u37, u38, u39, u40, u41, u42], defers := [] } w) : (Code.region 1 CT1OPS true).wp Try.prog Q { tmps := #[.pointer (some ⟨g, 0, none⟩), u1, u2, .pointer (some ⟨bn, 0, none⟩), u4, u5, u6, u7, u8, u9, u10, u11, u12, u13, u14, u15, u16, u17, u18, u19, u20, u21, u22, u23, u24, u25, u26, u27, u28, u29, u30, u31, u32, u33, u34, u35, u36, u37, u38, u39, u40, u41, u42], defers := [] } W := by
  have kst : ∀ (w : World), (J w) → wpAnyH Try.prog .any CT1OPS Q (fun w : World => w.cell? ⟨bn, 0, none⟩ = some (.int .u64 (n : Int)) ∧ w.cell? ⟨g, 1, none⟩ = some (.int .u64 (ln : Int))) 0 #[true, true, true, true, true, true] { tmps := #[.pointer (some ⟨g, 0, none⟩), u1, u2, .pointer (some ⟨bn, 0, none⟩), u4, u5, u6, u7, .int .u64 (n : Int), .pointer (some ⟨g, 0, none⟩), .pointer (some ⟨g, 0, none⟩), .pointer (some ⟨g, 1, none⟩), .int .u64 (ln : Int), .bool t, u14, u15, u16, u17, u18, u19, u20, u21, u22, u23, u24, u25, u26, u27, u28, u29, u30, u31, u32, u33, u34, u35, u36, u37, u38, u39, u40, u41, u42], defers := [] } w := fun  w hp => by
    exact wpAnyH_done (by kernel_rfl) (hfin  w hp) _
  have hp := h0
  have hww : (fun w : World => w.cell? ⟨bn, 0, none⟩ = some (.int .u64 (n : Int)) ∧ w.cell? ⟨g, 1, none⟩ = some (.int .u64 (ln : Int))) W.drew := hS _ hp
  have last := kst W.drew hp
  have z : wpAnyH Try.prog .any CT1OPS Q (fun w : World => w.cell? ⟨bn, 0, none⟩ = some (.int .u64 (n : Int)) ∧ w.cell? ⟨g, 1, none⟩ = some (.int .u64 (ln : Int))) 6 #[false, false, false, false, false, false] { tmps := #[.pointer (some ⟨g, 0, none⟩), u1, u2, .pointer (some ⟨bn, 0, none⟩), u4, u5, u6, u7, u8, u9, u10, u11, u12, u13, u14, u15, u16, u17, u18, u19, u20, u21, u22, u23, u24, u25, u26, u27, u28, u29, u30, u31, u32, u33, u34, u35, u36, u37, u38, u39, u40, u41, u42], defers := [] } W.drew := by
    refine wpAnyH_take (i := 0) (oi := { dst := some 8, op := Op.load 29 (Operand.tmp 3), type := 29, pos := "store.go:155", after := #[], guard := none }) (v := .int .u64 (n : Int)) rfl (by kernel_rfl) (by kernel_rfl) (by kernel_rfl) (fun _ _ _ h => hQ _ _ _ _ _ h) (Or.inl ⟨by rfl, fun w hw => by have hx := hw.1; go_simp⟩) hww ?_
    simp only [Act.put, List.setIfInBounds_toArray, List.set_cons_zero, List.set_cons_succ]
    refine wpAnyH_take (i := 1) (oi := { dst := some 9, op := Op.move (Operand.tmp 0), type := 24, pos := "store.go:155", after := #[], guard := none }) (v := .pointer (some ⟨g, 0, none⟩)) rfl (by kernel_rfl) (by kernel_rfl) (by kernel_rfl) (fun _ _ _ h => hQ _ _ _ _ _ h) (Yields.yieldsIf (Or.inl ⟨by rfl, fun W => by go_simp⟩)) hww ?_
    simp only [Act.put, List.setIfInBounds_toArray, List.set_cons_zero, List.set_cons_succ]
    refine wpAnyH_take (i := 2) (oi := { dst := some 10, op := Op.nilCheck (Operand.tmp 9), type := 0, pos := "store.go:155", after := #[{ on := 1, ground := Ground.data }], guard := none }) (v := .pointer (some ⟨g, 0, none⟩)) rfl (by kernel_rfl) (by kernel_rfl) (by kernel_rfl) (fun _ _ _ h => hQ _ _ _ _ _ h) (Yields.yieldsIf (Or.inl ⟨by rfl, fun W => by go_simp⟩)) hww ?_
    simp only [Act.put, List.setIfInBounds_toArray, List.set_cons_zero, List.set_cons_succ]
    refine wpAnyH_take (i := 3) (oi := { dst := some 11, op := Op.fieldAddr 47 (Operand.tmp 10) 1, type := 0, pos := "store.go:155", after := #[{ on := 2, ground := Ground.data }], guard := none }) (v := .pointer (some ⟨g, 1, none⟩)) rfl (by kernel_rfl) (by kernel_rfl) (by kernel_rfl) (fun _ _ _ h => hQ _ _ _ _ _ h) (Yields.yieldsIf (Or.inl ⟨by rfl, fun W => by go_simp⟩)) hww ?_
    simp only [Act.put, List.setIfInBounds_toArray, List.set_cons_zero, List.set_cons_succ]
    refine wpAnyH_take (i := 4) (oi := { dst := some 12, op := Op.load 29 (Operand.tmp 11), type := 29, pos := "store.go:155", after := #[{ on := 3, ground := Ground.data }], guard := none }) (v := .int .u64 (ln : Int)) rfl (by kernel_rfl) (by kernel_rfl) (by kernel_rfl) (fun _ _ _ h => hQ _ _ _ _ _ h) (Or.inl ⟨by rfl, fun w hw => by have hx := hw.2; go_simp⟩) hww ?_
    simp only [Act.put, List.setIfInBounds_toArray, List.set_cons_zero, List.set_cons_succ]
    refine wpAnyH_take (i := 5) (oi := { dst := some 13, op := Op.binOp BinOp.gtr 29 (Operand.tmp 8) (Operand.tmp 12) 29, type := 4, pos := "store.go:155", after := #[{ on := 0, ground := Ground.data }, { on := 4, ground := Ground.data }], guard := none }) (v := .bool t) rfl (by kernel_rfl) (by kernel_rfl) (by kernel_rfl) (fun _ _ _ h => hQ _ _ _ _ _ h) (Or.inl ⟨by rfl, fun w hw => by have hx := ht; go_simp⟩) hww ?_
    simp only [Act.put, List.setIfInBounds_toArray, List.set_cons_zero, List.set_cons_succ]
    exact last
  exact wp_region_held_drew (S := (fun w : World => w.cell? ⟨bn, 0, none⟩ = some (.int .u64 (n : Int)) ∧ w.cell? ⟨g, 1, none⟩ = some (.int .u64 (ln : Int)))) (by kernel_rfl) hww (fun _ => z)
def CT28OPS : Array Oper := #[{ dst := some 96, op := Op.load 33 (Operand.tmp 17), type := 33, pos := "outright.go:138", after := #[], guard := none }, { dst := some 97, op := Op.move (Operand.tmp 1), type := 22, pos := "outright.go:138", after := #[], guard := none }, { dst := some 98, op := Op.move (Operand.tmp 16), type := 29, pos := "outright.go:138", after := #[], guard := none }, { dst := some 99, op := Op.indexAddr 22 (Operand.tmp 97) (Operand.tmp 98), type := 0, pos := "outright.go:138", after := #[{ on := 1, ground := Ground.data }, { on := 2, ground := Ground.data }], guard := none }, { dst := some 100, op := Op.load 33 (Operand.tmp 99), type := 33, pos := "outright.go:138", after := #[{ on := 3, ground := Ground.data }], guard := none }, { dst := some 101, op := Op.binOp BinOp.neq 33 (Operand.tmp 96) (Operand.tmp 100) 33, type := 4, pos := "outright.go:138", after := #[{ on := 0, ground := Ground.data }, { on := 4, ground := Ground.data }], guard := none }, { dst := some 102, op := Op.move (Operand.tmp 101), type := 4, pos := "outright.go:138", after := #[{ on := 5, ground := Ground.data }], guard := none }, { dst := some 103, op := Op.move (Operand.tmp 18), type := 27, pos := "outright.go:138", after := #[{ on := 6, ground := Ground.guard }], guard := some (6, false) }, { dst := some 104, op := Op.binOp BinOp.neq 27 (Operand.tmp 103) (Operand.const (Value.int IntKind.i64 0)) 27, type := 4, pos := "outright.go:138", after := #[{ on := 7, ground := Ground.data }, { on := 6, ground := Ground.guard }], guard := some (6, false) }, { dst := some 105, op := Op.pick (Operand.tmp 102) (Operand.const (Value.bool true)) (Operand.tmp 104), type := 4, pos := "outright.go:138", after := #[{ on := 6, ground := Ground.data }, { on := 8, ground := Ground.data }], guard := none }]
set_option maxHeartbeats 2000000 in
theorem cuts28 {Q : Exit → Act → World → Prop} {u0 u2 u3 u4 u5 u6 u7 u8 u9 u10 u11 u12 u13 u14 u15 u19 u20 u21 u22 u23 u24 u25 u26 u27 u28 u29 u30 u31 u32 u33 u34 u35 u36 u37 u38 u39 u40 u41 u42 u43 u44 u45 u46 u47 u48 u49 u50 u51 u52 u53 u54 u55 u56 u57 u58 u59 u60 u61 u62 u63 u64 u65 u66 u67 u68 u69 u70 u71 u72 u73 u74 u75 u76 u77 u78 u79 u80 u81 u82 u83 u84 u85 u86 u87 u88 u89 u90 u91 u92 u93 u94 u95 u96 u97 u98 u99 u100 u101 u102 u103 u104 u105 u106 u107 u108 u109 u110 u111 u112 u113 u114 u115 u116 u117 u118 : Value} (W : World) (lb lo n lc p b : Nat) (x : Nat → Nat) (hpn : (p : Int) < (n : Int)) (qx : ∀ w, (Op.equalIn 10000 33 (.agg (UARR .u8 32 x)) (.agg (UARR .u8 32 x))).run Try.prog w = .ok true w) (J : World → Prop) (h0 : J W.drew) (hS : ∀ w, J w → (fun w : World => w.rangeAt b 0 (ULIST .u8 32 x) ∧ w.rangeAt lb (lo + p * 32) (ULIST .u8 32 x)) w) (hQ : ∀ c (a : Act) (t : Tmp) (v : Value) w, Q (.panic c) (a.put (some t) v) w → Q (.panic c) a w)
    (hfin : ∀ (w : World), (J w) → Q .normal { tmps := #[u0, .slice (some ⟨lb, lo, none⟩) n lc, u2, u3, u4, u5, u6, u7, u8, u9, u10, u11, u12, u13, u14, u15, .int .u64 (p : Int), .pointer (some ⟨b, 0, none⟩), .int .i64 0, u19, u20, u21, u22, u23, u24, u25, u26, u27, u28, u29, u30, u31, u32, u33, u34, u35, u36, u37, u38, u39, u40, u41, u42, u43, u44, u45, u46, u47, u48, u49, u50, u51, u52, u53, u54, u55, u56, u57, u58, u59, u60, u61, u62, u63, u64, u65, u66, u67, u68, u69, u70, u71, u72, u73, u74, u75, u76, u77, u78, u79, u80, u81, u82, u83, u84, u85, u86, u87, u88, u89, u90, u91, u92, u93, u94, u95, .agg (UARR .u8 32 x), .slice (some ⟨lb, lo, none⟩) n lc, .int .u64 (p : Int), .pointer (some ⟨lb, (lo + p * 32), none⟩), .agg (UARR .u8 32 x), .bool false, .bool false, .int .i64 0, .bool false, .bool false, u106, u107, u108, u109, u110, u111, u112, u113, u114, u115, u116, u117, u118], defers := [] } w) : (Code.region 28 CT28OPS true).wp Try.prog Q { tmps := #[u0, .slice (some ⟨lb, lo, none⟩) n lc, u2, u3, u4, u5, u6, u7, u8, u9, u10, u11, u12, u13, u14, u15, .int .u64 (p : Int), .pointer (some ⟨b, 0, none⟩), .int .i64 0, u19, u20, u21, u22, u23, u24, u25, u26, u27, u28, u29, u30, u31, u32, u33, u34, u35, u36, u37, u38, u39, u40, u41, u42, u43, u44, u45, u46, u47, u48, u49, u50, u51, u52, u53, u54, u55, u56, u57, u58, u59, u60, u61, u62, u63, u64, u65, u66, u67, u68, u69, u70, u71, u72, u73, u74, u75, u76, u77, u78, u79, u80, u81, u82, u83, u84, u85, u86, u87, u88, u89, u90, u91, u92, u93, u94, u95, u96, u97, u98, u99, u100, u101, u102, u103, u104, u105, u106, u107, u108, u109, u110, u111, u112, u113, u114, u115, u116, u117, u118], defers := [] } W := by
  have kst : ∀ (w : World), (J w) → wpAnyH Try.prog .any CT28OPS Q (fun w : World => w.rangeAt b 0 (ULIST .u8 32 x) ∧ w.rangeAt lb (lo + p * 32) (ULIST .u8 32 x)) 0 #[true, true, true, true, true, true, true, true, true, true] { tmps := #[u0, .slice (some ⟨lb, lo, none⟩) n lc, u2, u3, u4, u5, u6, u7, u8, u9, u10, u11, u12, u13, u14, u15, .int .u64 (p : Int), .pointer (some ⟨b, 0, none⟩), .int .i64 0, u19, u20, u21, u22, u23, u24, u25, u26, u27, u28, u29, u30, u31, u32, u33, u34, u35, u36, u37, u38, u39, u40, u41, u42, u43, u44, u45, u46, u47, u48, u49, u50, u51, u52, u53, u54, u55, u56, u57, u58, u59, u60, u61, u62, u63, u64, u65, u66, u67, u68, u69, u70, u71, u72, u73, u74, u75, u76, u77, u78, u79, u80, u81, u82, u83, u84, u85, u86, u87, u88, u89, u90, u91, u92, u93, u94, u95, .agg (UARR .u8 32 x), .slice (some ⟨lb, lo, none⟩) n lc, .int .u64 (p : Int), .pointer (some ⟨lb, (lo + p * 32), none⟩), .agg (UARR .u8 32 x), .bool false, .bool false, .int .i64 0, .bool false, .bool false, u106, u107, u108, u109, u110, u111, u112, u113, u114, u115, u116, u117, u118], defers := [] } w := fun  w hp => by
    exact wpAnyH_done (by kernel_rfl) (hfin  w hp) _
  have hp := h0
  have hww : (fun w : World => w.rangeAt b 0 (ULIST .u8 32 x) ∧ w.rangeAt lb (lo + p * 32) (ULIST .u8 32 x)) W.drew := hS _ hp
  have last := kst W.drew hp
  have z : wpAnyH Try.prog .any CT28OPS Q (fun w : World => w.rangeAt b 0 (ULIST .u8 32 x) ∧ w.rangeAt lb (lo + p * 32) (ULIST .u8 32 x)) 10 #[false, false, false, false, false, false, false, false, false, false] { tmps := #[u0, .slice (some ⟨lb, lo, none⟩) n lc, u2, u3, u4, u5, u6, u7, u8, u9, u10, u11, u12, u13, u14, u15, .int .u64 (p : Int), .pointer (some ⟨b, 0, none⟩), .int .i64 0, u19, u20, u21, u22, u23, u24, u25, u26, u27, u28, u29, u30, u31, u32, u33, u34, u35, u36, u37, u38, u39, u40, u41, u42, u43, u44, u45, u46, u47, u48, u49, u50, u51, u52, u53, u54, u55, u56, u57, u58, u59, u60, u61, u62, u63, u64, u65, u66, u67, u68, u69, u70, u71, u72, u73, u74, u75, u76, u77, u78, u79, u80, u81, u82, u83, u84, u85, u86, u87, u88, u89, u90, u91, u92, u93, u94, u95, u96, u97, u98, u99, u100, u101, u102, u103, u104, u105, u106, u107, u108, u109, u110, u111, u112, u113, u114, u115, u116, u117, u118], defers := [] } W.drew := by
    refine wpAnyH_take (i := 0) (oi := { dst := some 96, op := Op.load 33 (Operand.tmp 17), type := 33, pos := "outright.go:138", after := #[], guard := none }) (v := .agg (UARR .u8 32 x)) rfl (by kernel_rfl) (by kernel_rfl) (by kernel_rfl) (fun _ _ _ h => hQ _ _ _ _ _ h) (yieldsIf_load_mid (by rfl) 33 (.tmp 17) rfl b 0 rfl (ULIST .u8 32 x) _ (fun w h => h.1) Try.underlying33 rfl (by rw [ULIST_length]; exact info_hash)) hww ?_
    simp only [Act.put, List.setIfInBounds_toArray, List.set_cons_zero, List.set_cons_succ]
    refine wpAnyH_take (i := 1) (oi := { dst := some 97, op := Op.move (Operand.tmp 1), type := 22, pos := "outright.go:138", after := #[], guard := none }) (v := .slice (some ⟨lb, lo, none⟩) n lc) rfl (by kernel_rfl) (by kernel_rfl) (by kernel_rfl) (fun _ _ _ h => hQ _ _ _ _ _ h) (Yields.yieldsIf (Or.inl ⟨by rfl, fun W => by go_simp⟩)) hww ?_
    simp only [Act.put, List.setIfInBounds_toArray, List.set_cons_zero, List.set_cons_succ]
    refine wpAnyH_take (i := 2) (oi := { dst := some 98, op := Op.move (Operand.tmp 16), type := 29, pos := "outright.go:138", after := #[], guard := none }) (v := .int .u64 (p : Int)) rfl (by kernel_rfl) (by kernel_rfl) (by kernel_rfl) (fun _ _ _ h => hQ _ _ _ _ _ h) (Yields.yieldsIf (Or.inl ⟨by rfl, fun W => by go_simp⟩)) hww ?_
    simp only [Act.put, List.setIfInBounds_toArray, List.set_cons_zero, List.set_cons_succ]
    refine wpAnyH_take (i := 3) (oi := { dst := some 99, op := Op.indexAddr 22 (Operand.tmp 97) (Operand.tmp 98), type := 0, pos := "outright.go:138", after := #[{ on := 1, ground := Ground.data }, { on := 2, ground := Ground.data }], guard := none }) (v := .pointer (some ⟨lb, (lo + p * 32), none⟩)) rfl (by kernel_rfl) (by kernel_rfl) (by kernel_rfl) (fun _ _ _ h => hQ _ _ _ _ _ h) (Yields.yieldsIf (Or.inl ⟨by rfl, fun W => by go_simp⟩)) hww ?_
    simp only [Act.put, List.setIfInBounds_toArray, List.set_cons_zero, List.set_cons_succ]
    refine wpAnyH_take (i := 4) (oi := { dst := some 100, op := Op.load 33 (Operand.tmp 99), type := 33, pos := "outright.go:138", after := #[{ on := 3, ground := Ground.data }], guard := none }) (v := .agg (UARR .u8 32 x)) rfl (by kernel_rfl) (by kernel_rfl) (by kernel_rfl) (fun _ _ _ h => hQ _ _ _ _ _ h) (yieldsIf_load_mid (by rfl) 33 (.tmp 99) rfl lb (lo + p * 32) rfl (ULIST .u8 32 x) _ (fun w h => h.2) Try.underlying33 rfl (by rw [ULIST_length]; exact info_hash)) hww ?_
    simp only [Act.put, List.setIfInBounds_toArray, List.set_cons_zero, List.set_cons_succ]
    refine wpAnyH_take (i := 5) (oi := { dst := some 101, op := Op.binOp BinOp.neq 33 (Operand.tmp 96) (Operand.tmp 100) 33, type := 4, pos := "outright.go:138", after := #[{ on := 0, ground := Ground.data }, { on := 4, ground := Ground.data }], guard := none }) (v := .bool false) rfl (by kernel_rfl) (by kernel_rfl) (by kernel_rfl) (fun _ _ _ h => hQ _ _ _ _ _ h) (Or.inl ⟨by rfl, fun w hw => by have hx := qx w; go_simp⟩) hww ?_
    simp only [Act.put, List.setIfInBounds_toArray, List.set_cons_zero, List.set_cons_succ]
    refine wpAnyH_take (i := 6) (oi := { dst := some 102, op := Op.move (Operand.tmp 101), type := 4, pos := "outright.go:138", after := #[{ on := 5, ground := Ground.data }], guard := none }) (v := .bool false) rfl (by kernel_rfl) (by kernel_rfl) (by kernel_rfl) (fun _ _ _ h => hQ _ _ _ _ _ h) (Yields.yieldsIf (Or.inl ⟨by rfl, fun W => by go_simp⟩)) hww ?_
    simp only [Act.put, List.setIfInBounds_toArray, List.set_cons_zero, List.set_cons_succ]
    refine wpAnyH_take (i := 7) (oi := { dst := some 103, op := Op.move (Operand.tmp 18), type := 27, pos := "outright.go:138", after := #[{ on := 6, ground := Ground.guard }], guard := some (6, false) }) (v := .int .i64 0) rfl (by kernel_rfl) (by kernel_rfl) (by kernel_rfl) (fun _ _ _ h => hQ _ _ _ _ _ h) (Yields.yieldsIf (Or.inl ⟨by rfl, fun W => by go_simp⟩)) hww ?_
    simp only [Act.put, List.setIfInBounds_toArray, List.set_cons_zero, List.set_cons_succ]
    refine wpAnyH_take (i := 8) (oi := { dst := some 104, op := Op.binOp BinOp.neq 27 (Operand.tmp 103) (Operand.const (Value.int IntKind.i64 0)) 27, type := 4, pos := "outright.go:138", after := #[{ on := 7, ground := Ground.data }, { on := 6, ground := Ground.guard }], guard := some (6, false) }) (v := .bool false) rfl (by kernel_rfl) (by kernel_rfl) (by kernel_rfl) (fun _ _ _ h => hQ _ _ _ _ _ h) (Yields.yieldsIf (Or.inl ⟨by rfl, fun W => by go_simp⟩)) hww ?_
    simp only [Act.put, List.setIfInBounds_toArray, List.set_cons_zero, List.set_cons_succ]
    refine wpAnyH_take (i := 9) (oi := { dst := some 105, op := Op.pick (Operand.tmp 102) (Operand.const (Value.bool true)) (Operand.tmp 104), type := 4, pos := "outright.go:138", after := #[{ on := 6, ground := Ground.data }, { on := 8, ground := Ground.data }], guard := none }) (v := .bool false) rfl (by kernel_rfl) (by kernel_rfl) (by kernel_rfl) (fun _ _ _ h => hQ _ _ _ _ _ h) (Yields.yieldsIf (Or.inl ⟨by rfl, fun W => by go_simp⟩)) hww ?_
    simp only [Act.put, List.setIfInBounds_toArray, List.set_cons_zero, List.set_cons_succ]
    exact last
  exact wp_region_held_drew (S := (fun w : World => w.rangeAt b 0 (ULIST .u8 32 x) ∧ w.rangeAt lb (lo + p * 32) (ULIST .u8 32 x))) (by kernel_rfl) hww (fun _ => z)
end Go.Proofs.Ytkmcmngdainofaa
