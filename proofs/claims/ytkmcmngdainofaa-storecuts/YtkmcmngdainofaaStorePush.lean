/- Store.Push. -/
import Derived.Test.YtkmcmngdainofaaStoreSputFirst
namespace Go.Proofs.Ytkmcmngdainofaa
open Go.RowKit Go.Maps
set_option maxRecDepth 100000

theorem STORE.longer {w : World} {B g log len alive N : Nat} {C : CHUNKS} (hS : STORE w B g log len alive N C) (hl : len + 1 < 2 ^ 40) : STORE (w.setCell ⟨g, 1, none⟩ (.int .u64 ((len + 1 : Nat) : Int))) B g log (len + 1) alive N C ∧ STEP w (w.setCell ⟨g, 1, none⟩ (.int .u64 ((len + 1 : Nat) : Int))) g C C := by
  obtain ⟨cs, t, fr, k1, k2, k3, k4⟩ := hS.kind
  obtain ⟨w2, hw2⟩ : ∃ w2, w.setCell ⟨g, 1, none⟩ (.int .u64 ((len + 1 : Nat) : Int)) = w2 := ⟨_, rfl⟩
  rw [hw2]
  have hset : ∀ b, b ≠ g → w2.heap[b]? = w.heap[b]? := fun b hb => by rw [← hw2]; exact Below.heap_setCell _ _ _ b (by exact hb)
  have cell : ∀ i, i ≠ 1 → w2.cell? ⟨g, i, none⟩ = w.cell? ⟨g, i, none⟩ := fun i hi => by rw [← hw2, set_off (fun e => hi e.symm)]
  have hch : ∀ k gc rk, C k = some (gc, rk) → gc ≠ g ∧ (∀ v x, w.cell? ⟨gc, 0, none⟩ = some v → v.ownBlock = some x → x ≠ g) ∧ ∀ r ∈ rk, r.gh ≠ g := fun k gc rk e => by
    obtain ⟨⟨_, z1⟩, z2, z3⟩ := (hS.chunk k gc rk e).2.1.kinds
    refine ⟨fun e => other_kind k1 z1 k2 e.symm, fun v x hv hx => ?_, fun r hr => ?_⟩
    · obtain ⟨_, hc⟩ := z2 v x hv hx
      exact fun e => other_kind k1 hc k3 e.symm
    · obtain ⟨_, hc⟩ := z3 r hr
      exact fun e => other_kind k1 hc k4 e.symm
  have hcc : ∀ k gc rk, C k = some (gc, rk) → w2.cell? ⟨gc, 0, none⟩ = w.cell? ⟨gc, 0, none⟩ := fun k gc rk e => World.cell?_of_block (w := w) (by exact hset gc (hch k gc rk e).1)
  refine ⟨⟨hS.small, hl, (cell 0 (by decide)).trans hS.c0, ?_, (cell 2 (by decide)).trans hS.c2, fun i hi => ?_, ?_, ?_, ?_, ?_⟩, ?_⟩
  · rw [← hw2]
    exact World.cell?_setCell_same _ _ _ hS.c1
  · rw [← hw2, World.frozen?_setCell]
    exact hS.live i hi
  · obtain ⟨cs', h1⟩ := set_kind (i := 1) k1 (.int .u64 ((len + 1 : Nat) : Int))
    exact ⟨cs', t, fr, by rw [← hw2]; exact h1, k2, k3, k4⟩
  · obtain ⟨mv, m1, m2, m3⟩ := hS.map
    refine ⟨mv, (cell 3 (by decide)).trans m1, m2, fun b e => ?_⟩
    obtain ⟨c1, n, c2, c3⟩ := m3 b e
    refine ⟨c1, n, c2, c3.at (hset b (fun e => ?_))⟩
    obtain ⟨D, ⟨es, clock, h1, _⟩, _⟩ := c3
    rw [e, k1] at h1
    cases h1
  · intro k gc rk e
    obtain ⟨b1, b2, b3⟩ := hS.chunk k gc rk e
    obtain ⟨d1, d2, d3⟩ := hch k gc rk e
    exact ⟨b1, b2.at (hset _ d1) (fun v x hv hx => hset _ (d2 v x hv hx)) (fun r hr => hset _ (d3 r hr)), fun r hr j hj hb => by have := b3 r hr j hj hb; exact ⟨this.1, by omega⟩⟩
  · intro k k' gc gc' rs rs' hne e e'
    obtain ⟨o1, o2, o3⟩ := hS.one k k' gc gc' rs rs' hne e e'
    exact ⟨o1, o2, fun v v' hv hv' => o3 v v' (by rw [← hcc k gc rs e]; exact hv) (by rw [← hcc k' gc' rs' e']; exact hv')⟩
  · refine ⟨⟨fun b h => .inl ?_, fun b _ hbg _ => hset b hbg, by rw [← hw2]; simp, fun i hi => cell i (by omega)⟩, id⟩
    rcases h with h | ⟨k, gc, rs, e, h⟩
    · left; rw [← cell 3 (by decide)]; exact h
    · refine .inr ⟨k, gc, rs, e, ?_⟩
      rcases h with h | ⟨v, hv, h⟩ | h
      · exact .inl h
      · exact .inr (.inl ⟨v, by rw [← hcc k gc rs e]; exact hv, h⟩)
      · exact .inr (.inr h)
theorem STORE.top {w : World} {B g log len alive N : Nat} {C : CHUNKS} (hS : STORE w B g log len alive N C) : TOP C len := fun k gc rs e r hr j hj hb => ((hS.chunk k gc rs e).2.2 r hr j hj hb).2
/-- what Store.Push leaves. -/
def PUSHED (w : World) (B g log len alive N : Nat) (C : CHUNKS) (h : Nat → Nat) (w' : World) : Prop := ∃ C', STORE w' B g log (len + 1) (alive + 1) (N + 1) C' ∧ (∀ p', AT C' log p' = if p' = len then some h else AT C log p') ∧ STEP w w' g C C' ∧ Below B w w'
set_option maxHeartbeats 2000000 in
theorem push_ok {w : World} {B g log len alive N : Nat} {C : CHUNKS} (hS : STORE w B g log len alive N C) (h : Nat → Nat) (h8 : ∀ i, h i < 256) (hl : len + 1 < 2 ^ 40) (hal : alive < 2 ^ 40) (hBg : B ≤ g) (hN : N < 2 ^ 40) : Calls Try.prog 15 #[.pointer (some ⟨g, 0, none⟩), .agg (UARR .u8 32 h)] w fun e w' =>
    e = .returned (.int .u64 (len : Int)) ∧ PUSHED w B g log len alive N C h w' := by
  obtain ⟨w0, hw0⟩ : ∃ w0, w.alloc (.cells (UARR .u8 32 h) 33) = w0 := ⟨_, rfl⟩
  have hb0 : Below w.heap.size w w0 := by rw [← hw0]; exact (Below.refl _ _).alloc (Nat.le_refl _) _
  have h50 : Has w0 w.heap.size (UARR .u8 32 h) 33 := by rw [← hw0]; exact Has.new w _ _
  have hg := hS.lt
  have hS0 := hS.below hb0
  have hc1 := hS0.c1
  have hf1 := hS0.live 1 (by decide)
  obtain ⟨hSl, hst⟩ := hS0.longer hl
  have hwr : IntKind.u64.wrap ((len : Int) + 1) = ((len + 1 : Nat) : Int) := wrap_nat (by omega) (by omega)
  obtain ⟨wl, hwl⟩ : ∃ wl, w0.setCell ⟨g, 1, none⟩ (.int .u64 ((len + 1 : Nat) : Int)) = wl := ⟨_, rfl⟩
  have h5l : Has wl w.heap.size (UARR .u8 32 h) 33 := by rw [← hwl]; exact h50.other (by show w.heap.size ≠ g; omega) _
  have hBl : Below B w wl := by rw [← hwl]; exact (hb0.mono (by omega)).setCell (p := ⟨g, 1, none⟩) hBg _
  rw [hwl] at hSl hst
  have cp := storeput_ok hSl len h h8 (Nat.lt_succ_self _) hS.top hal hBg hN
  have H : Aside (STEP w wl g C C ∧ Below B w wl) := ⟨(STEP.below hS hb0).trans hst, hBl⟩
  obtain ⟨L1, hL1⟩ : ∃ L1, len + 1 = L1 := ⟨_, rfl⟩
  have HL : Aside (len + 1 = L1) := hL1
  rw [hL1] at hwr hwl cp
  clear hL1 hS hS0 hSl hst hBl h8 hal hBg hN hb0
  go_enter Try.func15, Try.ntmps15
  go_wp2_with (refine wpList_load_row rfl 33 (.tmp 3) rfl w.heap.size rfl 33 (UARR .u8 32 h) (0, 0) (.array 32 5) h5l Try.underlying33 rfl (info_HASH _) ?_)
  refine cp.mono ?_
  rintro e w2 ⟨⟨v, rfl⟩, hP⟩
  have F : Aside (SPUTS wl B g log L1 alive N len C h w2) := hP
  clear cp hP
  go_wp2
  go_ret
  refine ⟨rfl, ?_⟩
  obtain ⟨C', c1, c2, c3, c4, c5⟩ := F.out
  unfold PUSHED
  rw [HL.out]
  exact ⟨C', c1, c2, H.out.1.trans c4, H.out.2.trans c5⟩
end Go.Proofs.Ytkmcmngdainofaa
