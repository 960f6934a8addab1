/- Store.Pin. -/
import Derived.Test.YtkmcmngdainofaaStorePinOps
namespace Go.Proofs.Ytkmcmngdainofaa
open Go.RowKit Go.Maps
set_option maxRecDepth 100000

/-- the store's cell of the pins' map is another one. -/
theorem STORE.pinned {w : World} {B g log len alive N : Nat} {C : CHUNKS} (hS : STORE w B g log len alive N C) (mv : Option Nat) : STORE (w.setCell ⟨g, 4, none⟩ (.map mv)) B g log len alive N C ∧ (∀ x, FOOT (w.setCell ⟨g, 4, none⟩ (.map mv)) g C x → FOOT w g C x) := by
  obtain ⟨cs, t, fr, k1, k2, k3, k4⟩ := hS.kind
  obtain ⟨w2, hw2⟩ : ∃ w2, w.setCell ⟨g, 4, none⟩ (.map mv) = w2 := ⟨_, rfl⟩
  rw [hw2]
  have hset : ∀ b, b ≠ g → w2.heap[b]? = w.heap[b]? := fun b hb => by rw [← hw2]; exact Below.heap_setCell _ _ _ b (by exact hb)
  have cell : ∀ i, i ≠ 4 → w2.cell? ⟨g, i, none⟩ = w.cell? ⟨g, i, none⟩ := fun i hi => by rw [← hw2, set_off (fun e => hi e.symm)]
  have hch : ∀ k gc rk, C k = some (gc, rk) → gc ≠ g ∧ (∀ v x, w.cell? ⟨gc, 0, none⟩ = some v → v.ownBlock = some x → x ≠ g) ∧ ∀ r ∈ rk, r.gh ≠ g := fun k gc rk e => by
    obtain ⟨⟨_, z1⟩, z2, z3⟩ := (hS.chunk k gc rk e).2.1.kinds
    refine ⟨fun e => other_kind k1 z1 k2 e.symm, fun v x hv hx => ?_, fun r hr => ?_⟩
    · obtain ⟨_, hc⟩ := z2 v x hv hx
      exact fun e => other_kind k1 hc k3 e.symm
    · obtain ⟨_, hc⟩ := z3 r hr
      exact fun e => other_kind k1 hc k4 e.symm
  have hcc : ∀ k gc rk, C k = some (gc, rk) → w2.cell? ⟨gc, 0, none⟩ = w.cell? ⟨gc, 0, none⟩ := fun k gc rk e => World.cell?_of_block (w := w) (by exact hset gc (hch k gc rk e).1)
  refine ⟨⟨hS.small, hS.short, (cell 0 (by decide)).trans hS.c0, (cell 1 (by decide)).trans hS.c1, (cell 2 (by decide)).trans hS.c2, fun i hi => ?_, ?_, ?_, ?_, ?_⟩, ?_⟩
  · rw [← hw2, World.frozen?_setCell]
    exact hS.live i hi
  · obtain ⟨cs', h1⟩ := set_kind (i := 4) k1 (.map mv)
    exact ⟨cs', t, fr, by rw [← hw2]; exact h1, k2, k3, k4⟩
  · obtain ⟨mw, m1, m2, m3⟩ := hS.map
    refine ⟨mw, (cell 3 (by decide)).trans m1, m2, fun b e => ?_⟩
    obtain ⟨c1, n, c2, c3⟩ := m3 b e
    refine ⟨c1, n, c2, c3.at (hset b (fun e => ?_))⟩
    obtain ⟨D, ⟨es, clock, h1, _⟩, _⟩ := c3
    rw [e, k1] at h1
    cases h1
  · intro k gc rk e
    obtain ⟨b1, b2, b3⟩ := hS.chunk k gc rk e
    obtain ⟨d1, d2, d3⟩ := hch k gc rk e
    exact ⟨b1, b2.at (hset _ d1) (fun v x hv hx => hset _ (d2 v x hv hx)) (fun r hr => hset _ (d3 r hr)), b3⟩
  · intro k k' gc gc' rs rs' hne e e'
    obtain ⟨o1, o2, o3⟩ := hS.one k k' gc gc' rs rs' hne e e'
    exact ⟨o1, o2, fun v v' hv hv' => o3 v v' (by rw [← hcc k gc rs e]; exact hv) (by rw [← hcc k' gc' rs' e']; exact hv')⟩
  · intro b h
    rcases h with h | ⟨k, gc, rs, e, h⟩
    · left; rw [← cell 3 (by decide)]; exact h
    · refine .inr ⟨k, gc, rs, e, ?_⟩
      rcases h with h | ⟨v, hv, h⟩ | h
      · exact .inl h
      · exact .inr (.inl ⟨v, by rw [← hcc k gc rs e]; exact hv, h⟩)
      · exact .inr (.inr h)
theorem PINS.below {w w' : World} {B g log len alive N n : Nat} {C : CHUNKS} {P : Nat → Nat} (h : PINS w B g n C P) (hS : STORE w B g log len alive N C) (hb : Below w.heap.size w w') : PINS w' B g n C P := by
  obtain ⟨cs, t, fr, k1, _⟩ := hS.kind
  exact h.step (STEP.below hS hb) ⟨cs, t, fr, k1⟩
/-- the map of pins of a store that had none. -/
theorem PINS.mapped {w : World} {B g log len alive N n : Nat} {C : CHUNKS} {P : Nat → Nat} (hP : PINS w B g n C P) (hS : STORE w B g log len alive N C) (hm : w.cell? ⟨g, 4, none⟩ = some (.map none)) (hB : B ≤ w.heap.size) (hBg : B ≤ g) {w2 : World} (hw2 : (w.alloc (.map #[] 0)).setCell ⟨g, 4, none⟩ (.map (some w.heap.size)) = w2) :
    STORE w2 B g log len alive N C ∧ PINS w2 B g n C P ∧ w2.cell? ⟨g, 4, none⟩ = some (.map (some w.heap.size)) ∧ Below B w w2 := by
  obtain ⟨mv, m1, m2, m3⟩ := hP.map
  rw [hm] at m1
  have hmv : mv = none := by cases Option.some.inj m1; rfl
  have hP0 : P = fun _ => 0 := funext (m2 hmv)
  have hg := hS.lt
  have hb : Below w.heap.size w (w.alloc (.map #[] 0)) := (Below.refl _ _).alloc (Nat.le_refl _) _
  have hS1 := hS.below hb
  obtain ⟨s1, s2⟩ := hS1.pinned (some w.heap.size)
  have c4 : ((w.alloc (.map #[] 0)).setCell ⟨g, 4, none⟩ (.map (some w.heap.size))).cell? ⟨g, 4, none⟩ = some (.map (some w.heap.size)) := World.cell?_setCell_same _ _ _ ((hb.cell (by exact hg)).trans hm)
  have hf : ¬ FOOT (w.alloc (.map #[] 0)) g C w.heap.size := fun h => by
    rcases h with h | ⟨k, gc, rs, e, h⟩
    · rw [hb.cell (by exact hg)] at h
      obtain ⟨mw, n1, _, n3⟩ := hS.map
      rw [n1] at h
      have h2 := Option.some.inj h
      cases h2
      obtain ⟨_, _, _, c3⟩ := n3 _ rfl
      have := c3.lt
      omega
    · obtain ⟨⟨_, z1⟩, z2, z3⟩ := (hS.chunk k gc rs e).2.1.kinds
      have hlt : ∀ {b' : Nat} {o : Obj}, w.heap[b']? = some o → b' < w.heap.size := fun h => (Array.getElem?_eq_some_iff.1 h).1
      rcases h with h | ⟨v, hv, h⟩ | ⟨r, hr, h⟩
      · have := hlt z1; omega
      · rw [hb.cell (by exact hlt z1)] at hv
        obtain ⟨_, hc⟩ := z2 v _ hv h
        have := hlt hc
        omega
      · obtain ⟨_, hc⟩ := z3 r hr
        have := hlt hc
        omega
  rw [hw2] at s1 s2 c4
  refine ⟨s1, ⟨⟨_, c4, (fun e => by cases e), fun b e => ?_⟩⟩, c4, by rw [← hw2]; exact (hb.mono hB).setCell (p := ⟨g, 4, none⟩) hBg _⟩
  cases e
  refine ⟨hB, fun h => hf (s2 _ h), 0, Nat.zero_le _, ?_⟩
  rw [hP0]
  refine (PinMap.made w).at ?_
  rw [← hw2]
  exact Below.heap_setCell _ _ _ _ (by show w.heap.size ≠ g; omega)
/-- one pin more at p. -/
theorem PINS.add {w : World} {B g log len alive N n b : Nat} {C : CHUNKS} {P : Nat → Nat} (hP : PINS w B g n C P) (hS : STORE w B g log len alive N C) (h4 : w.cell? ⟨g, 4, none⟩ = some (.map (some b))) (p u : Nat) (hp : p < 2 ^ 64) (hn : n < 2 ^ 40) (hu : P p + 1 = u) (hv : u < 2 ^ 40) : ∃ w', (Instr.lookup 45 (.map (some b)) (.int .u64 (p : Int)) false).run Try.prog w = .ok (.int .i64 ((P p : Nat) : Int)) w ∧ (Instr.mapUpdate 45 (.map (some b)) (.int .u64 (p : Int)) (.int .i64 (u : Int))).run Try.prog w = .ok () w' ∧ STORE w' B g log len alive N C ∧ PINS w' B g (n + 1) C (fun j => if j = p then u else P j) ∧ (B ≤ w.heap.size → Below B w w') := by
  obtain ⟨mb, m1, m2, m3⟩ := hP.map
  rw [h4] at m1
  have hmb : mb = some b := by cases Option.some.inj m1; rfl
  subst hmb
  obtain ⟨b1, b2, m, b3, b4⟩ := m3 b rfl
  have hbl := b4.lt
  have hgb : g ≠ b := fun e => by
    obtain ⟨cs, t, fr, hk, _⟩ := hS.kind
    obtain ⟨D, ⟨es, clock, hb, _⟩, _⟩ := b4
    rw [← e, hk] at hb
    cases hb
  obtain ⟨w', r1, r2, r3⟩ := b4.store (v := u) (by omega) hp (by omega) (by omega)
  obtain ⟨s1, s2, s3⟩ := PINS.turn hS h4 b1 (by omega) b2 hgb r3 (Nat.succ_le_succ b3) r2
  exact ⟨w', b4.look hp, r1, s1, s2, fun _ => s3⟩
theorem pmap_eql (b : Nat) (w : World) : (binOp .eql 45 (.map (some b)) (.map none)).run Try.prog w = .ok (.bool false) w := by kernel_rfl
theorem pmap_eql0 (w : World) : (binOp .eql 45 (.map none) (.map none)).run Try.prog w = .ok (.bool true) w := by kernel_rfl
/-- the pins behind Pin. -/
def PINNED (C : CHUNKS) (log len : Nat) (P : Nat → Nat) (p : Nat) : Nat → Nat := fun j => if j = p ∧ GOT C log len p = 0 then P p + 1 else P j
theorem PINNED_not {C : CHUNKS} {log len p : Nat} {P : Nat → Nat} (h : GOT C log len p ≠ 0) : PINNED C log len P p = P := funext fun _ => if_neg (fun x => h x.2)
theorem PINNED_at {C : CHUNKS} {log len p : Nat} {P : Nat → Nat} (h : GOT C log len p = 0) : PINNED C log len P p = fun j => if j = p then P p + 1 else P j := funext fun j => by
  unfold PINNED
  by_cases e : j = p
  · rw [if_pos ⟨e, h⟩, if_pos e]
  · rw [if_neg (fun x => e x.1), if_neg e]
/-- what Pin leaves. -/
def PINS1 (w : World) (B g log len alive N n p : Nat) (C : CHUNKS) (P : Nat → Nat) (w' : World) : Prop := STORE w' B g log len alive N C ∧ PINS w' B g (n + 1) C (PINNED C log len P p) ∧ Below B w w'
set_option maxHeartbeats 2000000 in
theorem pin_ok {w : World} {B g log len alive N n : Nat} {C : CHUNKS} {P : Nat → Nat} (hS : STORE w B g log len alive N C) (hP : PINS w B g n C P) (p : Nat) (hp : p < 2 ^ 64) (hn : n < 2 ^ 40) (hBg : B ≤ g) (hsm : P p + 1 < 2 ^ 40) : Calls Try.prog 6 #[.pointer (some ⟨g, 0, none⟩), .int .u64 (p : Int)] w fun e w' =>
    e = .returned (.int .i64 (GOT C log len p)) ∧ PINS1 w B g log len alive N n p C P w' := by
  have cg := get_ok hS p hp
  have hg := hS.lt
  have hz := zeroHash
  have H : Aside (STORE w B g log len alive N C ∧ PINS w B g n C P ∧ p < 2 ^ 64 ∧ n < 2 ^ 40 ∧ B ≤ g ∧ P p + 1 < 2 ^ 40) := ⟨hS, hP, hp, hn, hBg, hsm⟩
  have HE : Aside (GOT C log len p = 0 ∨ GOT C log len p ≠ 0) := Decidable.em _
  have HX : Aside (PINS1 w B g log len alive N n p C P = PINS1 w B g log len alive N n p C P) := rfl
  obtain ⟨F, hF⟩ : ∃ F, GOTH C log len p = F := ⟨_, rfl⟩
  obtain ⟨G, hG⟩ : ∃ G, GOT C log len p = G := ⟨_, rfl⟩
  have HG : Aside (GOT C log len p = G) := hG
  rw [hF, hG] at cg
  rw [hG] at HE ⊢
  clear hF hG hS hP hp hn hBg hsm HX
  go_enter Try.func6, Try.ntmps6
  go_wp2_with fail
  refine cg.mono ?_
  rintro e w1 ⟨rfl, hb1⟩
  clear cg
  have hst := run_storeCells_new (P := Try.prog) w1 33 (UARR .u8 32 fun _ => 0) (UARR .u8 32 F) (info_HASH _) (by rw [UARR_size, UARR_size]) (UARR_one _ _ _)
  have hsu := UARR_size .u8 32 F
  have hbs := hb1.size
  obtain ⟨w2, hw2⟩ : ∃ w2, w1.alloc (.cells (UARR .u8 32 F) 33) = w2 := ⟨_, rfl⟩
  rw [hw2] at hst
  have hb2 : Below w.heap.size w w2 := by rw [← hw2]; exact hb1.alloc hb1.size _
  have hs2 := hb2.size
  rcases HE.out with h0 | h0
  · subst h0
    obtain ⟨a1, a2, a3, a4, a5, a6⟩ := H.out
    have t1 := a1.below hb2
    have t2 := a2.below a1 hb2
    have hne : ((0 : Int) != 0) = false := rfl
    obtain ⟨mv, m1, -⟩ := t2.map
    obtain ⟨u, hu⟩ : ∃ u, P p + 1 = u := ⟨_, rfl⟩
    have hL := PINNED_at (P := P) HG.out
    rw [hu] at hL a6
    have hwu : wrap64 (((P p : Nat) : Int) + 1) = (u : Int) := by unfold wrap64; omega
    have hwu2 : IntKind.i64.wrap (((P p : Nat) : Int) + 1) = (u : Int) := (IntWalk.i64_left _).trans hwu
    cases mv with
    | some b =>
      obtain ⟨w', r1, r2, r3, r4, r5⟩ := t2.add t1 m1 p u a3 a4 hu a6
      have hme := pmap_eql b
      have E : Aside (PINS1 w B g log len alive N n p C P w') := ⟨r3, by rw [hL]; exact r4, (hb2.mono (by omega)).trans (r5 (by omega))⟩
      clear t1 t2 a1 a2 a3 a4 a5 a6 hL r3 r4 r5 hu hw2 hb2 hb1 H HG HE hs2 hbs
      generalize P p = v at *
      go_wp2
      go_ret
      exact ⟨rfl, E.out⟩
    | none =>
      obtain ⟨b, hbe⟩ : ∃ b, w2.heap.size = b := ⟨_, rfl⟩
      have hba : Below w2.heap.size w2 (w2.alloc (.map #[] 0)) := (Below.refl _ _).alloc (Nat.le_refl _) _
      have hm1 : (w2.alloc (.map #[] 0)).cell? ⟨g, 4, none⟩ = some (.map none) := (hba.cell (by exact t1.lt)).trans m1
      have hf1 : (w2.alloc (.map #[] 0)).frozen? ⟨g, 4, none⟩ = false := (t1.below hba).live 4 (by decide)
      obtain ⟨w3, hw3⟩ : ∃ w3, (w2.alloc (.map #[] 0)).setCell ⟨g, 4, none⟩ (.map (some b)) = w3 := ⟨_, rfl⟩
      have hw3' := hw3
      rw [← hbe] at hw3'
      obtain ⟨v1, v2, v3, v4⟩ := t2.mapped t1 m1 (by omega) a5 hw3'
      rw [hbe] at v3
      obtain ⟨w', r1, r2, r3, r4, r5⟩ := v2.add v1 v3 p u a3 a4 hu a6
      have hmk : (Instr.makeMap 45 none).run Try.prog w2 = .ok (.map (some b)) (w2.alloc (.map #[] 0)) := by rw [← hbe]; rfl
      have hme := pmap_eql0
      have E : Aside (PINS1 w B g log len alive N n p C P w') := ⟨r3, by rw [hL]; exact r4, ((hb2.mono (by omega)).trans v4).trans (r5 (by have := v4.size; omega))⟩
      clear t1 t2 a1 a2 a3 a4 a5 a6 hL r3 r4 r5 hu hw2 hb2 hb1 H HG HE hs2 hbs v1 v2 v4 hba hw3' hbe
      generalize P p = v at *
      go_wp2
      go_ret
      exact ⟨rfl, E.out⟩
  · obtain ⟨a1, a2, a3, a4, a5, a6⟩ := H.out
    have t1 := a1.below hb2
    have t2 := a2.below a1 hb2
    have hne : (G != 0) = true := by simp [h0]
    have E : Aside (PINS1 w B g log len alive N n p C P w2) := ⟨t1, by rw [PINNED_not (by rw [HG.out]; exact h0)]; exact t2.more (Nat.le_succ _), hb2.mono (by omega)⟩
    clear t1 t2 a1 a2 a3 a4 a5 a6 hb2 hb1 H HG HE hs2 hbs
    go_wp2
    go_ret
    exact ⟨rfl, E.out⟩
end Go.Proofs.Ytkmcmngdainofaa
