/- Store.Unpin and Store.Pin. -/
import Derived.Test.YtpbhjnceiomgoaaStorePinsOf
namespace Go.Proofs.Ytpbhjnceiomgoaa
open Go.RowKit Go.Maps
set_option maxRecDepth 100000

/-- a block that is none of the store's has changed. -/
theorem STORE.same {w w' : World} {B g log len alive N b : Nat} {C : CHUNKS} (hS : STORE w B g log len alive N C) (hblk : ∀ x, x < w.heap.size → x ≠ b → w'.heap[x]? = w.heap[x]?) (hb : ¬ FOOT w g C b) (hbg : g ≠ b) : STORE w' B g log len alive N C ∧ (∀ x, FOOT w' g C x → FOOT w g C x) ∧ ∀ i, w'.cell? ⟨g, i, none⟩ = w.cell? ⟨g, i, none⟩ := by
  have hg : w'.heap[g]? = w.heap[g]? := hblk g hS.lt hbg
  have cell : ∀ i, w'.cell? ⟨g, i, none⟩ = w.cell? ⟨g, i, none⟩ := fun i => World.cell?_of_block (w := w) (by exact hg)
  have hlt : ∀ {b' : Nat} {o : Obj}, w.heap[b']? = some o → b' < w.heap.size := fun h => (Array.getElem?_eq_some_iff.1 h).1
  have hch : ∀ k gc rk, C k = some (gc, rk) → w'.heap[gc]? = w.heap[gc]? ∧ (∀ v x, w.cell? ⟨gc, 0, none⟩ = some v → v.ownBlock = some x → w'.heap[x]? = w.heap[x]?) ∧ ∀ r ∈ rk, w'.heap[r.gh]? = w.heap[r.gh]? := fun k gc rk e => by
    obtain ⟨⟨_, z1⟩, z2, z3⟩ := (hS.chunk k gc rk e).2.1.kinds
    refine ⟨hblk _ (hlt z1) (fun h => hb (.inr ⟨k, gc, rk, e, .inl h.symm⟩)), fun v x hv hx => ?_, fun r hr => ?_⟩
    · obtain ⟨_, hc⟩ := z2 v x hv hx
      exact hblk _ (hlt hc) (fun h => hb (.inr ⟨k, gc, rk, e, .inr (.inl ⟨v, hv, by rw [← h]; exact hx⟩)⟩))
    · obtain ⟨_, hc⟩ := z3 r hr
      exact hblk _ (hlt hc) (fun h => hb (.inr ⟨k, gc, rk, e, .inr (.inr ⟨r, hr, h⟩)⟩))
  have hcc : ∀ k gc rk, C k = some (gc, rk) → w'.cell? ⟨gc, 0, none⟩ = w.cell? ⟨gc, 0, none⟩ := fun k gc rk e => World.cell?_of_block (w := w) (by exact (hch k gc rk e).1)
  refine ⟨⟨hS.small, hS.short, (cell 0).trans hS.c0, (cell 1).trans hS.c1, (cell 2).trans hS.c2, fun i hi => ?_, ?_, ?_, ?_, ?_⟩, fun x h => ?_, cell⟩
  · have := hS.live i hi
    unfold World.frozen? at this ⊢
    rw [show w'.heap[g]? = w.heap[g]? from hg]
    exact this
  · obtain ⟨cs, t, fr, k1, k2⟩ := hS.kind
    exact ⟨cs, t, fr, hg.trans k1, k2⟩
  · obtain ⟨mv, m1, m2, m3⟩ := hS.map
    refine ⟨mv, (cell 3).trans m1, m2, fun x e => ?_⟩
    obtain ⟨c1, n, c2, c3⟩ := m3 x e
    refine ⟨c1, n, c2, c3.at (hblk x c3.lt (fun h => hb (.inl (by rw [m1, e, h]))))⟩
  · intro k gc rk e
    obtain ⟨b1, b2, b3⟩ := hS.chunk k gc rk e
    obtain ⟨d1, d2, d3⟩ := hch k gc rk e
    exact ⟨b1, b2.at d1 d2 d3, b3⟩
  · intro k k' gc gc' rs rs' hne e e'
    obtain ⟨o1, o2, o3⟩ := hS.one k k' gc gc' rs rs' hne e e'
    exact ⟨o1, o2, fun v v' hv hv' => o3 v v' (by rw [← hcc k gc rs e]; exact hv) (by rw [← hcc k' gc' rs' e']; exact hv')⟩
  · rcases h with h | ⟨k, gc, rs, e, h⟩
    · left; rw [← cell 3]; exact h
    · refine .inr ⟨k, gc, rs, e, ?_⟩
      rcases h with h | ⟨v, hv, h⟩ | h
      · exact .inl h
      · exact .inr (.inl ⟨v, by rw [← hcc k gc rs e]; exact hv, h⟩)
      · exact .inr (.inr h)
/-- the map of pins has changed. -/
theorem PINS.turn {w w' : World} {B g log len alive N n m b : Nat} {C : CHUNKS} {P' : Nat → Nat} (hS : STORE w B g log len alive N C) (h4 : w.cell? ⟨g, 4, none⟩ = some (.map (some b))) (hB : B ≤ b) (hBw : B ≤ w.heap.size) (hf : ¬ FOOT w g C b) (hg : g ≠ b) (gw : w.grownBy w' (some b)) (hm : m ≤ n) (hP : PinMap w' b m P') : STORE w' B g log len alive N C ∧ PINS w' B g n C P' ∧ Below B w w' := by
  have hblk : ∀ x, x < w.heap.size → x ≠ b → w'.heap[x]? = w.heap[x]? := fun x hx hxb => gw.block x hx (fun e => hxb (by cases e; rfl))
  obtain ⟨s1, s2, s3⟩ := hS.same hblk hf hg
  refine ⟨s1, ⟨⟨some b, (s3 4).trans h4, (fun e => by cases e), fun x e => ?_⟩⟩, (Below.refl B w).grown gw hBw (fun x e => by cases e; exact hB)⟩
  cases e
  exact ⟨hB, fun h => hf (s2 b h), m, hm, hP⟩
/-- what Unpin answers. -/
def UNPIN (len : Nat) (P : Nat → Nat) (p : Nat) : Nat := if len ≤ p then 31 else if P p = 0 then 52 else 0
/-- the pins behind Unpin. -/
def LESS (len : Nat) (P : Nat → Nat) (p : Nat) : Nat → Nat := fun j => if j = p ∧ p < len then P p - 1 else P j
theorem LESS_far {len p : Nat} {P : Nat → Nat} (h : len ≤ p) : LESS len P p = P := funext fun j => if_neg (by omega)
theorem LESS_none {len p : Nat} {P : Nat → Nat} (h : P p = 0) : LESS len P p = P := funext fun j => by
  unfold LESS
  split
  · rename_i e; rw [e.1, h]
  · rfl
theorem LESS_at {len p : Nat} {P : Nat → Nat} (h : p < len) : LESS len P p = fun j => if j = p then P p - 1 else P j := funext fun j => by
  unfold LESS
  by_cases e : j = p
  · rw [if_pos ⟨e, h⟩, if_pos e]
  · rw [if_neg (fun x => e x.1), if_neg e]
theorem PINS.more {w : World} {B g n n' : Nat} {C : CHUNKS} {P : Nat → Nat} (h : PINS w B g n C P) (hn : n ≤ n') : PINS w B g n' C P := by
  obtain ⟨mv, a, b, c⟩ := h.map
  exact ⟨⟨mv, a, b, fun x e => by obtain ⟨d1, d2, m, d3, d4⟩ := c x e; exact ⟨d1, d2, m, by omega, d4⟩⟩⟩
set_option maxHeartbeats 2000000 in
theorem unpin_ok {w : World} {B g log len alive N n : Nat} {C : CHUNKS} {P : Nat → Nat} (hS : STORE w B g log len alive N C) (hP : PINS w B g n C P) (p : Nat) (hp : p < 2 ^ 64) (hn : n < 2 ^ 40) (hBg : B ≤ g) (hsm : ∀ p, P p < 2 ^ 40) : Calls Try.prog 21 #[.pointer (some ⟨g, 0, none⟩), .int .u64 (p : Int)] w fun e w' =>
    e = .returned (.int .i64 ((UNPIN len P p : Nat) : Int)) ∧ STORE w' B g log len alive N C ∧ PINS w' B g (n + 1) C (LESS len P p) ∧ Below B w w' := by
  have hc1 := hS.c1
  have hg := hS.lt
  by_cases hfar : len ≤ p
  · have E : Aside (UNPIN len P p = 31 ∧ LESS len P p = P ∧ STORE w B g log len alive N C ∧ PINS w B g n C P) := ⟨if_pos hfar, LESS_far hfar, hS, hP⟩
    have hge : (len : Int) ≤ (p : Int) := by omega
    clear hS hP hfar hp hn
    go_enter Try.func21, Try.ntmps21
    go_wp2
    go_ret
    obtain ⟨e1, e2, e3, e4⟩ := E.out
    rw [e1, e2]
    exact ⟨rfl, e3, e4.more (Nat.le_succ _), Below.refl _ _⟩
  · have hlt : (p : Int) < (len : Int) := by omega
    have hnge : ¬ (len : Int) ≤ (p : Int) := by omega
    obtain ⟨mv, l1, l2⟩ := hP.look p hp
    have hsv := hsm p
    obtain ⟨v, hv⟩ : ∃ v, P p = v := ⟨_, rfl⟩
    rw [hv] at l2 hsv
    by_cases h0 : v = 0
    · subst h0
      have E : Aside (UNPIN len P p = 52 ∧ LESS len P p = P ∧ STORE w B g log len alive N C ∧ PINS w B g n C P) := ⟨by unfold UNPIN; rw [if_neg hfar, if_pos hv], LESS_none hv, hS, hP⟩
      clear hS hP hfar hp hn hsm
      go_enter Try.func21, Try.ntmps21
      go_wp2
      go_ret
      obtain ⟨e1, e2, e3, e4⟩ := E.out
      rw [e1, e2]
      exact ⟨rfl, e3, e4.more (Nat.le_succ _), Below.refl _ _⟩
    · obtain ⟨mb, m1, m2, m3⟩ := hP.map
      have hE : UNPIN len P p = 0 := by unfold UNPIN; rw [if_neg hfar, if_neg (by omega)]
      have hL := LESS_at (P := P) (show p < len by omega)
      rw [hv] at hL
      cases mb with
      | none => exact absurd (m2 rfl p) (by omega)
      | some b =>
        rw [m1] at l1
        have hmv := Option.some.inj l1
        subst hmv
        obtain ⟨b1, b2, m, b3, b4⟩ := m3 b rfl
        have hgb : g ≠ b := fun e => by
          obtain ⟨cs, t, fr, hk, _⟩ := hS.kind
          obtain ⟨D, ⟨es, clock, hb, _⟩, _⟩ := b4
          rw [← e, hk] at hb
          cases hb
        by_cases h1 : v = 1
        · subst h1
          obtain ⟨w', r1, r2, r3⟩ := b4.drop hp 0
          obtain ⟨s1, s2, s3⟩ := PINS.turn hS m1 b1 (by omega) b2 hgb r3.grown (Nat.le_succ_of_le b3) r2
          have E : Aside (UNPIN len P p = 0 ∧ (LESS len P p = fun j => if j = p then 1 - 1 else P j) ∧ STORE w' B g log len alive N C ∧ PINS w' B g (n + 1) C (fun j => if j = p then 0 else P j) ∧ Below B w w') := ⟨hE, hL, s1, s2, s3⟩
          clear hS hP hfar hp hn hsm s1 s2 s3 hE hL r2 r3 b4 m3 m2
          go_enter Try.func21, Try.ntmps21
          go_wp2
          go_ret
          obtain ⟨e1, e2, e3, e4, e5⟩ := E.out
          rw [e1, e2]
          exact ⟨rfl, e3, e4, e5⟩
        · obtain ⟨u, hu⟩ : ∃ u, v - 1 = u := ⟨_, rfl⟩
          obtain ⟨w', r1, r2, r3⟩ := b4.store (v := u) (by omega) hp (by omega) (by omega)
          obtain ⟨s1, s2, s3⟩ := PINS.turn hS m1 b1 (by omega) b2 hgb r3 (Nat.succ_le_succ b3) r2
          have E : Aside (UNPIN len P p = 0 ∧ (LESS len P p = fun j => if j = p then u else P j) ∧ STORE w' B g log len alive N C ∧ PINS w' B g (n + 1) C (fun j => if j = p then u else P j) ∧ Below B w w') := ⟨hE, by rw [hL, hu], s1, s2, s3⟩
          have q0 : ((v : Int) == 0) = false := by simp; omega
          have q1 : ((v : Int) == 1) = false := by simp; omega
          have q3 : wrap64 ((v : Int) - 1) = (u : Int) := by unfold wrap64; omega
          have q2 : IntKind.i64.wrap ((v : Int) - 1) = (u : Int) := (IntWalk.i64_left _).trans q3
          clear hS hP hfar hp hn hsm s1 s2 s3 hE hL r2 r3 b4 m3 m2 hu h0 h1 hsv hv
          go_enter Try.func21, Try.ntmps21
          go_wp2
          go_ret
          obtain ⟨e1, e2, e3, e4, e5⟩ := E.out
          rw [e1, e2]
          exact ⟨rfl, e3, e4, e5⟩
end Go.Proofs.Ytpbhjnceiomgoaa
