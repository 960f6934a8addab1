/- The loom and the document's loom, side by side. -/
import Derived.Test.YtmgocdjmjnkbmaaLoomSame
namespace Go.Proofs.Ytmgocdjmjnkbmaa
open Go.RowKit
set_option maxRecDepth 100000

/-- the loom is s, the document's is t. -/
structure BOTH (w0 : World) (g r : Nat) (s t : LM) (w : World) : Prop where
  two : ∃ gw va bw cw vq vg R, LOOM w w0.heap.size g gw va s ∧ RLOOM w w0.heap.size r bw cw vq vg R ∧ REL t R ∧ ∀ k, FOOT g gw va k → ¬ RFOOT r bw vq vg k
  below : Below w0.heap.size w0 w
  inv : INV s
  few : 1 ≤ s.W ∧ s.W ≤ 64
  jobs : s.jobs ≤ 65536
  inv' : INV t
  few' : 1 ≤ t.W ∧ t.W ≤ 64
  jobs' : t.jobs ≤ 65536
theorem RLOOM.base {w : World} {B C r bw cw : Nat} {vq vg : Value} {R : RR} (h : RLOOM w C r bw cw vq vg R) (hB : B ≤ C) : RLOOM w B r bw cw vq vg R :=
  ⟨h.row, h.wk, h.jb, h.gn, own_base h.oq hB, own_base h.og hB, h.ne, h.qr, h.qw, h.gr, h.gw, h.qg, Nat.le_trans hB h.br, Nat.le_trans hB h.bb⟩
theorem LOOM.foot_lt {w : World} {B g gw : Nat} {va : Value} {s : LM} (h : LOOM w B g gw va s) {k : Nat} (hk : FOOT g gw va k) : B ≤ k ∧ k < w.heap.size := by
  rcases hk with rfl | rfl | hk
  · exact ⟨h.bg, h.lt.1⟩
  · exact ⟨h.bw, h.lt.2⟩
  · exact own_lt h.own hk
theorem BOTH.on {w0 w w' : World} {g r : Nat} {s t : LM} (h : BOTH w0 g r s t w) (hb : Below w.heap.size w w') : BOTH w0 g r s t w' := by
  obtain ⟨gw, va, bw, cw, vq, vg, R, h1, h2, h3, h4⟩ := h.two
  exact ⟨⟨gw, va, bw, cw, vq, vg, R, h1.below hb, h2.below hb, h3, h4⟩, h.below.trans (hb.mono h.below.size), h.inv, h.few, h.jobs, h.inv', h.few', h.jobs'⟩
theorem BOTH.left {w0 w w' : World} {g r gw bw cw : Nat} {va va' vq vg : Value} {R : RR} {s s' t : LM} (h : BOTH w0 g r s t w) (h1 : LOOM w w0.heap.size g gw va s) (h2 : RLOOM w w0.heap.size r bw cw vq vg R) (h3 : REL t R) (h4 : ∀ k, FOOT g gw va k → ¬ RFOOT r bw vq vg k) (ha : AFTER w w0.heap.size g gw va va' s' w') (hi : INV s') (hW : s'.W = s.W) (hj : s'.jobs = s.jobs) : BOTH w0 g r s' t w' := by
  refine ⟨⟨gw, va', bw, cw, vq, vg, R, ha.1, h2.turn fun k hk => ha.2.block k (h2.foot hk).2 (fun e => h4 k e hk), h3, fun k hk hr => ?_⟩, h.below.trans (STEP.tobelow h1 ha.2 h.below.size), hi, by rw [hW]; exact h.few, by rw [hj]; exact h.jobs, h.inv', h.few', h.jobs'⟩
  rcases ha.2.new k hk with e | e
  · exact h4 k e hr
  · have := (h2.foot hr).2
    omega
theorem RSTEP.tobelow {w w' : World} {B r bw cw : Nat} {vq vg vq' vg' : Value} {R : RR} (h : RLOOM w B r bw cw vq vg R) (hs : RSTEP r bw vq vg vq' vg' w w') (hn : B ≤ w.heap.size) : Below B w w' :=
  ⟨hs.os, hs.tape, hs.output, hs.size, fun k hk => hs.block k (by omega) (fun e => by have := (h.foot e).1; omega)⟩
theorem BOTH.right {w0 w w' : World} {g r gw bw cw : Nat} {va vq vg vq' vg' : Value} {R R' : RR} {s t t' : LM} (h : BOTH w0 g r s t w) (h1 : LOOM w w0.heap.size g gw va s) (h2 : RLOOM w w0.heap.size r bw cw vq vg R) (h4 : ∀ k, FOOT g gw va k → ¬ RFOOT r bw vq vg k) (ha : RAFTER w w0.heap.size r bw cw vq vg vq' vg' R' w') (h3 : REL t' R') (hi : INV t') (hW : t'.W = t.W) (hj : t'.jobs = t.jobs) : BOTH w0 g r s t' w' := by
  refine ⟨⟨gw, va, bw, cw, vq', vg', R', h1.turn (fun k hk => ha.2.block k (h1.foot_lt hk).2 (h4 k hk)), ha.1, h3, fun k hk hr => ?_⟩, h.below.trans (RSTEP.tobelow h2 ha.2 h.below.size), h.inv, h.few, h.jobs, hi, by rw [hW]; exact h.few', by rw [hj]; exact h.jobs'⟩
  rcases ha.2.new k hr with e | e
  · exact h4 k hk e
  · have := (h1.foot_lt hk).2
    omega
theorem b_lmove {w0 w : World} {g r : Nat} {s t : LM} (h : BOTH w0 g r s t w) (k : Nat) (m : MV) (hm : (MVS s)[k]? = some m) : Calls Try.prog 6 #[.pointer (some ⟨g, 0, none⟩), .int .i64 (k : Int)] w fun e w' => e = .returned (.int .i64 0) ∧ BOTH w0 g r (DO s m) t w' := by
  obtain ⟨gw, va, bw, cw, vq, vg, R, h1, h2, h3, h4⟩ := h.two
  refine (move_ok h1 (h.inv.small h.few.2 h.jobs) k m hm).mono ?_
  rintro e w' ⟨rfl, va', ha⟩
  have hd := do_same s m
  exact ⟨rfl, h.left h1 h2 h3 h4 ha (inv_do h.inv (List.mem_of_getElem? hm)) hd.1 hd.2.1⟩
theorem b_rmove {w0 w : World} {g r : Nat} {s t : LM} (h : BOTH w0 g r s t w) (k : Nat) (m : MV) (hm : (MVS t)[k]? = some m) : Calls Try.prog 7 #[.pointer (some ⟨r, 0, none⟩), .int .i64 (k : Int)] w fun e w' => e = .returned (.int .i64 0) ∧ BOTH w0 g r s (DO t m) w' := by
  obtain ⟨gw, va, bw, cw, vq, vg, R, h1, h2, h3, h4⟩ := h.two
  refine (rmove_ok h2 h3 h.inv' (h.inv'.small h.few'.2 h.jobs') h.jobs' k m hm).mono ?_
  rintro e w' ⟨rfl, vq', vg', R', ha, hr⟩
  have hd := do_same t m
  exact ⟨rfl, h.right h1 h2 h4 ha hr (inv_do h.inv' (List.mem_of_getElem? hm)) hd.1 hd.2.1⟩
theorem b_lmove_not {w0 w : World} {g r : Nat} {s t : LM} (h : BOTH w0 g r s t w) (k : Int) (hk : k < 0 ∨ ((MVS s).length : Int) ≤ k) : Calls Try.prog 6 #[.pointer (some ⟨g, 0, none⟩), .int .i64 k] w fun e w' => e = .returned (.int .i64 130) ∧ BOTH w0 g r s t w' := by
  obtain ⟨gw, va, bw, cw, vq, vg, R, h1, h2, h3, h4⟩ := h.two
  refine (move_not h1 h.few.2 k hk).mono ?_
  rintro e w' ⟨rfl, hb⟩
  exact ⟨rfl, h.on hb⟩
theorem b_rmove_not {w0 w : World} {g r : Nat} {s t : LM} (h : BOTH w0 g r s t w) (k : Int) (hk : k < 0 ∨ ((MVS t).length : Int) ≤ k) : Calls Try.prog 7 #[.pointer (some ⟨r, 0, none⟩), .int .i64 k] w fun e w' => e = .returned (.int .i64 130) ∧ BOTH w0 g r s t w' := by
  obtain ⟨gw, va, bw, cw, vq, vg, R, h1, h2, h3, h4⟩ := h.two
  refine (rmove_not h2 h3 h.inv' h.few'.2 k hk).mono ?_
  rintro e w' ⟨rfl, hb⟩
  exact ⟨rfl, h.on hb⟩
theorem b_lcancel {w0 w : World} {g r : Nat} {s t : LM} (h : BOTH w0 g r s t w) (hc : s.canc = false) : Calls Try.prog 12 #[.pointer (some ⟨g, 0, none⟩)] w fun e w' => e = .returned (.int .i64 0) ∧ BOTH w0 g r (CANC s) t w' := by
  obtain ⟨gw, va, bw, cw, vq, vg, R, h1, h2, h3, h4⟩ := h.two
  refine (cancel_ok h1 hc).mono ?_
  rintro e w' ⟨rfl, ha⟩
  exact ⟨rfl, h.left h1 h2 h3 h4 ha (inv_canc h.inv) rfl rfl⟩
theorem b_rcancel {w0 w : World} {g r : Nat} {s t : LM} (h : BOTH w0 g r s t w) (hc : t.canc = false) : Calls Try.prog 13 #[.pointer (some ⟨r, 0, none⟩)] w fun e w' => e = .returned (.int .i64 0) ∧ BOTH w0 g r s (CANC t) w' := by
  obtain ⟨gw, va, bw, cw, vq, vg, R, h1, h2, h3, h4⟩ := h.two
  refine (rcancel_ok h2 h3 hc).mono ?_
  rintro e w' ⟨rfl, vq', vg', R', ha, hr⟩
  exact ⟨rfl, h.right h1 h2 h4 ha hr (inv_canc h.inv') rfl rfl⟩
theorem b_lcancel_not {w0 w : World} {g r : Nat} {s t : LM} (h : BOTH w0 g r s t w) (hc : s.canc = true) : Calls Try.prog 12 #[.pointer (some ⟨g, 0, none⟩)] w fun e w' => e = .returned (.int .i64 130) ∧ BOTH w0 g r s t w' := by
  obtain ⟨gw, va, bw, cw, vq, vg, R, h1, h2, h3, h4⟩ := h.two
  refine (cancel_not h1 hc).mono ?_
  rintro e w' ⟨rfl, rfl⟩
  exact ⟨rfl, h⟩
theorem b_rcancel_not {w0 w : World} {g r : Nat} {s t : LM} (h : BOTH w0 g r s t w) (hc : t.canc = true) : Calls Try.prog 13 #[.pointer (some ⟨r, 0, none⟩)] w fun e w' => e = .returned (.int .i64 130) ∧ BOTH w0 g r s t w' := by
  obtain ⟨gw, va, bw, cw, vq, vg, R, h1, h2, h3, h4⟩ := h.two
  refine (rcancel_not h2 h3 hc).mono ?_
  rintro e w' ⟨rfl, rfl⟩
  exact ⟨rfl, h⟩
/-- both, new. -/
def TWO (w : World) (n jobs room : Nat) (e : Ending) (w' : World) : Prop := ∃ g r, e = .returned (.tuple #[.pointer (some ⟨g, 0, none⟩), .pointer (some ⟨r, 0, none⟩), .bool true]) ∧ BOTH w g r (NEWL n jobs room) (NEWL n jobs room) w'
theorem both_new {w w1 w2 : World} {n jobs room g gw r bw cw : Nat} {va vq vg : Value} (h1 : 1 ≤ n) (h2 : n ≤ 64) (h3 : jobs ≤ 65536) (a1 : LOOM w1 w.heap.size g gw va (NEWL n jobs room)) (a2 : Below w.heap.size w w1) (a3 : RLOOM w2 w1.heap.size r bw cw vq vg (NEWR n jobs room)) (a4 : Below w1.heap.size w1 w2) : BOTH w g r (NEWL n jobs room) (NEWL n jobs room) w2 := by
  refine ⟨⟨gw, va, bw, cw, vq, vg, _, a1.below a4, a3.base a2.size, rel_new n jobs room, fun k hk hr => ?_⟩, a2.trans (a4.mono a2.size), inv_new n jobs room, ⟨h1, h2⟩, h3, inv_new n jobs room, ⟨h1, h2⟩, h3⟩
  have x1 := (a1.foot_lt hk).2
  have x2 := (a3.foot hr).1
  omega
theorem two_ok (n jobs room : Nat) (h1 : 1 ≤ n) (h2 : n ≤ 64) (h3 : jobs ≤ 65536) (h4 : room ≤ 65536) (w : World) : Calls Try.prog 4 #[.int .i64 (n : Int), .int .i64 (jobs : Int), .int .i64 (room : Int)] w (TWO w n jobs room) := by
  have c1 := new_ok n jobs room h1 h2 h3 h4 w
  have HK : Aside (1 ≤ n ∧ n ≤ 64 ∧ jobs ≤ 65536 ∧ room ≤ 65536) := ⟨h1, h2, h3, h4⟩
  clear h1 h2 h3 h4
  go_enter Try.func4, Try.ntmps4
  go_wp2_with fail
  refine c1.mono ?_
  rintro e w1 ⟨g, gw, rfl, a1, a2⟩
  have c2 := rnew_ok n jobs room HK.out.1 HK.out.2.1 HK.out.2.2.1 HK.out.2.2.2 w1
  have HA : Aside (LOOM w1 w.heap.size g gw (.slice none 0 0) (NEWL n jobs room) ∧ Below w.heap.size w w1) := ⟨a1, a2⟩
  clear c1 a1 a2
  go_wp2_with fail
  refine c2.mono ?_
  rintro e w2 ⟨r, bw, cw, rfl, a3, a4⟩
  have HB : Aside (BOTH w g r (NEWL n jobs room) (NEWL n jobs room) w2) := both_new HK.out.1 HK.out.2.1 HK.out.2.2.1 HA.out.1 HA.out.2 a3 a4
  clear c2 a3 a4
  go_wp2
  go_ret3
  exact ⟨g, r, rfl, HB.out⟩
theorem two_not (a b c : Int) (h : REF a b c) (w : World) : Calls Try.prog 4 #[.int .i64 a, .int .i64 b, .int .i64 c] w fun e w' => e = .returned (.tuple #[.pointer none, .pointer none, .bool true]) ∧ w = w' := by
  have c1 := new_not a b c h w
  have c2 := rnew_not a b c h w
  clear h
  go_enter Try.func4, Try.ntmps4
  go_wp2_with fail
  refine c1.mono ?_
  rintro e w1 ⟨rfl, rfl⟩
  clear c1
  go_wp2_with fail
  refine c2.mono ?_
  rintro e w1 ⟨rfl, rfl⟩
  clear c2
  go_wp2
  go_ret3
  exact ⟨rfl, rfl⟩
end Go.Proofs.Ytmgocdjmjnkbmaa
