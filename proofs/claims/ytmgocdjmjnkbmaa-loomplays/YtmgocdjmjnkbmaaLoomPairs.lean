/- Two pairs of looms side by side. -/
import Derived.Test.YtmgocdjmjnkbmaaLoomAlike
namespace Go.Proofs.Ytmgocdjmjnkbmaa
open Go.RowKit
set_option maxRecDepth 100000

def PINV (s : LM) : Prop := INV s ∧ (1 ≤ s.W ∧ s.W ≤ 64) ∧ s.jobs ≤ 65536
/-- a pair, whose blocks are F. -/
def PR (B g r : Nat) (s t : LM) (F : Nat → Prop) (w : World) : Prop := ∃ gw va bw cw vq vg R, LOOM w B g gw va s ∧ RLOOM w B r bw cw vq vg R ∧ REL t R ∧ (∀ k, FOOT g gw va k → ¬ RFOOT r bw vq vg k) ∧ ∀ k, F k ↔ (FOOT g gw va k ∨ RFOOT r bw vq vg k)
structure PS (F F' : Nat → Prop) (w w' : World) : Prop where
  os : w'.os = w.os
  tape : w'.tape = w.tape
  output : w'.output = w.output
  size : w.heap.size ≤ w'.heap.size
  block : ∀ k, k < w.heap.size → ¬ F k → w'.heap[k]? = w.heap[k]?
  new : ∀ k, F' k → F k ∨ w.heap.size ≤ k
theorem PR.lt {B g r : Nat} {s t : LM} {F : Nat → Prop} {w : World} (h : PR B g r s t F w) {k : Nat} (hk : F k) : B ≤ k ∧ k < w.heap.size := by
  obtain ⟨gw, va, bw, cw, vq, vg, R, h1, h2, h3, h4, h5⟩ := h
  rcases (h5 k).1 hk with e | e
  · exact h1.foot_lt e
  · exact h2.foot e
theorem PR.turn {B g r : Nat} {s t : LM} {F : Nat → Prop} {w w' : World} (h : PR B g r s t F w) (ht : ∀ k, F k → w'.heap[k]? = w.heap[k]?) : PR B g r s t F w' := by
  obtain ⟨gw, va, bw, cw, vq, vg, R, h1, h2, h3, h4, h5⟩ := h
  exact ⟨gw, va, bw, cw, vq, vg, R, h1.turn (fun k hk => ht k ((h5 k).2 (.inl hk))), h2.turn (fun k hk => ht k ((h5 k).2 (.inr hk))), h3, h4, h5⟩
/-- a move, or none. -/
def MV13 (s : LM) (x : Int) : LM := if h : 0 ≤ x ∧ x.toNat < (MVS s).length then DO s (MVS s)[x.toNat] else s
def ER13 (s : LM) (x : Int) : Int := if 0 ≤ x ∧ x.toNat < (MVS s).length then 0 else 130
theorem pinv_mv {s : LM} (h : PINV s) (x : Int) : PINV (MV13 s x) := by
  unfold MV13
  split
  · rename_i hx
    have hd := do_same s (MVS s)[x.toNat]
    exact ⟨inv_do h.1 (List.getElem_mem _), by rw [hd.1]; exact h.2.1, by rw [hd.2.1]; exact h.2.2⟩
  · exact h
theorem p_lmove {B g r : Nat} {s t : LM} {F : Nat → Prop} {w : World} (h : PR B g r s t F w) (hi : PINV s) (x : Int) : Calls Try.prog 6 #[.pointer (some ⟨g, 0, none⟩), .int .i64 x] w fun e w' => e = .returned (.int .i64 (ER13 s x)) ∧ ∃ F', PR B g r (MV13 s x) t F' w' ∧ PS F F' w w' := by
  obtain ⟨gw, va, bw, cw, vq, vg, R, h1, h2, h3, h4, h5⟩ := h
  by_cases hx : 0 ≤ x ∧ x.toNat < (MVS s).length
  · have e1 : ER13 s x = 0 := if_pos hx
    have e2 : MV13 s x = DO s (MVS s)[x.toNat] := dif_pos hx
    have e3 : ((x.toNat : Nat) : Int) = x := Int.toNat_of_nonneg hx.1
    rw [e1, e2]
    have c := move_ok h1 (hi.1.small hi.2.1.2 hi.2.2) x.toNat _ (List.getElem?_eq_getElem hx.2)
    rw [e3] at c
    refine c.mono ?_
    rintro e w' ⟨rfl, va', ha⟩
    refine ⟨rfl, fun k => FOOT g gw va' k ∨ RFOOT r bw vq vg k, ⟨gw, va', bw, cw, vq, vg, R, ha.1, h2.turn fun k hk => ha.2.block k (h2.foot hk).2 (fun e => h4 k e hk), h3, fun k hk hr => ?_, fun k => Iff.rfl⟩, ⟨ha.2.os, ha.2.tape, ha.2.output, ha.2.size, fun k hk hf => ha.2.block k hk (fun e => hf ((h5 k).2 (.inl e))), fun k hk => ?_⟩⟩
    · rcases ha.2.new k hk with e | e
      · exact h4 k e hr
      · have := (h2.foot hr).2
        omega
    · rcases hk with hk | hk
      · exact (ha.2.new k hk).imp (fun e => (h5 k).2 (.inl e)) id
      · exact .inl ((h5 k).2 (.inr hk))
  · have e1 : ER13 s x = 130 := if_neg hx
    have e2 : MV13 s x = s := dif_neg hx
    rw [e1, e2]
    refine (move_not h1 hi.2.1.2 x (by omega)).mono ?_
    rintro e w' ⟨rfl, hb⟩
    refine ⟨rfl, F, ⟨gw, va, bw, cw, vq, vg, R, h1.below hb, h2.below hb, h3, h4, h5⟩, ⟨hb.os, hb.tape, hb.output, hb.size, fun k hk _ => hb.block k hk, fun k hk => .inl hk⟩⟩
theorem p_rmove {B g r : Nat} {s t : LM} {F : Nat → Prop} {w : World} (h : PR B g r s t F w) (hi : PINV t) (x : Int) : Calls Try.prog 7 #[.pointer (some ⟨r, 0, none⟩), .int .i64 x] w fun e w' => e = .returned (.int .i64 (ER13 t x)) ∧ ∃ F', PR B g r s (MV13 t x) F' w' ∧ PS F F' w w' := by
  obtain ⟨gw, va, bw, cw, vq, vg, R, h1, h2, h3, h4, h5⟩ := h
  by_cases hx : 0 ≤ x ∧ x.toNat < (MVS t).length
  · have e1 : ER13 t x = 0 := if_pos hx
    have e2 : MV13 t x = DO t (MVS t)[x.toNat] := dif_pos hx
    have e3 : ((x.toNat : Nat) : Int) = x := Int.toNat_of_nonneg hx.1
    rw [e1, e2]
    have c := rmove_ok h2 h3 hi.1 (hi.1.small hi.2.1.2 hi.2.2) hi.2.2 x.toNat _ (List.getElem?_eq_getElem hx.2)
    rw [e3] at c
    refine c.mono ?_
    rintro e w' ⟨rfl, vq', vg', R', ha, hr'⟩
    refine ⟨rfl, fun k => FOOT g gw va k ∨ RFOOT r bw vq' vg' k, ⟨gw, va, bw, cw, vq', vg', R', h1.turn (fun k hk => ha.2.block k (h1.foot_lt hk).2 (h4 k hk)), ha.1, hr', fun k hk hr => ?_, fun k => Iff.rfl⟩, ⟨ha.2.os, ha.2.tape, ha.2.output, ha.2.size, fun k hk hf => ha.2.block k hk (fun e => hf ((h5 k).2 (.inr e))), fun k hk => ?_⟩⟩
    · rcases ha.2.new k hr with e | e
      · exact h4 k hk e
      · have := (h1.foot_lt hk).2
        omega
    · rcases hk with hk | hk
      · exact .inl ((h5 k).2 (.inl hk))
      · exact (ha.2.new k hk).imp (fun e => (h5 k).2 (.inr e)) id
  · have e1 : ER13 t x = 130 := if_neg hx
    have e2 : MV13 t x = t := dif_neg hx
    rw [e1, e2]
    refine (rmove_not h2 h3 hi.1 hi.2.1.2 x (by omega)).mono ?_
    rintro e w' ⟨rfl, hb⟩
    refine ⟨rfl, F, ⟨gw, va, bw, cw, vq, vg, R, h1.below hb, h2.below hb, h3, h4, h5⟩, ⟨hb.os, hb.tape, hb.output, hb.size, fun k hk _ => hb.block k hk, fun k hk => .inl hk⟩⟩
/-- two pairs, apart. -/
def DUO (w0 : World) (g r g' r' : Nat) (s t s' t' : LM) (w : World) : Prop := ∃ F F', PR w0.heap.size g r s t F w ∧ PR w0.heap.size g' r' s' t' F' w ∧ (∀ k, F k → ¬ F' k) ∧ Below w0.heap.size w0 w ∧ PINV s ∧ PINV t ∧ PINV s' ∧ PINV t'
theorem DUO.swap {w0 w : World} {g r g' r' : Nat} {s t s' t' : LM} (h : DUO w0 g r g' r' s t s' t' w) : DUO w0 g' r' g r s' t' s t w := by
  obtain ⟨F, F', h1, h2, h3, h4, h5, h6, h7, h8⟩ := h
  exact ⟨F', F, h2, h1, fun k a b => h3 k b a, h4, h7, h8, h5, h6⟩
theorem DUO.below {w0 w : World} {g r g' r' : Nat} {s t s' t' : LM} (h : DUO w0 g r g' r' s t s' t' w) : Below w0.heap.size w0 w := by
  obtain ⟨F, F', h1, h2, h3, h4, _⟩ := h
  exact h4
theorem DUO.on {w0 w w' : World} {g r g' r' : Nat} {s t s' t' : LM} (h : DUO w0 g r g' r' s t s' t' w) (hb : Below w.heap.size w w') : DUO w0 g r g' r' s t s' t' w' := by
  obtain ⟨F, F', h1, h2, h3, h4, h5⟩ := h
  exact ⟨F, F', h1.turn (fun k hk => hb.block k (h1.lt hk).2), h2.turn (fun k hk => hb.block k (h2.lt hk).2), h3, h4.trans (hb.mono h4.size), h5⟩
theorem DUO.step {w0 w w' : World} {g r g' r' : Nat} {s t s1 t1 s' t' : LM} {F F' F1 : Nat → Prop} (h1 : PR w0.heap.size g r s t F w) (h2 : PR w0.heap.size g' r' s' t' F' w) (h3 : ∀ k, F k → ¬ F' k) (h4 : Below w0.heap.size w0 w) (hp : PR w0.heap.size g r s1 t1 F1 w') (hs : PS F F1 w w') (p : PINV s1 ∧ PINV t1 ∧ PINV s' ∧ PINV t') : DUO w0 g r g' r' s1 t1 s' t' w' := by
  refine ⟨F1, F', hp, h2.turn (fun k hk => hs.block k (h2.lt hk).2 (fun e => h3 k e hk)), fun k hk hk' => ?_, ⟨hs.os.trans h4.os, hs.tape.trans h4.tape, hs.output.trans h4.output, Nat.le_trans h4.size hs.size, fun k hk => (hs.block k (by have := h4.size; omega) (fun e => by have := (h1.lt e).1; omega)).trans (h4.block k hk)⟩, p⟩
  rcases hs.new k hk with e | e
  · exact h3 k e hk'
  · have := (h2.lt hk').2
    omega
theorem d_lmove {w0 w : World} {g r g' r' : Nat} {s t s' t' : LM} (h : DUO w0 g r g' r' s t s' t' w) (x : Int) : Calls Try.prog 6 #[.pointer (some ⟨g, 0, none⟩), .int .i64 x] w fun e w' => e = .returned (.int .i64 (ER13 s x)) ∧ DUO w0 g r g' r' (MV13 s x) t s' t' w' := by
  obtain ⟨F, F', h1, h2, h3, h4, h5, h6, h7, h8⟩ := h
  refine (p_lmove h1 h5 x).mono ?_
  rintro e w' ⟨rfl, F1, q1, q2⟩
  exact ⟨rfl, DUO.step h1 h2 h3 h4 q1 q2 ⟨pinv_mv h5 x, h6, h7, h8⟩⟩
theorem d_rmove {w0 w : World} {g r g' r' : Nat} {s t s' t' : LM} (h : DUO w0 g r g' r' s t s' t' w) (x : Int) : Calls Try.prog 7 #[.pointer (some ⟨r, 0, none⟩), .int .i64 x] w fun e w' => e = .returned (.int .i64 (ER13 t x)) ∧ DUO w0 g r g' r' s (MV13 t x) s' t' w' := by
  obtain ⟨F, F', h1, h2, h3, h4, h5, h6, h7, h8⟩ := h
  refine (p_rmove h1 h6 x).mono ?_
  rintro e w' ⟨rfl, F1, q1, q2⟩
  exact ⟨rfl, DUO.step h1 h2 h3 h4 q1 q2 ⟨h5, pinv_mv h6 x, h7, h8⟩⟩
theorem DUO.both {w0 w : World} {g r g' r' : Nat} {s t s' t' : LM} (h : DUO w0 g r g' r' s t s' t' w) : BOTH w0 g r s t w := by
  obtain ⟨F, F', ⟨gw, va, bw, cw, vq, vg, R, a1, a2, a3, a4, a5⟩, h2, h3, h4, h5, h6, h7, h8⟩ := h
  exact ⟨⟨gw, va, bw, cw, vq, vg, R, a1, a2, a3, a4⟩, h4, h5.1, h5.2.1, h5.2.2, h6.1, h6.2.1, h6.2.2⟩
theorem LOOM.base {w : World} {B C g gw : Nat} {va : Value} {s : LM} (h : LOOM w C g gw va s) (hB : B ≤ C) : LOOM w B g gw va s :=
  ⟨h.row, h.wk, h.at_, h.jb, own_base h.own hB, h.ne, h.ag, h.aw, Nat.le_trans hB h.bg, Nat.le_trans hB h.bw⟩
theorem duo_of {w0 w1 w2 : World} {g r g' r' : Nat} {s t s' t' : LM} (h : BOTH w0 g r s t w1) (h' : BOTH w1 g' r' s' t' w2) : DUO w0 g r g' r' s t s' t' w2 := by
  obtain ⟨gw, va, bw, cw, vq, vg, R, a1, a2, a3, a4⟩ := h.two
  obtain ⟨gw', va', bw', cw', vq', vg', R', b1, b2, b3, b4⟩ := h'.two
  have hb := h'.below
  refine ⟨fun k => FOOT g gw va k ∨ RFOOT r bw vq vg k, fun k => FOOT g' gw' va' k ∨ RFOOT r' bw' vq' vg' k, ⟨gw, va, bw, cw, vq, vg, R, a1.below hb, a2.below hb, a3, a4, fun k => Iff.rfl⟩, ⟨gw', va', bw', cw', vq', vg', R', b1.base h.below.size, b2.base h.below.size, b3, b4, fun k => Iff.rfl⟩, fun k e f => ?_, h.below.trans (hb.mono h.below.size), ⟨h.inv, h.few, h.jobs⟩, ⟨h.inv', h.few', h.jobs'⟩, ⟨h'.inv, h'.few, h'.jobs⟩, ⟨h'.inv', h'.few', h'.jobs'⟩⟩
  have x1 : k < w1.heap.size := by
    rcases e with e | e
    · exact (a1.foot_lt e).2
    · exact (a2.foot e).2
  have x2 : w1.heap.size ≤ k := by
    rcases f with f | f
    · exact (b1.foot_lt f).1
    · exact (b2.foot f).1
  omega
end Go.Proofs.Ytmgocdjmjnkbmaa
