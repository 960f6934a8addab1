/- What a move makes: put. -/
import Derived.Test.YtmgocdjmjnkbmaaLoomRegions
namespace Go.Proofs.Ytmgocdjmjnkbmaa
open Go.RowKit
set_option maxRecDepth 100000

/-- the cells of the loom itself are written over. -/
theorem LOOM.store {w w' : World} {B g gw : Nat} {va : Value} {s s' : LM} (h : LOOM w B g gw va s) (hr : Has w' g (LC s' gw va) 57) (hk : ∀ k, k ≠ g → w'.heap[k]? = w.heap[k]?) (h1 : s'.W = s.W) (h2 : s'.ws = s.ws) (h3 : s'.ans = s.ans) : LOOM w' B g gw va s' := by
  have e2 := hk gw (fun e => h.ne e.symm)
  refine ⟨hr, ?_, fun i hi => ?_, fun i hi => ?_, ?_, h.ne, h.ag, h.aw, h.bg, h.bw⟩
  · obtain ⟨c, hc⟩ := h.wk
    exact ⟨c, e2.trans hc⟩
  · rw [h2]
    exact (World.cell?_of_block (w := w) e2).trans (h.at_ i (h1 ▸ hi))
  · rw [h2]
    exact (World.cell?_of_block (w := w) e2).trans (h.jb i (h1 ▸ hi))
  · rw [h3]
    exact own_turn h.own (fun k e => hk k (fun e' => h.ag (e' ▸ e)))
/-- a step of a loom: what is no block of its own is as it was. -/
structure STEP (g gw : Nat) (va va' : Value) (w w' : World) : Prop where
  os : w'.os = w.os
  tape : w'.tape = w.tape
  output : w'.output = w.output
  size : w.heap.size ≤ w'.heap.size
  block : ∀ k, k < w.heap.size → ¬ FOOT g gw va k → w'.heap[k]? = w.heap[k]?
  new : ∀ k, FOOT g gw va' k → FOOT g gw va k ∨ w.heap.size ≤ k
theorem STEP.refl (g gw : Nat) (va : Value) (w : World) : STEP g gw va va w w := ⟨rfl, rfl, rfl, Nat.le_refl _, fun _ _ _ => rfl, fun _ h => .inl h⟩
theorem STEP.trans {g gw : Nat} {va va1 va2 : Value} {w w1 w2 : World} (h : STEP g gw va va1 w w1) (k : STEP g gw va1 va2 w1 w2) : STEP g gw va va2 w w2 := by
  refine ⟨k.os.trans h.os, k.tape.trans h.tape, k.output.trans h.output, Nat.le_trans h.size k.size, fun i hi hf => (k.block i (Nat.lt_of_lt_of_le hi h.size) ?_).trans (h.block i hi hf), fun i hi => ?_⟩
  · intro e
    rcases h.new i e with x | x
    · exact hf x
    · omega
  · rcases k.new i hi with x | x
    · exact h.new i x
    · exact .inr (Nat.le_trans h.size x)
theorem STEP.below {g gw : Nat} {va : Value} {w w' : World} (hb : Below w.heap.size w w') : STEP g gw va va w w' := ⟨hb.os, hb.tape, hb.output, hb.size, fun k hk _ => hb.block k hk, fun _ h => .inl h⟩
theorem STEP.set {g gw : Nat} {va : Value} {w : World} {a : Addr} (ha : FOOT g gw va a.block) (v : Value) : STEP g gw va va w (w.setCell a v) := ⟨rfl, rfl, rfl, by simp [World.setCell], fun k _ hf => Below.heap_setCell w a v k (fun e => hf (e ▸ ha)), fun _ h => .inl h⟩
theorem STEP.tobelow {w w' : World} {B g gw : Nat} {va va' : Value} {s : LM} (h : LOOM w B g gw va s) (k : STEP g gw va va' w w') (hB : B ≤ w.heap.size) : Below B w w' := ⟨k.os, k.tape, k.output, k.size, fun i hi => k.block i (by omega) (fun e => by have := (h.foot e).1; omega)⟩
theorem STEP.drew {g gw : Nat} {va va' : Value} {w w' : World} (h : STEP g gw va va' w w') : STEP g gw va va' w w'.drew := ⟨h.os, h.tape, h.output, h.size, h.block, h.new⟩
theorem LOOM.drew {w : World} {B g gw : Nat} {va : Value} {s : LM} (h : LOOM w B g gw va s) : LOOM w.drew B g gw va s := h.turn (fun _ _ => rfl)
/-- the loom stands so, and this was a step. -/
abbrev AFTER (w : World) (B g gw : Nat) (va va' : Value) (s : LM) (w' : World) : Prop := LOOM w' B g gw va' s ∧ STEP g gw va va' w w'
theorem AFTER.below {w w1 w2 : World} {B g gw : Nat} {va va' : Value} {s : LM} (h : AFTER w B g gw va va' s w1) (hb : Below w1.heap.size w1 w2) : AFTER w B g gw va va' s w2 := ⟨h.1.below hb, h.2.trans (STEP.below hb)⟩
/-- two cells of the loom itself are written over. -/
theorem set_two (w : World) (b o : Nat) (x y : Value) (k : Nat) (hk : k ≠ b) : ((w.setCell ⟨b, o, none⟩ x).setCell ⟨b, o + 1, none⟩ y).heap[k]? = w.heap[k]? := (Below.heap_setCell _ _ _ k hk).trans (Below.heap_setCell _ _ _ k hk)
theorem STEP.two {g gw : Nat} {va : Value} {w : World} {b o : Nat} (ha : FOOT g gw va b) (x y : Value) : STEP g gw va va w ((w.setCell ⟨b, o, none⟩ x).setCell ⟨b, o + 1, none⟩ y) := (STEP.set (a := ⟨b, o, none⟩) ha x).trans (STEP.set (a := ⟨b, o + 1, none⟩) ha y)
theorem LOOM.setfd {w : World} {B g gw : Nat} {va : Value} {s : LM} (h : LOOM w B g gw va s) (x : Nat) : LOOM ((w.setCell ⟨g, 3, none⟩ (.int .i64 (AT x))).setCell ⟨g, 4, none⟩ (.int .i64 (JB x))) B g gw va { s with fd := x } :=
  h.store ((h.row.set 3 _).set 4 _) (fun k hk => set_two w g 3 _ _ k hk) rfl rfl rfl
theorem LOOM.setcol {w : World} {B g gw : Nat} {va : Value} {s : LM} (h : LOOM w B g gw va s) (x : Nat) : LOOM ((w.setCell ⟨g, 6, none⟩ (.int .i64 (AT x))).setCell ⟨g, 7, none⟩ (.int .i64 (JB x))) B g gw va { s with col := x } :=
  h.store ((h.row.set 6 _).set 7 _) (fun k hk => set_two w g 6 _ _ k hk) rfl rfl rfl
set_option maxHeartbeats 1000000 in
theorem put_ok {w : World} {B g gw : Nat} {va : Value} {s : LM} (h : LOOM w B g gw va s) (hf : 2 ≤ s.fd) (hf2 : s.fd < 2 ^ 40) (hh : s.held < 2 ^ 40) : Calls Try.prog 33 #[.pointer (some ⟨g, 0, none⟩)] w fun e w' => e = .returned (.tuple #[]) ∧ AFTER w B g gw va va (PUTS s) w' := by
  have HA : Aside (LOOM w B g gw va s ∧ 2 ≤ s.fd) := ⟨h, hf⟩
  have x9 := h.c9
  have z9 := h.row.frozen 9
  go_enter Try.func33, Try.ntmps33
  go_upto_region 1 with fail
  obtain ⟨s1, hs1⟩ : ∃ s1 : LM, s1 = { s with held := s.held + 1 } := ⟨_, rfl⟩
  obtain ⟨w1, hw1⟩ : ∃ w1, w.setCell ⟨g, 9, none⟩ (.int .i64 ((s.held : Int) + 1)) = w1 := ⟨_, rfl⟩
  have L1 : AFTER w B g gw va va s1 w1 := by
    rw [← hw1, hs1]
    exact ⟨HA.out.1.store (HA.out.1.row.set 9 _) (fun k hk => Below.heap_setCell w _ _ k hk) rfl rfl rfl, STEP.set (a := ⟨g, 9, none⟩) (.inl rfl) _⟩
  rw [hw1]
  have c4 : ∀ w2, AFTER w B g gw va va s1 w2 → w2.cell? ⟨g, 4, none⟩ = some (.int .i64 ((s.fd - 2 : Nat) : Int)) := fun w2 h2 => by
    have := h2.1.c4
    rw [JB_busy (by rw [hs1]; exact hf), hs1] at this
    exact this
  have c0 : ∀ w2, AFTER w B g gw va va s1 w2 → w2.cell? ⟨g, 0, none⟩ = some (.int .i64 (s.jobs : Int)) := fun w2 h2 => by
    have := h2.1.c0
    rw [hs1] at this
    exact this
  have cb := fun (w2 : World) (h2 : AFTER w B g gw va va s1 w2) => (before_ok (s.fd - 2 + 1) s.jobs w2).mono fun e w3 (h3 : _ ∧ _) => (⟨h3.1, h2.below h3.2⟩ : e = _ ∧ AFTER w B g gw va va s1 w3)
  have HP : Aside (PUTS s = { s1 with fd := NEXTF (s.fd - 2 + 1) s.jobs }) := by show _ = _; rw [hs1]; exact rfl
  have hj : IntKind.i64.wrap (((s.fd - 2 : Nat) : Int) + 1) = ((s.fd - 2 : Nat) : Int) + 1 := by rw [IntKind.wrap_i64]; omega
  refine put1 _ g (s.fd - 2) s.jobs (AT (NEXTF (s.fd - 2 + 1) s.jobs)) (JB (NEXTF (s.fd - 2 + 1) s.jobs)) _ _ hj (fun w2 => AFTER w B g gw va va s1 w2) (fun w2 => AFTER w B g gw va va s1 w2) ⟨L1.1.drew, L1.2.drew⟩ c4 c0 (fun w2 h2 => ⟨h2.1.c3, h2.1.c4, h2.1.row.frozen 3, h2.1.row.frozen 4⟩) cb (fun _ _ _ _ _ h => h) ?_
  rintro w2 ⟨wx, hx, rfl⟩
  refine bodyPost_end (v := .tuple #[]) (by simp [results, Try.f33]) rfl ⟨rfl, ?_⟩
  rw [HP.out]
  exact ⟨hx.1.setfd _, hx.2.trans (STEP.two (.inl rfl) _ _)⟩
end Go.Proofs.Ytmgocdjmjnkbmaa
