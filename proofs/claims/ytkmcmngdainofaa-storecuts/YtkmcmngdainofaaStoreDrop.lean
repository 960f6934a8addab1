/- Store.Drop. -/
import Derived.Test.YtkmcmngdainofaaStoreTakeCall
namespace Go.Proofs.Ytkmcmngdainofaa
open Go.RowKit Go.Maps
set_option maxRecDepth 100000

theorem drop_far {w : World} {B g log len alive N : Nat} {C : CHUNKS} (hS : STORE w B g log len alive N C) (p : Nat) (hp : len ≤ p) : Calls Try.prog 22 #[.pointer (some ⟨g, 0, none⟩), .int .u64 (p : Int)] w fun e w' => e = .returned (.int .i64 31) ∧ w = w' := by
  have hc1 := hS.c1
  have hge : (len : Int) ≤ (p : Int) := by omega
  clear hS
  go_enter Try.func22, Try.ntmps22
  go_wp2
  go_ret
  exact ⟨rfl, rfl⟩
theorem drop_pinned {w : World} {B g log len alive N n : Nat} {C : CHUNKS} {P : Nat → Nat} (hS : STORE w B g log len alive N C) (hP : PINS w B g n C P) (p : Nat) (hp : p < 2 ^ 64) (hl : p < len) (h0 : P p ≠ 0) : Calls Try.prog 22 #[.pointer (some ⟨g, 0, none⟩), .int .u64 (p : Int)] w fun e w' => e = .returned (.int .i64 51) ∧ w = w' := by
  have hc1 := hS.c1
  have hge : ¬ (len : Int) ≤ (p : Int) := by omega
  obtain ⟨mv, l1, l2⟩ := hP.look p hp
  have hgt : (0 : Int) < ((P p : Nat) : Int) := by omega
  clear hS hP
  generalize P p = v at *
  go_enter Try.func22, Try.ntmps22
  go_wp2
  go_ret
  exact ⟨rfl, rfl⟩
/-- what Drop leaves of a node that lives and has no pin. -/
def DROPPED (w : World) (B g log len alive N n p : Nat) (C : CHUNKS) (P : Nat → Nat) (w' : World) : Prop := ∃ C', STORE w' B g log len alive N C' ∧ (∀ p', AT C' log p' = if p' = p then none else AT C log p') ∧ PINS w' B g n C' P ∧ STEP w w' g C C' ∧ Below B w w'
set_option maxHeartbeats 1000000 in
theorem drop_dead {w : World} {B g log len alive N n : Nat} {C : CHUNKS} {P : Nat → Nat} (hS : STORE w B g log len alive N C) (hP : PINS w B g n C P) (p : Nat) (hp : p < 2 ^ 64) (hl : p < len) (h0 : P p = 0) (hA : AT C log p = none) : Calls Try.prog 22 #[.pointer (some ⟨g, 0, none⟩), .int .u64 (p : Int)] w fun e w' => e = .returned (.int .i64 0) ∧ Below w.heap.size w w' := by
  have hc1 := hS.c1
  have hge : ¬ (len : Int) ≤ (p : Int) := by omega
  obtain ⟨mv, l1, l2⟩ := hP.look p hp
  rw [h0] at l2
  have cL := live_ok hS p hp
  rw [hA] at cL
  clear hS hP
  go_enter Try.func22, Try.ntmps22
  go_wp2_with (refine cL.mono ?_; rintro e w' ⟨rfl, hb⟩)
  go_ret
  exact ⟨rfl, hb⟩
set_option maxHeartbeats 1000000 in
theorem drop_live {w : World} {B g log len alive N n : Nat} {C : CHUNKS} {P : Nat → Nat} (hS : STORE w B g log len alive N C) (hP : PINS w B g n C P) (p al : Nat) (h : Nat → Nat) (hp : p < 2 ^ 64) (hl : p < len) (h0 : P p = 0) (hA : AT C log p = some h) (hal : al + 1 = alive) (hsm : alive < 2 ^ 40) (hBg : B ≤ g) : Calls Try.prog 22 #[.pointer (some ⟨g, 0, none⟩), .int .u64 (p : Int)] w fun e w' => e = .returned (.int .i64 0) ∧ DROPPED w B g log len al N n p C P w' := by
  have hc1 := hS.c1
  have hge : ¬ (len : Int) ≤ (p : Int) := by omega
  obtain ⟨mv, l1, l2⟩ := hP.look p hp
  rw [h0] at l2
  have cL := live_ok hS p hp
  rw [hA] at cL
  have H : Aside (STORE w B g log len alive N C ∧ PINS w B g n C P ∧ p < len ∧ AT C log p = some h ∧ al + 1 = alive ∧ alive < 2 ^ 40 ∧ B ≤ g ∧ g < w.heap.size) := ⟨hS, hP, hl, hA, hal, hsm, hBg, hS.lt⟩
  clear hS hP hl hA hal hsm hBg
  go_enter Try.func22, Try.ntmps22
  go_wp2_with (refine cL.mono ?_; rintro e w1 ⟨rfl, hb⟩; clear cL)
  obtain ⟨a1, a2, a3, a4, a5, a6, a7, a8⟩ := H.out
  have cT := stake_ok (a1.below hb) p al h a3 a4 a5 a6 a7
  have HB : Aside (Below w.heap.size w w1) := hb
  clear a1 a2 a3 a4 a5 a6 a7 a8 hb
  refine cT.mono ?_
  rintro e w2 ⟨⟨v, rfl⟩, hT⟩
  have HT : Aside (STAKES w1 B g log len al N p C w2) := hT
  clear hT cT
  go_wp2
  go_ret
  obtain ⟨a1, a2, a3, a4, a5, a6, a7, a8⟩ := H.out
  obtain ⟨C', c1, c2, c3, c4⟩ := HT.out
  have hst := (STEP.below a1 HB.out).trans c3
  obtain ⟨cs, t, fr, k1, _⟩ := a1.kind
  exact ⟨rfl, C', c1, c2, a2.step hst ⟨cs, t, fr, k1⟩, hst, (HB.out.mono (by omega)).trans c4⟩
end Go.Proofs.Ytkmcmngdainofaa
