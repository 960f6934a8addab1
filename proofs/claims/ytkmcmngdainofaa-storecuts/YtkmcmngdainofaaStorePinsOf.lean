/- Store.Pins. -/
import Derived.Test.YtkmcmngdainofaaStorePinMap
namespace Go.Proofs.Ytkmcmngdainofaa
open Go.RowKit Go.Maps
set_option maxRecDepth 100000

/-- how many pins each place has; the map of pins, if there is one, is none of the store's other blocks. -/
structure PINS (w : World) (B g n : Nat) (C : CHUNKS) (P : Nat → Nat) : Prop where
  map : ∃ mv, w.cell? ⟨g, 4, none⟩ = some (.map mv) ∧ (mv = none → ∀ p, P p = 0) ∧ ∀ b, mv = some b → B ≤ b ∧ ¬ FOOT w g C b ∧ ∃ m, m ≤ n ∧ PinMap w b m P
theorem PINS.step {w w' : World} {B g n : Nat} {C C' : CHUNKS} {P : Nat → Nat} (h : PINS w B g n C P) (hs : STEP w w' g C C') (hg : ∃ cs t fr, w.heap[g]? = some (.cells cs t fr)) : PINS w' B g n C' P := by
  obtain ⟨mv, h1, h2, h3⟩ := h.map
  refine ⟨⟨mv, (hs.pins 4 (by decide)).trans h1, h2, fun b e => ?_⟩⟩
  obtain ⟨c1, c2, m, c3, c4⟩ := h3 b e
  have hbg : b ≠ g := fun e => by
    obtain ⟨cs, t, fr, hk⟩ := hg
    obtain ⟨D, ⟨es, clock, hb, _⟩, _⟩ := c4
    rw [e, hk] at hb
    cases hb
  refine ⟨c1, fun hf => ?_, m, c3, c4.at (hs.same b c4.lt hbg c2)⟩
  rcases hs.foot b hf with h | h
  · exact c2 h
  · have := c4.lt
    omega
theorem PINS.look {w : World} {B g n : Nat} {C : CHUNKS} {P : Nat → Nat} (h : PINS w B g n C P) (p : Nat) (hp : p < 2 ^ 64) : ∃ mv, w.cell? ⟨g, 4, none⟩ = some mv ∧ (Instr.lookup 45 mv (.int .u64 (p : Int)) false).run Try.prog w = .ok (.int .i64 ((P p : Nat) : Int)) w := by
  obtain ⟨mv, h1, h2, h3⟩ := h.map
  cases mv with
  | none => exact ⟨_, h1, by rw [h2 rfl p]; exact look_nopins hp w⟩
  | some b =>
    obtain ⟨_, _, m, _, c4⟩ := h3 b rfl
    exact ⟨_, h1, c4.look hp⟩
end Go.Proofs.Ytkmcmngdainofaa
