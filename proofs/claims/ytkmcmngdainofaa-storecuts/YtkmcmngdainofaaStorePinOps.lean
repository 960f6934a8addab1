/- Store.Unpin and Store.Pin. -/
import Derived.Test.YtkmcmngdainofaaStorePinsOf
import Derived.Test.YtkmcmngdainofaaStoreSame
namespace Go.Proofs.Ytkmcmngdainofaa
open Go.RowKit Go.Maps
set_option maxRecDepth 100000

/-- the map of pins has changed. -/
theorem PINS.turn {w w' : World} {B g log len alive N n m b : Nat} {C : CHUNKS} {P' : Nat → Nat} (hS : STORE w B g log len alive N C) (h4 : w.cell? ⟨g, 4, none⟩ = some (.map (some b))) (hB : B ≤ b) (hBw : B ≤ w.heap.size) (hf : ¬ FOOT w g C b) (hg : g ≠ b) (gw : w.grownBy w' (some b)) (hm : m ≤ n) (hP : PinMap w' b m P') : STORE w' B g log len alive N C ∧ PINS w' B g n C P' ∧ Below B w w' := by
  have hblk : ∀ x, x < w.heap.size → x ≠ b → w'.heap[x]? = w.heap[x]? := fun x hx hxb => gw.block x hx (fun e => hxb (by cases e; rfl))
  obtain ⟨s1, s2, s3⟩ := hS.same hblk hf hg
  refine ⟨s1, ⟨⟨some b, (s3 4).trans h4, (fun e => by cases e), fun x e => ?_⟩⟩, (Below.refl B w).grown gw hBw (fun x e => by cases e; exact hB)⟩
  cases e
  exact ⟨hB, fun h => hf (s2 b h), m, hm, hP⟩
/-- what Unpin answers. -/
def UNPIN (len : Nat) (P : Nat → Nat) (p : Nat) : Nat := if len ≤ p then 31 else if P p = 0 then 52 else 0
/-- the pins behind Unpin. -/
def LESS (len : Nat) (P : Nat → Nat) (p : Nat) : Nat → Nat := fun j => if j = p ∧ p < len then P p - 1 else P j
theorem LESS_far {len p : Nat} {P : Nat → Nat} (h : len ≤ p) : LESS len P p = P := funext fun j => if_neg (by omega)
theorem LESS_none {len p : Nat} {P : Nat → Nat} (h : P p = 0) : LESS len P p = P := funext fun j => by
  unfold LESS
  split
  · rename_i e; rw [e.1, h]
  · rfl
theorem LESS_at {len p : Nat} {P : Nat → Nat} (h : p < len) : LESS len P p = fun j => if j = p then P p - 1 else P j := funext fun j => by
  unfold LESS
  by_cases e : j = p
  · rw [if_pos ⟨e, h⟩, if_pos e]
  · rw [if_neg (fun x => e x.1), if_neg e]
theorem PINS.more {w : World} {B g n n' : Nat} {C : CHUNKS} {P : Nat → Nat} (h : PINS w B g n C P) (hn : n ≤ n') : PINS w B g n' C P := by
  obtain ⟨mv, a, b, c⟩ := h.map
  exact ⟨⟨mv, a, b, fun x e => by obtain ⟨d1, d2, m, d3, d4⟩ := c x e; exact ⟨d1, d2, m, by omega, d4⟩⟩⟩
end Go.Proofs.Ytkmcmngdainofaa
