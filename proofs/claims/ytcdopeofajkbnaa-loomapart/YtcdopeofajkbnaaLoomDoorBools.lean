/- What a row gives the walks of layer 13: a list of Booleans that came in. -/
import Derived.Test.YtcdopeofajkbnaaLoomDoor
import Derived.Deep.Grids
namespace Go.Proofs.Ytcdopeofajkbnaa
open Go.ChangeShapes Go.WideShapes Go.ChangeAt Go.WideMaps Go.WideElems Go.RowKit
set_option maxRecDepth 100000

/-- a list of Booleans lies there. -/
def BOOLL (w : World) (a : Option Addr) (n : Nat) (L : Nat → Bool) : Prop := 0 < n → ∃ b o, a = some ⟨b, o, none⟩ ∧ b < w.heap.size ∧ ∀ i, i < n → w.cell? ⟨b, o + i, none⟩ = some (.bool (L i))
theorem open_bools13 {H : Type} {enc : TypeId × Value → H} {W : World} {a : Option Addr} {len cap : Nat} {d : DataW H} {ps : List MemPlace} (hd : DataW.Trod enc Try.prog W 0 (fun _ => true) true 40 (.slice a len cap) d ps) :
    ∃ L : Nat → Bool, BOOLL W a len L ∧ len ≤ cap := by
  obtain ⟨fuel, hf⟩ := hd
  rcases Go.Deep.open_bools Try.underlying40 Try.underlying4 (by kernel_rfl) hf with ⟨hcs, _⟩ | ⟨x, l, c, B, hcs, _, hl, hm, _, hcell⟩
  · simp [Value.cells] at hcs
    obtain ⟨rfl, rfl, rfl⟩ := hcs
    exact ⟨fun _ => false, (fun h => by omega), Nat.le_refl _⟩
  · simp [Value.cells] at hcs
    obtain ⟨rfl, rfl, rfl⟩ := hcs
    refine ⟨B, fun h0 => ?_, hl⟩
    obtain ⟨b, off, spot⟩ := x
    have hc := hcell 0 (by omega)
    have hspot : spot = none := by simpa [Addr.add] using World.cell?_spot hc
    subst hspot
    refine ⟨b, off, rfl, block_lt_of_cell (by simpa [Addr.add] using hc), fun i hi => ?_⟩
    have hcl := hcell i (by omega)
    rw [show (⟨b, off, none⟩ : Addr).add i = ⟨b, off + i, none⟩ by unfold Addr.add; split <;> simp_all] at hcl
    exact hcl
theorem BOOLL.below {w w' : World} {a : Option Addr} {n : Nat} {L : Nat → Bool} (h : BOOLL w a n L) (hb : Below w.heap.size w w') : BOOLL w' a n L := fun h0 => by
  obtain ⟨b, o, e, hl, hc⟩ := h h0
  exact ⟨b, o, e, Nat.lt_of_lt_of_le hl hb.size, fun i hi => (hb.cell (p := ⟨b, o + i, none⟩) hl).trans (hc i hi)⟩
end Go.Proofs.Ytcdopeofajkbnaa
