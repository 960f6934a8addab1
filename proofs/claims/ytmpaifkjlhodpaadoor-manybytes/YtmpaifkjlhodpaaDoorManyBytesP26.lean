/- Texts of ManyBytes, one behind the other: ManyMix. -/
import Derived.Test.YtmpaifkjlhodpaaDoorManyBytesP22
import Derived.Test.YtmpaifkjlhodpaaDoorManyBytesP25
/- Two lists of numbers and two lists of hashes of one's own, none in another's block. -/
namespace Go.Proofs.YtmpaifkjlhodpaaDoor
open Go.RowKit
set_option maxRecDepth 100000

/-- none of four lies in another's block. -/
structure APT (a b x y : Value) : Prop where
  ab : ∀ g, a.ownBlock = some g → b.ownBlock ≠ some g
  ax : ∀ g, a.ownBlock = some g → x.ownBlock ≠ some g
  ay : ∀ g, a.ownBlock = some g → y.ownBlock ≠ some g
  bx : ∀ g, b.ownBlock = some g → x.ownBlock ≠ some g
  byy : ∀ g, b.ownBlock = some g → y.ownBlock ≠ some g
  xy : ∀ g, x.ownBlock = some g → y.ownBlock ≠ some g
theorem off_sym {a b : Value} (h : ∀ g, a.ownBlock = some g → b.ownBlock ≠ some g) : ∀ g, b.ownBlock = some g → a.ownBlock ≠ some g := fun g e1 e2 => h g e2 e1
/-- four lists of one's own; K: their blocks at first. -/
structure MIX (w0 w : World) (B : Nat) (K : Nat → Prop) (a : Value) (na : Nat) (xa : List Value) (b : Value) (nb : Nat) (xb : List Value) (x : Value) (mx : Nat) (xx : List Value) (y : Value) (my : Nat) (xy : List Value) : Prop where
  ra : w.ownsRow B 23 1 a na xa
  rb : w.ownsRow B 23 1 b nb xb
  rx : w.ownsRow B 57 32 x mx xx
  ry : w.ownsRow B 57 32 y my xy
  ap : APT a b x y
  hm : ∀ g, (a.ownBlock = some g ∨ b.ownBlock = some g ∨ x.ownBlock = some g ∨ y.ownBlock = some g) → K g ∨ w0.heap.size ≤ g
  kp : ∀ k, k < w0.heap.size → ¬ K k → w.heap[k]? = w0.heap[k]?
  bl : Below B w0 w
  sz : w0.heap.size ≤ w.heap.size
  bs : B ≤ w0.heap.size
section
variable {w0 w : World} {B : Nat} {K : Nat → Prop} {a : Value} {na : Nat} {xa : List Value} {b : Value} {nb : Nat} {xb : List Value} {x : Value} {mx : Nat} {xx : List Value} {y : Value} {my : Nat} {xy : List Value}
theorem MIX.swab (h : MIX w0 w B K a na xa b nb xb x mx xx y my xy) : MIX w0 w B K b nb xb a na xa x mx xx y my xy :=
  ⟨h.rb, h.ra, h.rx, h.ry, ⟨off_sym h.ap.ab, h.ap.bx, h.ap.byy, h.ap.ax, h.ap.ay, h.ap.xy⟩, fun g e => h.hm g (by rcases e with e | e | e <;> simp_all), h.kp, h.bl, h.sz, h.bs⟩
theorem MIX.swxy (h : MIX w0 w B K a na xa b nb xb x mx xx y my xy) : MIX w0 w B K a na xa b nb xb y my xy x mx xx :=
  ⟨h.ra, h.rb, h.ry, h.rx, ⟨h.ap.ab, h.ap.ay, h.ap.ax, h.ap.byy, h.ap.bx, off_sym h.ap.xy⟩, fun g e => h.hm g (by rcases e with e | e | e | e <;> simp_all), h.kp, h.bl, h.sz, h.bs⟩
theorem MIX.size (h : MIX w0 w B K a na xa b nb xb x mx xx y my xy) : B ≤ w.heap.size := Nat.le_trans h.bs h.sz
theorem own_off {w w' : World} {B s n : Nat} {t : TypeId} {v : Value} {xs : List Value} {r : Option Nat} (h : w.ownsRow B t s v n xs) (hg : w.grownBy w' r) (ho : ∀ g, r = some g → v.ownBlock ≠ some g) : w'.ownsRow B t s v n xs := own_hold h fun k e => hg.block k (h.lt k e).2 fun e2 => ho k e2.symm e
theorem MIX.stepa (h : MIX w0 w B K a na xa b nb xb x mx xx y my xy) {w' : World} {a' : Value} {na' : Nat} {xa' : List Value} (hown : w'.ownsRow B 23 1 a' na' xa') (hg : w.grownBy w' a.ownBlock) (hat : ∀ g, a'.ownBlock = some g → a.ownBlock = some g ∨ w.heap.size ≤ g) : MIX w0 w' B K a' na' xa' b nb xb x mx xx y my xy := by
  have far : ∀ {v : Value} {t : TypeId} {s n : Nat} {xs : List Value}, w.ownsRow B t s v n xs → (∀ g, a.ownBlock = some g → v.ownBlock ≠ some g) → ∀ g, a'.ownBlock = some g → v.ownBlock ≠ some g := fun hr ho g e1 e2 => by
    rcases hat g e1 with h1 | h1
    · exact ho g h1 e2
    · have := (hr.lt g e2).2
      omega
  have hs := grown_size hg
  refine ⟨hown, own_off h.rb hg h.ap.ab, own_off h.rx hg h.ap.ax, own_off h.ry hg h.ap.ay, ⟨far h.rb h.ap.ab, far h.rx h.ap.ax, far h.ry h.ap.ay, h.ap.bx, h.ap.byy, h.ap.xy⟩, fun g e => ?_, fun k hk hK => ?_, h.bl.grown hg h.size (fun k e => (h.ra.lt k e).1), Nat.le_trans h.sz hs, h.bs⟩
  · rcases e with e | e
    · rcases hat g e with h1 | h1
      · exact h.hm g (.inl h1)
      · exact .inr (Nat.le_trans h.sz h1)
    · exact h.hm g (.inr e)
  · refine (hg.block k (Nat.lt_of_lt_of_le hk h.sz) fun e => ?_).trans (h.kp k hk hK)
    rcases h.hm k (.inl e.symm) with h1 | h1
    · exact hK h1
    · omega
theorem MIX.stepx (h : MIX w0 w B K a na xa b nb xb x mx xx y my xy) {w' : World} {x' : Value} {mx' : Nat} {xx' : List Value} (hown : w'.ownsRow B 57 32 x' mx' xx') (hg : w.grownBy w' x.ownBlock) (hat : ∀ g, x'.ownBlock = some g → x.ownBlock = some g ∨ w.heap.size ≤ g) : MIX w0 w' B K a na xa b nb xb x' mx' xx' y my xy := by
  have far : ∀ {v : Value} {t : TypeId} {s n : Nat} {xs : List Value}, w.ownsRow B t s v n xs → (∀ g, x.ownBlock = some g → v.ownBlock ≠ some g) → ∀ g, x'.ownBlock = some g → v.ownBlock ≠ some g := fun hr ho g e1 e2 => by
    rcases hat g e1 with h1 | h1
    · exact ho g h1 e2
    · have := (hr.lt g e2).2
      omega
  have hs := grown_size hg
  refine ⟨own_off h.ra hg (off_sym h.ap.ax), own_off h.rb hg (off_sym h.ap.bx), hown, own_off h.ry hg h.ap.xy, ⟨h.ap.ab, off_sym (far h.ra (off_sym h.ap.ax)), h.ap.ay, off_sym (far h.rb (off_sym h.ap.bx)), h.ap.byy, far h.ry h.ap.xy⟩, fun g e => ?_, fun k hk hK => ?_, h.bl.grown hg h.size (fun k e => (h.rx.lt k e).1), Nat.le_trans h.sz hs, h.bs⟩
  · rcases e with e | e | e | e
    · exact h.hm g (.inl e)
    · exact h.hm g (.inr (.inl e))
    · rcases hat g e with h1 | h1
      · exact h.hm g (.inr (.inr (.inl h1)))
      · exact .inr (Nat.le_trans h.sz h1)
    · exact h.hm g (.inr (.inr (.inr e)))
  · refine (hg.block k (Nat.lt_of_lt_of_le hk h.sz) fun e => ?_).trans (h.kp k hk hK)
    rcases h.hm k (.inr (.inr (.inl e.symm))) with h1 | h1
    · exact hK h1
    · omega
theorem MIX.alloc (h : MIX w0 w B K a na xa b nb xb x mx xx y my xy) (o : Obj) : MIX w0 (w.alloc o) B K a na xa b nb xb x mx xx y my xy :=
  ⟨own_alloc h.ra o, own_alloc h.rb o, own_alloc h.rx o, own_alloc h.ry o, h.ap, h.hm, fun k hk hK => (Below.heap_alloc w o k (Nat.lt_of_lt_of_le hk h.sz)).trans (h.kp k hk hK), h.bl.alloc h.size o, by have := h.sz; simp; omega, h.bs⟩
theorem MIX.drew (h : MIX w0 w B K a na xa b nb xb x mx xx y my xy) : MIX w0 w.drew B K a na xa b nb xb x mx xx y my xy := ⟨h.ra, h.rb, h.rx, h.ry, h.ap, h.hm, h.kp, h.bl.drew, h.sz, h.bs⟩
/-- a block that is none of the four's. -/
structure OFF (z : Nat) (a b x y : Value) : Prop where
  a : a.ownBlock ≠ some z
  b : b.ownBlock ≠ some z
  x : x.ownBlock ≠ some z
  y : y.ownBlock ≠ some z
theorem MIX.fresh (h : MIX w0 w B K a na xa b nb xb x mx xx y my xy) : OFF w.heap.size a b x y :=
  ⟨fun e => Nat.lt_irrefl _ (h.ra.lt _ e).2, fun e => Nat.lt_irrefl _ (h.rb.lt _ e).2, fun e => Nat.lt_irrefl _ (h.rx.lt _ e).2, fun e => Nat.lt_irrefl _ (h.ry.lt _ e).2⟩
end
theorem off_new {w : World} {v : Value} {z g n c : Nat} (hz : z < w.heap.size) (h : v.ownBlock ≠ some z) (hat : v.ownBlock = some g ∨ g = w.heap.size) : (Value.slice (some ⟨g, 0, none⟩) n c).ownBlock ≠ some z := fun e => by
  have e : g = z := by simpa [Value.ownBlock] using e
  subst e
  rcases hat with h1 | h1
  · exact h h1
  · omega
theorem has_off {w w' : World} {r : Option Nat} {z : Nat} {c : Array Value} {t : TypeId} (h : Has w z c t) (hg : w.grownBy w' r) (ho : r ≠ some z) : Has w' z c t := (hg.block z h.lt fun e => ho e.symm).trans h
/-- an element of a list of numbers is written over. -/
theorem own_put {w : World} {B g n c j : Nat} {xs : List Value} {v : Value} (h : w.ownsRow B 23 1 (.slice (some ⟨g, 0, none⟩) n c) n xs) (hj : j < n) : (∃ u, w.cell? ⟨g, j, none⟩ = some u) ∧ w.frozen? ⟨g, j, none⟩ = false ∧ (w.setCell ⟨g, j, none⟩ v).ownsRow B 23 1 (.slice (some ⟨g, 0, none⟩) n c) n (xs.set j v) ∧ w.grownBy (w.setCell ⟨g, j, none⟩ v) (Value.slice (some ⟨g, 0, none⟩) n c).ownBlock := by
  refine ⟨?_, h.frozenAt j, (h.stored j v).1, (h.stored j v).2⟩
  have := h.cellAt j (by omega)
  obtain ⟨u, hu⟩ : ∃ u, xs[j]? = some u := ⟨_, List.getElem?_eq_getElem (by have := h.1; omega)⟩
  exact ⟨u, this.trans hu⟩
end Go.Proofs.YtmpaifkjlhodpaaDoor
