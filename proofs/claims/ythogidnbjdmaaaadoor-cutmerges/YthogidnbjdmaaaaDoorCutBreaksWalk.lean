/- The walk of the law CutBreaks. -/
import Derived.Test.YthogidnbjdmaaaaDoorCutTopsWalk
namespace Go.Proofs.YthogidnbjdmaaaaDoor
open Go.RowKit

/-- a spot of a list is broken into its kids. -/
theorem Tile.broken {L : List (Nat × Nat)} {k h x a b : Nat} (ht : Tile a L b) (e : L[k]? = some (h + 1, x)) : Tile a ((L.take k ++ [(h, 2 * x), (h, 2 * x + 1)]) ++ L.drop (k + 1)) b ∧ ((L.take k ++ [(h, 2 * x), (h, 2 * x + 1)]) ++ L.drop (k + 1)).length = L.length + 1 := by
  obtain ⟨t1, _⟩ := take_at e
  have hk := (List.getElem?_eq_some_iff.1 e).1
  refine ⟨?_, by simp; omega⟩
  rw [t1] at ht
  obtain ⟨c, h1, h2⟩ := ht.split
  rw [show (h + 1, x) :: L.drop (k + 1) = [(h + 1, x)] ++ L.drop (k + 1) from rfl] at h2
  obtain ⟨d, h3, h4⟩ := h2.split
  exact (h1.append h3.kids).append h4
theorem tmod_bounds (z : Int) (M : Nat) (hM : 0 < M) : z.tmod (M : Int) < (M : Int) ∧ -(M : Int) < z.tmod (M : Int) := by
  have h1 := fun x : Int => Int.emod_nonneg x (b := (M : Int)) (by omega)
  have h2 := fun x : Int => Int.emod_lt_of_pos x (b := (M : Int)) (by omega)
  rcases Int.le_total 0 z with h | h
  · rw [Int.tmod_eq_emod_of_nonneg h]
    have := h1 z
    have := h2 z
    omega
  · have e : z.tmod (M : Int) = -((-z) % (M : Int)) := by rw [← Int.tmod_eq_emod_of_nonneg (by omega : 0 ≤ -z), Int.neg_tmod, Int.neg_neg]
    rw [e]
    have := h1 (-z)
    have := h2 (-z)
    omega
theorem wrap_near (x : Int) (h0 : 0 ≤ x) (h1 : x < 2 ^ 40) : wrap64 x = x := by unfold wrap64; omega
theorem own_lit_at (w : World) (base g : Nat) (hg : w.heap.size = g) (hb : base ≤ g) : (w.alloc (.cells #[] 28)).ownsRow base 28 2 (.slice (some ⟨g, 0, none⟩) 0 0) 0 (SCELLS []) := by
  subst hg
  exact own_lit0 w base hb
theorem Lie.take {w : World} {a : Option Addr} {L : List (Nat × Nat)} (h : Lie w a L) (k : Nat) : Lie w a (L.take k) := fun h0 => by
  have hl : 0 < L.length := by
    rw [List.length_take] at h0
    omega
  obtain ⟨g, o, e, hg, hc⟩ := h hl
  refine ⟨g, o, e, hg, fun j x y he => hc j x y ?_⟩
  rw [List.getElem?_take] at he
  split at he
  · exact he
  · cases he
theorem Lie.drop {w : World} {g k : Nat} {L : List (Nat × Nat)} (hL : Lie w (some ⟨g, 0, none⟩) L) : Lie w (some ⟨g, k * 2, none⟩) (L.drop k) := fun h0 => by
  rw [List.length_drop] at h0
  obtain ⟨g', o', e, hg, hc⟩ := hL (by omega)
  cases e
  refine ⟨g, k * 2, rfl, hg, fun j x y e => ?_⟩
  rw [List.getElem?_drop] at e
  have := hc (k + j) x y e
  rw [Nat.zero_add, Nat.add_mul] at this
  exact this
theorem lie_two (w : World) (a b c d : Nat) : Lie (w.alloc (.cells #[.int .u8 (a : Int), .int .u64 (b : Int), .int .u8 (c : Int), .int .u64 (d : Int)] 28)) (some ⟨w.heap.size, 0, none⟩) [(a, b), (c, d)] := fun _ => by
  refine ⟨w.heap.size, 0, rfl, by simp, fun j x y e => ?_⟩
  have hH := Has.new w #[.int .u8 (a : Int), .int .u64 (b : Int), .int .u8 (c : Int), .int .u64 (d : Int)] 28
  match j, e with
  | 0, e =>
    simp at e
    obtain ⟨rfl, rfl⟩ := e
    exact ⟨hH.cell 0, hH.cell 1⟩
  | 1, e =>
    simp at e
    obtain ⟨rfl, rfl⟩ := e
    exact ⟨hH.cell 2, hH.cell 3⟩
  | j + 2, e => simp at e
end Go.Proofs.YthogidnbjdmaaaaDoor
