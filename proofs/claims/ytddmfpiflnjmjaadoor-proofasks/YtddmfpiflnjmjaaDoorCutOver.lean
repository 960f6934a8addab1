/- What Over answers, of any list of spots. -/
import Derived.Test.YtddmfpiflnjmjaaDoorCutHas
namespace Go.Proofs.YtddmfpiflnjmjaaDoor
open Go.RowKit

/-- a list of spots lies there. -/
def Lie (w : World) (a : Option Addr) (l : List (Nat × Nat)) : Prop := 0 < l.length → ∃ g o, a = some ⟨g, o, none⟩ ∧ g < w.heap.size ∧ ∀ (j h k : Nat), l[j]? = some (h, k) → w.cell? ⟨g, o + j * 2, none⟩ = some (.int .u8 (h : Int)) ∧ w.cell? ⟨g, o + j * 2 + 1, none⟩ = some (.int .u64 (k : Int))
theorem Lie.below {w w' : World} {a : Option Addr} {l : List (Nat × Nat)} (h : Lie w a l) (hb : Below w.heap.size w w') : Lie w' a l := fun h0 => by
  obtain ⟨g, o, e, hg, hc⟩ := h h0
  exact ⟨g, o, e, Nat.lt_of_lt_of_le hg hb.size, fun j x y he => ⟨(hb.cell (p := ⟨g, o + j * 2, none⟩) hg).trans (hc j x y he).1, (hb.cell (p := ⟨g, o + j * 2 + 1, none⟩) hg).trans (hc j x y he).2⟩⟩
theorem Lie.of {w : World} {a : Option Addr} {l : List (Nat × Nat)} (h : Spots w a l) : Lie w a l := fun h0 => by
  obtain ⟨g, e, hg, hc⟩ := h h0
  refine ⟨g, 0, e, hg, fun j x y he => ?_⟩
  rw [Nat.zero_add]
  exact hc j x y he
theorem lie_own {w : World} {base n : Nat} {v : Value} {l : List (Nat × Nat)} (hl : l.length = n) (h : w.ownsRow base 76 2 v n (SCELLS l)) : ∃ a cap, v = .slice a n cap ∧ Lie w a l := by
  obtain ⟨a, cap, e, hs⟩ := spots_own hl h
  exact ⟨a, cap, e, Lie.of hs⟩
theorem Tile.same {l : List (Nat × Nat)} : ∀ {a b a' b' : Nat}, l ≠ [] → Tile a l b → Tile a' l b' → a = a' ∧ b = b' := by
  have key : ∀ (l : List (Nat × Nat)) (a b b' : Nat), Tile a l b → Tile a l b' → b = b' := by
    intro l
    induction l with
    | nil => intro a b b' h h'; exact Eq.trans (Eq.symm h) h'
    | cons s l ih => intro a b b' h h'; exact ih _ _ _ h.2.2 h'.2.2
  intro a b a' b' h0 h h'
  cases l with
  | nil => exact absurd rfl h0
  | cons s l => exact ⟨h.2.1.symm.trans h'.2.1, key l _ _ _ h.2.2 h'.2.2⟩
/-- where the first spot begins, if it is right. -/
theorem tile_not {l rest : List (Nat × Nat)} {F c h k : Nat} {i : Nat} (hl : l = l.take i ++ (h, k) :: rest) (hi : Tile F (l.take i) c) (hF : ∀ x y, l[0]? = some (x, y) → Node x y → F = y * 2 ^ x) (hn : ¬ (Node h k ∧ k * 2 ^ h = c)) : ¬ ∃ a b, l ≠ [] ∧ Tile a l b := by
  rintro ⟨a, b, _, ht⟩
  rw [hl] at ht
  obtain ⟨c', h1, h2, h3, h4⟩ := ht.split
  dsimp only at h2 h3
  apply hn
  refine ⟨h2, ?_⟩
  by_cases h0 : l.take i = []
  · rw [h0] at hi hl
    have e : F = c := hi
    rw [← e]
    exact (hF h k (by rw [hl]; rfl) h2).symm
  · rw [(Tile.same h0 h1 hi).2] at h3
    exact h3
theorem take_at {l : List (Nat × Nat)} {i h k : Nat} (e : l[i]? = some (h, k)) : l = l.take i ++ (h, k) :: l.drop (i + 1) ∧ l.take (i + 1) = l.take i ++ [(h, k)] := by
  obtain ⟨hi, e2⟩ := List.getElem?_eq_some_iff.1 e
  refine ⟨?_, ?_⟩
  · rw [← e2, List.getElem_cons_drop, List.take_append_drop]
  · rw [List.take_add_one, e]
    rfl
theorem at_lt {l : List (Nat × Nat)} {i : Nat} (h : i < l.length) : ∃ x y, l[i]? = some (x, y) := ⟨_, _, List.getElem?_eq_getElem h⟩
end Go.Proofs.YtddmfpiflnjmjaaDoor
