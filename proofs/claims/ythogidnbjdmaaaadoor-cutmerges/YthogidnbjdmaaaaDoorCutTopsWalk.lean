/- The walk of the law CutTops. -/
import Derived.Test.YthogidnbjdmaaaaDoorCutAwake
import Derived.Test.YthogidnbjdmaaaaDoorCutTopsPlain
import Derived.Test.YthogidnbjdmaaaaDoorPosPeaksCall
import Derived.Test.YthogidnbjdmaaaaDoorPosAwake
namespace Go.Proofs.YthogidnbjdmaaaaDoor
open Go.RowKit

theorem wrap_succ (j : Nat) (h : j < 2 ^ 40) : wrap64 ((j : Int) + 1) = ((j + 1 : Nat) : Int) := by unfold wrap64; omega
theorem own_zero {w : World} {base : Nat} {t : TypeId} {s : Nat} {ad : Option Addr} {n cap : Nat} {xs : List Value} (h : w.ownsRow base t s (.slice ad n cap) n xs) : ad = none → cap = 0 := by
  intro e
  subst e
  rcases h.2 with ⟨e, _⟩ | ⟨g, c, cur, e, _⟩
  · cases e
    rfl
  · cases e
/-- Merge of any list that lies over the leaves from A to B - 1, none or some. -/
theorem merge_any (n cap : Nat) (a : Option Addr) (l : List (Nat × Nat)) (A B : Nat) (hl : l.length = n) (hn2 : n ≤ 1000) (w : World) (hL : Lie w a l) (hT : Tile A l B) : Calls Tryd.prog 15 #[.slice a n cap] w fun e w' =>
    ∃ v, e = .returned (.tuple #[v, .bool true]) ∧ w'.ownsRow w.heap.size 28 2 v (SPAN A B).length (SCELLS (SPAN A B)) ∧ Below w.heap.size w w' := by
  rcases Nat.eq_zero_or_pos n with h | h
  · subst h
    have hl0 := List.length_eq_zero_iff.1 hl
    subst hl0
    have e : A = B := hT
    subst e
    refine (merge_none cap a w).mono ?_
    rintro e w' ⟨rfl, rfl⟩
    refine ⟨_, rfl, ?_, Below.refl _ _⟩
    rw [SPAN_end (Nat.le_refl _)]
    exact World.ownsRow_nil _ _ _ _
  · exact merge_ok n cap a l A B hl h hn2 w hL hT
end Go.Proofs.YthogidnbjdmaaaaDoor
