/- Texts whose bytes are counted up by one, one behind the other. -/
import Derived.Test.YtihdhaamphdljaaDoorHashGiven
namespace Go.Proofs.YtihdhaamphdljaaDoor
open Go.RowKit

/-- one more. -/
def INC (x : Nat) : Nat := (x + 1) % 256
/-- the first q bytes are counted up. -/
def TK (q : Nat) (l : List Nat) : List Nat := (l.take q).map INC ++ l.drop q
theorem TK_zero (l : List Nat) : TK 0 l = l := by simp [TK]
theorem TK_all (l : List Nat) : TK l.length l = l.map INC := by simp [TK]
theorem TK_length (q : Nat) (l : List Nat) : (TK q l).length = l.length := by simp [TK]; omega
theorem TK_get (q : Nat) (l : List Nat) (hq : q < l.length) : (TK q l).getD q 0 = l.getD q 0 := by
  unfold TK
  rw [List.getD_eq_getElem?_getD, List.getD_eq_getElem?_getD, List.getElem?_append_right (by simp; omega)]
  simp [List.getElem?_drop, Nat.min_eq_left (Nat.le_of_lt hq)]
theorem TK_next (q : Nat) (l : List Nat) (hq : q < l.length) : TK (q + 1) l = (TK q l).set q (INC (l.getD q 0)) := by
  unfold TK
  have h1 : l.take (q + 1) = l.take q ++ [l.getD q 0] := by
    rw [List.take_add_one, List.getElem?_eq_getElem hq, Option.toList_some, List.getD_eq_getElem?_getD, List.getElem?_eq_getElem hq]
    rfl
  have h2 : l.drop q = l.getD q 0 :: l.drop (q + 1) := by
    rw [List.drop_eq_getElem_cons hq, List.getD_eq_getElem?_getD, List.getElem?_eq_getElem hq]
    rfl
  rw [h1, h2, List.set_append_right _ _ (by simp; omega)]
  simp [Nat.min_eq_left (Nat.le_of_lt hq)]
/-- the first i texts are counted up. -/
def TURN (i : Nat) (gs hs : List GP) : Prop := hs.length = gs.length ∧ ∀ (m : Nat) (p : GP), gs[m]? = some p → hs[m]? = some ⟨p.g, p.c, if m < i then p.l.map INC else p.l⟩
theorem TURN.start (gs : List GP) : TURN 0 gs gs := ⟨rfl, fun m p h => by rw [h]; rfl⟩
theorem TURN.at {i : Nat} {gs hs : List GP} (h : TURN i gs hs) {p : GP} (hp : gs[i]? = some p) : hs[i]? = some p := by
  rw [h.2 i p hp, if_neg (Nat.lt_irrefl i)]
theorem TURN.next {i : Nat} {gs hs : List GP} (h : TURN i gs hs) {p : GP} (hp : gs[i]? = some p) : TURN (i + 1) gs (hs.set i ⟨p.g, p.c, p.l.map INC⟩) := by
  refine ⟨by rw [List.length_set]; exact h.1, fun m q hq => ?_⟩
  have hi : i < gs.length := (List.getElem?_eq_some_iff.1 hp).1
  by_cases e : i = m
  · subst e
    rw [hp] at hq
    obtain rfl := Option.some.inj hq
    rw [List.getElem?_set_self (by rw [h.1]; exact hi), if_pos (Nat.lt_succ_self _)]
  · rw [List.getElem?_set_ne e, h.2 m q hq]
    by_cases hm : m < i
    · rw [if_pos hm, if_pos (by omega)]
    · rw [if_neg hm, if_neg (by omega)]
theorem INC_lt (x : Nat) : INC x < 256 := Nat.mod_lt _ (by decide)
theorem GIVEN.len {w : World} {B : Nat} {s : Value} {gs : List GP} (h : GIVEN w B s gs) {i : Nat} {p : GP} (hp : gs[i]? = some p) {g k c : Nat} (hs : s = .slice (some ⟨g, 0, none⟩) k c) (hk : gs.length = k) : w.cell? ⟨g, i, none⟩ = some (.slice (some ⟨p.g, 0, none⟩) p.l.length p.c) ∧ g ≠ p.g ∧ p.g < w.heap.size ∧ g < w.heap.size := by
  subst hs
  have hi : i < gs.length := (List.getElem?_eq_some_iff.1 hp).1
  have ho := h.own
  rw [hk] at ho
  refine ⟨by rw [ho.cellAt i (by omega), GCELLS_get gs i p hp], fun e => h.far i p hp (by rw [← e]; rfl), ((h.row i p hp).lt p.g rfl).2, (h.own.lt g rfl).2⟩
end Go.Proofs.YtihdhaamphdljaaDoor
