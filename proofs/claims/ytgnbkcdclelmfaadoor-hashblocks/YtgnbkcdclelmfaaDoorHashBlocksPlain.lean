/- Two unlike texts with one hash lead to two unlike inputs of a step with one outcome: in plain numbers. -/
import Derived.Test.YtgnbkcdclelmfaaDoorHashDescendPlain
namespace Go.Proofs.YtgnbkcdclelmfaaDoor
open Go.RowKit
set_option maxRecDepth 100000

theorem all_true {n : Nat} {p : Nat → Bool} : (List.range n).all p = true ↔ ∀ i, i < n → p i = true := by
  rw [List.all_eq_true]
  exact ⟨fun h i hi => h i (by simpa using hi), fun h i hi => h i (by simpa using hi)⟩
/-- like inputs: like states, like blocks. -/
theorem like_parts {d : Int} {l k : List Nat} {n : Nat} (h : UNL d l k n = false) : (∀ i, i < 32 → STATE d (FULL l) (NB l - n) i = STATE d (FULL k) (NB k - n) i) ∧ ∀ i, i < 64 → BLK (FULL l) (NB l - n) i = BLK (FULL k) (NB k - n) i := by
  rw [UNL_parts] at h
  simp only [Bool.or_eq_false_iff, Bool.not_eq_false'] at h
  exact ⟨fun i hi => by simpa using all_true.1 h.1 i hi, fun i hi => by simpa using all_true.1 h.2 i hi⟩
/-- the last byte but j of a text that is made full. -/
theorem FULL_tail (l : List Nat) (j : Nat) (hj : j < 8) : BLK (FULL l) (NB l - 1) (56 + j) = 8 * l.length / 2 ^ (8 * (7 - j)) % 256 := by
  have h1 := NB_full l
  have h2 := NB_pos l
  have h3 : (FULL l).length = l.length + (NOUGHTS l.length + 9) := by rw [FULL, List.length_append, END_length]
  unfold BLK
  rw [if_pos (by omega), FULL, END, ← List.append_assoc, List.getD_eq_getElem?_getD, List.getElem?_append_right (by rw [List.length_append, HEAD_length]; omega), List.length_append, HEAD_length]
  rw [show 64 * (NB l - 1) + (56 + j) - (l.length + (NOUGHTS l.length + 1)) = j by omega]
  simp [BE8, hj]
theorem FULL_length_same {l k : List Nat} (hl : l.length ≤ 3000) (hk : k.length ≤ 3000) (h : ∀ i, i < 64 → BLK (FULL l) (NB l - 1) i = BLK (FULL k) (NB k - 1) i) : l.length = k.length := by
  have a6 := h 62 (by decide)
  have a7 := h 63 (by decide)
  rw [show 62 = 56 + 6 from rfl, FULL_tail l 6 (by decide), FULL_tail k 6 (by decide)] at a6
  rw [show 63 = 56 + 7 from rfl, FULL_tail l 7 (by decide), FULL_tail k 7 (by decide)] at a7
  simp only [show 8 * (7 - 6) = 8 from rfl, show 8 * (7 - 7) = 0 from rfl, Nat.pow_zero, Nat.div_one, show 2 ^ 8 = 256 from rfl] at a6 a7
  omega
theorem BLK_at (L : List Nat) (i : Nat) : L.getD i 0 = BLK L (i / 64) (i % 64) := by
  unfold BLK
  rw [if_pos (Nat.mod_lt _ (by decide)), Nat.div_add_mod]
theorem found_some {d : Int} {l k : List Nat} (hl : l.length ≤ 3000) (hk : k.length ≤ 3000) (hlk : l ≠ k) : FOUND d l k ≠ none := fun h => by
  have hall := FIND_none h
  have p1 := NB_pos l
  have p2 := NB_pos k
  have hlen := FULL_length_same hl hk (like_parts (hall 1 (Nat.le_refl _) (by omega))).2
  have hnb : NB l = NB k := by
    unfold NB
    rw [FULL_length, FULL_length, hlen]
  apply hlk
  have hfl : (FULL l).length = (FULL k).length := by rw [NB_full, NB_full, hnb]
  have hfull : FULL l = FULL k := by
    apply List.ext_getElem?
    intro i
    by_cases hi : i < (FULL l).length
    · have hib : i / 64 < NB l := by have := NB_full l; omega
      have hb := (like_parts (hall (NB l - i / 64) (by omega) (by omega))).2 (i % 64) (Nat.mod_lt _ (by decide))
      rw [← hnb, show NB l - (NB l - i / 64) = i / 64 by omega, ← BLK_at, ← BLK_at, List.getD_eq_getElem?_getD, List.getD_eq_getElem?_getD, List.getElem?_eq_getElem hi, List.getElem?_eq_getElem (by omega)] at hb
      rw [List.getElem?_eq_getElem hi, List.getElem?_eq_getElem (by omega)]
      simpa using hb
    · rw [List.getElem?_eq_none (by omega), List.getElem?_eq_none (by omega)]
  have := congrArg (List.take l.length) hfull
  rw [FULL, FULL, List.take_append_of_le_length (by omega), List.take_append_of_le_length (by omega), List.take_of_length_le (Nat.le_refl _), List.take_of_length_le (by omega)] at this
  exact this
theorem desc_some {d : Int} {l k : List Nat} (hl : l.length ≤ 3000) (hk : k.length ≤ 3000) : (DESC d l k).isSome = (!decide (l = k) && ONEHASH d l k) := by
  unfold DESC
  by_cases e : l = k
  · rw [if_pos e, decide_eq_true e]; rfl
  · rw [if_neg e, decide_eq_false e]
    cases ho : ONEHASH d l k
    · rfl
    · rw [if_pos rfl]
      cases hf : FOUND d l k with
      | none => exact absurd hf (found_some hl hk e)
      | some n => rfl
/-- one outcome. -/
theorem one_outcome {d : Int} {l k : List Nat} {n : Nat} (h : DESC d l k = some n) : UNL d l k n = true ∧ ∀ i, i < 32 → COMP d (STATE d (FULL l) (NB l - n)) (BLK (FULL l) (NB l - n)) i = COMP d (STATE d (FULL k) (NB k - n)) (BLK (FULL k) (NB k - n)) i := by
  unfold DESC at h
  by_cases e : l = k
  · rw [if_pos e] at h; cases h
  rw [if_neg e] at h
  by_cases ho : ONEHASH d l k = true
  · rw [if_pos ho] at h
    obtain ⟨h1, h2, h3, h4⟩ := FIND_some h
    refine ⟨h3, fun i hi => ?_⟩
    have e1 : COMP d (STATE d (FULL l) (NB l - n)) (BLK (FULL l) (NB l - n)) = STATE d (FULL l) (NB l - n + 1) := rfl
    have e2 : COMP d (STATE d (FULL k) (NB k - n)) (BLK (FULL k) (NB k - n)) = STATE d (FULL k) (NB k - n + 1) := rfl
    rw [e1, e2]
    by_cases hn : n = 1
    · subst hn
      have p1 := NB_pos l
      have p2 := NB_pos k
      rw [show NB l - 1 + 1 = NB l by omega, show NB k - 1 + 1 = NB k by omega]
      have this : (HASHOF d l i == HASHOF d k i) = true := all_true.1 ho i hi
      exact beq_iff_eq.1 this
    · have := (like_parts (h4 (n - 1) (by omega) (by omega))).1 i hi
      rw [show NB l - (n - 1) = NB l - n + 1 by omega, show NB k - (n - 1) = NB k - n + 1 by omega] at this
      exact this
  · rw [if_neg ho] at h; cases h
end Go.Proofs.YtgnbkcdclelmfaaDoor
