/- The inputs of all steps of a text, in plain numbers. -/
import Derived.Test.YtgnbkcdclelmfaaDoorHashStepEq
import Derived.Test.YtgnbkcdclelmfaaDoorHashChunk
import Derived.Test.YtgnbkcdclelmfaaDoorHashRefStates
namespace Go.Proofs.YtgnbkcdclelmfaaDoor
open Go.RowKit
set_option maxRecDepth 100000

/-- n numbers by a function. -/
def ROWN (n : Nat) (f : Nat → Nat) : List Nat := (List.range n).map f
theorem ROWN_length (n : Nat) (f : Nat → Nat) : (ROWN n f).length = n := by simp [ROWN]
theorem ROWN_getD (n : Nat) (f : Nat → Nat) (i : Nat) (h : i < n) : (ROWN n f).getD i 0 = f i := by
  rw [List.getD_eq_getElem?_getD, ROWN, List.getElem?_map, List.getElem?_range h]
  rfl
theorem BY_ROWN (n : Nat) (f : Nat → Nat) : BY (ROWN n f) = ULIST .u8 n f := by
  simp [BY, CELLS, INTS, ROWN, ULIST]
/-- the number of blocks of a text. -/
def NB (l : List Nat) : Nat := (FULL l).length / 64
theorem NB_full (l : List Nat) : (FULL l).length = 64 * NB l := by
  unfold NB
  rw [FULL_length]
  omega
theorem NB_pos (l : List Nat) : 0 < NB l := by
  have h1 := NB_full l
  have h2 : 9 ≤ (FULL l).length := by
    rw [FULL, List.length_append, END_length]
    omega
  omega
theorem NB_lt (l : List Nat) (h : l.length < 2 ^ 30) : NB l < 2 ^ 30 := by
  have h1 := NB_full l
  have h2 : (FULL l).length = l.length + (NOUGHTS l.length + 9) := by rw [FULL, List.length_append, END_length]
  have h3 : NOUGHTS l.length < 64 := Nat.mod_lt _ (by decide)
  omega
/-- the inputs of the first m steps, one behind the other. -/
def INL (d : Int) (L : List Nat) : Nat → List Nat
  | 0 => []
  | t + 1 => INL d L t ++ ROWN 96 (INP (STATE d L t) (BLK L t))
theorem INL_length (d : Int) (L : List Nat) : ∀ m, (INL d L m).length = 96 * m
  | 0 => rfl
  | m + 1 => by rw [INL, List.length_append, INL_length d L m, ROWN_length]; omega
theorem INL_get (d : Int) (L : List Nat) (t i : Nat) (hi : i < 96) : ∀ m, t < m → (INL d L m).getD (96 * t + i) 0 = INP (STATE d L t) (BLK L t) i
  | 0, h => by omega
  | m + 1, h => by
    rw [INL]
    by_cases e : t = m
    · subst e
      rw [List.getD_eq_getElem?_getD, List.getElem?_append_right (by rw [INL_length]; omega), INL_length, show 96 * t + i - 96 * t = i by omega, ← List.getD_eq_getElem?_getD, ROWN_getD _ _ _ hi]
    · rw [List.getD_eq_getElem?_getD, List.getElem?_append_left (by rw [INL_length]; omega), ← List.getD_eq_getElem?_getD]
      exact INL_get d L t i hi m (by omega)
/-- the state and the inputs behind the blocks that have come. -/
def ACC (d : Int) (L : List Nat) {m : Nat} (pre : List (Fin m)) : (Nat → Nat) × List Nat := pre.foldl (fun s j => (COMP d s.1 (BLK L j.val), s.2 ++ ROWN 96 (INP s.1 (BLK L j.val)))) (FIRST d, [])
theorem ACC_snoc (d : Int) (L : List Nat) {m : Nat} (pre : List (Fin m)) (x : Fin m) : ACC d L (pre ++ [x]) = (COMP d (ACC d L pre).1 (BLK L x.val), (ACC d L pre).2 ++ ROWN 96 (INP (ACC d L pre).1 (BLK L x.val))) := by
  simp [ACC, List.foldl_append]
theorem ACC_lt (d : Int) (L : List Nat) {m : Nat} (pre : List (Fin m)) (i : Nat) : (ACC d L pre).1 i < 256 := by
  rcases List.eq_nil_or_concat pre with rfl | ⟨q, x, rfl⟩
  · exact NARROW_lt (BYTEW_lt _) i
  · rw [List.concat_eq_append, ACC_snoc]
    exact NARROW_lt (BYTEW_lt _) i
theorem ACC_length (d : Int) (L : List Nat) {m : Nat} : ∀ (pre : List (Fin m)), (ACC d L pre).2.length = 96 * pre.length := by
  intro pre
  induction h : pre.length generalizing pre with
  | zero => obtain rfl : pre = [] := List.eq_nil_of_length_eq_zero h; rfl
  | succ n ih =>
    rcases List.eq_nil_or_concat pre with rfl | ⟨q, x, rfl⟩
    · simp at h
    · rw [List.concat_eq_append] at h ⊢
      have hq : q.length = n := by simpa using h
      rw [ACC_snoc, List.length_append, ih q hq, ROWN_length]
      omega
theorem ACC_all (d : Int) (L : List Nat) (m : Nat) (hm : 0 < m) : ∀ k, k ≤ m → ACC d L (UPTO (NTH m hm) k) = (STATE d L k, INL d L k)
  | 0, _ => rfl
  | k + 1, h => by
    have e : (NTH m hm k).val = k := Nat.mod_eq_of_lt (by omega)
    rw [UPTO_succ, ACC_snoc, ACC_all d L m hm k (by omega), e]
    rfl
theorem INP_lt {s b : Nat → Nat} (hs : ∀ i, s i < 256) (hb : ∀ i, b i < 256) (i : Nat) : INP s b i < 256 := by
  unfold INP
  split
  · exact hs i
  · exact hb _
end Go.Proofs.YtgnbkcdclelmfaaDoor
