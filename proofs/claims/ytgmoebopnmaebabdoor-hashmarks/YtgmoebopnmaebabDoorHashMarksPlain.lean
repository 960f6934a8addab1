/- Where the texts of package hash are the same text: plain facts. -/
import Derived.Test.YtgmoebopnmaebabDoorHashRootText
namespace Go.Proofs.YtgmoebopnmaebabDoor
open Go.RowKit

theorem map_range_eq (f g : Nat → Nat) (n : Nat) : ((List.range n).map f = (List.range n).map g) ↔ ∀ i, i < n → f i = g i := by
  constructor
  · intro h i hi
    have := congrArg (fun l => l[i]?) h
    simpa [hi] using this
  · intro h
    apply List.map_congr_left
    intro i hi
    exact h i (List.mem_range.1 hi)
theorem all_range_eq (f g : Nat → Nat) (n : Nat) : ((List.range n).all fun i => f i == g i) = decide ((List.range n).map f = (List.range n).map g) := by
  rw [Bool.eq_iff_iff, List.all_eq_true, decide_eq_true_iff, map_range_eq]
  constructor
  · intro h i hi
    simpa using h i (List.mem_range.2 hi)
  · intro h i hi
    simpa using h i (List.mem_range.1 hi)
theorem pair_same (o : Nat) (a b c d : Nat → Nat) : decide (o :: ((List.range 32).map a ++ (List.range 32).map b) = o :: ((List.range 32).map c ++ (List.range 32).map d)) = (((List.range 32).all fun i => a i == c i) && ((List.range 32).all fun i => b i == d i)) := by
  rw [all_range_eq, all_range_eq, Bool.eq_iff_iff, Bool.and_eq_true, decide_eq_true_iff, decide_eq_true_iff, decide_eq_true_iff, List.cons.injEq]
  constructor
  · rintro ⟨_, h⟩
    exact List.append_inj h (by simp)
  · rintro ⟨h1, h2⟩
    exact ⟨rfl, by rw [h1, h2]⟩
theorem byte_step (n m k : Nat) (h1 : n / 2 ^ (k + 8) = m / 2 ^ (k + 8)) (h2 : n / 2 ^ k % 256 = m / 2 ^ k % 256) : n / 2 ^ k = m / 2 ^ k := by
  rw [Nat.pow_add, ← Nat.div_div_eq_div_mul, ← Nat.div_div_eq_div_mul] at h1
  generalize n / 2 ^ k = x at *
  generalize m / 2 ^ k = y at *
  omega
theorem BE8_inj {n m : Nat} (hn : n < 2 ^ 64) (hm : m < 2 ^ 64) (h : BE8 n = BE8 m) : n = m := by
  unfold BE8 at h
  have e := (map_range_eq _ _ 8).1 h
  have h64 : n / 2 ^ 64 = m / 2 ^ 64 := by rw [Nat.div_eq_of_lt hn, Nat.div_eq_of_lt hm]
  have h56 := byte_step n m 56 h64 (e 0 (by decide))
  have h48 := byte_step n m 48 h56 (e 1 (by decide))
  have h40 := byte_step n m 40 h48 (e 2 (by decide))
  have h32 := byte_step n m 32 h40 (e 3 (by decide))
  have h24 := byte_step n m 24 h32 (e 4 (by decide))
  have h16 := byte_step n m 16 h24 (e 5 (by decide))
  have h8 := byte_step n m 8 h16 (e 6 (by decide))
  have h0 := byte_step n m 0 h8 (e 7 (by decide))
  simpa using h0
theorem root_same (n m : Nat) (hn : n < 2 ^ 64) (hm : m < 2 ^ 64) (a c : Nat → Nat) : decide (3 :: (BE8 n ++ (List.range 32).map a) = 3 :: (BE8 m ++ (List.range 32).map c)) = (decide ((n : Int) = (m : Int)) && ((List.range 32).all fun i => a i == c i)) := by
  rw [all_range_eq, Bool.eq_iff_iff, Bool.and_eq_true, decide_eq_true_iff, decide_eq_true_iff, decide_eq_true_iff, List.cons.injEq]
  constructor
  · rintro ⟨_, h⟩
    obtain ⟨h1, h2⟩ := List.append_inj h (by rw [BE8_length, BE8_length])
    exact ⟨by rw [BE8_inj hn hm h1], h2⟩
  · rintro ⟨h1, h2⟩
    obtain rfl : n = m := by omega
    exact ⟨rfl, by rw [h2]⟩
theorem leaf_same (l k : List Nat) : decide (0 :: l = 0 :: k) = decide (l = k) := by
  rw [Bool.eq_iff_iff, decide_eq_true_iff, decide_eq_true_iff, List.cons.injEq]
  exact ⟨fun h => h.2, fun h => ⟨rfl, h⟩⟩
theorem marks_part {x y : Nat} (h : x ≠ y) (l k : List Nat) : decide (x :: l = y :: k) = false := by
  rw [decide_eq_false_iff_not, List.cons.injEq]
  exact fun e => h e.1
end Go.Proofs.YtgmoebopnmaebabDoor
