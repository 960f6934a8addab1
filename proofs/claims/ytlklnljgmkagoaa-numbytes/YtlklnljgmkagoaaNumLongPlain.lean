/- Short and Long, as lists; no Go in sight. -/
import Derived.Test.YtlklnljgmkagoaaNumShortCalls
import Derived.Test.YtlklnljgmkagoaaNumLongCalls
namespace Go.Proofs.Ytlklnljgmkagoaa
open Go.RowKit

/-- the number of the m lowest groups. -/
def VAL (d : Nat → Nat) : Nat → Nat
  | 0 => 0
  | m + 1 => VAL d m + d m * 128 ^ m
theorem VAL_lt {d : Nat → Nat} (hd : ∀ i, d i < 128) : ∀ m, VAL d m < 128 ^ m
  | 0 => by simp [VAL]
  | m + 1 => by
    have := VAL_lt hd m
    have h2 : d m * 128 ^ m ≤ 127 * 128 ^ m := Nat.mul_le_mul_right _ (by have := hd m; omega)
    simp only [VAL, Nat.pow_succ]
    omega
theorem VAL_digit {d : Nat → Nat} (hd : ∀ i, d i < 128) : ∀ (m t i : Nat), i < m → (VAL d m + t * 128 ^ m) / 128 ^ i % 128 = d i
  | 0, _, _, h => by omega
  | m + 1, t, i, h => by
    have e : VAL d (m + 1) + t * 128 ^ (m + 1) = VAL d m + (d m + t * 128) * 128 ^ m := by
      simp only [VAL]
      rw [Nat.add_mul, Nat.pow_succ, Nat.mul_assoc, Nat.mul_comm 128, ← Nat.add_assoc]
    rw [e]
    by_cases hi : i = m
    · subst hi
      rw [Nat.add_mul_div_right _ _ (Nat.pow_pos (by decide)), Nat.div_eq_of_lt (VAL_lt hd i)]
      have := hd i
      omega
    · exact VAL_digit hd m _ i (by omega)
theorem VAL_top {d : Nat → Nat} (hd : ∀ i, d i < 128) (m t : Nat) : (VAL d m + t * 128 ^ m) / 128 ^ m = t := by
  rw [Nat.add_mul_div_right _ _ (Nat.pow_pos (by decide)), Nat.div_eq_of_lt (VAL_lt hd m), Nat.zero_add]
theorem VAL_mod (X : Nat) : ∀ m, VAL (fun i => X / 128 ^ i % 128) m = X % 128 ^ m
  | 0 => by simp [VAL, Nat.mod_one]
  | m + 1 => by rw [VAL, VAL_mod X m, Nat.mod_pow_succ, Nat.mul_comm]
theorem VAL_congr {d e : Nat → Nat} : ∀ m, (∀ i, i < m → d i = e i) → VAL d m = VAL e m
  | 0, _ => rfl
  | m + 1, h => by rw [VAL, VAL, VAL_congr m (fun i hi => h i (by omega)), h m (by omega)]
/-- the groups of a list. -/
def DIG (l : List Int) : Nat → Nat := fun i => (l.getD i 0 % 128).toNat
theorem DIG_lt (l : List Int) (i : Nat) : DIG l i < 128 := by unfold DIG; omega

theorem LG_run {l : List Int} {n : Nat} : ∀ (m f : Nat), (∀ i, i < m → 128 ≤ l.getD i 0) → (∀ i, i < m → i ≠ n) → LG l n (f + m) 0 0 = LG l n f m (VAL (DIG l) m : Nat)
  | 0, f, _, _ => rfl
  | m + 1, f, h, hn => by
    rw [show f + (m + 1) = f + 1 + m by omega, LG_run m (f + 1) (fun i hi => h i (by omega)) (fun i hi => hn i (by omega)), LG_more (hn m (by omega)) (h m (by omega))]
    congr 1
    simp only [VAL, DIG]
    rw [Int.natCast_add, Int.natCast_mul, Int.natCast_pow, Int.toNat_of_nonneg (by omega)]
    rfl
theorem LG_found {l : List Int} {n : Nat} : ∀ (f k : Nat) (x : Int), k ≤ n → (LG l n f k x).2.2 = 0 → ∃ m, k ≤ m ∧ m < k + f ∧ m < n ∧ (∀ i, k ≤ i → i < m → 128 ≤ l.getD i 0) ∧ ¬ 128 ≤ l.getD m 0 ∧ ¬ (m = 9 ∧ 1 < l.getD m 0) ∧ ¬ (l.getD m 0 = 0 ∧ 0 < m)
  | 0, k, x, _, h => by simp [LG] at h
  | f + 1, k, x, hkn, h => by
    by_cases h1 : k = n
    · rw [LG_end h1] at h
      simp at h
    · by_cases h2 : 128 ≤ l.getD k 0
      · rw [LG_more h1 h2] at h
        obtain ⟨m, a, b, c, d, e, g, i⟩ := LG_found f (k + 1) _ (by omega) h
        refine ⟨m, by omega, by omega, c, fun j hj1 hj2 => ?_, e, g, i⟩
        by_cases hj : j = k
        · rw [hj]; exact h2
        · exact d j (by omega) hj2
      · rw [LG_hit h1 h2] at h
        by_cases h3 : k = 9 ∧ 1 < l.getD k 0
        · rw [if_pos h3] at h
          simp at h
        · rw [if_neg h3] at h
          by_cases h4 : l.getD k 0 = 0 ∧ 0 < k
          · rw [if_pos h4] at h
            simp at h
          · exact ⟨k, Nat.le_refl _, by omega, by omega, fun j hj1 hj2 => by omega, h2, h3, h4⟩
theorem LG_at {l : List Int} {n m : Nat} (hm : m ≤ 9) (hmn : m < n) (h : ∀ i, i < m → 128 ≤ l.getD i 0) (h1 : ¬ 128 ≤ l.getD m 0) (h2 : ¬ (m = 9 ∧ 1 < l.getD m 0)) (h3 : ¬ (l.getD m 0 = 0 ∧ 0 < m)) :
    LG l n 10 0 0 = ((VAL (DIG l) m : Nat) + l.getD m 0 * 128 ^ m, (m : Int) + 1, 0) := by
  rw [show 10 = 9 - m + 1 + m by omega, LG_run m (9 - m + 1) h (fun i hi => by omega), LG_hit (by omega) h1, if_neg h2, if_neg h3]

theorem getD_left {a b : List Int} {i : Nat} (h : i < a.length) : (a ++ b).getD i 0 = a.getD i 0 := by
  rw [List.getD_eq_getElem?_getD, List.getElem?_append_left h, ← List.getD_eq_getElem?_getD]
theorem SHORT_get {X i : Nat} (h : i < NTOP X) : (SHORT X).getD i 0 = ((X / 128 ^ i % 128 + 128 : Nat) : Int) := by
  unfold SHORT
  rw [getD_left (by rw [GROUPS_length]; exact h), List.getD_eq_getElem?_getD]
  simp [GROUPS, h]
theorem SHORT_last (X : Nat) : (SHORT X).getD (NTOP X) 0 = ((X / 128 ^ NTOP X : Nat) : Int) := by
  unfold SHORT
  rw [List.getD_eq_getElem?_getD, List.getElem?_append_right (by rw [GROUPS_length]; exact Nat.le_refl _), GROUPS_length]
  simp
/-- written and read back. -/
theorem LG_SHORT {X : Nat} (hX : X < 2 ^ 64) (more : List Int) (n : Nat) (hn : n = NTOP X + 1 + more.length) : LG (SHORT X ++ more) n 10 0 0 = ((X : Int), (NTOP X : Int) + 1, 0) := by
  have hlen := SHORT_length X
  have hget : ∀ i, i ≤ NTOP X → (SHORT X ++ more).getD i 0 = (SHORT X).getD i 0 := fun i hi => getD_left (by omega)
  have htop := hget (NTOP X) (Nat.le_refl _)
  rw [SHORT_last] at htop
  have hlow : ∀ i, i < NTOP X → (SHORT X ++ more).getD i 0 = ((X / 128 ^ i % 128 + 128 : Nat) : Int) := fun i hi => by rw [hget i (by omega), SHORT_get hi]
  have h128 := NTOP_at hX
  have h9 : NTOP X = 9 → X / 128 ^ NTOP X < 2 := fun h => by rw [h]; exact Nat.div_lt_of_lt_mul (Nat.lt_of_lt_of_le hX (by decide))
  have hpos : 0 < NTOP X → 1 ≤ X / 128 ^ NTOP X := fun h => by
    have := TOPG_below 9 X (NTOP X - 1) (by show NTOP X - 1 < NTOP X; omega)
    rw [show NTOP X = NTOP X - 1 + 1 by omega, Nat.pow_succ, ← Nat.div_div_eq_div_mul]
    omega
  have hv : VAL (DIG (SHORT X ++ more)) (NTOP X) = X % 128 ^ NTOP X := by
    rw [← VAL_mod]
    refine VAL_congr _ fun i hi => ?_
    unfold DIG
    rw [hlow i hi]
    omega
  rw [LG_at (NTOP_le X) (by omega) (fun i hi => by rw [hlow i hi]; omega) (by rw [htop]; omega) (by rw [htop]; omega) (by rw [htop]; omega), htop, hv]
  have := Nat.mod_add_div X (128 ^ NTOP X)
  rw [Nat.mul_comm] at this
  have e : (((X % 128 ^ NTOP X : Nat) : Int) + ((X / 128 ^ NTOP X : Nat) : Int) * 128 ^ NTOP X) = (X : Int) := by
    have h2 : ((X % 128 ^ NTOP X + X / 128 ^ NTOP X * 128 ^ NTOP X : Nat) : Int) = (X : Int) := by rw [this]
    rw [← h2, Int.natCast_add, Int.natCast_mul, Int.natCast_pow]
    rfl
  rw [e]
/-- what is read is written the same. -/
theorem LG_back {l : List Int} {n : Nat} (hl : l.length = n) (hr : ∀ i, 0 ≤ l.getD i 0 ∧ l.getD i 0 ≤ 255) (h : (LG l n 10 0 0).2.2 = 0) :
    ∃ Z m : Nat, Z < 2 ^ 64 ∧ m < n ∧ m ≤ 9 ∧ LG l n 10 0 0 = ((Z : Int), (m : Int) + 1, 0) ∧ NTOP Z = m ∧ SHORT Z = l.take (m + 1) := by
  obtain ⟨m, _, hm, hmn, hlow, h1, h2, h3⟩ := LG_found 10 0 0 (by omega) h
  have hlow' : ∀ i, i < m → 128 ≤ l.getD i 0 := fun i hi => hlow i (by omega) hi
  have hat := LG_at (show m ≤ 9 by omega) hmn hlow' h1 h2 h3
  obtain ⟨t, ht⟩ : ∃ t : Nat, l.getD m 0 = (t : Int) := ⟨(l.getD m 0).toNat, by have := hr m; omega⟩
  have hd := DIG_lt l
  have hvl := VAL_lt hd m
  obtain ⟨Z, hZ⟩ : ∃ Z : Nat, Z = VAL (DIG l) m + t * 128 ^ m := ⟨_, rfl⟩
  have hZ64 : Z < 2 ^ 64 := by
    by_cases h9 : m = 9
    · subst h9
      omega
    · have h8 := Nat.pow_le_pow_right (n := 128) (by decide) (show m ≤ 8 by omega)
      have h5 : t * 128 ^ m ≤ 127 * 128 ^ 8 := Nat.mul_le_mul (by omega) h8
      omega
  have htop : Z / 128 ^ m = t := by rw [hZ, VAL_top hd]
  have hdig : ∀ i, i < m → Z / 128 ^ i % 128 = DIG l i := fun i hi => by rw [hZ, VAL_digit hd m t i hi]
  have hN : NTOP Z = m := by
    refine NTOP_eq hZ64 (fun i hi => ?_) (by rw [htop]; omega)
    have ht1 : 1 ≤ t := by omega
    have h6 : Z / 128 ^ i / 128 ^ (m - i) = t := by rw [Nat.div_div_eq_div_mul, ← Nat.pow_add, show i + (m - i) = m by omega, htop]
    have h7 : 128 ^ (m - i) ≤ Z / 128 ^ i := by
      rcases Nat.lt_or_ge (Z / 128 ^ i) (128 ^ (m - i)) with h8 | h8
      · rw [Nat.div_eq_of_lt h8] at h6
        omega
      · exact h8
    have h8 := Nat.pow_le_pow_right (n := 128) (by decide) (show 1 ≤ m - i by omega)
    omega
  refine ⟨Z, m, hZ64, hmn, by omega, ?_, hN, ?_⟩
  · rw [hat, ht, hZ, Int.natCast_add, Int.natCast_mul, Int.natCast_pow]
    rfl
  · apply List.ext_getElem?
    intro i
    by_cases hi : i < m + 1
    · rw [List.getElem?_take_of_lt hi]
      have e1 : (SHORT Z)[i]? = some ((SHORT Z).getD i 0) := by
        rw [List.getD_eq_getElem?_getD, List.getElem?_eq_getElem (by rw [SHORT_length, hN]; exact hi)]
        rfl
      have e2 : l[i]? = some (l.getD i 0) := by
        rw [List.getD_eq_getElem?_getD, List.getElem?_eq_getElem (by omega)]
        rfl
      rw [e1, e2]
      congr 1
      by_cases him : i = m
      · subst him
        rw [← hN, SHORT_last, hN, htop, ht]
      · rw [SHORT_get (by omega), hdig i (by omega)]
        have := hlow' i (by omega)
        have := hr i
        unfold DIG
        omega
    · rw [List.getElem?_eq_none (by rw [SHORT_length, hN]; omega), List.getElem?_eq_none (by rw [List.length_take]; omega)]
end Go.Proofs.Ytlklnljgmkagoaa
