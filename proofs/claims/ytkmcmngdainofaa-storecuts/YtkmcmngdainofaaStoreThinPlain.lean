/- What is kept of a row: bits and hashes, in plain numbers. -/
import Derived.Test.YtkmcmngdainofaaNumPlaces
import Derived.Test.YtkmcmngdainofaaNumLowPlain
import Derived.Test.YtkmcmngdainofaaStorePlain
namespace Go.Proofs.Ytkmcmngdainofaa
open Go.RowKit
set_option maxRecDepth 100000

theorem PL_at : ∀ (k o X i : Nat), i < k → X.testBit i = true → (PL k o X)[RK X i]? = some (o + i)
  | 0, _, _, _, h, _ => by omega
  | k + 1, o, X, 0, _, hb => by
    rw [Nat.testBit_zero] at hb
    have h1 : X % 2 = 1 := by simpa using hb
    unfold PL
    rw [if_pos h1]
    rfl
  | k + 1, o, X, i + 1, h, hb => by
    rw [Nat.testBit_succ] at hb
    have ih := PL_at k (o + 1) (X / 2) i (by omega) hb
    rw [RK_shift]
    unfold PL
    by_cases h1 : X % 2 = 1
    · have h2 : X.testBit 0 = true := by rw [Nat.testBit_zero]; simpa using h1
      rw [if_pos h1, if_pos h2, Nat.add_comm 1, List.getElem?_cons_succ, ih]
      congr 1
      omega
    · have h2 : X.testBit 0 = false := by rw [Nat.testBit_zero]; simpa using h1
      rw [if_neg h1, if_neg (by rw [h2]; decide), Nat.zero_add, ih]
      congr 1
      omega
theorem PLACES_at {X i : Nat} (h : i < 64) (hb : X.testBit i = true) : (PLACES X)[RK X i]? = some i := by
  have := PL_at 64 0 X i h hb
  rw [Nat.zero_add] at this
  exact this
theorem PLACES_step {X t q : Nat} (e : X = 2 ^ t * (2 * q + 1)) (ht : t < 64) : PLACES X = t :: PLACES (2 ^ (t + 1) * q) := by
  unfold PLACES
  rw [e, PL_step t 64 0 q ht, Nat.zero_add]
theorem low_bit {X t q : Nat} (e : X = 2 ^ t * (2 * q + 1)) : X.testBit t = true := by
  rw [e, Nat.mul_comm, ← Nat.shiftLeft_eq, Nat.testBit_shiftLeft]
  simp [Nat.testBit_zero]
theorem less_bits {X Y i : Nat} (h : X &&& (X - 1) = Y) (hb : Y.testBit i = true) : X.testBit i = true := by
  rw [← h, Nat.testBit_and] at hb
  simp only [Bool.and_eq_true] at hb
  exact hb.1
/-- the hashes of the bits st, out of those of the bits lv. -/
def KPT (lv : Nat) (hs : List (Nat → Nat)) (l : List Nat) : List (Nat → Nat) := l.map fun k => hs.getD (RK lv k) (fun _ => 0)
theorem KPT_length (lv st : Nat) (hs : List (Nat → Nat)) : (KPT lv hs (PLACES st)).length = POP st := by
  unfold KPT
  rw [List.length_map, PLACES_length]
theorem KPT_at {lv st k : Nat} {hs : List (Nat → Nat)} (hk : k < 64) (hb : st.testBit k = true) (hl : RK lv k < hs.length) : (KPT lv hs (PLACES st))[RK st k]? = hs[RK lv k]? := by
  unfold KPT
  rw [List.getElem?_map, PLACES_at hk hb, Option.map_some, List.getD_eq_getElem?_getD, List.getElem?_eq_getElem hl]
  rfl
theorem KPT_mem {lv : Nat} {hs : List (Nat → Nat)} {l : List Nat} {P : (Nat → Nat) → Prop} (h0 : P (fun _ => 0)) (h : ∀ x ∈ hs, P x) : ∀ x ∈ KPT lv hs l, P x := fun x hx => by
  obtain ⟨k, _, rfl⟩ := List.mem_map.1 hx
  rw [List.getD_eq_getElem?_getD]
  cases e : hs[RK lv k]? with
  | none => exact h0
  | some y => exact h y (List.mem_of_getElem? e)
/-- the bits that stay. -/
theorem stay_bits {lv st k : Nat} (hb : (st &&& lv).testBit k = true) : lv.testBit k = true := by
  rw [Nat.testBit_and] at hb
  simp only [Bool.and_eq_true] at hb
  exact hb.2
theorem POP_sub {X Y : Nat} (h : ∀ k, k < 64 → X.testBit k = true → Y.testBit k = true) : POP X ≤ POP Y := by
  rw [POP_RK, POP_RK]
  have : ∀ n, n ≤ 64 → RK X n ≤ RK Y n := fun n => by
    induction n with
    | zero => intro _; exact Nat.le_refl _
    | succ n ih =>
      intro hn
      have := ih (by omega)
      unfold RK
      cases hx : X.testBit n with
      | false => simp; split <;> omega
      | true => rw [h n (by omega) hx]; simp; omega
  exact this 64 (Nat.le_refl _)
theorem POP_zero_iff {X : Nat} (hX : X < 2 ^ 64) (h : POP X = 0) : X = 0 := by
  apply Nat.eq_of_testBit_eq
  intro k
  rw [Nat.zero_testBit]
  cases hk : X.testBit k with
  | false => rfl
  | true =>
    have h64 : k < 64 := by
      rcases Nat.lt_or_ge k 64 with h | h
      · exact h
      · rw [Nat.testBit_lt_two_pow (Nat.lt_of_lt_of_le hX (Nat.pow_le_pow_right (by decide) h))] at hk
        cases hk
    have := RK_lt h64 hk
    omega
end Go.Proofs.Ytkmcmngdainofaa
