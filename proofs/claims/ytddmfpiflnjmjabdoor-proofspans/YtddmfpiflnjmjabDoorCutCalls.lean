/- What the small functions of package cut answer. -/
import Derived.Test.YtddmfpiflnjmjabDoorCutPlain
import Derived.Test.YtddmfpiflnjmjabDoorPosSpotRow
namespace Go.Proofs.YtddmfpiflnjmjabDoor
open Go.RowKit

theorem low_nat (X : Nat) (hX : X < 2 ^ 64) : ∃ t : Nat, t ≤ 64 ∧ (X = 0 → t = 64) ∧ (∀ h, h ≤ 64 → (X % 2 ^ h = 0 ↔ h ≤ t)) ∧ ∀ w, Tabled w → Calls Tryd.prog 28 #[.int .u64 (X : Int)] w fun e w' => e = .returned (.int .i64 (t : Int)) ∧ w = w' := by
  by_cases h0 : X = 0
  · subst h0
    exact ⟨64, Nat.le_refl _, fun _ => rfl, fun h hh => by simp [hh], fun w _ => low_raw _ _ w (tz_zero w)⟩
  · obtain ⟨t, q, e⟩ := low_split X h0
    have ht := (neg_and hX e).2
    refine ⟨t, by omega, fun c => absurd c h0, ?_, fun w hT => low_raw _ _ w (tz_ok X t q hX e w hT)⟩
    intro h _
    constructor
    · intro hm
      rcases Nat.lt_or_ge t h with c | c
      · have h1 : 2 ^ (t + 1) ∣ 2 ^ h := Nat.pow_dvd_pow 2 c
        have h2 : X % 2 ^ (t + 1) = 0 := Nat.mod_eq_zero_of_dvd (Nat.dvd_trans h1 (Nat.dvd_of_mod_eq_zero hm))
        rw [e, Nat.mul_comm] at h2
        have := even_up.1 h2
        omega
      · exact c
    · intro hm
      have h1 : 2 ^ h ∣ 2 ^ t := Nat.pow_dvd_pow 2 hm
      exact Nat.mod_eq_zero_of_dvd (Nat.dvd_trans h1 ⟨_, e⟩)
theorem HT_min {a b t : Nat} (hab : a < b) (hb : b ≤ 4611686018427387904) (ht : t ≤ 64) (hd : ∀ h, h ≤ 64 → (a % 2 ^ h = 0 ↔ h ≤ t)) : min (t : Int) ((LEN (b - a) : Nat) - 1 : Int) = ((HT a b : Nat) : Int) := by
  obtain ⟨l1, l2, l3⟩ := LEN_span (b - a) (by omega) (by omega)
  have l4 : LEN (b - a) - 1 ≤ 62 := by
    rcases Nat.lt_or_ge 62 (LEN (b - a) - 1) with h | h
    · have : 2 ^ 63 ≤ 2 ^ (LEN (b - a) - 1) := Nat.pow_le_pow_right (by decide) h
      omega
    · exact h
  have : min t (LEN (b - a) - 1) = HT a b := by
    refine HT_only hab hb ⟨(hd _ (by omega)).2 (by omega), ?_⟩ ?_
    · have : 2 ^ min t (LEN (b - a) - 1) ≤ 2 ^ (LEN (b - a) - 1) := Nat.pow_le_pow_right (by decide) (by omega)
      omega
    · intro c
      rcases Nat.lt_or_ge t (LEN (b - a) - 1) with h | h
      · have := (hd _ (by omega)).1 c.1
        omega
      · have h1 := c.2
        have : 2 ^ LEN (b - a) ≤ 2 ^ (min t (LEN (b - a) - 1) + 1) := Nat.pow_le_pow_right (by decide) (by omega)
        omega
  rw [← this]
  omega
theorem begin_raw (h k : Nat) (r : Int) (w : World) (e : IntKind.u64.wrap ((k : Int) * 2 ^ min h 64) = r) : Calls Tryd.prog 37 #[SPOT h k] w fun e w' => e = .returned (.int .u64 r) ∧ Below w.heap.size w w' := by
  subst e
  go_enter Tryd.func37, Tryd.ntmps37
  go_wp2
  go_ret
  exact ⟨rfl, (Below.refl _ _).alloc (Nat.le_refl _) _⟩
theorem end_raw (h k : Nat) (s r : Int) (w : World) (e1 : IntKind.u64.wrap ((k : Int) + 1) = s) (e : IntKind.u64.wrap (s * 2 ^ min h 64) = r) : Calls Tryd.prog 29 #[SPOT h k] w fun e w' => e = .returned (.int .u64 r) ∧ Below w.heap.size w w' := by
  subst e
  go_enter Tryd.func29, Tryd.ntmps29
  go_wp2
  go_ret
  exact ⟨rfl, (Below.refl _ _).alloc (Nat.le_refl _) _⟩
theorem begin_ok (h k : Nat) (hN : Node h k) (w : World) : Calls Tryd.prog 37 #[SPOT h k] w fun e w' => e = .returned (.int .u64 ((k * 2 ^ h : Nat) : Int)) ∧ Below w.heap.size w w' := by
  have h1 := hN.span
  have h2 : k * 2 ^ h ≤ (k + 1) * 2 ^ h := Nat.mul_le_mul_right _ (by omega)
  exact begin_raw h k _ w (shift_eq k h hN.1 (by omega))
theorem end_ok (h k : Nat) (hN : Node h k) (w : World) : Calls Tryd.prog 29 #[SPOT h k] w fun e w' => e = .returned (.int .u64 (((k + 1) * 2 ^ h : Nat) : Int)) ∧ Below w.heap.size w w' := by
  have h1 := hN.span
  have h3 := hN.index_lt
  refine end_raw h k ((k + 1 : Nat) : Int) _ w (by rw [wrapU]; omega) ?_
  exact shift_eq (k + 1) h hN.1 (by omega)
theorem right_raw (h k : Nat) (q : Int) (b : Bool) (w : World) (c : ∀ w, Calls Tryd.prog 24 #[SPOT h k] w fun e w' => e = .returned (.tuple #[.int .u64 q, .bool b]) ∧ Below w.heap.size w w') : Calls Tryd.prog 38 #[SPOT h k] w fun e w' => e = .returned (.bool b) ∧ Below w.heap.size w w' := by
  go_enter Tryd.func38, Tryd.ntmps38
  go_wp2_with fail
  refine (c _).mono ?_
  rintro e w' ⟨rfl, hb⟩
  go_wp2
  go_ret
  exact ⟨rfl, ((Below.refl _ _).alloc (Nat.le_refl _) _).trans (hb.mono (by simp))⟩
theorem right_is (h k : Nat) (w : World) [Decidable (Node h k)] : Calls Tryd.prog 38 #[SPOT h k] w fun e w' => e = .returned (.bool (decide (Node h k))) ∧ Below w.heap.size w w' := by
  by_cases hN : Node h k
  · rw [decide_eq_true hN]
    exact right_raw h k _ true w (fun w => place_ok h k hN w)
  · rw [decide_eq_false hN]
    exact right_raw h k _ false w (fun w => place_not h k hN w)
theorem xor_one (k : Nat) (hk : k < 2 ^ 64) : bits .xor .u64 (k : Int) 1 = ((SIB k : Nat) : Int) := by
  have : bits .xor .u64 (k : Int) ((1 : Nat) : Int) = ((k ^^^ 1 : Nat) : Int) := bits_xor_u64_nat k 1 (by omega) (by omega)
  have e : k ^^^ 1 = SIB k := by
    apply Nat.eq_of_testBit_eq
    intro i
    unfold SIB
    cases i with
    | zero =>
      rw [Nat.testBit_xor]
      simp only [Nat.testBit_zero]
      split <;> rw [Bool.eq_iff_iff] <;> simp <;> omega
    | succ i =>
      rw [Nat.testBit_xor, Nat.testBit_succ, Nat.testBit_succ, Nat.testBit_succ]
      have : (1 : Nat) / 2 = 0 := by decide
      rw [this, Nat.zero_testBit, Bool.xor_false]
      congr 1
      split <;> omega
  rw [e] at this
  exact this
theorem siblings_eq (h k h' k' : Nat) (x : Int) (w : World) (hh : (h : Int) = (h' : Int)) (hx : bits .xor .u64 (k : Int) 1 = x) : Calls Tryd.prog 26 #[SPOT h k, SPOT h' k'] w fun e w' => e = .returned (.bool (x == (k' : Int))) ∧ Below w.heap.size w w' := by
  have hb : ((h : Int) == (h' : Int)) = true := by simp [hh]
  clear hh
  go_enter Tryd.func26, Tryd.ntmps26
  go_wp2
  go_ret
  exact ⟨rfl, ((Below.refl _ _).alloc (Nat.le_refl _) _).alloc (by simp) _⟩
theorem siblings_not (h k h' k' : Nat) (w : World) (hh : h ≠ h') : Calls Tryd.prog 26 #[SPOT h k, SPOT h' k'] w fun e w' => e = .returned (.bool false) ∧ Below w.heap.size w w' := by
  have hb : ((h : Int) == (h' : Int)) = false := by simp; omega
  clear hh
  go_enter Tryd.func26, Tryd.ntmps26
  go_wp2
  go_ret
  exact ⟨rfl, ((Below.refl _ _).alloc (Nat.le_refl _) _).alloc (by simp) _⟩
/-- siblings, of neighbours. -/
theorem siblings_ok (h k h' k' : Nat) (hk : k < 2 ^ 64) (hn : (k + 1) * 2 ^ h = k' * 2 ^ h') (w : World) : Calls Tryd.prog 26 #[SPOT h k, SPOT h' k'] w fun e w' => e = .returned (.bool (decide (Sibs (h, k) (h', k')))) ∧ Below w.heap.size w w' := by
  by_cases hh : h = h'
  · subst hh
    have hk' : k + 1 = k' := Nat.eq_of_mul_eq_mul_right (Nat.two_pow_pos h) hn
    have := siblings_eq h k h k' _ w rfl (xor_one k hk)
    rw [show (((SIB k : Nat) : Int) == (k' : Int)) = decide (Sibs (h, k) (h, k')) by
      rw [Bool.eq_iff_iff]
      unfold SIB Sibs
      simp
      split <;> omega] at this
    exact this
  · rw [decide_eq_false (fun c => hh c.1)]
    exact siblings_not h k h' k' w hh
theorem cutup_raw (h k : Nat) (x y : Int) (w : World) (e1 : IntKind.u8.wrap ((h : Int) + 1) = x) (e2 : (k : Int) / 2 = y) : Calls Tryd.prog 27 #[SPOT h k] w fun e w' => e = .returned (.agg #[.int .u8 x, .int .u64 y]) ∧ Below w.heap.size w w' := by
  go_enter Tryd.func27, Tryd.ntmps27
  go_wp2
  refine bodyPost_ret (v := .agg #[.int .u8 x, .int .u64 y]) ?_ rfl ⟨rfl, ((Below.refl _ _).alloc (Nat.le_refl _) _).alloc (by simp) _⟩
  simp [results, Tryd.f27, go_sem]
end Go.Proofs.YtddmfpiflnjmjabDoor
