/- What the small functions of package cut answer. -/
import Derived.Test.YtddmfpiflnjmjaaDoorCutPlain
import Derived.Test.YtddmfpiflnjmjaaDoorPosSpotRow
namespace Go.Proofs.YtddmfpiflnjmjaaDoor
open Go.RowKit

theorem low_nat (X : Nat) (hX : X < 2 ^ 64) : ∃ t : Nat, t ≤ 64 ∧ (X = 0 → t = 64) ∧ (∀ h, h ≤ 64 → (X % 2 ^ h = 0 ↔ h ≤ t)) ∧ ∀ w, Tabled w → Calls Tryd.prog 77 #[.int .u64 (X : Int)] w fun e w' => e = .returned (.int .i64 (t : Int)) ∧ w = w' := by
  by_cases h0 : X = 0
  · subst h0
    exact ⟨64, Nat.le_refl _, fun _ => rfl, fun h hh => by simp [hh], fun w _ => low_raw _ _ w (tz_zero w)⟩
  · obtain ⟨t, q, e⟩ := low_split X h0
    have ht := (neg_and hX e).2
    refine ⟨t, by omega, fun c => absurd c h0, ?_, fun w hT => low_raw _ _ w (tz_ok X t q hX e w hT)⟩
    intro h _
    constructor
    · intro hm
      rcases Nat.lt_or_ge t h with c | c
      · have h1 : 2 ^ (t + 1) ∣ 2 ^ h := Nat.pow_dvd_pow 2 c
        have h2 : X % 2 ^ (t + 1) = 0 := Nat.mod_eq_zero_of_dvd (Nat.dvd_trans h1 (Nat.dvd_of_mod_eq_zero hm))
        rw [e, Nat.mul_comm] at h2
        have := even_up.1 h2
        omega
      · exact c
    · intro hm
      have h1 : 2 ^ h ∣ 2 ^ t := Nat.pow_dvd_pow 2 hm
      exact Nat.mod_eq_zero_of_dvd (Nat.dvd_trans h1 ⟨_, e⟩)
theorem HT_min {a b t : Nat} (hab : a < b) (hb : b ≤ 4611686018427387904) (ht : t ≤ 64) (hd : ∀ h, h ≤ 64 → (a % 2 ^ h = 0 ↔ h ≤ t)) : min (t : Int) ((LEN (b - a) : Nat) - 1 : Int) = ((HT a b : Nat) : Int) := by
  obtain ⟨l1, l2, l3⟩ := LEN_span (b - a) (by omega) (by omega)
  have l4 : LEN (b - a) - 1 ≤ 62 := by
    rcases Nat.lt_or_ge 62 (LEN (b - a) - 1) with h | h
    · have : 2 ^ 63 ≤ 2 ^ (LEN (b - a) - 1) := Nat.pow_le_pow_right (by decide) h
      omega
    · exact h
  have : min t (LEN (b - a) - 1) = HT a b := by
    refine HT_only hab hb ⟨(hd _ (by omega)).2 (by omega), ?_⟩ ?_
    · have : 2 ^ min t (LEN (b - a) - 1) ≤ 2 ^ (LEN (b - a) - 1) := Nat.pow_le_pow_right (by decide) (by omega)
      omega
    · intro c
      rcases Nat.lt_or_ge t (LEN (b - a) - 1) with h | h
      · have := (hd _ (by omega)).1 c.1
        omega
      · have h1 := c.2
        have : 2 ^ LEN (b - a) ≤ 2 ^ (min t (LEN (b - a) - 1) + 1) := Nat.pow_le_pow_right (by decide) (by omega)
        omega
  rw [← this]
  omega
theorem end_raw (h k : Nat) (s r : Int) (w : World) (e1 : IntKind.u64.wrap ((k : Int) + 1) = s) (e : IntKind.u64.wrap (s * 2 ^ min h 64) = r) : Calls Tryd.prog 79 #[SPOT h k] w fun e w' => e = .returned (.int .u64 r) ∧ Below w.heap.size w w' := by
  subst e
  go_enter Tryd.func79, Tryd.ntmps79
  go_wp2
  go_ret
  exact ⟨rfl, (Below.refl _ _).alloc (Nat.le_refl _) _⟩
theorem end_ok (h k : Nat) (hN : Node h k) (w : World) : Calls Tryd.prog 79 #[SPOT h k] w fun e w' => e = .returned (.int .u64 (((k + 1) * 2 ^ h : Nat) : Int)) ∧ Below w.heap.size w w' := by
  have h1 := hN.span
  have h3 := hN.index_lt
  refine end_raw h k ((k + 1 : Nat) : Int) _ w (by rw [wrapU]; omega) ?_
  exact shift_eq (k + 1) h hN.1 (by omega)
theorem xor_one (k : Nat) (hk : k < 2 ^ 64) : bits .xor .u64 (k : Int) 1 = ((SIB k : Nat) : Int) := by
  have : bits .xor .u64 (k : Int) ((1 : Nat) : Int) = ((k ^^^ 1 : Nat) : Int) := bits_xor_u64_nat k 1 (by omega) (by omega)
  have e : k ^^^ 1 = SIB k := by
    apply Nat.eq_of_testBit_eq
    intro i
    unfold SIB
    cases i with
    | zero =>
      rw [Nat.testBit_xor]
      simp only [Nat.testBit_zero]
      split <;> rw [Bool.eq_iff_iff] <;> simp <;> omega
    | succ i =>
      rw [Nat.testBit_xor, Nat.testBit_succ, Nat.testBit_succ, Nat.testBit_succ]
      have : (1 : Nat) / 2 = 0 := by decide
      rw [this, Nat.zero_testBit, Bool.xor_false]
      congr 1
      split <;> omega
  rw [e] at this
  exact this
end Go.Proofs.YtddmfpiflnjmjaaDoor
