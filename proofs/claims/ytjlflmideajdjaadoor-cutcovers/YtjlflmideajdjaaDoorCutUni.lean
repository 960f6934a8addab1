/- The heights of a span's spots rise, and then fall; no two neighbours are siblings. -/
import Derived.Test.YtjlflmideajdjaaDoorCutPlain
namespace Go.Proofs.YtjlflmideajdjaaDoor

/-- what the law looks at: neighbours, and the one behind them. -/
theorem SPAN_next {a b h k h' k' : Nat} (e0 : (SPAN a b)[0]? = some (h, k)) (e1 : (SPAN a b)[1]? = some (h', k')) : a < b ∧ a + 2 ^ h < b ∧ h = HT a b ∧ k = a / 2 ^ h ∧ h' = HT (a + 2 ^ h) b ∧ k' = (a + 2 ^ h) / 2 ^ h' := by
  rcases Nat.lt_or_ge a b with hab | hab
  · rw [SPAN_step hab] at e0 e1
    simp only [List.getElem?_cons_zero, Option.some.injEq, Prod.mk.injEq, List.getElem?_cons_succ] at e0 e1
    obtain ⟨rfl, rfl⟩ := e0
    rcases Nat.lt_or_ge (a + 2 ^ HT a b) b with h2 | h2
    · rw [SPAN_step h2] at e1
      simp only [List.getElem?_cons_zero, Option.some.injEq, Prod.mk.injEq] at e1
      obtain ⟨rfl, rfl⟩ := e1
      exact ⟨hab, h2, rfl, rfl, rfl, rfl⟩
    · rw [SPAN_end h2] at e1
      simp at e1
  · rw [SPAN_end hab] at e0
    simp at e0
theorem SPAN_tail {a b : Nat} (hab : a < b) (j : Nat) : (SPAN a b)[j + 1]? = (SPAN (a + 2 ^ HT a b) b)[j]? := by
  rw [SPAN_step hab, List.getElem?_cons_succ]
theorem SPAN_pos {a b j : Nat} {x : Nat × Nat} (e : (SPAN a b)[j]? = some x) : a < b := by
  rcases Nat.lt_or_ge a b with hab | hab
  · exact hab
  · rw [SPAN_end hab] at e
    simp at e
theorem SPAN_apart {b : Nat} (hb : b ≤ 4611686018427387904) : ∀ j a h k h' k', (SPAN a b)[j]? = some (h, k) → (SPAN a b)[j + 1]? = some (h', k') → ¬ (h = h' ∧ k / 2 = k' / 2) := by
  intro j
  induction j with
  | zero =>
    intro a h k h' k' e0 e1 ⟨rfl, e⟩
    obtain ⟨hab, h2, rfl, hk, hh, hk'⟩ := SPAN_next e0 e1
    obtain ⟨s1, s2, s3⟩ := HT_spec hab hb
    obtain ⟨n1, n2, n3⟩ := s2.node s1 hb
    have hpos := Nat.two_pow_pos (HT a b)
    have hk2 : k' = k + 1 := by
      rw [hk', ← n3, Nat.mul_div_cancel _ hpos, hk]
    apply s3
    have t := (HT_spec h2 hb).2.1.2
    rw [← hh] at t
    refine ⟨?_, by rw [pow_up]; omega⟩
    have := even_up (h := HT a b).2 (show k % 2 = 0 by omega)
    rw [hk, n2] at this
    exact this
  | succ j ih =>
    intro a h k h' k' e0 e1
    have hab := SPAN_pos e0
    rw [SPAN_tail hab] at e0 e1
    exact ih _ h k h' k' e0 e1
theorem SPAN_falls {b : Nat} (hb : b ≤ 4611686018427387904) : ∀ j a h k h' k' h'' k'', (SPAN a b)[j]? = some (h, k) → (SPAN a b)[j + 1]? = some (h', k') → (SPAN a b)[j + 2]? = some (h'', k'') → h' < h → h'' < h' := by
  intro j
  induction j with
  | zero =>
    intro a h k h' k' h'' k'' e0 e1 e2 hlt
    obtain ⟨hab, h2, rfl, hk, hh, hk'⟩ := SPAN_next e0 e1
    rw [SPAN_tail hab] at e1 e2
    obtain ⟨_, h3, _, _, hh2, _⟩ := SPAN_next e1 e2
    obtain ⟨s1, s2, s3⟩ := HT_spec hab hb
    obtain ⟨t1, t2, t3⟩ := HT_spec h2 hb
    have h3' : a + 2 ^ HT a b + 2 ^ h' < b := h3
    obtain ⟨u1, u2, u3⟩ := HT_spec h3' hb
    rw [← hh] at t1 t2 t3
    rw [← hh2] at u1 u2 u3
    have hd : (a + 2 ^ HT a b) % 2 ^ (HT a b) = 0 := by rw [Nat.add_mod_right]; exact s2.1
    have hd2 : (a + 2 ^ HT a b) % 2 ^ (h' + 1) = 0 := by
      have h4 : 2 ^ (h' + 1) ∣ 2 ^ HT a b := Nat.pow_dvd_pow 2 hlt
      exact Nat.mod_eq_zero_of_dvd (Nat.dvd_trans h4 (Nat.dvd_of_mod_eq_zero hd))
    have hs : ¬ a + 2 ^ HT a b + 2 ^ (h' + 1) ≤ b := fun c => t3 ⟨hd2, c⟩
    rw [pow_up] at hs
    rcases Nat.lt_or_ge h'' h' with c | c
    · exact c
    · have := (u2.le h' c).2
      omega
  | succ j ih =>
    intro a h k h' k' h'' k'' e0 e1 e2
    have hab := SPAN_pos e0
    rw [SPAN_tail hab] at e0 e1
    have e2' : (SPAN a b)[j + 2 + 1]? = some (h'', k'') := e2
    rw [SPAN_tail hab] at e2'
    exact ih _ h k h' k' h'' k'' e0 e1 e2'
/-- the span's i-th spot, and none past the end. -/
def SH (a b i : Nat) : Nat := ((SPAN a b).getD i (0, 0)).1
def SK (a b i : Nat) : Nat := ((SPAN a b).getD i (0, 0)).2
theorem SHK_at {a b i : Nat} (h : i < (SPAN a b).length) : (SPAN a b)[i]? = some (SH a b i, SK a b i) := by
  unfold SH SK
  rw [List.getD_eq_getElem?_getD, List.getElem?_eq_getElem h]
  rfl
/-- have the heights begun to fall, ahead of i? -/
def FELL (a b i : Nat) : Bool := decide (2 ≤ i ∧ SH a b (i - 1) < SH a b (i - 2))
theorem FELL_down {a b i : Nat} (hlt : SH a b i < SH a b (i - 1)) (hi : 1 ≤ i) : FELL a b (i + 1) = true := by
  unfold FELL
  rw [decide_eq_true_iff]
  exact ⟨by omega, by rw [show i + 1 - 1 = i by omega, show i + 1 - 2 = i - 1 by omega]; exact hlt⟩
theorem FELL_not {a b i : Nat} (hb : b ≤ 4611686018427387904) (hl : i < (SPAN a b).length) (hlt : ¬ SH a b i < SH a b (i - 1)) (hi : 1 ≤ i) : FELL a b i = false ∧ FELL a b (i + 1) = false := by
  unfold FELL
  rw [decide_eq_false_iff_not, decide_eq_false_iff_not]
  refine ⟨fun ⟨h2, h3⟩ => ?_, fun ⟨_, h3⟩ => ?_⟩
  · apply hlt
    have e0 := SHK_at (a := a) (b := b) (i := i - 2) (by omega)
    have e1 := SHK_at (a := a) (b := b) (i := i - 1) (by omega)
    have e2 := SHK_at (a := a) (b := b) (i := i) hl
    rw [show i - 1 = i - 2 + 1 by omega] at e1
    have e2' : (SPAN a b)[i - 2 + 2]? = some (SH a b i, SK a b i) := by rw [show i - 2 + 2 = i by omega]; exact e2
    have := SPAN_falls hb (i - 2) a _ _ _ _ _ _ e0 e1 e2' (by rw [show i - 2 + 1 = i - 1 by omega]; exact h3)
    rw [show i - 2 + 1 = i - 1 by omega] at this
    exact this
  · rw [show i + 1 - 1 = i by omega, show i + 1 - 2 = i - 1 by omega] at h3
    exact hlt h3
end Go.Proofs.YtjlflmideajdjaaDoor
