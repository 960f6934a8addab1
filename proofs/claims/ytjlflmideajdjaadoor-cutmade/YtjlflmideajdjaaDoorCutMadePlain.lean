/- The places that an append makes: each once, in plain numbers. -/
import Derived.Test.YtjlflmideajdjaaDoorCutPlain
import Derived.Test.YtjlflmideajdjaaDoorCutJoins
import Derived.Test.YtjlflmideajdjaaDoorPosCoversPlain
namespace Go.Proofs.YtjlflmideajdjaaDoor

/-- is the place q under the spot s, or its own? -/
abbrev UND (s : Nat × Nat) (q : Nat) : Prop := NODES (s.2 * 2 ^ s.1) ≤ q ∧ q ≤ PLC s.1 s.2
/-- how many of the spots have the place q under them. -/
def CS : List (Nat × Nat) → Nat → Nat
  | [], _ => 0
  | s :: l, q => (if UND s q then 1 else 0) + CS l q
/-- how many of the spots stand at the place q. -/
def CJ : List (Nat × Nat) → Nat → Nat
  | [], _ => 0
  | s :: l, q => (if PLC s.1 s.2 = q then 1 else 0) + CJ l q
theorem CS_snoc (l : List (Nat × Nat)) (s : Nat × Nat) (q : Nat) : CS (l ++ [s]) q = CS l q + if UND s q then 1 else 0 := by
  induction l with
  | nil => simp [CS]
  | cons x l ih => simp only [List.cons_append, CS, ih]; omega
theorem CJ_snoc (l : List (Nat × Nat)) (s : Nat × Nat) (q : Nat) : CJ (l ++ [s]) q = CJ l q + if PLC s.1 s.2 = q then 1 else 0 := by
  induction l with
  | nil => simp [CJ]
  | cons x l ih => simp only [List.cons_append, CJ, ih]; omega
/-- a node ends within n leaves just if its place is one of theirs. -/
theorem PLC_ge {h k n : Nat} (he : n < (k + 1) * 2 ^ h) : NODES n ≤ PLC h k := by
  have h1 := PLC_last h k
  have h2 := NODES_le (n := n) (m := (k + 1) * 2 ^ h - 1) (by omega)
  omega
theorem PLC_under {h k n : Nat} (he : (k + 1) * 2 ^ h ≤ n) : PLC h k < NODES n := by
  have h1 := NODES_le he
  have e1 := NODES_add ((k + 1) * 2 ^ h)
  have e2 := NODES_add (k * 2 ^ h)
  rw [PC_shift] at e1 e2
  have h3 := PC_succ k
  have h4 := two_le h
  have e : (k + 1) * 2 ^ h = k * 2 ^ h + 2 ^ h := by rw [Nat.add_mul, Nat.one_mul]
  have hp := pow_up h
  unfold PLC
  omega
theorem CS_above {l : List (Nat × Nat)} : ∀ {a b q : Nat}, Tile a l b → q < NODES a → CS l q = 0 := by
  induction l with
  | nil => intros; rfl
  | cons s l ih =>
    intro a b q ⟨h1, h2, h3⟩ hq
    have hle : a ≤ (s.2 + 1) * 2 ^ s.1 := by rw [← h2]; exact Nat.mul_le_mul_right _ (by omega)
    have := NODES_le hle
    unfold CS
    rw [ih h3 (by omega), if_neg (fun c => by have := c.1; rw [h2] at this; omega)]
/-- spots that stand over the leaves a - 1 and a from the height h on. -/
theorem CJ_above (a k : Nat) : ∀ f h q, q < NODES a → CJ (JF a k f h) q = 0 := by
  intro f
  induction f with
  | zero => intros; rfl
  | succ f ih =>
    intro h q hq
    unfold JF
    split
    · unfold CJ
      rw [ih (h + 1) q hq, if_neg]
      intro c
      have := PLC_ge (h := h) (k := a / 2 ^ h) (n := a) (by
        have := Nat.lt_mul_div_succ a (Nat.two_pow_pos h)
        rw [Nat.mul_comm] at this
        exact this)
      dsimp only at c
      omega
    · rfl
/-- the joins past the height t of a, in b leaves. -/
theorem JF_none {a k h : Nat} (hk : a + k < (a / 2 ^ h + 1) * 2 ^ h) (f : Nat) : JF a k f h = [] := by
  cases f with
  | zero => rfl
  | succ f =>
    unfold JF
    rw [if_neg (by omega)]
theorem JF_succ (a k f h : Nat) : JF a k (f + 1) h = if (a / 2 ^ h + 1) * 2 ^ h ≤ a + k then (h, a / 2 ^ h) :: JF a k f (h + 1) else [] := rfl
theorem JF_same {a k a' k' : Nat} (e : a + k = a' + k') : ∀ f h, (∀ g, h ≤ g → a / 2 ^ g = a' / 2 ^ g) → JF a k f h = JF a' k' f h := by
  intro f
  induction f with
  | zero => intros; rfl
  | succ f ih =>
    intro h hg
    unfold JF
    rw [hg h (Nat.le_refl _), e, ih (h + 1) (fun g hh => hg g (by omega))]
/-- a number by its noughts. -/
theorem LOWS.odd {a t : Nat} (h : LOWS a t) (h63 : t < 64) : a = a / 2 ^ t * 2 ^ t ∧ a / 2 ^ t % 2 = 1 := by
  have h1 : a % 2 ^ t = 0 := (h.2.2 t (by omega)).2 (Nat.le_refl _)
  have e : a / 2 ^ t * 2 ^ t = a := Nat.div_mul_cancel (Nat.dvd_of_mod_eq_zero h1)
  refine ⟨e.symm, ?_⟩
  rcases Nat.mod_two_eq_zero_or_one (a / 2 ^ t) with c | c
  · have := even_up (h := t).2 c
    rw [e] at this
    have := (h.2.2 (t + 1) (by omega)).1 this
    omega
  · exact c
theorem LOWS.of {m t : Nat} (hm : m % 2 = 1) (ht : t ≤ 63) : LOWS (m * 2 ^ t) t := by
  have hpos := Nat.two_pow_pos t
  refine ⟨by omega, fun h => ?_, fun h hh => ⟨fun hz => ?_, fun hle => ?_⟩⟩
  · rcases Nat.mul_eq_zero.1 h with h | h <;> omega
  · rcases Nat.lt_or_ge t h with c | c
    · have h1 : 2 ^ (t + 1) ∣ 2 ^ h := Nat.pow_dvd_pow 2 c
      have := even_up.1 (Nat.mod_eq_zero_of_dvd (Nat.dvd_trans h1 (Nat.dvd_of_mod_eq_zero hz)))
      omega
    · exact c
  · exact Nat.mod_eq_zero_of_dvd (Nat.dvd_trans (Nat.pow_dvd_pow 2 hle) ⟨m, Nat.mul_comm _ _⟩)
theorem LOWS.ex {a : Nat} (h0 : 0 < a) (ha : a ≤ 4611686018427387904) : ∃ t, LOWS a t ∧ t ≤ 62 := by
  obtain ⟨t, q, e⟩ := low_split a (by omega)
  have ht : t ≤ 62 := by
    rcases Nat.lt_or_ge 62 t with c | c
    · have h1 : 2 ^ 63 ≤ 2 ^ t := Nat.pow_le_pow_right (by decide) c
      have h2 : 2 ^ t * 1 ≤ 2 ^ t * (2 * q + 1) := Nat.mul_le_mul_left _ (by omega)
      omega
    · exact c
  refine ⟨t, ?_, ht⟩
  rw [e, Nat.mul_comm]
  exact LOWS.of (by omega) (by omega)
/-- what the leaf a - 1 made. -/
theorem LOWS.made {a t : Nat} (h : LOWS a t) (h63 : t < 64) : NODES a = NODES (a - 1) + t + 1 := by
  obtain ⟨e, ho⟩ := h.odd h63
  obtain ⟨m, hm⟩ : ∃ m, a / 2 ^ t = 2 * m + 1 := ⟨a / 2 ^ t / 2, by omega⟩
  rw [hm] at e
  have h1 := NODES_plus m t
  have h2 := PLC_last t (2 * m)
  rw [← e] at h1 h2
  have h3 := two_le t
  unfold PLC at h2
  unfold TREE at h1
  omega
/-- the joins, height by height. -/
theorem joins_run {a k a' k' t' : Nat} (e : a + k = a' + k') (hL : LOWS a' t') (ht : t' ≤ 62) (hb : a' ≤ a + k) : ∀ d h, h + d = t' + 1 → (∀ g, h ≤ g → g ≤ t' → (a / 2 ^ g + 1) * 2 ^ g = a') → (∀ g, t' < g → a / 2 ^ g = a' / 2 ^ g) → ∀ q,
    CJ (JF a k (63 - h) h) q = if q < NODES (a' - 1) + h then 0 else if q < NODES a' then 1 else CJ (JF a' k' (62 - t') (t' + 1)) q := by
  have hm := hL.made (by omega)
  intro d
  induction d with
  | zero =>
    intro h hh h1 h2 q
    obtain rfl : h = t' + 1 := by omega
    rw [show 63 - (t' + 1) = 62 - t' by omega, JF_same e _ _ (fun g hg => h2 g (by omega))]
    split
    · exact CJ_above a' k' _ _ q (by omega)
    · rw [if_neg (by omega)]
  | succ d ih =>
    intro h hh h1 h2 q
    have hi := ih (h + 1) (by omega) (fun g hg => h1 g (by omega)) h2 q
    have hp := h1 h (Nat.le_refl _) (by omega)
    have hl := PLC_last h (a / 2 ^ h)
    rw [hp] at hl
    rw [show 63 - h = (63 - (h + 1)) + 1 by omega, JF_succ, hp, if_pos hb]
    show (if PLC h (a / 2 ^ h) = q then 1 else 0) + CJ (JF a k (63 - (h + 1)) (h + 1)) q = _
    rw [hi]
    by_cases c1 : q < NODES (a' - 1) + h
    · rw [if_neg (by omega), if_pos (by omega), if_pos c1]
    · by_cases c2 : q = NODES (a' - 1) + h
      · rw [if_pos (by omega), if_pos (by omega), if_neg c1, if_pos (by omega)]
      · rw [if_neg (by omega), if_neg (by omega), if_neg c1]
        omega
theorem ceil_odd {m t : Nat} (hm : m % 2 = 1) : (m * 2 ^ t / 2 ^ (t + 1) + 1) * 2 ^ (t + 1) = m * 2 ^ t + 2 ^ t := by
  rw [half_pow, Nat.mul_div_cancel _ (Nat.two_pow_pos t), ← double_pow, show 2 * (m / 2 + 1) = m + 1 by omega, Nat.add_mul, Nat.one_mul]
/-- no joins, where the next greater tree ends beyond. -/
theorem JF_far {a k t : Nat} (hL : LOWS a t) (hk : a + k < a + 2 ^ t) : JF a k (62 - t) (t + 1) = [] := by
  rcases Nat.lt_or_ge t 62 with h | h
  · obtain ⟨e, ho⟩ := hL.odd (by omega)
    have hc := ceil_odd (t := t) ho
    rw [← e] at hc
    exact JF_none (by rw [hc]; exact hk) _
  · rw [show 62 - t = 0 by omega]
    rfl
theorem made_once {b : Nat} (hb : b ≤ 4611686018427387904) : ∀ f a t, b - a ≤ f → a ≤ b → LOWS a t → ∀ q, NODES a ≤ q → q < NODES b → CS (SPAN a b) q + CJ (JF a (b - a) (62 - t) (t + 1)) q = 1 := by
  intro f
  induction f with
  | zero =>
    intro a t h1 h2 _ q h3 h4
    obtain rfl : a = b := by omega
    omega
  | succ f ih =>
    intro a t h1 h2 hL q h3 h4
    rcases Nat.lt_or_ge a b with hab | hab
    · obtain ⟨s1, s2, s3⟩ := HT_spec hab hb
      obtain ⟨n1, n2, n3⟩ := s2.node s1 hb
      have hpos := Nat.two_pow_pos (HT a b)
      have hle := s2.2
      have htl : HT a b ≤ t := (hL.2.2 _ (by omega)).1 s2.1
      have hT := tile_span (a := a + 2 ^ HT a b) hb hle
      have hpl := PLC_last (HT a b) (a / 2 ^ HT a b)
      rw [n3] at hpl
      rw [SPAN_step hab]
      show (if UND (HT a b, a / 2 ^ HT a b) q then 1 else 0) + CS (SPAN (a + 2 ^ HT a b) b) q + _ = 1
      have hU : UND (HT a b, a / 2 ^ HT a b) q ↔ q ≤ PLC (HT a b) (a / 2 ^ HT a b) := by
        unfold UND
        dsimp only
        rw [n2]
        exact ⟨fun h => h.2, fun h => ⟨h3, h⟩⟩
      rcases Nat.lt_or_ge (HT a b) t with hlt | hge
      · have hd : a % 2 ^ (HT a b + 1) = 0 := (hL.2.2 _ (by have := hL.1; omega)).2 hlt
        have hs : ¬ a + 2 ^ (HT a b + 1) ≤ b := fun c => s3 ⟨hd, c⟩
        have hpt : 2 ^ (HT a b + 1) ≤ 2 ^ t := Nat.pow_le_pow_right (by decide) hlt
        rw [JF_far hL (by omega)]
        have hev : a / 2 ^ HT a b % 2 = 0 := by
          rw [← n2] at hd
          exact (even_up (h := HT a b) (k := a / 2 ^ HT a b)).1 (by rw [n2] at hd ⊢; exact hd)
        have hL' : LOWS (a + 2 ^ HT a b) (HT a b) := by
          rw [← n3]
          exact LOWS.of (by omega) (by omega)
        have hmd := hL'.made (by omega)
        have hi := ih (a + 2 ^ HT a b) (HT a b) (by omega) hle hL' q
        rw [JF_far hL' (by rw [pow_up] at hs; omega)] at hi
        by_cases hq : q ≤ PLC (HT a b) (a / 2 ^ HT a b)
        · rw [if_pos (hU.2 hq), CS_above hT (by omega)]
          rfl
        · rw [if_neg (fun c => hq (hU.1 c))]
          have := hi (by omega) h4
          simpa using this
      · obtain rfl : t = HT a b := by omega
        obtain ⟨t', hL', ht'⟩ := LOWS.ex (a := a + 2 ^ HT a b) (by omega) (by omega)
        obtain ⟨e0, ho⟩ := hL.odd (by omega)
        have htt : HT a b < t' := by
          have : (a + 2 ^ HT a b) % 2 ^ (HT a b + 1) = 0 := by
            rw [← n3]
            exact even_up.2 (by omega)
          have := (hL'.2.2 _ (by omega)).1 this
          omega
        have hmd := hL'.made (by omega)
        have hr := joins_run (a := a) (k := b - a) (a' := a + 2 ^ HT a b) (k' := b - (a + 2 ^ HT a b)) (t' := t') (by omega) hL' ht' (by omega) (t' - HT a b) (HT a b + 1) (by omega) ?_ ?_ q
        · rw [show 62 - HT a b = 63 - (HT a b + 1) by omega, hr]
          have hi := ih (a + 2 ^ HT a b) t' (by omega) hle hL' q
          by_cases hq : q ≤ PLC (HT a b) (a / 2 ^ HT a b)
          · rw [if_pos (hU.2 hq), CS_above hT (by omega), if_pos (by omega)]
          · rw [if_neg (fun c => hq (hU.1 c)), if_neg (by omega)]
            by_cases hq2 : q < NODES (a + 2 ^ HT a b)
            · rw [if_pos hq2, CS_above hT hq2]
            · rw [if_neg hq2]
              have := hi (by omega) h4
              omega
        · intro g hg hg'
          have hdv : 2 ^ g ∣ a + 2 ^ HT a b := Nat.dvd_of_mod_eq_zero ((hL'.2.2 g (by omega)).2 hg')
          have hpg : 2 ^ HT a b < 2 ^ g := Nat.pow_lt_pow_right (by decide) (by omega)
          obtain ⟨m, hm⟩ := hdv
          have hm0 : 0 < m := by
            rcases Nat.eq_zero_or_pos m with c | c
            · subst c; omega
            · exact c
          obtain ⟨m', rfl⟩ : ∃ m', m = m' + 1 := ⟨m - 1, by omega⟩
          have e3 : 2 ^ g * (m' + 1) = 2 ^ g * m' + 2 ^ g := by rw [Nat.mul_add, Nat.mul_one]
          have hdq : a / 2 ^ g = m' := by
            apply Nat.div_eq_of_lt_le
            · rw [Nat.mul_comm]; omega
            · rw [Nat.mul_comm]; omega
          rw [hdq, hm, Nat.mul_comm]
        · intro g hg
          have hpg : 2 ^ HT a b < 2 ^ t' := Nat.pow_lt_pow_right (by decide) (by omega)
          obtain ⟨e1, o1⟩ := hL'.odd (by omega)
          have hz : 2 ^ t' ≤ (a + 2 ^ HT a b) % 2 ^ g := by
            have hdv : 2 ^ t' ∣ (a + 2 ^ HT a b) % 2 ^ g := (Nat.dvd_mod_iff (Nat.pow_dvd_pow 2 (by omega))).2 ⟨_, by rw [Nat.mul_comm]; exact e1⟩
            have hne : (a + 2 ^ HT a b) % 2 ^ g ≠ 0 := by
              intro c
              have h5 : (a + 2 ^ HT a b) % 2 ^ (t' + 1) = 0 := Nat.mod_eq_zero_of_dvd (Nat.dvd_trans (Nat.pow_dvd_pow 2 hg) (Nat.dvd_of_mod_eq_zero c))
              have := (hL'.2.2 (t' + 1) (by omega)).1 h5
              omega
            exact Nat.le_of_dvd (by omega) hdv
          have hdm := Nat.div_add_mod (a + 2 ^ HT a b) (2 ^ g)
          have hlt := Nat.mod_lt (a + 2 ^ HT a b) (Nat.two_pow_pos g)
          apply Nat.div_eq_of_lt_le
          · rw [Nat.mul_comm]; omega
          · rw [Nat.add_mul, Nat.one_mul, Nat.mul_comm]; omega
    · obtain rfl : a = b := by omega
      omega
end Go.Proofs.YtjlflmideajdjaaDoor
