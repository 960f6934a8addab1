/- The joins one by one; a row of counts. -/
import Derived.Test.YtjlflmideajdjaaDoorCutMadePlain
import Derived.Test.YtjlflmideajdjaaDoorCutTopsWalk
namespace Go.Proofs.YtjlflmideajdjaaDoor
open Go.RowKit

theorem JF_at {n k : Nat} : ∀ {f h i x y : Nat}, (JF n k f h)[i]? = some (x, y) → x = h + i ∧ y = n / 2 ^ x ∧ (y + 1) * 2 ^ x ≤ n + k ∧ i < f := by
  intro f
  induction f with
  | zero => intro h i x y e; simp [JF] at e
  | succ f ih =>
    intro h i x y e
    rw [JF_succ] at e
    split at e
    · rename_i hc
      cases i with
      | zero =>
        simp at e
        obtain ⟨rfl, rfl⟩ := e
        exact ⟨by omega, rfl, hc, by omega⟩
      | succ i =>
        rw [List.getElem?_cons_succ] at e
        obtain ⟨h1, h2, h3, h4⟩ := ih e
        exact ⟨by omega, h2, h3, by omega⟩
    · simp at e
theorem JF_place {n k t i x y : Nat} (hn : n < 4611686018427387904) (e : (JF n k (62 - t) (t + 1))[i]? = some (x, y)) : Node x y ∧ NODES n ≤ PLC x y ∧ PLC x y < NODES (n + k) := by
  obtain ⟨h1, h2, h3, h4⟩ := JF_at e
  refine ⟨by rw [h2]; exact Node.over hn x (by omega), ?_, PLC_under h3⟩
  apply PLC_ge
  have := Nat.lt_mul_div_succ n (Nat.two_pow_pos x)
  rw [Nat.mul_comm, ← h2] at this
  exact this
theorem JF_rises {n k f h i x y x' y' : Nat} (e : (JF n k f h)[i]? = some (x, y)) (e' : (JF n k f h)[i + 1]? = some (x', y')) : PLC x y < PLC x' y' := by
  obtain ⟨h1, h2, _, _⟩ := JF_at e
  obtain ⟨h3, h4, _, _⟩ := JF_at e'
  obtain rfl : x' = x + 1 := by omega
  rw [half_pow, ← h2] at h4
  have := PLC_parent x y
  rw [h4, this]
  split <;> omega
theorem joins_runl {a k a' k' t' : Nat} (e : a + k = a' + k') (ht : t' ≤ 62) (hb : a' ≤ a + k) : ∀ d h, h + d = t' + 1 → (∀ g, h ≤ g → g ≤ t' → (a / 2 ^ g + 1) * 2 ^ g = a') → (∀ g, t' < g → a / 2 ^ g = a' / 2 ^ g) →
    (JF a k (63 - h) h).length = d + (JF a' k' (62 - t') (t' + 1)).length := by
  intro d
  induction d with
  | zero =>
    intro h hh h1 h2
    obtain rfl : h = t' + 1 := by omega
    rw [show 63 - (t' + 1) = 62 - t' by omega, JF_same e _ _ (fun g hg => h2 g (by omega)), Nat.zero_add]
  | succ d ih =>
    intro h hh h1 h2
    have hi := ih (h + 1) (by omega) (fun g hg => h1 g (by omega)) h2
    rw [show 63 - h = (63 - (h + 1)) + 1 by omega, JF_succ, h1 h (Nat.le_refl _) (by omega), if_pos hb, List.length_cons, hi]
    omega
theorem climb {a t t' : Nat} (htt : t < t') (ht' : t' ≤ 62) (hL' : LOWS (a + 2 ^ t) t') : (∀ g, t + 1 ≤ g → g ≤ t' → (a / 2 ^ g + 1) * 2 ^ g = a + 2 ^ t) ∧ (∀ g, t' < g → a / 2 ^ g = (a + 2 ^ t) / 2 ^ g) := by
  have hpos := Nat.two_pow_pos t
  refine ⟨?_, ?_⟩
  · intro g hg hg'
    have hdv : 2 ^ g ∣ a + 2 ^ t := Nat.dvd_of_mod_eq_zero ((hL'.2.2 g (by omega)).2 hg')
    have hpg : 2 ^ t < 2 ^ g := Nat.pow_lt_pow_right (by decide) (by omega)
    obtain ⟨m, hm⟩ := hdv
    have hm0 : 0 < m := by
      rcases Nat.eq_zero_or_pos m with c | c
      · subst c; omega
      · exact c
    obtain ⟨m', rfl⟩ : ∃ m', m = m' + 1 := ⟨m - 1, by omega⟩
    have e3 : 2 ^ g * (m' + 1) = 2 ^ g * m' + 2 ^ g := by rw [Nat.mul_add, Nat.mul_one]
    have hdq : a / 2 ^ g = m' := by
      apply Nat.div_eq_of_lt_le
      · rw [Nat.mul_comm]; omega
      · rw [Nat.mul_comm]; omega
    rw [hdq, hm, Nat.mul_comm]
  · intro g hg
    have hpg : 2 ^ t < 2 ^ t' := Nat.pow_lt_pow_right (by decide) (by omega)
    obtain ⟨e1, o1⟩ := hL'.odd (by omega)
    have hz : 2 ^ t' ≤ (a + 2 ^ t) % 2 ^ g := by
      have hdv : 2 ^ t' ∣ (a + 2 ^ t) % 2 ^ g := (Nat.dvd_mod_iff (Nat.pow_dvd_pow 2 (by omega))).2 ⟨_, by rw [Nat.mul_comm]; exact e1⟩
      have hne : (a + 2 ^ t) % 2 ^ g ≠ 0 := by
        intro c
        have h5 : (a + 2 ^ t) % 2 ^ (t' + 1) = 0 := Nat.mod_eq_zero_of_dvd (Nat.dvd_trans (Nat.pow_dvd_pow 2 hg) (Nat.dvd_of_mod_eq_zero c))
        have := (hL'.2.2 (t' + 1) (by omega)).1 h5
        omega
      exact Nat.le_of_dvd (by omega) hdv
    have hdm := Nat.div_add_mod (a + 2 ^ t) (2 ^ g)
    have hlt := Nat.mod_lt (a + 2 ^ t) (Nat.two_pow_pos g)
    apply Nat.div_eq_of_lt_le
    · rw [Nat.mul_comm]; omega
    · rw [Nat.add_mul, Nat.one_mul, Nat.mul_comm]; omega
theorem joins_few {b : Nat} (hb : b ≤ 4611686018427387904) : ∀ f a t, b - a ≤ f → a ≤ b → LOWS a t → (JF a (b - a) (62 - t) (t + 1)).length ≤ (SPAN a b).length + PC a := by
  intro f
  induction f with
  | zero =>
    intro a t h1 h2 hL
    obtain rfl : a = b := by omega
    rw [JF_far hL (by have := Nat.two_pow_pos t; omega)]
    simp
  | succ f ih =>
    intro a t h1 h2 hL
    rcases Nat.lt_or_ge a b with hab | hab
    · obtain ⟨s1, s2, s3⟩ := HT_spec hab hb
      obtain ⟨n1, n2, n3⟩ := s2.node s1 hb
      have hpos := Nat.two_pow_pos (HT a b)
      have hle := s2.2
      have htl : HT a b ≤ t := (hL.2.2 _ (by omega)).1 s2.1
      rcases Nat.lt_or_ge (HT a b) t with hlt | hge
      · have hd : a % 2 ^ (HT a b + 1) = 0 := (hL.2.2 _ (by have := hL.1; omega)).2 hlt
        have hs : ¬ a + 2 ^ (HT a b + 1) ≤ b := fun c => s3 ⟨hd, c⟩
        have hpt : 2 ^ (HT a b + 1) ≤ 2 ^ t := Nat.pow_le_pow_right (by decide) hlt
        rw [JF_far hL (by omega)]
        simp
      · obtain rfl : t = HT a b := by omega
        obtain ⟨t', hL', ht'⟩ := LOWS.ex (a := a + 2 ^ HT a b) (by omega) (by omega)
        obtain ⟨e0, ho⟩ := hL.odd (by omega)
        have htt : HT a b < t' := by
          have : (a + 2 ^ HT a b) % 2 ^ (HT a b + 1) = 0 := by
            rw [← n3]
            exact even_up.2 (by omega)
          have := (hL'.2.2 _ (by omega)).1 this
          omega
        obtain ⟨c1, c2⟩ := climb htt ht' hL'
        have hr := joins_runl (a := a) (k := b - a) (a' := a + 2 ^ HT a b) (k' := b - (a + 2 ^ HT a b)) (t' := t') (by omega) ht' (by omega) (t' - HT a b) (HT a b + 1) (by omega) c1 c2
        have hi := ih (a + 2 ^ HT a b) t' (by omega) hle hL'
        have hmd := hL'.made (by omega)
        have hpl := PLC_last (HT a b) (a / 2 ^ HT a b)
        rw [n3] at hpl
        have hpe : PLC (HT a b) (a / 2 ^ HT a b) = NODES a + (2 ^ (HT a b + 1) - 2) := by unfold PLC; rw [n2]
        have e1 := NODES_add a
        have e2 := NODES_add (a + 2 ^ HT a b)
        have e3 := two_le (HT a b)
        have e4 := pow_up (HT a b)
        rw [show 62 - HT a b = 63 - (HT a b + 1) by omega, hr, SPAN_step hab, List.length_cons]
        omega
    · obtain rfl : a = b := by omega
      rw [JF_far hL (by have := Nat.two_pow_pos t; omega)]
      simp
/-- the cells of a row of counts. -/
def MA (T : Nat) (f : Nat → Nat) : Array Value := ((List.range T).map fun i => Value.int .i64 ((f i : Nat) : Int)).toArray
theorem MA_get {T i : Nat} (f : Nat → Nat) (h : i < T) : (MA T f)[i]? = some (.int .i64 ((f i : Nat) : Int)) := by simp [MA, h]
def BUMP (f : Nat → Nat) (i : Nat) : Nat → Nat := fun x => if x = i then f x + 1 else f x
theorem MA_bump {T i : Nat} (f : Nat → Nat) : (MA T f).setIfInBounds i (.int .i64 ((f i + 1 : Nat) : Int)) = MA T (BUMP f i) := by
  apply Array.ext_getElem?
  intro j
  rw [Array.getElem?_setIfInBounds]
  by_cases hij : i = j
  · subst hij
    rw [if_pos rfl]
    by_cases hT : i < T
    · rw [if_pos (by simp [MA]; exact hT), MA_get _ hT]
      simp [BUMP]
    · rw [if_neg (by simp [MA]; omega)]
      symm
      apply Array.getElem?_eq_none
      simp [MA]
      omega
  · rw [if_neg hij]
    simp only [MA, List.getElem?_toArray, List.getElem?_map]
    by_cases hT : j < T
    · simp [hT, BUMP]
      rw [if_neg (fun h => hij h.symm)]
    · simp [hT]
theorem make_made (T : Nat) (hT : T ≤ 2000) (w : World) : (Instr.makeSlice 44 (.int .u64 (T : Int)) (.int .u64 (T : Int))).run Tryd.prog w = .ok (.slice (some ⟨w.heap.size, 0, none⟩) T T) (w.alloc (.cells (MA T fun _ => 0) 3)) := by
  obtain ⟨i, hi, hz, hs1, hby⟩ := info_parts_int
  have h := run_make (P := Tryd.prog) w 44 3 i (.int .i64 0) Tryd.underlying44 hi hz .u64 .u64 T T (by omega) (by omega) (by rw [hby]; omega) (by omega)
  rw [h]
  have e : madeCells (Value.cells (.int .i64 0)) ((T : Int).toNat * i.size) = MA T fun _ => 0 := by
    rw [hs1, Int.toNat_natCast, Nat.mul_one]
    apply Array.toList_inj.1
    have : (Value.cells (.int .i64 0)) = #[.int .i64 0] := rfl
    rw [this, toList_madeCells_one]
    simp [MA, List.map_const']
  rw [e, Int.toNat_natCast]
end Go.Proofs.YtjlflmideajdjaaDoor
