/- Texts of VerifyReaches, one behind the other: VerifyReachPlain, StepLists, VerifyRefClimbRegions. -/
import Derived.Deep.AppendLies
import Derived.Test.YtkcfhgflgkejoaaGreatDoorVerifyReachesP9
import Derived.Test.YtkcfhgflgkejoaaGreatDoorVerifyReachesP20
/- The peaks that follow from a prefix proof, by the joins of the map and by halves: the same. -/
namespace Go.Proofs.YtkcfhgflgkejoaaGreatDoor
set_option maxRecDepth 100000

/-- a tree within a span whose parent is not is one of the span's. -/
theorem span_max {b : Nat} (hb : b ≤ 4611686018427387904) {h k : Nat} : ∀ f a, b - a ≤ f → a ≤ k * 2 ^ h → (k + 1) * 2 ^ h ≤ b → ¬ (a ≤ k / 2 * 2 ^ (h + 1) ∧ (k / 2 + 1) * 2 ^ (h + 1) ≤ b) → (h, k) ∈ SPAN a b := by
  intro f
  have hp := Nat.two_pow_pos h
  have hs := succ_pow k h
  induction f with
  | zero => intro a hf h1 h2 _; omega
  | succ f ih =>
    intro a hf h1 h2 h3
    have hab : a < b := by omega
    obtain ⟨g1, g2, g3⟩ := HT_spec hab hb
    rw [SPAN_step hab]
    generalize HT a b = H at *
    have hu := pow_up h
    rcases Nat.eq_or_lt_of_le h1 with e | e
    · have hF : Fit a h b := ⟨by rw [e]; exact Nat.mul_mod_left _ _, by omega⟩
      have hle : h ≤ H := by
        rcases Nat.lt_or_ge H h with c | c
        · exact absurd (hF.le (H + 1) (by omega)) g3
        · exact c
      rcases Nat.eq_or_lt_of_le hle with e2 | e2
      · subst e2
        rw [e, Nat.mul_div_cancel _ hp]
        exact List.mem_cons_self
      · exfalso
        have hG := g2.le (h + 1) (by omega)
        have hk : k % 2 = 0 := even_up.1 (by rw [← e]; exact hG.1)
        have hk2 : k / 2 * 2 ^ (h + 1) = k * 2 ^ h := by
          rw [hu, ← Nat.mul_assoc, show k / 2 * 2 = k by omega]
        refine h3 ⟨by omega, ?_⟩
        rw [succ_pow, hk2]
        have := hG.2
        omega
    · refine List.mem_cons_of_mem _ (ih (a + 2 ^ H) (by have := Nat.two_pow_pos H; omega) ?_ h2 (fun ⟨x, y⟩ => h3 ⟨by omega, y⟩))
      rcases Nat.lt_or_ge (k * 2 ^ h) (a + 2 ^ H) with lt | ge
      · exfalso
        rcases Nat.lt_or_ge h H with c | c
        · obtain ⟨q, hq⟩ : 2 ^ (h + 1) ∣ 2 ^ H := Nat.pow_dvd_pow 2 c
          obtain ⟨A, hA⟩ : 2 ^ (h + 1) ∣ a := Nat.dvd_trans ⟨q, hq⟩ (Nat.dvd_of_mod_eq_zero g2.1)
          have e1 : 2 ^ h * (2 * A) < 2 ^ h * k := by
            rw [← Nat.mul_assoc, Nat.mul_comm (2 ^ h) 2, ← hu, ← hA, Nat.mul_comm (2 ^ h) k]
            exact e
          have e2 : 2 ^ h * k < 2 ^ h * (2 * (A + q)) := by
            rw [← Nat.mul_assoc, Nat.mul_comm (2 ^ h) 2, ← hu, Nat.mul_add, ← hA, ← hq, Nat.mul_comm (2 ^ h) k]
            exact lt
          have e3 := Nat.lt_of_mul_lt_mul_left e1
          have e4 := Nat.lt_of_mul_lt_mul_left e2
          refine h3 ⟨?_, ?_⟩
          · rw [hA, Nat.mul_comm]
            exact Nat.mul_le_mul_right _ (by omega)
          · have : (k / 2 + 1) * 2 ^ (h + 1) ≤ (A + q) * 2 ^ (h + 1) := Nat.mul_le_mul_right _ (by omega)
            rw [Nat.mul_comm (A + q), Nat.mul_add, ← hA, ← hq] at this
            have := g2.2
            omega
        · obtain ⟨q, hq⟩ : 2 ^ H ∣ 2 ^ h := Nat.pow_dvd_pow 2 c
          obtain ⟨A, hA⟩ : 2 ^ H ∣ a := Nat.dvd_of_mod_eq_zero g2.1
          have hx : k * 2 ^ h = 2 ^ H * (k * q) := by rw [hq, Nat.mul_left_comm]
          rw [hx] at e lt
          rw [hA] at e
          have e1 := Nat.lt_of_mul_lt_mul_left e
          rw [hA] at lt
          have e2 : 2 ^ H * (k * q) < 2 ^ H * (A + 1) := by rw [Nat.mul_add, Nat.mul_one]; exact lt
          have e3 := Nat.lt_of_mul_lt_mul_left e2
          omega
      · exact ge
/-- the hash of a spot by halves, down to the spots of a list. -/
def VH (d : Int) (ss : List (Nat × Nat)) (l : List Int) : Nat → Nat → List Int
  | 0, k => HAND ss l ss.length 0 k
  | h + 1, k => if (h + 1, k) ∈ ss then HAND ss l ss.length (h + 1) k else NODEH d (VH d ss l h (2 * k)) (VH d ss l h (2 * k + 1))
theorem VH_in {d : Int} {ss : List (Nat × Nat)} {l : List Int} {h k : Nat} (hm : (h, k) ∈ ss) : VH d ss l h k = HAND ss l ss.length h k := by
  cases h with
  | zero => rfl
  | succ h => rw [VH, if_pos hm]
theorem VH_off {d : Int} {ss : List (Nat × Nat)} {l : List Int} {h k : Nat} (hm : (h + 1, k) ∉ ss) : VH d ss l (h + 1) k = NODEH d (VH d ss l h (2 * k)) (VH d ss l h (2 * k + 1)) := by rw [VH, if_neg hm]
theorem VH_is {d : Int} {ss : List (Nat × Nat)} {l : List Int} {n : Nat} (hl : l.length = 32 * n) (hr : ∀ x ∈ l, 0 ≤ x ∧ x ≤ 255) (hn : ss.length ≤ n) : ∀ h k, IsH (VH d ss l h k)
  | 0, k => HAND_is hl hr _ hn 0 k
  | h + 1, k => by
    rw [VH]
    split
    · exact HAND_is hl hr _ hn _ k
    · exact NODEH_is _ _ _
/-- where a tree stands whose parent is neither among the first F leaves nor among the rest: it is one of the list, or over the seam. -/
theorem node_case {F S t h k : Nat} (hS : S ≤ 4611686018427387904) (hL : LOWS F t) (hh : h ≤ 62) (he : (k + 1) * 2 ^ h ≤ S) (h1 : F < (k / 2 + 1) * 2 ^ (h + 1)) (h2 : ¬ (F ≤ k / 2 * 2 ^ (h + 1) ∧ (k / 2 + 1) * 2 ^ (h + 1) ≤ S)) (hFS : F ≤ S) : (h, k) ∈ PXS F S ∨ (t < h ∧ k = F / 2 ^ h) := by
  rcases Nat.lt_or_ge F ((k + 1) * 2 ^ h) with c1 | c1
  · rcases Nat.lt_or_ge (k * 2 ^ h) F with c2 | c2
    · right
      have hk : k = F / 2 ^ h := (Nat.div_eq_of_lt_le (by omega) c1).symm
      refine ⟨?_, hk⟩
      rcases Nat.lt_or_ge t h with c | c
      · exact c
      · exfalso
        have hm := (hL.2.2 h (by omega)).2 c
        have := Nat.div_add_mod F (2 ^ h)
        rw [hm, Nat.mul_comm, ← hk] at this
        omega
    · left
      exact List.mem_append_right _ (span_max hS _ F (Nat.le_refl _) c2 he h2)
  · left
    exact List.mem_append_left _ (span_max (by omega) _ 0 (Nat.le_refl _) (Nat.zero_le _) c1 (fun h => by omega))
/-- what lies over the seam is none of the list. -/
theorem seam_off {F S x y : Nat} (hFS : F ≤ S) (hS : S ≤ 4611686018427387904) (h1 : y * 2 ^ x < F) (h2 : F < (y + 1) * 2 ^ x) : (x, y) ∉ PXS F S := by
  intro hm
  rcases List.mem_append.1 hm with hm | hm
  · have := ((tile_span (b := F) (by omega) (Nat.zero_le _)).within _ hm).2.1
    dsimp only at this
    omega
  · have := ((tile_span hS hFS).within _ hm).1
    dsimp only at this
    omega
theorem join_seam {F t x : Nat} (hL : LOWS F t) (hx : t < x) (hx2 : x ≤ 64) : F / 2 ^ x * 2 ^ x < F ∧ F < (F / 2 ^ x + 1) * 2 ^ x := by
  obtain ⟨a, b⟩ := pow_split F x
  refine ⟨?_, b⟩
  rcases Nat.eq_or_lt_of_le a with e | e
  · exfalso
    have hm : F % 2 ^ x = 0 := by rw [← e]; exact Nat.mul_mod_left _ _
    have := (hL.2.2 x hx2).1 hm
    omega
  · exact e
theorem JF_at {n k : Nat} : ∀ f h i, i < f → (∀ j, j ≤ i → (n / 2 ^ (h + j) + 1) * 2 ^ (h + j) ≤ n + k) → (JF n k f h)[i]? = some (h + i, n / 2 ^ (h + i)) := by
  intro f
  induction f with
  | zero => intro h i hi _; omega
  | succ f ih =>
    intro h i hi hj
    have h0 : (n / 2 ^ h + 1) * 2 ^ h ≤ n + k := hj 0 (Nat.zero_le _)
    rw [JF, if_pos h0]
    cases i with
    | zero => simp
    | succ i =>
      rw [List.getElem?_cons_succ, ih (h + 1) i (by omega) (fun j hj' => by have := hj (j + 1) (by omega); rw [show h + (j + 1) = h + 1 + j by omega] at this; exact this)]
      rw [show h + 1 + i = h + (i + 1) by omega]
theorem seam_up (F : Nat) {x h : Nat} (hx : x ≤ h) : (F / 2 ^ x + 1) * 2 ^ x ≤ (F / 2 ^ h + 1) * 2 ^ h := by
  have b := (pow_split F h).2
  have e : 2 ^ h = 2 ^ (h - x) * 2 ^ x := by rw [← Nat.pow_add]; congr 1; omega
  have hlt : F / 2 ^ x < (F / 2 ^ h + 1) * 2 ^ (h - x) := by
    rw [Nat.div_lt_iff_lt_mul (Nat.two_pow_pos x), Nat.mul_assoc, ← e]
    exact b
  calc (F / 2 ^ x + 1) * 2 ^ x ≤ ((F / 2 ^ h + 1) * 2 ^ (h - x)) * 2 ^ x := Nat.mul_le_mul_right _ hlt
    _ = (F / 2 ^ h + 1) * 2 ^ h := by rw [Nat.mul_assoc, ← e]
/-- the joins, as chapter 4 has them. -/
abbrev JSX (F S t : Nat) : List (Nat × Nat) := JF F (S - F) (62 - t) (t + 1)
theorem JSX_at {F S t i x y : Nat} (hFS : F ≤ S) (hL : LOWS F t) (e : (JSX F S t)[i]? = some (x, y)) : x = t + 1 + i ∧ y = F / 2 ^ x ∧ (y + 1) * 2 ^ x ≤ S ∧ y * 2 ^ x < F ∧ F < (y + 1) * 2 ^ x ∧ x ≤ 62 := by
  obtain ⟨h1, h2, h3, h4⟩ := join_at e
  have hx : x ≤ 62 := by omega
  have := join_seam hL (show t < x by omega) (by omega)
  rw [← h2] at this
  exact ⟨h1, h2, by omega, this.1, this.2, hx⟩
theorem getD_some {α : Type} {l : List α} {i : Nat} {x d : α} (e : l[i]? = some x) : l.getD i d = x := by rw [List.getD_eq_getElem?_getD, e]; rfl
/-- a spot of the list keeps its hash. -/
theorem JQ_row {d : Int} {F S t : Nat} (hFS : F ≤ S) (hS : S ≤ 4611686018427387904) (hL : LOWS F t) (M : Nat → Nat → List Int) {h k : Nat} (hm : (h, k) ∈ PXS F S) : ∀ T, T ≤ (JSX F S t).length → JQ d (JSX F S t) M T h k = M h k
  | 0, _ => rfl
  | T + 1, hT => by
    obtain ⟨⟨x, y⟩, e⟩ : ∃ s, (JSX F S t)[T]? = some s := ⟨_, List.getElem?_eq_getElem (by omega)⟩
    obtain ⟨_, _, _, c1, c2, _⟩ := JSX_at hFS hL e
    rw [JQ, getD_some e, MPUT_other]
    · exact JQ_row hFS hS hL M hm T (by omega)
    · rintro ⟨e1, e2⟩
      dsimp only at e1 e2
      subst e1 e2
      exact seam_off hFS hS c1 c2 hm
/-- a join has the hash by halves. -/
theorem JQ_join {d : Int} {F S t : Nat} (hFS : F ≤ S) (hS : S ≤ 4611686018427387904) (hL : LOWS F t) (l : List Int) : ∀ T, T ≤ (JSX F S t).length → ∀ i x y, i < T → (JSX F S t)[i]? = some (x, y) → JQ d (JSX F S t) (HAND (PXS F S) l (PXS F S).length) T x y = VH d (PXS F S) l x y
  | 0, _ => fun i x y hi _ => by omega
  | T + 1, hT => fun i x y hi e => by
    obtain ⟨⟨a, b⟩, eT⟩ : ∃ s, (JSX F S t)[T]? = some s := ⟨_, List.getElem?_eq_getElem (by omega)⟩
    obtain ⟨q1, q2, q3, q4, q5, q6⟩ := JSX_at hFS hL eT
    obtain ⟨p1, p2, p3, p4, p5, p6⟩ := JSX_at hFS hL e
    rw [JQ, getD_some eT]
    by_cases hiT : i = T
    · subst hiT
      obtain ⟨rfl, rfl⟩ : a = x ∧ b = y := by
        have := eT.symm.trans e
        simpa using this
      rw [MPUT_at]
      dsimp only
      obtain ⟨a', rfl⟩ : ∃ a', a = a' + 1 := ⟨a - 1, by omega⟩
      rw [VH_off (seam_off hFS hS q4 q5), Nat.add_sub_cancel]
      have kid : ∀ K, K / 2 = b → (K + 1) * 2 ^ a' ≤ (b + 1) * 2 ^ (a' + 1) → JQ d (JSX F S t) (HAND (PXS F S) l (PXS F S).length) i a' K = VH d (PXS F S) l a' K := fun K hK hKe => by
        rcases node_case (k := K) hS hL (show a' ≤ 62 by omega) (by omega) (by rw [hK]; exact q5) (by rw [hK]; omega) hFS with hm | ⟨hm, hk⟩
        · rw [JQ_row hFS hS hL _ hm i (by omega), VH_in hm]
        · obtain ⟨i', rfl⟩ : ∃ i', i = i' + 1 := ⟨i - 1, by omega⟩
          obtain ⟨⟨u, v⟩, eU⟩ : ∃ s, (JSX F S t)[i']? = some s := ⟨_, List.getElem?_eq_getElem (by omega)⟩
          obtain ⟨r1, r2, _⟩ := JSX_at hFS hL eU
          obtain rfl : u = a' := by omega
          rw [hk, ← r2]
          exact JQ_join hFS hS hL l (i' + 1) (by omega) i' u v (by omega) eU
      have hu := pow_up a'
      rw [kid (2 * b) (by omega) ?_, kid (2 * b + 1) (by omega) ?_]
      · rw [hu, ← Nat.mul_assoc]
        exact Nat.mul_le_mul_right _ (by omega)
      · rw [hu, ← Nat.mul_assoc]
        exact Nat.mul_le_mul_right _ (by omega)
    · rw [MPUT_other]
      · exact JQ_join hFS hS hL l T (by omega) i x y (by omega) e
      · rintro ⟨e1, e2⟩
        dsimp only at e1
        omega
/-- the peaks of all leaves, by halves. -/
theorem RCM_peak {d : Int} {F S t : Nat} (hFS : F ≤ S) (hS : S ≤ 4611686018427387904) (hL : LOWS F t) (l : List Int) {h k : Nat} (hm : (h, k) ∈ SPAN 0 S) : RCM d (JSX F S t) F S l h k = VH d (PXS F S) l h k := by
  obtain ⟨i, hi⟩ := List.mem_iff_getElem?.1 hm
  have hN := (tile_span hS (Nat.zero_le _)).within _ hm
  dsimp only at hN
  have hi2 : i < PC S := by
    rw [← SPAN_zero_length hS]
    exact (List.getElem?_eq_some_iff.1 hi).1
  have hat := SPAN_zero_at hS hi2
  rw [hi] at hat
  simp only [Option.some.injEq, Prod.mk.injEq] at hat
  have hpar : S < (k / 2 + 1) * 2 ^ (h + 1) := by
    rcases Nat.lt_or_ge S ((k / 2 + 1) * 2 ^ (h + 1)) with c | c
    · exact c
    · exfalso
      have h1 := node_lt c
      have h2 := PEAK_parent (n := S) (i := i)
      rw [← hat.1, ← hat.2] at h2
      omega
  unfold RCM
  rcases node_case hS hL hN.2.2.1 hN.2.1 (by omega) (fun ⟨_, h⟩ => by omega) hFS with hr | ⟨ht, hk⟩
  · rw [JQ_row hFS hS hL _ hr _ (Nat.le_refl _), VH_in hr]
  · have hle := hN.2.1
    have hN2 := hN.2.2.1
    have e : (JSX F S t)[h - t - 1]? = some (h, k) := by
      have := JF_at (n := F) (k := S - F) (62 - t) (t + 1) (h - t - 1) (by omega) (fun j hj => by
        have := seam_up F (show t + 1 + j ≤ h by omega)
        rw [← hk] at this
        omega)
      rw [show t + 1 + (h - t - 1) = h by omega, ← hk] at this
      exact this
    exact JQ_join hFS hS hL l _ (Nat.le_refl _) _ h k (List.getElem?_eq_some_iff.1 e).1 e
/-- spots over leaves, none of them across m, are cut at m. -/
theorem tile_cut {l : List (Nat × Nat)} : ∀ {a m c : Nat}, Tile a l c → a ≤ m → m ≤ c → (∀ s ∈ l, (s.2 + 1) * 2 ^ s.1 ≤ m ∨ m ≤ s.2 * 2 ^ s.1) → ∃ i, i ≤ l.length ∧ Tile a (l.take i) m ∧ Tile m (l.drop i) c := by
  induction l with
  | nil =>
    intro a m c h h1 h2 _
    have e : a = c := h
    obtain rfl : a = m := by omega
    exact ⟨0, Nat.le_refl _, rfl, h⟩
  | cons s l ih =>
    intro a m c h h1 h2 hs
    by_cases e : a = m
    · subst e
      exact ⟨0, Nat.zero_le _, rfl, h⟩
    · obtain ⟨q1, q2, q3⟩ := h
      have hend : (s.2 + 1) * 2 ^ s.1 ≤ m := by
        rcases hs s List.mem_cons_self with h | h
        · exact h
        · omega
      obtain ⟨i, i1, i2, i3⟩ := ih q3 hend h2 (fun x hx => hs x (List.mem_cons_of_mem _ hx))
      exact ⟨i + 1, Nat.succ_le_succ i1, ⟨q1, q2, i2⟩, i3⟩
/-- what lies over a spot, and is not that spot, lies over its halves. -/
theorem tile_half {l : List (Nat × Nat)} {h k : Nat} (ht : Tile (k * 2 ^ (h + 1)) l ((k + 1) * 2 ^ (h + 1))) (h0 : l[0]? ≠ some (h + 1, k)) : ∃ i, i ≤ l.length ∧ Tile (2 * k * 2 ^ h) (l.take i) ((2 * k + 1) * 2 ^ h) ∧ Tile ((2 * k + 1) * 2 ^ h) (l.drop i) ((2 * k + 1 + 1) * 2 ^ h) := by
  have hu := pow_up h
  have hp := Nat.two_pow_pos h
  have ea : k * 2 ^ (h + 1) = 2 * k * 2 ^ h := by rw [hu, ← Nat.mul_assoc, Nat.mul_comm k 2]
  have ec : (k + 1) * 2 ^ (h + 1) = (2 * k + 1 + 1) * 2 ^ h := by rw [hu, ← Nat.mul_assoc]; congr 1; omega
  have em := succ_pow (2 * k) h
  have en := succ_pow (2 * k + 1) h
  refine (tile_cut (m := (2 * k + 1) * 2 ^ h) ht (by omega) (by omega) (fun s hs => ?_)).imp fun i hi => ⟨hi.1, by rw [← ea]; exact hi.2.1, by rw [← ec]; exact hi.2.2⟩
  obtain ⟨w1, w2, w3⟩ := ht.within s hs
  obtain ⟨x, y⟩ := s
  dsimp only at *
  rcases Nat.lt_or_ge ((2 * k + 1) * 2 ^ h) ((y + 1) * 2 ^ x) with c1 | c1
  · rcases Nat.lt_or_ge (y * 2 ^ x) ((2 * k + 1) * 2 ^ h) with c2 | c2
    · exfalso
      rcases Nat.lt_or_ge h x with c | c
      · obtain ⟨q, hq⟩ : 2 ^ (h + 1) ∣ 2 ^ x := Nat.pow_dvd_pow 2 c
        have hsx := succ_pow y x
        have hq1 : 1 ≤ q := by
          rcases Nat.eq_zero_or_pos q with e | e
          · subst e
            have := Nat.two_pow_pos x
            omega
          · exact e
        have hle : 2 ^ (h + 1) ≤ 2 ^ x := Nat.pow_le_pow_right (by decide) c
        have hk1 := succ_pow k (h + 1)
        have hx : 2 ^ x = 2 ^ (h + 1) := by omega
        obtain rfl : x = h + 1 := (Nat.pow_right_inj (by decide)).1 hx
        have hy : y * 2 ^ (h + 1) = k * 2 ^ (h + 1) := by omega
        obtain rfl : y = k := Nat.eq_of_mul_eq_mul_right (Nat.two_pow_pos _) hy
        cases l with
        | nil => simp at hs
        | cons s l =>
          rcases List.mem_cons.1 hs with e | e
          · exact h0 (by rw [← e]; rfl)
          · have := (ht.2.2.within _ e).1
            dsimp only at this
            have hb := ht.2.1
            have := succ_pow s.2 s.1
            have := Nat.two_pow_pos s.1
            omega
      · obtain ⟨q, hq⟩ : 2 ^ x ∣ 2 ^ h := Nat.pow_dvd_pow 2 c
        have hx : (2 * k + 1) * 2 ^ h = 2 ^ x * ((2 * k + 1) * q) := by rw [hq, Nat.mul_left_comm]
        rw [hx, Nat.mul_comm] at c1
        rw [hx, Nat.mul_comm y] at c2
        have c1' : 2 ^ x * ((2 * k + 1) * q) < 2 ^ x * (y + 1) := by rw [Nat.mul_comm (2 ^ x) (y + 1), Nat.mul_comm (2 ^ x)]; exact c1
        have e1 := Nat.lt_of_mul_lt_mul_left c1'
        have e2 := Nat.lt_of_mul_lt_mul_left c2
        omega
    · exact .inr c2
  · exact .inl c1
end Go.Proofs.YtkcfhgflgkejoaaGreatDoor

/- Laws of one operation, at a step of a region that draws its order. -/
namespace Go.Proofs.YtkcfhgflgkejoaaGreatDoor
open Go.RowKit
set_option maxRecDepth 100000

theorem wp_both {P : Program} {o : Oper} {a : Act} {w : World} {K K' : Act → World → Prop} {Q Q' : Exit → Act → World → Prop} (h : ∀ a w, K a w → K' a w) (hq : ∀ c a w, Q (.panic c) a w → Q' (.panic c) a w) (hl : LetsOut Q → LetsOut Q') (hh : o.wp P a w K Q) : o.wp P a w K' Q' := by
  unfold Oper.wp at *
  generalize (execOp a.eval o).run P w = r at *
  cases r with
  | ok n w' =>
    cases n <;> simp only [Oper.upon] at hh ⊢ <;>
      first
        | exact h _ _ hh
        | exact Calls.mono hh (fun e w'' he => by cases e <;> first | exact h _ _ he | exact hq _ _ _ he | exact hl he)
        | exact Rows.mono hh (fun _ _ he => h _ _ he)
  | halt x w' => cases x <;> simp only [Oper.upon] at hh ⊢ <;> first | exact hq _ _ _ hh | exact hh
/-- a law of one operation in a row serves at a step. -/
theorem step_of_list {P : Program} {ops : Array Oper} {o : Oper} {a : Act} {w : World} {K : Act → World → Prop} {Q : Exit → Act → World → Prop} {E : Prop} (hw : Region.wanted o (yielded ops a.tmps) = true)
    (h : wpList P ops (fun e a w => e = Exit.normal ∧ K a w) [o] a w) : if Region.wanted o (yielded ops a.tmps) = true then Oper.wp P o a w K Q else E := by
  rw [if_pos hw]
  unfold wpList at h
  rw [if_pos hw] at h
  rcases h with h | ⟨_, a', w', h', _⟩
  · exact wp_both (fun a w h => by unfold wpList at h; exact h.2) (fun c a w h => by cases h.1) (fun h => by obtain ⟨_, _, h, _⟩ := h; cases h) h
  · cases h'
end Go.Proofs.YtkcfhgflgkejoaaGreatDoor

/- The regions of massifref8.Climb that draw their order. -/
namespace Go.Proofs.YtkcfhgflgkejoaaGreatDoor
open Go.RowKit
set_option maxRecDepth 100000

end Go.Proofs.YtkcfhgflgkejoaaGreatDoor
