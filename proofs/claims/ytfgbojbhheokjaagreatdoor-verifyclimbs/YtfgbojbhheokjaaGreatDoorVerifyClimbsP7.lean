/- Texts of VerifyClimbs, one behind the other: NumShortCalls, CutPlain, PosCoversPlain, CutTopsPlain. -/
import Derived.Test.YtfgbojbhheokjaaGreatDoorVerifyClimbsP4
import Derived.Test.YtfgbojbhheokjaaGreatDoorVerifyClimbsP6
/- What Short of package num answers. -/
namespace Go.Proofs.YtfgbojbhheokjaaGreatDoor
open Go.RowKit

/-- the j lowest groups of 7 bits, 128 added to each. -/
def GROUPS (X j : Nat) : List Int := (List.range j).map fun i => ((X / 128 ^ i % 128 + 128 : Nat) : Int)
theorem GROUPS_succ (X j : Nat) : GROUPS X (j + 1) = GROUPS X j ++ [((X / 128 ^ j % 128 + 128 : Nat) : Int)] := by simp [GROUPS, List.range_succ]
theorem GROUPS_length (X j : Nat) : (GROUPS X j).length = j := by simp [GROUPS]
/-- how many groups but the last one X has. -/
def TOPG (X : Nat) : Nat → Nat
  | 0 => 0
  | k + 1 => if X < 128 then 0 else TOPG (X / 128) k + 1
def NTOP (X : Nat) : Nat := TOPG X 9
/-- X in groups of 7 bits, the lowest first. -/
def SHORT (X : Nat) : List Int := GROUPS X (NTOP X) ++ [((X / 128 ^ NTOP X : Nat) : Int)]
theorem SHORT_length (X : Nat) : (SHORT X).length = NTOP X + 1 := by simp [SHORT, GROUPS_length]
theorem TOPG_le : ∀ (k X : Nat), TOPG X k ≤ k
  | 0, _ => Nat.le_refl _
  | k + 1, X => by
    unfold TOPG
    split
    · omega
    · have := TOPG_le k (X / 128)
      omega
theorem TOPG_below : ∀ (k X j : Nat), j < TOPG X k → 128 ≤ X / 128 ^ j
  | 0, _, _, h => by simp [TOPG] at h
  | k + 1, X, j, h => by
    unfold TOPG at h
    split at h
    · omega
    · cases j with
      | zero => simp; omega
      | succ j =>
        have := TOPG_below k (X / 128) j (by omega)
        rw [Nat.div_div_eq_div_mul, Nat.mul_comm, ← Nat.pow_succ] at this
        exact this
theorem TOPG_at : ∀ (k X : Nat), X < 128 ^ (k + 1) → X / 128 ^ TOPG X k < 128
  | 0, X, h => by simpa [TOPG] using h
  | k + 1, X, h => by
    unfold TOPG
    split
    · simpa using ‹X < 128›
    · have := TOPG_at k (X / 128) (by rw [Nat.pow_succ] at h; exact Nat.div_lt_of_lt_mul (by omega))
      rw [Nat.div_div_eq_div_mul, Nat.mul_comm, ← Nat.pow_succ] at this
      exact this
theorem NTOP_le (X : Nat) : NTOP X ≤ 9 := TOPG_le 9 X
theorem NTOP_at {X : Nat} (hX : X < 2 ^ 64) : X / 128 ^ NTOP X < 128 := TOPG_at 9 X (Nat.lt_of_lt_of_le hX (by decide))
theorem NTOP_eq {X : Nat} (hX : X < 2 ^ 64) {j : Nat} (hj : ∀ i, i < j → 128 ≤ X / 128 ^ i) (h : X / 128 ^ j < 128) : NTOP X = j := by
  rcases Nat.lt_trichotomy (NTOP X) j with h1 | h1 | h1
  · have := hj _ h1
    have := NTOP_at hX
    omega
  · exact h1
  · have := TOPG_below 9 X j h1
    omega
theorem div_anti (X : Nat) {i j : Nat} (h : i ≤ j) : X / 128 ^ j ≤ X / 128 ^ i := Nat.div_le_div_left (Nat.pow_le_pow_right (by decide) h) (Nat.pow_pos (by decide))
theorem GROUPS_range (X j : Nat) : ∀ x ∈ GROUPS X j, 0 ≤ x ∧ x ≤ 255 := fun x hx => by
  simp only [GROUPS, List.mem_map] at hx
  obtain ⟨i, _, rfl⟩ := hx
  omega
theorem SHORT_range {X : Nat} (hX : X < 2 ^ 64) : ∀ x ∈ SHORT X, 0 ≤ x ∧ x ≤ 255 := fun x hx => by
  simp only [SHORT, List.mem_append, List.mem_singleton] at hx
  rcases hx with hx | rfl
  · exact GROUPS_range X _ x hx
  · have := NTOP_at hX
    generalize X / 128 ^ NTOP X = y at *
    omega

theorem one_bytes (w : World) (v : Int) (h0 : 0 ≤ v) (h1 : v ≤ 255) : Bytes (w.alloc (.cells #[.int .u8 v] 5)) (some ⟨w.heap.size, 0, none⟩) 1 [v] := by
  refine ⟨rfl, fun _ => ⟨w.heap.size, 0, rfl, by simp, fun i hi => ?_⟩, fun x hx => by simp at hx; omega⟩
  obtain rfl : i = 0 := by omega
  rw [Nat.zero_add, World.cell?_alloc_at _ _ _ _ rfl]
  rfl
theorem own_made (w : World) (base : Nat) (hb : base ≤ w.heap.size) (cur : Array Value) (cap : Nat) (hm : cap ≤ 1000) (hs : cur.size = cap) : (w.alloc (.cells cur 5)).ownsRow base 5 1 (.slice (some ⟨w.heap.size, 0, none⟩) 0 cap) 0 (CELLS []) :=
  World.ownsRow_made w cur cap hb (by simp only [maxLen]; omega) (by omega)

end Go.Proofs.YtfgbojbhheokjaaGreatDoor

/- Spans of leaves as perfect trees, in plain numbers. -/
namespace Go.Proofs.YtfgbojbhheokjaaGreatDoor

/-- a perfect tree of height h begins at a and does not reach beyond b. -/
abbrev Fit (a h b : Nat) : Prop := a % 2 ^ h = 0 ∧ a + 2 ^ h ≤ b
theorem Fit.down {a h b : Nat} (f : Fit a (h + 1) b) : Fit a h b := by
  have h1 : 2 ^ (h + 1) = 2 ^ h * 2 := Nat.pow_succ 2 h
  have h2 := f.2
  refine ⟨?_, by omega⟩
  have h3 := f.1
  have h4 : 2 ^ h ∣ 2 ^ (h + 1) := ⟨2, h1⟩
  exact Nat.mod_eq_zero_of_dvd (Nat.dvd_trans h4 (Nat.dvd_of_mod_eq_zero h3))
theorem Fit.le {a g b : Nat} : ∀ h, h ≤ g → Fit a g b → Fit a h b := by
  intro h hg f
  induction g with
  | zero => obtain rfl : h = 0 := by omega
            exact f
  | succ g ih =>
    rcases Nat.lt_or_ge h (g + 1) with h1 | h1
    · exact ih (by omega) f.down
    · obtain rfl : h = g + 1 := by omega
      exact f
theorem Fit.zero {a b : Nat} (h : a < b) : Fit a 0 b := ⟨Nat.mod_one a, by simp; omega⟩
/-- the greatest height up to f that fits. -/
def HTF : Nat → Nat → Nat → Nat
  | 0, _, _ => 0
  | f + 1, a, b => if Fit a (f + 1) b then f + 1 else HTF f a b
/-- the height of the greatest tree that begins at a and does not reach beyond b. -/
def HT (a b : Nat) : Nat := HTF 62 a b
theorem HTF_spec {a b : Nat} (hab : a < b) : ∀ f, ¬ Fit a (f + 1) b → HTF f a b ≤ f ∧ Fit a (HTF f a b) b ∧ ¬ Fit a (HTF f a b + 1) b := by
  intro f
  induction f with
  | zero => intro h; exact ⟨Nat.le_refl _, Fit.zero hab, h⟩
  | succ f ih =>
    intro h
    unfold HTF
    split
    · rename_i h1
      exact ⟨Nat.le_refl _, h1, h⟩
    · rename_i h1
      have := ih h1
      exact ⟨by omega, this.2⟩
theorem HT_spec {a b : Nat} (hab : a < b) (hb : b ≤ 4611686018427387904) : HT a b ≤ 62 ∧ Fit a (HT a b) b ∧ ¬ Fit a (HT a b + 1) b := by
  refine HTF_spec hab 62 ?_
  intro h
  have := h.2
  simp at this
  omega
theorem HT_only {a b h : Nat} (hab : a < b) (hb : b ≤ 4611686018427387904) (h1 : Fit a h b) (h2 : ¬ Fit a (h + 1) b) : h = HT a b := by
  obtain ⟨_, a1, a2⟩ := HT_spec hab hb
  rcases Nat.lt_trichotomy h (HT a b) with c | c | c
  · exact absurd (a1.le (h + 1) (by omega)) h2
  · exact c
  · exact absurd (h1.le (HT a b + 1) (by omega)) a2
def SPANF : Nat → Nat → Nat → List (Nat × Nat)
  | 0, _, _ => []
  | f + 1, a, b => if a < b then (HT a b, a / 2 ^ HT a b) :: SPANF f (a + 2 ^ HT a b) b else []
/-- the fewest spots over the leaves from a to b - 1. -/
def SPAN (a b : Nat) : List (Nat × Nat) := SPANF (b - a) a b
theorem SPANF_more : ∀ f g a b, b - a ≤ f → b - a ≤ g → SPANF f a b = SPANF g a b := by
  intro f
  induction f with
  | zero =>
    intro g a b h1 h2
    cases g with
    | zero => rfl
    | succ g => simp [SPANF]; omega
  | succ f ih =>
    intro g a b h1 h2
    cases g with
    | zero => simp [SPANF]; omega
    | succ g =>
      unfold SPANF
      have := Nat.two_pow_pos (HT a b)
      rw [ih g (a + 2 ^ HT a b) b (by omega) (by omega)]
theorem SPAN_end {a b : Nat} (h : b ≤ a) : SPAN a b = [] := by
  unfold SPAN
  rw [show b - a = 0 by omega]
  rfl
theorem SPAN_step {a b : Nat} (h : a < b) : SPAN a b = (HT a b, a / 2 ^ HT a b) :: SPAN (a + 2 ^ HT a b) b := by
  unfold SPAN
  obtain ⟨f, hf⟩ : ∃ f, b - a = f + 1 := ⟨b - a - 1, by omega⟩
  have := Nat.two_pow_pos (HT a b)
  rw [hf]
  show (if a < b then _ else _) = _
  rw [if_pos h]
  congr 1
  exact SPANF_more _ _ _ _ (by omega) (by omega)
/-- spots that lie over the leaves from a to b - 1, one behind the other. -/
def Tile : Nat → List (Nat × Nat) → Nat → Prop
  | a, [], b => a = b
  | a, s :: l, b => Node s.1 s.2 ∧ s.2 * 2 ^ s.1 = a ∧ Tile ((s.2 + 1) * 2 ^ s.1) l b
/-- two neighbours that are siblings. -/
abbrev Sibs (x y : Nat × Nat) : Prop := x.1 = y.1 ∧ x.2 % 2 = 0 ∧ y.2 = x.2 + 1
/-- no two neighbours are siblings. -/
def Irr : List (Nat × Nat) → Prop
  | [] => True
  | x :: l => (∀ y, l.head? = some y → ¬ Sibs x y) ∧ Irr l
theorem Fit.node {a h b : Nat} (f : Fit a h b) (hh : h ≤ 62) (hb : b ≤ 4611686018427387904) : Node h (a / 2 ^ h) ∧ a / 2 ^ h * 2 ^ h = a ∧ (a / 2 ^ h + 1) * 2 ^ h = a + 2 ^ h := by
  have h1 : a / 2 ^ h * 2 ^ h = a := Nat.div_mul_cancel (Nat.dvd_of_mod_eq_zero f.1)
  have h2 : (a / 2 ^ h + 1) * 2 ^ h = a + 2 ^ h := by rw [Nat.add_mul, Nat.one_mul, h1]
  refine ⟨⟨hh, ?_⟩, h1, h2⟩
  have h3 : (a / 2 ^ h + 1) * 2 ^ h ≤ 2 ^ (62 - h) * 2 ^ h := by
    rw [h2, ← Nat.pow_add, show 62 - h + h = 62 by omega]
    have := f.2
    simp
    omega
  exact Nat.le_of_mul_le_mul_right h3 (Nat.two_pow_pos h)
theorem pow_up (h : Nat) : 2 ^ (h + 1) = 2 * 2 ^ h := by rw [Nat.pow_succ, Nat.mul_comm]
theorem even_up {k h : Nat} : k * 2 ^ h % 2 ^ (h + 1) = 0 ↔ k % 2 = 0 := by
  rw [Nat.pow_succ, Nat.mul_comm (2 ^ h) 2, Nat.mul_mod_mul_right]
  have := Nat.two_pow_pos h
  constructor
  · intro e
    rcases Nat.mul_eq_zero.1 e with e | e
    · exact e
    · omega
  · intro e
    rw [e, Nat.zero_mul]
theorem Tile_span {b : Nat} (hb : b ≤ 4611686018427387904) : ∀ f a, b - a ≤ f → a ≤ b → Tile a (SPAN a b) b := by
  intro f
  induction f with
  | zero =>
    intro a h1 h2
    rw [SPAN_end (by omega)]
    exact (by omega : a = b)
  | succ f ih =>
    intro a h1 h2
    rcases Nat.lt_or_ge a b with h | h
    · obtain ⟨s1, s2, _⟩ := HT_spec h hb
      obtain ⟨n1, n2, n3⟩ := s2.node s1 hb
      rw [SPAN_step h]
      refine ⟨n1, n2, ?_⟩
      show Tile ((a / 2 ^ HT a b + 1) * 2 ^ HT a b) _ b
      rw [n3]
      have := Nat.two_pow_pos (HT a b)
      exact ih _ (by omega) s2.2
    · rw [SPAN_end h]
      exact (by omega : a = b)
theorem tile_span {a b : Nat} (hb : b ≤ 4611686018427387904) (h : a ≤ b) : Tile a (SPAN a b) b := Tile_span hb (b - a) a (Nat.le_refl _) h
theorem Tile.bound {l : List (Nat × Nat)} : ∀ {a b : Nat}, Tile a l b → a ≤ b ∧ (l ≠ [] → a < b ∧ b ≤ 4611686018427387904) := by
  induction l with
  | nil => intro a b h; exact ⟨by have : a = b := h; omega, fun h => absurd rfl h⟩
  | cons s l ih =>
    intro a b ⟨h1, h2, h3⟩
    have i := ih h3
    have := Nat.two_pow_pos s.1
    have e : (s.2 + 1) * 2 ^ s.1 = s.2 * 2 ^ s.1 + 2 ^ s.1 := by rw [Nat.add_mul, Nat.one_mul]
    refine ⟨by omega, fun _ => ⟨by omega, ?_⟩⟩
    cases l with
    | nil =>
      have h4 : (s.2 + 1) * 2 ^ s.1 = b := h3
      have := h1.span
      simp at this
      omega
    | cons t l => exact (i.2 (by simp)).2
theorem span_only {l : List (Nat × Nat)} : ∀ {a b : Nat}, Tile a l b → Irr l → l = SPAN a b := by
  induction l with
  | nil =>
    intro a b h _
    have : a = b := h
    rw [SPAN_end (by omega)]
  | cons s l ih =>
    intro a b ht hi
    obtain ⟨h1, h2, h3⟩ := ht
    obtain ⟨hab, hb⟩ := (Tile.bound (l := s :: l) ⟨h1, h2, h3⟩).2 (by simp)
    have e : (s.2 + 1) * 2 ^ s.1 = s.2 * 2 ^ s.1 + 2 ^ s.1 := by rw [Nat.add_mul, Nat.one_mul]
    have hl := ih h3 hi.2
    have hle := h3.bound.1
    have hpos := Nat.two_pow_pos s.1
    have hf : Fit a s.1 b := ⟨by rw [← h2]; exact Nat.mul_mod_left _ _, by omega⟩
    have hn : ¬ Fit a (s.1 + 1) b := by
      intro hf2
      have hk : s.2 % 2 = 0 := even_up.1 (by rw [h2]; exact hf2.1)
      have p2 := pow_up s.1
      have hf3 := hf2.2
      have hlt : (s.2 + 1) * 2 ^ s.1 < b := by omega
      have hF1 : Fit ((s.2 + 1) * 2 ^ s.1) s.1 b := ⟨Nat.mul_mod_left _ _, by omega⟩
      have hF2 : ¬ Fit ((s.2 + 1) * 2 ^ s.1) (s.1 + 1) b := by
        intro h
        have := even_up.1 h.1
        omega
      have hH := HT_only hlt hb hF1 hF2
      rw [SPAN_step hlt, ← hH, Nat.mul_div_cancel _ hpos] at hl
      refine hi.1 (s.1, s.2 + 1) (by rw [hl]; rfl) ⟨rfl, hk, rfl⟩
    have hH := HT_only hab hb hf hn
    rw [SPAN_step hab, ← hH, hl]
    congr 1
    · rw [← h2, Nat.mul_div_cancel _ hpos]
    · rw [e, h2]
theorem Irr_span {b : Nat} (hb : b ≤ 4611686018427387904) : ∀ f a, b - a ≤ f → Irr (SPAN a b) := by
  intro f
  induction f with
  | zero =>
    intro a h1
    rw [SPAN_end (by omega)]
    trivial
  | succ f ih =>
    intro a h1
    rcases Nat.lt_or_ge a b with h | h
    · obtain ⟨s1, s2, s3⟩ := HT_spec h hb
      obtain ⟨n1, n2, n3⟩ := s2.node s1 hb
      have hp := Nat.two_pow_pos (HT a b)
      rw [SPAN_step h]
      refine ⟨?_, ih _ (by omega)⟩
      intro y hy ⟨y1, y2, y3⟩
      rcases Nat.lt_or_ge (a + 2 ^ HT a b) b with h2 | h2
      · rw [SPAN_step h2] at hy
        simp at hy
        subst hy
        obtain ⟨t1, t2, t3⟩ := HT_spec h2 hb
        dsimp only at y1 y2 y3
        apply s3
        refine ⟨?_, ?_⟩
        · have := even_up (h := HT a b).2 y2
          rw [n2] at this
          exact this
        · have := t2.2
          rw [← y1] at this
          rw [pow_up]
          omega
      · rw [SPAN_end h2] at hy
        simp at hy
    · rw [SPAN_end h]
      trivial
theorem irr_span {a b : Nat} (hb : b ≤ 4611686018427387904) : Irr (SPAN a b) := Irr_span hb (b - a) a (Nat.le_refl _)
theorem Tile.append {l m : List (Nat × Nat)} : ∀ {a b c : Nat}, Tile a l b → Tile b m c → Tile a (l ++ m) c := by
  induction l with
  | nil => intro a b c h h2; have : a = b := h; rw [this]; exact h2
  | cons s l ih => intro a b c ⟨h1, h2, h3⟩ h4; exact ⟨h1, h2, ih h3 h4⟩
theorem Tile.node {l : List (Nat × Nat)} : ∀ {a b i h k : Nat}, Tile a l b → l[i]? = some (h, k) → Node h k := by
  induction l with
  | nil => intro a b i h k _ e; simp at e
  | cons s l ih =>
    intro a b i h k ⟨h1, h2, h3⟩ e
    cases i with
    | zero => simp at e; subst e; exact h1
    | succ i => exact ih h3 (by simpa using e)
theorem Tile.split {l m : List (Nat × Nat)} : ∀ {a c : Nat}, Tile a (l ++ m) c → ∃ b, Tile a l b ∧ Tile b m c := by
  induction l with
  | nil => intro a c h; exact ⟨a, rfl, h⟩
  | cons s l ih =>
    intro a c ⟨h1, h2, h3⟩
    obtain ⟨b, h4, h5⟩ := ih h3
    exact ⟨b, ⟨h1, h2, h4⟩, h5⟩
theorem Tile.one {s : Nat × Nat} {a b : Nat} : Tile a [s] b ↔ Node s.1 s.2 ∧ s.2 * 2 ^ s.1 = a ∧ (s.2 + 1) * 2 ^ s.1 = b := Iff.rfl
theorem Irr.snoc {l : List (Nat × Nat)} {x : Nat × Nat} (hi : Irr l) (hx : ∀ y, l.getLast? = some y → ¬ Sibs y x) : Irr (l ++ [x]) := by
  induction l with
  | nil => exact ⟨by simp, trivial⟩
  | cons s l ih =>
    refine ⟨?_, ih hi.2 ?_⟩
    · intro y hy
      cases l with
      | nil =>
        simp at hy
        subst hy
        exact hx s (by simp)
      | cons t l => exact hi.1 y (by simpa using hy)
    · intro y hy
      cases l with
      | nil => simp at hy
      | cons t l => exact hx y (by rw [List.getLast?_cons_cons]; exact hy)
theorem Irr.init {l m : List (Nat × Nat)} (hi : Irr (l ++ m)) : Irr l := by
  induction l with
  | nil => trivial
  | cons s l ih =>
    refine ⟨fun y hy => hi.1 y ?_, ih hi.2⟩
    cases l with
    | nil => simp at hy
    | cons t l => simpa using hy
/-- two siblings become their parent. -/
theorem Tile.pair {h k a b : Nat} (hh : Tile a [(h, k), (h, k + 1)] b) (hk : k % 2 = 0) : h < 62 ∧ Tile a [(h + 1, k / 2)] b := by
  obtain ⟨h1, h2, h3, h4, h5⟩ := hh
  dsimp only at h1 h2 h3 h4 h5
  have h5' : (k + 1 + 1) * 2 ^ h = b := h5
  have hlt : h < 62 := by
    rcases Nat.lt_or_ge h 62 with c | c
    · exact c
    · have := h3.2
      rw [show 62 - h = 0 by omega] at this
      omega
  refine ⟨hlt, h1.up hlt, ?_, ?_⟩
  · show k / 2 * 2 ^ (h + 1) = a
    rw [← double_pow, show 2 * (k / 2) = k by omega, h2]
  · show (k / 2 + 1) * 2 ^ (h + 1) = b
    rw [← double_pow, show 2 * (k / 2 + 1) = k + 1 + 1 by omega, h5']
/-- a spot is broken into its kids. -/
theorem Tile.kids {h k a b : Nat} (hh : Tile a [(h + 1, k)] b) : Tile a [(h, 2 * k), (h, 2 * k + 1)] b := by
  obtain ⟨h1, h2, h3⟩ := hh
  dsimp only at h1 h2 h3
  have h3' : (k + 1) * 2 ^ (h + 1) = b := h3
  have e1 := h1.1
  have e2 := h1.2
  have e : 2 ^ (62 - h) = 2 ^ (62 - (h + 1)) * 2 := by rw [← Nat.pow_succ]; congr 1; omega
  refine ⟨⟨by show h ≤ 62; omega, by show 2 * k < _; rw [e]; omega⟩, ?_, ⟨by show h ≤ 62; omega, by show 2 * k + 1 < _; rw [e]; omega⟩, rfl, ?_⟩
  · show 2 * k * 2 ^ h = a
    rw [double_pow, h2]
  · show (2 * k + 1 + 1) * 2 ^ h = b
    rw [show 2 * k + 1 + 1 = 2 * (k + 1) by omega, double_pow, h3']
theorem SPAN_down {b : Nat} : ∀ g f a, b - a ≤ f → a % 2 ^ g = 0 → b - a < 2 ^ g → b ≤ 4611686018427387904 → (SPAN a b).length ≤ g := by
  intro g f
  induction f generalizing g with
  | zero => intro a h1 _ _ _; rw [SPAN_end (by omega)]; simp
  | succ f ih =>
    intro a h1 h2 h3 hb
    rcases Nat.lt_or_ge a b with h | h
    · obtain ⟨s1, s2, s3⟩ := HT_spec h hb
      rw [SPAN_step h]
      have hp := Nat.two_pow_pos (HT a b)
      have hlt : HT a b < g := by
        rcases Nat.lt_or_ge (HT a b) g with c | c
        · exact c
        · have := (s2.le g c).2
          omega
      have hd : a % 2 ^ (HT a b + 1) = 0 := by
        have h4 : 2 ^ (HT a b + 1) ∣ 2 ^ g := Nat.pow_dvd_pow 2 hlt
        exact Nat.mod_eq_zero_of_dvd (Nat.dvd_trans h4 (Nat.dvd_of_mod_eq_zero h2))
      have hs : ¬ a + 2 ^ (HT a b + 1) ≤ b := fun c => s3 ⟨hd, c⟩
      rw [pow_up] at hs
      have := ih (HT a b) (a + 2 ^ HT a b) (by omega) (by rw [Nat.add_mod_right]; exact s2.1) (by omega) hb
      rw [List.length_cons]
      omega
    · rw [SPAN_end h]; simp
theorem SPAN_up {b : Nat} : ∀ f g e a, b - a ≤ f → a % 2 ^ g = 0 → b - a < 2 ^ e → g ≤ e → b ≤ 4611686018427387904 → (SPAN a b).length ≤ (e - g) + e := by
  intro f
  induction f with
  | zero => intro g e a h1 _ _ _ _; rw [SPAN_end (by omega)]; simp
  | succ f ih =>
    intro g e a h1 h2 h3 hge hb
    rcases Nat.lt_or_ge a b with h | h
    · obtain ⟨s1, s2, s3⟩ := HT_spec h hb
      rw [SPAN_step h, List.length_cons]
      have hp := Nat.two_pow_pos (HT a b)
      have hlt : HT a b < e := by
        rcases Nat.lt_or_ge (HT a b) e with c | c
        · exact c
        · have := (s2.le e c).2
          omega
      by_cases hd : a % 2 ^ (HT a b + 1) = 0
      · have hs : ¬ a + 2 ^ (HT a b + 1) ≤ b := fun c => s3 ⟨hd, c⟩
        rw [pow_up] at hs
        have := SPAN_down (HT a b) f (a + 2 ^ HT a b) (by omega) (by rw [Nat.add_mod_right]; exact s2.1) (by omega) hb
        omega
      · have hg : g ≤ HT a b := by
          rcases Nat.lt_or_ge (HT a b) g with c | c
          · have h4 : 2 ^ (HT a b + 1) ∣ 2 ^ g := Nat.pow_dvd_pow 2 c
            exact absurd (Nat.mod_eq_zero_of_dvd (Nat.dvd_trans h4 (Nat.dvd_of_mod_eq_zero h2))) hd
          · exact c
        obtain ⟨n1, n2, n3⟩ := s2.node s1 hb
        have hodd : (a / 2 ^ HT a b + 1) % 2 = 0 := by
          have : ¬ a / 2 ^ HT a b % 2 = 0 := fun c => hd (by have := even_up (h := HT a b).2 c; rw [n2] at this; exact this)
          omega
        have := ih (HT a b + 1) e (a + 2 ^ HT a b) (by omega) (by rw [← n3]; exact even_up.2 hodd) (by omega) (by omega) hb
        omega
    · rw [SPAN_end h]; simp
theorem SPAN_length {a b : Nat} (hb : b ≤ 4611686018427387904) : (SPAN a b).length ≤ 124 := by
  rcases Nat.eq_zero_or_pos a with h | h
  · subst h
    have := SPAN_down (b := b) 63 b 0 (by omega) (by simp) (by simp; omega) hb
    omega
  · exact SPAN_up (b := b) b 0 62 a (by omega) (by simp [Nat.mod_one]) (by simp; omega) (by omega) hb
end Go.Proofs.YtfgbojbhheokjaaGreatDoor

/- The peaks of n leaves, one behind the other, in plain numbers. -/
namespace Go.Proofs.YtfgbojbhheokjaaGreatDoor

theorem PC_eq_zero {n : Nat} (h : PC n = 0) : n = 0 := by
  induction n using Nat.strongRecOn with
  | _ n ih =>
    by_cases h0 : n = 0
    · exact h0
    · rw [PC_step] at h
      have := ih (n / 2) (by omega) (by omega)
      omega
theorem PC_split (n a b : Nat) (hab : a ≤ b) : n / 2 ^ a = n / 2 ^ b * 2 ^ (b - a) + n / 2 ^ a % 2 ^ (b - a) ∧ PC (n / 2 ^ a) = PC (n / 2 ^ b) + PC (n / 2 ^ a % 2 ^ (b - a)) := by
  have e : n / 2 ^ b = n / 2 ^ a / 2 ^ (b - a) := by rw [Nat.div_div_eq_div_mul, ← Nat.pow_add, show a + (b - a) = b by omega]
  have h1 : n / 2 ^ a = n / 2 ^ b * 2 ^ (b - a) + n / 2 ^ a % 2 ^ (b - a) := by
    rw [e, Nat.mul_comm]
    exact (Nat.div_add_mod _ _).symm
  refine ⟨h1, ?_⟩
  have h2 := PC_add (b - a) (n / 2 ^ b) (n / 2 ^ a % 2 ^ (b - a)) (Nat.mod_lt _ (Nat.two_pow_pos _))
  rw [← h1] at h2
  exact h2
theorem PC_mono (n : Nat) {a b : Nat} (hab : a ≤ b) : PC (n / 2 ^ b) ≤ PC (n / 2 ^ a) := by
  have := (PC_split n a b hab).2
  omega
theorem trunc_eq (n : Nat) {a b : Nat} (hab : a ≤ b) (h : PC (n / 2 ^ a) = PC (n / 2 ^ b)) : n / 2 ^ a * 2 ^ a = n / 2 ^ b * 2 ^ b := by
  obtain ⟨h1, h2⟩ := PC_split n a b hab
  have h3 : n / 2 ^ a % 2 ^ (b - a) = 0 := PC_eq_zero (by omega)
  rw [h3, Nat.add_zero] at h1
  rw [h1, Nat.mul_assoc, ← Nat.pow_add, show b - a + a = b by omega]
theorem HS_index {n : Nat} (hn : n < 2 ^ 64) : ∀ h, h ≤ 64 → ∀ i, i < PC (n / 2 ^ h) → ∃ g, h ≤ g ∧ g < 64 ∧ (HS h n)[i]? = some g ∧ n / 2 ^ g % 2 = 1 ∧ i = PC (n / 2 ^ (g + 1)) := by
  have key : ∀ d h, h + d = 64 → ∀ i, i < PC (n / 2 ^ h) → ∃ g, h ≤ g ∧ g < 64 ∧ (HS h n)[i]? = some g ∧ n / 2 ^ g % 2 = 1 ∧ i = PC (n / 2 ^ (g + 1)) := by
    intro d
    induction d with
    | zero =>
      intro h e i hi
      obtain rfl : h = 64 := by omega
      rw [Nat.div_eq_of_lt hn, PC_zero] at hi
      omega
    | succ d ih =>
      intro h e i hi
      have hl := HS_length hn (h + 1) (by omega)
      have hs : PC (n / 2 ^ h) = n / 2 ^ h % 2 + PC (n / 2 ^ (h + 1)) := by rw [PC_step, half_pow]
      rcases Nat.lt_or_ge i (PC (n / 2 ^ (h + 1))) with h1 | h1
      · obtain ⟨g, a, b, c, r⟩ := ih (h + 1) (by omega) i h1
        refine ⟨g, by omega, b, ?_, r⟩
        by_cases hb : n / 2 ^ h % 2 = 1
        · rw [HS_set (by omega) hb, List.getElem?_append_left (by omega)]
          exact c
        · rw [HS_clear (by omega) hb]
          exact c
      · have hb : n / 2 ^ h % 2 = 1 := by omega
        have hi' : i = PC (n / 2 ^ (h + 1)) := by omega
        refine ⟨h, Nat.le_refl _, by omega, ?_, hb, hi'⟩
        rw [HS_set (by omega) hb, List.getElem?_append_right (by omega), hl, hi']
        simp
  intro h hh
  exact key (64 - h) h (by omega)
/-- the height of the peak i of n leaves; the leaves ahead of it. -/
def HGT (n i : Nat) : Nat := (HS 0 n).getD i 0
def AHEAD (n : Nat) : Nat → Nat
  | 0 => 0
  | i + 1 => n / 2 ^ HGT n i * 2 ^ HGT n i
theorem HGT_at {n i : Nat} (hn : n < 2 ^ 64) (hi : i < PC n) : (HS 0 n)[i]? = some (HGT n i) ∧ n / 2 ^ HGT n i % 2 = 1 ∧ i = PC (n / 2 ^ (HGT n i + 1)) := by
  obtain ⟨g, _, _, c, d, e⟩ := HS_index hn 0 (by omega) i (by rw [Nat.pow_zero, Nat.div_one]; exact hi)
  have hg : HGT n i = g := by unfold HGT; rw [List.getD_eq_getElem?_getD, c]; rfl
  rw [hg]
  exact ⟨c, d, e⟩
/-- the index of the peak i among the nodes of its height. -/
def KGT (n i : Nat) : Nat := 2 * (n / 2 ^ (HGT n i + 1))
theorem PEAKS_at {n i : Nat} (hn : n < 2 ^ 64) (hi : i < PC n) : (PEAKS n).getD i 0 = PLC (HGT n i) (KGT n i) := by
  unfold PEAKS
  rw [List.getD_eq_getElem?_getD, List.getElem?_map, (HGT_at hn hi).1]
  rfl
theorem PEAK_node {n i : Nat} (hn : n ≤ 4611686018427387904) (hi : i < PC n) : Node (HGT n i) (KGT n i) := Node.peak hn (HGT_at (by omega) hi).2.1
theorem PC_after {n i : Nat} (hn : n < 2 ^ 64) (hi : i < PC n) : PC (n / 2 ^ HGT n i) = i + 1 := by
  obtain ⟨_, h2, h3⟩ := HGT_at hn hi
  rw [PC_step, ← half_pow]
  omega
theorem HGT_falls {n i : Nat} (hn : n < 2 ^ 64) (hi : i + 1 < PC n) : HGT n (i + 1) < HGT n i := by
  have h1 := PC_after hn (i := i) (by omega)
  have h2 := (HGT_at hn hi).2.2
  rcases Nat.lt_or_ge (HGT n (i + 1)) (HGT n i) with h | h
  · exact h
  · have h3 := PC_mono n (a := HGT n i + 1) (b := HGT n (i + 1) + 1) (by omega)
    have h4 := (HGT_at hn (i := i) (by omega)).2.2
    omega
theorem AHEAD_from {n i : Nat} (hn : n < 2 ^ 64) (hi : i < PC n) : KGT n i * 2 ^ HGT n i = AHEAD n i := by
  have hk : KGT n i * 2 ^ HGT n i = n / 2 ^ (HGT n i + 1) * 2 ^ (HGT n i + 1) := double_pow _ _
  have h2 := (HGT_at hn hi).2.2
  cases i with
  | zero =>
    rw [hk, PC_eq_zero h2.symm, Nat.zero_mul]
    rfl
  | succ i =>
    have h1 := PC_after hn (i := i) (by omega)
    have h3 := HGT_falls hn hi
    rw [hk]
    exact trunc_eq n (by omega) (by omega)
theorem AHEAD_to {n i : Nat} (hn : n < 2 ^ 64) (hi : i < PC n) : (KGT n i + 1) * 2 ^ HGT n i = AHEAD n (i + 1) := by
  have := at_set (HGT_at hn hi).2.1
  show (2 * (n / 2 ^ (HGT n i + 1)) + 1) * 2 ^ HGT n i = n / 2 ^ HGT n i * 2 ^ HGT n i
  rw [← this]
theorem AHEAD_le (n i : Nat) : AHEAD n i ≤ n := by
  cases i with
  | zero => exact Nat.zero_le _
  | succ i => exact Nat.div_mul_le_self _ _
theorem AHEAD_all {n : Nat} (hn : n < 2 ^ 64) : AHEAD n (PC n) = n := by
  cases h : PC n with
  | zero =>
    rw [PC_eq_zero h]
    rfl
  | succ i =>
    have h1 := PC_after hn (i := i) (by omega)
    have h2 := trunc_eq n (a := 0) (b := HGT n i) (by omega) (by rw [Nat.pow_zero, Nat.div_one]; omega)
    rw [Nat.pow_zero, Nat.div_one, Nat.mul_one] at h2
    exact h2.symm
theorem PEAK_last {n i : Nat} (hn : n < 2 ^ 64) (hi : i < PC n) : PLC (HGT n i) (KGT n i) + 1 = NODES (AHEAD n (i + 1)) := by
  rw [← AHEAD_to hn hi]
  have h1 := NODES_plus (n / 2 ^ (HGT n i + 1)) (HGT n i)
  have h2 := two_le (HGT n i)
  show NODES (KGT n i * 2 ^ HGT n i) + (2 ^ (HGT n i + 1) - 2) + 1 = NODES ((2 * (n / 2 ^ (HGT n i + 1)) + 1) * 2 ^ HGT n i)
  rw [h1]
  unfold TREE KGT
  omega
theorem PEAK_lt {n i : Nat} (hn : n < 2 ^ 64) (hi : i < PC n) : PLC (HGT n i) (KGT n i) < NODES n := by
  have h1 := PEAK_last hn hi
  have h2 := NODES_le (AHEAD_le n (i + 1))
  omega
theorem PEAK_parent {n i : Nat} : NODES n ≤ PLC (HGT n i + 1) (KGT n i / 2) := by
  have e : KGT n i / 2 = n / 2 ^ (HGT n i + 1) := by unfold KGT; omega
  rw [e]
  have h1 := PLC_last (HGT n i + 1) (n / 2 ^ (HGT n i + 1))
  have h2 : n ≤ (n / 2 ^ (HGT n i + 1) + 1) * 2 ^ (HGT n i + 1) - 1 := by
    have := Nat.lt_mul_div_succ n (Nat.two_pow_pos (HGT n i + 1))
    rw [Nat.mul_comm] at this
    omega
  have h3 := NODES_le h2
  omega
end Go.Proofs.YtfgbojbhheokjaaGreatDoor

/- The spots of the peaks are the span of all leaves. -/
namespace Go.Proofs.YtfgbojbhheokjaaGreatDoor

/-- the peaks' spots from the j-th on. -/
def PKS (n j c : Nat) : List (Nat × Nat) := (List.range' j c).map fun i => (HGT n i, KGT n i)
theorem PKS_step (n j c : Nat) : PKS n j (c + 1) = (HGT n j, KGT n j) :: PKS n (j + 1) c := by simp [PKS, List.range'_succ]
theorem PKS_at {n c i : Nat} (h : i < c) : (PKS n 0 c)[i]? = some (HGT n i, KGT n i) := by
  simp [PKS, h]
theorem PKS_tile {n : Nat} (hn : n ≤ 4611686018427387904) : ∀ c j, j + c = PC n → Tile (AHEAD n j) (PKS n j c) n ∧ Irr (PKS n j c) := by
  intro c
  induction c with
  | zero =>
    intro j e
    obtain rfl : j = PC n := by omega
    exact ⟨AHEAD_all (by omega), trivial⟩
  | succ c ih =>
    intro j e
    obtain ⟨i1, i2⟩ := ih (j + 1) (by omega)
    rw [PKS_step]
    refine ⟨⟨PEAK_node hn (by omega), AHEAD_from (by omega) (by omega), ?_⟩, ?_, i2⟩
    · show Tile ((KGT n j + 1) * 2 ^ HGT n j) _ n
      rw [AHEAD_to (by omega) (by omega)]
      exact i1
    · intro y hy ⟨h1, _, _⟩
      cases c with
      | zero => simp [PKS] at hy
      | succ c =>
        rw [PKS_step] at hy
        simp at hy
        subst hy
        have := HGT_falls (n := n) (i := j) (by omega) (by omega)
        dsimp only at h1
        omega
theorem SPAN_peaks {n : Nat} (hn : n ≤ 4611686018427387904) : SPAN 0 n = PKS n 0 (PC n) := by
  obtain ⟨h1, h2⟩ := PKS_tile hn (PC n) 0 (by omega)
  exact (span_only h1 h2).symm
theorem SPAN_zero_length {n : Nat} (hn : n ≤ 4611686018427387904) : (SPAN 0 n).length = PC n := by
  rw [SPAN_peaks hn]
  simp [PKS]
theorem SPAN_zero_at {n i : Nat} (hn : n ≤ 4611686018427387904) (hi : i < PC n) : (SPAN 0 n)[i]? = some (HGT n i, KGT n i) := by
  rw [SPAN_peaks hn]
  exact PKS_at hi
end Go.Proofs.YtfgbojbhheokjaaGreatDoor
