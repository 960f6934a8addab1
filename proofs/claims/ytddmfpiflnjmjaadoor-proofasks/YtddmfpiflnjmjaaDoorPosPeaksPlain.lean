/- Peaks in plain numbers: the heights of the peaks of n leaves, their places, which one stands over a leaf, the way there. -/
import Derived.Test.YtddmfpiflnjmjaaDoorPosPlain
import Derived.Test.YtddmfpiflnjmjaaDoorNumListPlain
namespace Go.Proofs.YtddmfpiflnjmjaaDoor

/-- the places of the bits of n that are set, from h on. -/
def UP (h n : Nat) : List Nat := PL (64 - h) h (n / 2 ^ h)
theorem UP_step {h n : Nat} (hh : h < 64) : UP h n = if n / 2 ^ h % 2 = 1 then h :: UP (h + 1) n else UP (h + 1) n := by
  unfold UP
  rw [show 64 - h = (64 - (h + 1)) + 1 by omega, PL, Nat.div_div_eq_div_mul, ← Nat.pow_succ]
theorem UP_zero (n : Nat) : UP 0 n = PLACES n := by
  unfold UP PLACES
  simp
theorem UP_top {h n : Nat} (hn : n < 2 ^ h) : UP h n = [] := by
  unfold UP
  rw [Nat.div_eq_of_lt hn, PL_zero]
/-- the heights of the peaks of n leaves that are at least h, from the left. -/
def HS (h n : Nat) : List Nat := (UP h n).reverse
theorem HS_set {h n : Nat} (hh : h < 64) (hb : n / 2 ^ h % 2 = 1) : HS h n = HS (h + 1) n ++ [h] := by
  unfold HS
  rw [UP_step hh, if_pos hb, List.reverse_cons]
theorem HS_clear {h n : Nat} (hh : h < 64) (hb : ¬ n / 2 ^ h % 2 = 1) : HS h n = HS (h + 1) n := by
  unfold HS
  rw [UP_step hh, if_neg hb]
theorem HS_top {h n : Nat} (hn : n < 2 ^ h) : HS h n = [] := by
  unfold HS
  rw [UP_top hn]
  rfl
theorem HS_zero (n : Nat) : HS 0 n = (PLACES n).reverse := by
  unfold HS
  rw [UP_zero]
theorem HS_length {n : Nat} (hn : n < 2 ^ 64) : ∀ h, h ≤ 64 → (HS h n).length = PC (n / 2 ^ h) := by
  have key : ∀ d h, h + d = 64 → (HS h n).length = PC (n / 2 ^ h) := by
    intro d
    induction d with
    | zero =>
      intro h e
      obtain rfl : h = 64 := by omega
      rw [HS_top hn, Nat.div_eq_of_lt hn, PC_zero]
      rfl
    | succ d ih =>
      intro h e
      have ih := ih (h + 1) (by omega)
      rw [PC_step, Nat.div_div_eq_div_mul, ← Nat.pow_succ, ← ih]
      by_cases hb : n / 2 ^ h % 2 = 1
      · rw [HS_set (by omega) hb, List.length_append, List.length_singleton]
        omega
      · rw [HS_clear (by omega) hb]
        omega
  intro h hh
  exact key (64 - h) h (by omega)
theorem HS_split {n h : Nat} : h ≤ 64 → ∃ t, HS 0 n = HS h n ++ t := by
  induction h with
  | zero => exact fun _ => ⟨[], by simp⟩
  | succ h ih =>
    intro hh
    obtain ⟨t, ht⟩ := ih (by omega)
    by_cases hb : n / 2 ^ h % 2 = 1
    · exact ⟨h :: t, by rw [ht, HS_set (by omega) hb]; simp⟩
    · exact ⟨t, by rw [ht, HS_clear (by omega) hb]⟩
theorem HS_set_of {n : Nat} : ∀ h x, h ≤ 64 → x ∈ HS h n → h ≤ x ∧ x < 64 ∧ n / 2 ^ x % 2 = 1 := by
  have key : ∀ d h, h + d = 64 → ∀ x, x ∈ HS h n → h ≤ x ∧ x < 64 ∧ n / 2 ^ x % 2 = 1 := by
    intro d
    induction d with
    | zero =>
      intro h e x hx
      obtain rfl : h = 64 := by omega
      simp [HS, UP, PL] at hx
    | succ d ih =>
      intro h e x hx
      by_cases hb : n / 2 ^ h % 2 = 1
      · rw [HS_set (by omega) hb, List.mem_append, List.mem_singleton] at hx
        rcases hx with hx | rfl
        · have := ih (h + 1) (by omega) x hx
          exact ⟨by omega, this.2⟩
        · exact ⟨Nat.le_refl _, by omega, hb⟩
      · rw [HS_clear (by omega) hb] at hx
        have := ih (h + 1) (by omega) x hx
        exact ⟨by omega, this.2⟩
  intro h x hh
  exact key (64 - h) h (by omega) x

/-- the place of the peak of height h of n leaves. -/
def PKP (n h : Nat) : Nat := PLC h (2 * (n / 2 ^ (h + 1)))
/-- the places of the peaks of n leaves, from the left. -/
def PEAKS (n : Nat) : List Nat := (HS 0 n).map (PKP n)
theorem PEAKS_length {n : Nat} (hn : n < 2 ^ 64) : (PEAKS n).length = PC n := by
  unfold PEAKS
  rw [List.length_map, HS_length hn 0 (by omega)]
  simp
theorem half_pow (n h : Nat) : n / 2 ^ (h + 1) = n / 2 ^ h / 2 := by rw [Nat.div_div_eq_div_mul, ← Nat.pow_succ]
theorem NODES_plus (m h : Nat) : NODES ((2 * m + 1) * 2 ^ h) = NODES (2 * m * 2 ^ h) + TREE h := by
  have h1 := NODES_add ((2 * m + 1) * 2 ^ h)
  have h2 := NODES_add (2 * m * 2 ^ h)
  rw [PC_shift, PC_odd, Nat.add_mul, Nat.one_mul] at h1
  rw [PC_shift, PC_even] at h2
  have h3 := two_le h
  rw [Nat.pow_succ] at h3
  rw [Nat.add_mul, Nat.one_mul]
  unfold TREE
  rw [Nat.pow_succ]
  omega
theorem at_set {n h : Nat} (hb : n / 2 ^ h % 2 = 1) : n / 2 ^ h = 2 * (n / 2 ^ (h + 1)) + 1 := by
  rw [half_pow]
  omega
theorem at_clear {n h : Nat} (hb : ¬ n / 2 ^ h % 2 = 1) : n / 2 ^ h = 2 * (n / 2 ^ (h + 1)) := by
  rw [half_pow]
  omega
theorem double_pow (m h : Nat) : 2 * m * 2 ^ h = m * 2 ^ (h + 1) := by
  rw [Nat.pow_succ, Nat.mul_comm 2 m, Nat.mul_assoc, Nat.mul_comm 2]
/-- what the loop over the heights makes: how many nodes, and the places. -/
def ST (l : List Nat) : Nat × List Nat := l.foldl (fun s h => ((s.1 + TREE h) % 2 ^ 64, s.2 ++ [((s.1 + TREE h) % 2 ^ 64 + (2 ^ 64 - 1)) % 2 ^ 64])) (0, [])
theorem ST_snoc (l : List Nat) (h : Nat) : ST (l ++ [h]) = (((ST l).1 + TREE h) % 2 ^ 64, (ST l).2 ++ [(((ST l).1 + TREE h) % 2 ^ 64 + (2 ^ 64 - 1)) % 2 ^ 64]) := by
  unfold ST
  rw [List.foldl_append]
  rfl
theorem NODES_top {n : Nat} (hn : n ≤ 4611686018427387904) : NODES n ≤ 9223372036854775807 := by
  rw [← NODES_most]
  exact NODES_le hn
theorem ST_HS {n : Nat} (hn : n ≤ 4611686018427387904) : ∀ h, h ≤ 64 → ST (HS h n) = (NODES (n / 2 ^ h * 2 ^ h), (HS h n).map (PKP n)) := by
  have key : ∀ d h, h + d = 64 → ST (HS h n) = (NODES (n / 2 ^ h * 2 ^ h), (HS h n).map (PKP n)) := by
    intro d
    induction d with
    | zero =>
      intro h e
      obtain rfl : h = 64 := by omega
      rw [HS_top (by omega), Nat.div_eq_of_lt (by omega), Nat.zero_mul, NODES_zero]
      rfl
    | succ d ih =>
      intro h e
      have ih := ih (h + 1) (by omega)
      by_cases hb : n / 2 ^ h % 2 = 1
      · have e1 := at_set hb
        have h2 : NODES (n / 2 ^ h * 2 ^ h) = NODES (n / 2 ^ (h + 1) * 2 ^ (h + 1)) + TREE h := by
          rw [e1, NODES_plus, double_pow]
        have h3 : NODES (n / 2 ^ h * 2 ^ h) ≤ 9223372036854775807 := NODES_top (Nat.le_trans (Nat.div_mul_le_self _ _) hn)
        have h4 := two_le h
        have hs : (NODES (n / 2 ^ (h + 1) * 2 ^ (h + 1)) + TREE h) % 2 ^ 64 = NODES (n / 2 ^ h * 2 ^ h) := by
          rw [← h2]
          omega
        have hp : (NODES (n / 2 ^ h * 2 ^ h) + (2 ^ 64 - 1)) % 2 ^ 64 = PKP n h := by
          unfold PKP PLC
          rw [double_pow]
          unfold TREE at h2
          omega
        rw [HS_set (by omega) hb, ST_snoc, ih]
        dsimp only
        rw [hs, hp, List.map_append]
        rfl
      · rw [HS_clear (by omega) hb, ih, at_clear hb, double_pow]
  intro h hh
  exact key (64 - h) h (by omega)
theorem ST_all {n : Nat} (hn : n ≤ 4611686018427387904) : ST (HS 0 n) = (NODES n, PEAKS n) := by
  have := ST_HS hn 0 (by omega)
  unfold PEAKS
  simpa using this

theorem xor_zero_eq {a b : Nat} (h : a ^^^ b = 0) : a = b := by
  have : a ^^^ (a ^^^ b) = a ^^^ 0 := by rw [h]
  rw [← Nat.xor_assoc, Nat.xor_self, Nat.zero_xor, Nat.xor_zero] at this
  exact this.symm
/-- the height of the peak of n leaves over the leaf i. -/
def RISE (i n : Nat) : Nat := LEN (i ^^^ n) - 1
theorem RISE_spec {i n : Nat} (hi : i < n) (hn : n ≤ 4611686018427387904) : 1 ≤ LEN (i ^^^ n) ∧ RISE i n ≤ 62 ∧ n / 2 ^ RISE i n % 2 = 1 ∧ i / 2 ^ (RISE i n + 1) = n / 2 ^ (RISE i n + 1) ∧ i / 2 ^ RISE i n = 2 * (n / 2 ^ (RISE i n + 1)) := by
  have hX : i ^^^ n < 2 ^ 63 := Nat.xor_lt_two_pow (by omega) (by omega)
  have h0 : i ^^^ n ≠ 0 := by
    intro h
    have : i = n := xor_zero_eq h
    omega
  obtain ⟨h1, h2, h3⟩ := LEN_span (i ^^^ n) (by omega) h0
  have hR : LEN (i ^^^ n) = RISE i n + 1 := by unfold RISE; omega
  rw [hR] at h3
  rw [show LEN (i ^^^ n) - 1 = RISE i n from rfl] at h2
  generalize RISE i n = H at *
  have hH : H ≤ 62 := by
    rcases Nat.lt_or_ge 62 H with h | h
    · have : 2 ^ 63 ≤ 2 ^ H := Nat.pow_le_pow_right (by decide) h
      omega
    · exact h
  have e1 : i / 2 ^ (H + 1) = n / 2 ^ (H + 1) := by
    have : (i ^^^ n) / 2 ^ (H + 1) = 0 := Nat.div_eq_of_lt h3
    rw [← Nat.shiftRight_eq_div_pow, Nat.shiftRight_xor_distrib, Nat.shiftRight_eq_div_pow, Nat.shiftRight_eq_div_pow] at this
    exact xor_zero_eq this
  have e2 : i / 2 ^ H ^^^ n / 2 ^ H = 1 := by
    have : (i ^^^ n) / 2 ^ H = 1 := by
      rw [Nat.pow_succ] at h3
      apply Nat.div_eq_of_lt_le
      · omega
      · omega
    rw [← Nat.shiftRight_eq_div_pow, Nat.shiftRight_xor_distrib, Nat.shiftRight_eq_div_pow, Nat.shiftRight_eq_div_pow] at this
    exact this
  have e3 : i / 2 ^ H ≤ n / 2 ^ H := Nat.div_le_div_right (Nat.le_of_lt hi)
  have e4 : i / 2 ^ H ≠ n / 2 ^ H := by
    intro h
    rw [h, Nat.xor_self] at e2
    omega
  rw [half_pow, half_pow] at e1
  refine ⟨by omega, hH, ?_, ?_, ?_⟩
  · omega
  · rw [half_pow, half_pow]
    exact e1
  · rw [half_pow]
    omega
/-- which peak stands over the leaf. -/
def KTH (i n : Nat) : Nat := PC (n / 2 ^ (RISE i n + 1))
theorem KTH_at {i n : Nat} (hi : i < n) (hn : n ≤ 4611686018427387904) : (HS 0 n)[KTH i n]? = some (RISE i n) := by
  obtain ⟨_, h1, h2, _, _⟩ := RISE_spec hi hn
  obtain ⟨t, ht⟩ := HS_split (n := n) (h := RISE i n) (by omega)
  have hl := HS_length (n := n) (by omega) (RISE i n + 1) (by omega)
  rw [ht, HS_set (by omega) h2, List.append_assoc]
  unfold KTH
  rw [← hl, List.getElem?_append_right (Nat.le_refl _)]
  simp
theorem KTH_lt {i n : Nat} (hi : i < n) (hn : n ≤ 4611686018427387904) : KTH i n < PC n := by
  have h := KTH_at hi hn
  have hl := HS_length (n := n) (by omega) 0 (by omega)
  rw [Nat.pow_zero, Nat.div_one] at hl
  rw [← hl]
  exact (List.getElem?_eq_some_iff.1 h).1
/-- the sibling's index. -/
def SIB (k : Nat) : Nat := if k % 2 = 1 then k - 1 else k + 1
/-- the places of the siblings on the way up from the leaf i, the first H of them. -/
def WAY (i H : Nat) : List Nat := (List.range H).map fun h => PLC h (SIB (i / 2 ^ h))
theorem WAY_succ (i H : Nat) : WAY i (H + 1) = WAY i H ++ [PLC H (SIB (i / 2 ^ H))] := by simp [WAY, List.range_succ]
theorem WAY_length (i H : Nat) : (WAY i H).length = H := by simp [WAY]
theorem Node.up {h k : Nat} (a : Node h k) (hh : h < 62) : Node (h + 1) (k / 2) := by
  refine ⟨hh, ?_⟩
  have := a.2
  rw [show 62 - h = (62 - (h + 1)) + 1 by omega, Nat.pow_succ] at this
  omega
theorem Node.sib {h k : Nat} (a : Node h k) (hh : h < 62) : Node h (SIB k) := by
  refine ⟨a.1, ?_⟩
  have h1 := a.2
  rw [show 62 - h = (62 - (h + 1)) + 1 by omega, Nat.pow_succ] at h1 ⊢
  unfold SIB
  split <;> omega
theorem Node.leaf {i : Nat} (hi : i < 4611686018427387904) : Node 0 i := ⟨by omega, by simpa using hi⟩
theorem Node.over {i : Nat} (hi : i < 4611686018427387904) : ∀ h, h ≤ 62 → Node h (i / 2 ^ h) := by
  intro h
  induction h with
  | zero =>
    intro _
    simpa using Node.leaf hi
  | succ h ih =>
    intro hh
    have := (ih (by omega)).up (by omega)
    rw [half_pow]
    exact this
theorem Node.peak {n h : Nat} (hn : n ≤ 4611686018427387904) (hb : n / 2 ^ h % 2 = 1) : Node h (2 * (n / 2 ^ (h + 1))) := by
  have h62 : h ≤ 62 := by
    rcases Nat.lt_or_ge 62 h with h1 | h1
    · have : 2 ^ 63 ≤ 2 ^ h := Nat.pow_le_pow_right (by decide) h1
      rw [Nat.div_eq_of_lt (by omega)] at hb
      omega
    · exact h1
  refine ⟨h62, ?_⟩
  have h1 : n / 2 ^ h ≤ 2 ^ (62 - h) := by
    have : n / 2 ^ h ≤ 2 ^ 62 / 2 ^ h := Nat.div_le_div_right (by simpa using hn)
    rw [Nat.pow_div h62 (by decide)] at this
    exact this
  rw [at_set hb] at h1
  omega
end Go.Proofs.YtddmfpiflnjmjaaDoor
