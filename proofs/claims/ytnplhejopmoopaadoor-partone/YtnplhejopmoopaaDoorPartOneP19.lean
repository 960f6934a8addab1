/- Texts of PartOne, one behind the other: PosPeaksPlain, PosSpot, PosKin, PosPlace, PosOk, MmrCalls. -/
import Derived.Deep.LoopGhost
import Derived.Deep.QuietTactic
import Derived.BigQuiet
import Derived.Deep.RegionHeld3
import Derived.Test.YtnplhejopmoopaaDoorPartOneP17
import Derived.Test.YtnplhejopmoopaaDoorPartOneP18
/- Peaks in plain numbers: the heights of the peaks of n leaves, their places, which one stands over a leaf, the way there. -/
namespace Go.Proofs.YtnplhejopmoopaaDoor

/-- the places of the bits of n that are set, from h on. -/
def UP (h n : Nat) : List Nat := PL (64 - h) h (n / 2 ^ h)
theorem UP_step {h n : Nat} (hh : h < 64) : UP h n = if n / 2 ^ h % 2 = 1 then h :: UP (h + 1) n else UP (h + 1) n := by
  unfold UP
  rw [show 64 - h = (64 - (h + 1)) + 1 by omega, PL, Nat.div_div_eq_div_mul, ← Nat.pow_succ]
theorem UP_zero (n : Nat) : UP 0 n = PLACES n := by
  unfold UP PLACES
  simp
theorem UP_top {h n : Nat} (hn : n < 2 ^ h) : UP h n = [] := by
  unfold UP
  rw [Nat.div_eq_of_lt hn, PL_zero]
/-- the heights of the peaks of n leaves that are at least h, from the left. -/
def HS (h n : Nat) : List Nat := (UP h n).reverse
theorem HS_set {h n : Nat} (hh : h < 64) (hb : n / 2 ^ h % 2 = 1) : HS h n = HS (h + 1) n ++ [h] := by
  unfold HS
  rw [UP_step hh, if_pos hb, List.reverse_cons]
theorem HS_clear {h n : Nat} (hh : h < 64) (hb : ¬ n / 2 ^ h % 2 = 1) : HS h n = HS (h + 1) n := by
  unfold HS
  rw [UP_step hh, if_neg hb]
theorem HS_top {h n : Nat} (hn : n < 2 ^ h) : HS h n = [] := by
  unfold HS
  rw [UP_top hn]
  rfl
theorem HS_zero (n : Nat) : HS 0 n = (PLACES n).reverse := by
  unfold HS
  rw [UP_zero]
theorem HS_length {n : Nat} (hn : n < 2 ^ 64) : ∀ h, h ≤ 64 → (HS h n).length = PC (n / 2 ^ h) := by
  have key : ∀ d h, h + d = 64 → (HS h n).length = PC (n / 2 ^ h) := by
    intro d
    induction d with
    | zero =>
      intro h e
      obtain rfl : h = 64 := by omega
      rw [HS_top hn, Nat.div_eq_of_lt hn, PC_zero]
      rfl
    | succ d ih =>
      intro h e
      have ih := ih (h + 1) (by omega)
      rw [PC_step, Nat.div_div_eq_div_mul, ← Nat.pow_succ, ← ih]
      by_cases hb : n / 2 ^ h % 2 = 1
      · rw [HS_set (by omega) hb, List.length_append, List.length_singleton]
        omega
      · rw [HS_clear (by omega) hb]
        omega
  intro h hh
  exact key (64 - h) h (by omega)
theorem HS_set_of {n : Nat} : ∀ h x, h ≤ 64 → x ∈ HS h n → h ≤ x ∧ x < 64 ∧ n / 2 ^ x % 2 = 1 := by
  have key : ∀ d h, h + d = 64 → ∀ x, x ∈ HS h n → h ≤ x ∧ x < 64 ∧ n / 2 ^ x % 2 = 1 := by
    intro d
    induction d with
    | zero =>
      intro h e x hx
      obtain rfl : h = 64 := by omega
      simp [HS, UP, PL] at hx
    | succ d ih =>
      intro h e x hx
      by_cases hb : n / 2 ^ h % 2 = 1
      · rw [HS_set (by omega) hb, List.mem_append, List.mem_singleton] at hx
        rcases hx with hx | rfl
        · have := ih (h + 1) (by omega) x hx
          exact ⟨by omega, this.2⟩
        · exact ⟨Nat.le_refl _, by omega, hb⟩
      · rw [HS_clear (by omega) hb] at hx
        have := ih (h + 1) (by omega) x hx
        exact ⟨by omega, this.2⟩
  intro h x hh
  exact key (64 - h) h (by omega) x

/-- the place of the peak of height h of n leaves. -/
def PKP (n h : Nat) : Nat := PLC h (2 * (n / 2 ^ (h + 1)))
/-- the places of the peaks of n leaves, from the left. -/
def PEAKS (n : Nat) : List Nat := (HS 0 n).map (PKP n)
theorem PEAKS_length {n : Nat} (hn : n < 2 ^ 64) : (PEAKS n).length = PC n := by
  unfold PEAKS
  rw [List.length_map, HS_length hn 0 (by omega)]
  simp
theorem half_pow (n h : Nat) : n / 2 ^ (h + 1) = n / 2 ^ h / 2 := by rw [Nat.div_div_eq_div_mul, ← Nat.pow_succ]
theorem NODES_plus (m h : Nat) : NODES ((2 * m + 1) * 2 ^ h) = NODES (2 * m * 2 ^ h) + TREE h := by
  have h1 := NODES_add ((2 * m + 1) * 2 ^ h)
  have h2 := NODES_add (2 * m * 2 ^ h)
  rw [PC_shift, PC_odd, Nat.add_mul, Nat.one_mul] at h1
  rw [PC_shift, PC_even] at h2
  have h3 := two_le h
  rw [Nat.pow_succ] at h3
  rw [Nat.add_mul, Nat.one_mul]
  unfold TREE
  rw [Nat.pow_succ]
  omega
theorem at_set {n h : Nat} (hb : n / 2 ^ h % 2 = 1) : n / 2 ^ h = 2 * (n / 2 ^ (h + 1)) + 1 := by
  rw [half_pow]
  omega
theorem at_clear {n h : Nat} (hb : ¬ n / 2 ^ h % 2 = 1) : n / 2 ^ h = 2 * (n / 2 ^ (h + 1)) := by
  rw [half_pow]
  omega
theorem double_pow (m h : Nat) : 2 * m * 2 ^ h = m * 2 ^ (h + 1) := by
  rw [Nat.pow_succ, Nat.mul_comm 2 m, Nat.mul_assoc, Nat.mul_comm 2]
/-- what the loop over the heights makes: how many nodes, and the places. -/
def ST (l : List Nat) : Nat × List Nat := l.foldl (fun s h => ((s.1 + TREE h) % 2 ^ 64, s.2 ++ [((s.1 + TREE h) % 2 ^ 64 + (2 ^ 64 - 1)) % 2 ^ 64])) (0, [])
theorem ST_snoc (l : List Nat) (h : Nat) : ST (l ++ [h]) = (((ST l).1 + TREE h) % 2 ^ 64, (ST l).2 ++ [(((ST l).1 + TREE h) % 2 ^ 64 + (2 ^ 64 - 1)) % 2 ^ 64]) := by
  unfold ST
  rw [List.foldl_append]
  rfl
theorem NODES_top {n : Nat} (hn : n ≤ 4611686018427387904) : NODES n ≤ 9223372036854775807 := by
  rw [← NODES_most]
  exact NODES_le hn
theorem ST_HS {n : Nat} (hn : n ≤ 4611686018427387904) : ∀ h, h ≤ 64 → ST (HS h n) = (NODES (n / 2 ^ h * 2 ^ h), (HS h n).map (PKP n)) := by
  have key : ∀ d h, h + d = 64 → ST (HS h n) = (NODES (n / 2 ^ h * 2 ^ h), (HS h n).map (PKP n)) := by
    intro d
    induction d with
    | zero =>
      intro h e
      obtain rfl : h = 64 := by omega
      rw [HS_top (by omega), Nat.div_eq_of_lt (by omega), Nat.zero_mul, NODES_zero]
      rfl
    | succ d ih =>
      intro h e
      have ih := ih (h + 1) (by omega)
      by_cases hb : n / 2 ^ h % 2 = 1
      · have e1 := at_set hb
        have h2 : NODES (n / 2 ^ h * 2 ^ h) = NODES (n / 2 ^ (h + 1) * 2 ^ (h + 1)) + TREE h := by
          rw [e1, NODES_plus, double_pow]
        have h3 : NODES (n / 2 ^ h * 2 ^ h) ≤ 9223372036854775807 := NODES_top (Nat.le_trans (Nat.div_mul_le_self _ _) hn)
        have h4 := two_le h
        have hs : (NODES (n / 2 ^ (h + 1) * 2 ^ (h + 1)) + TREE h) % 2 ^ 64 = NODES (n / 2 ^ h * 2 ^ h) := by
          rw [← h2]
          omega
        have hp : (NODES (n / 2 ^ h * 2 ^ h) + (2 ^ 64 - 1)) % 2 ^ 64 = PKP n h := by
          unfold PKP PLC
          rw [double_pow]
          unfold TREE at h2
          omega
        rw [HS_set (by omega) hb, ST_snoc, ih]
        dsimp only
        rw [hs, hp, List.map_append]
        rfl
      · rw [HS_clear (by omega) hb, ih, at_clear hb, double_pow]
  intro h hh
  exact key (64 - h) h (by omega)
theorem ST_all {n : Nat} (hn : n ≤ 4611686018427387904) : ST (HS 0 n) = (NODES n, PEAKS n) := by
  have := ST_HS hn 0 (by omega)
  unfold PEAKS
  simpa using this

/-- the sibling's index. -/
def SIB (k : Nat) : Nat := if k % 2 = 1 then k - 1 else k + 1
theorem Node.sib {h k : Nat} (a : Node h k) (hh : h < 62) : Node h (SIB k) := by
  refine ⟨a.1, ?_⟩
  have h1 := a.2
  rw [show 62 - h = (62 - (h + 1)) + 1 by omega, Nat.pow_succ] at h1 ⊢
  unfold SIB
  split <;> omega
theorem Node.leaf {i : Nat} (hi : i < 4611686018427387904) : Node 0 i := ⟨by omega, by simpa using hi⟩
theorem Node.peak {n h : Nat} (hn : n ≤ 4611686018427387904) (hb : n / 2 ^ h % 2 = 1) : Node h (2 * (n / 2 ^ (h + 1))) := by
  have h62 : h ≤ 62 := by
    rcases Nat.lt_or_ge 62 h with h1 | h1
    · have : 2 ^ 63 ≤ 2 ^ h := Nat.pow_le_pow_right (by decide) h1
      rw [Nat.div_eq_of_lt (by omega)] at hb
      omega
    · exact h1
  refine ⟨h62, ?_⟩
  have h1 : n / 2 ^ h ≤ 2 ^ (62 - h) := by
    have : n / 2 ^ h ≤ 2 ^ 62 / 2 ^ h := Nat.div_le_div_right (by simpa using hn)
    rw [Nat.pow_div h62 (by decide)] at this
    exact this
  rw [at_set hb] at h1
  omega
end Go.Proofs.YtnplhejopmoopaaDoor

/- What Spot answers: the node that stands at a place. -/
namespace Go.Proofs.YtnplhejopmoopaaDoor
open Go.RowKit

/-- the spot (h, k) as a value. -/
abbrev SPOT (h k : Nat) : Value := .agg #[.int .u8 (h : Int), .int .u64 (k : Int)]
theorem high_ok (X : Nat) (hX : X < 2 ^ 64) (w : World) : Calls Tryd.prog 47 #[.int .u64 (X : Int)] w fun e w' => e = .returned (.int .i64 ((LEN X : Nat) - 1 : Int)) ∧ w = w' := by
  have hl : LEN X ≤ 64 := by
    unfold LEN
    have := L8_le (X / 72057594037927936)
    have := L8_le (X / 281474976710656)
    have := L8_le (X / 1099511627776)
    have := L8_le (X / 4294967296)
    have := L8_le (X / 16777216)
    have := L8_le (X / 65536)
    have := L8_le (X / 256)
    have := L8_le X
    repeat' split
    all_goals omega
  exact high_raw X _ w (fun w => len_ok X hX w) (by omega) (by omega)

theorem spot_not (p : Int) (hp : 9223372036854775807 ≤ p) (w : World) : Calls Tryd.prog 30 #[.int .u64 p] w fun e w' => e = .returned (.tuple #[SPOT 0 0, .bool false]) ∧ Below w.heap.size w w' := by
  go_enter Tryd.func30, Tryd.ntmps30
  go_wp2
  refine bodyPost_ret (v := .tuple #[SPOT 0 0, .bool false]) ?_ rfl ⟨rfl, (Below.refl _ _).alloc (Nat.le_refl _) _⟩
  simp [results, Tryd.f30, go_sem]
theorem or_low {m H : Nat} (hH : 1 ≤ H) : m * 2 ^ H ||| 2 ^ (H - 1) = (2 * m + 1) * 2 ^ (H - 1) := by
  have h1 : 2 ^ (H - 1) < 2 ^ H := Nat.pow_lt_pow_right (by decide) (by omega)
  have h2 := Nat.shiftLeft_add_eq_or_of_lt h1 m
  rw [Nat.shiftLeft_eq] at h2
  rw [← h2, Nat.add_mul, Nat.one_mul]
  congr 1
  obtain ⟨j, rfl⟩ : ∃ j, H = j + 1 := ⟨H - 1, by omega⟩
  rw [Nat.add_sub_cancel, Nat.pow_succ, Nat.mul_comm 2 m, Nat.mul_assoc, Nat.mul_comm 2]
theorem spot_ok (h k : Nat) (hN : Node h k) (w : World) : Calls Tryd.prog 30 #[.int .u64 ((PLC h k : Nat) : Int)] w fun e w' => e = .returned (.tuple #[SPOT h k, .bool true]) ∧ Below w.heap.size w w' := by
  have hp := hN.lt
  obtain ⟨p, hpe⟩ : ∃ p, p = PLC h k := ⟨_, rfl⟩
  rw [← hpe] at hp ⊢
  have HN : Aside (Node h k ∧ p = PLC h k ∧ p < 9223372036854775807) := ⟨hN, hpe, hp⟩
  have hd : decide ((9223372036854775807 : Int) ≤ (p : Int)) = false := by simp; omega
  have e1 : IntKind.u64.wrap ((p : Int) + 1) = (p : Int) + 1 := by rw [wrapU]; omega
  have c1 := high_ok (p + 1) (by omega)
  obtain ⟨h1, h2, h3⟩ := LEN_span (p + 1) (by omega) (by omega)
  obtain ⟨H, hH⟩ : ∃ H, LEN (p + 1) = H + 1 := ⟨LEN (p + 1) - 1, by omega⟩
  rw [hH] at h2 h3 c1
  rw [show (((H + 1 : Nat) : Int) - 1) = (H : Int) by omega, show ((p + 1 : Nat) : Int) = (p : Int) + 1 by omega] at c1
  have HH : Aside (H ≤ 62 ∧ p + 2 ≤ 2 ^ (H + 1)) := by
    refine ⟨?_, by omega⟩
    rcases Nat.lt_or_ge 62 H with h | h
    · have : 2 ^ 63 ≤ 2 ^ H := Nat.pow_le_pow_right (by decide) h
      simp at h2
      omega
    · exact h
  clear hN hpe hp h1 h2 h3 hH
  go_enter Tryd.func30, Tryd.ntmps30
  go_wp2_with fail
  refine (c1 _).mono ?_
  rintro e w' ⟨rfl, rfl⟩
  clear c1
  go_wp2
  go_loopg [0, 4, 5] H (fun g s0 s4 s5 wx => ∃ q L : Nat, s0 = .int .u64 (q : Int) ∧ s4 = .int .i64 (g : Int) ∧ s5 = .int .u64 (L : Int) ∧ Aside (wx = w.alloc (.cells #[.int .u8 0, .int .u64 0] 59) ∧ g ≤ 62 ∧ q + 2 ≤ 2 ^ (g + 1) ∧ ∃ m, L = m * 2 ^ g ∧ Node g m ∧ p = NODES L + q))
  case atStart => exact ⟨p, 0, rfl, rfl, rfl, rfl, HH.out.1, HH.out.2, 0, by simp, ⟨HH.out.1, Nat.two_pow_pos _⟩, by rw [NODES_zero]; omega⟩
  case round =>
    obtain ⟨q, L, rfl, rfl, rfl, A⟩ := hrel
    obtain ⟨hw, hg, hq, m, hL, hNm, hpL⟩ := A.out
    clear A
    have e2 : IntKind.u64.wrap ((q : Int) + 1) = (q : Int) + 1 := by
      have : 2 ^ (gk + 1) ≤ 2 ^ 63 := Nat.pow_le_pow_right (by decide) (by omega)
      rw [wrapU]
      omega
    have c1 := tree_ok gk (by omega)
    by_cases hT : q + 1 = TREE gk
    · have hmk : h = gk ∧ k = m := by
        refine HN.out.1.one hNm ?_
        rw [← HN.out.2.1, hpL, hL]
        unfold PLC
        unfold TREE at hT
        have := two_le gk
        omega
      obtain ⟨rfl, rfl⟩ := hmk
      have hLk : (L : Int) / 2 ^ h = (k : Int) := by
        rw [hL, div_cast, Nat.mul_div_cancel _ (Nat.two_pow_pos h)]
      rw [← hT, show ((q + 1 : Nat) : Int) = (q : Int) + 1 by omega] at c1
      have R : Aside (L = k * 2 ^ h ∧ h ≤ 62 ∧ (L : Int) / 2 ^ h = (k : Int)) := ⟨hL, hg, hLk⟩
      clear hg hq hL hNm hpL HN HH hT hLk
      subst hw
      go_wp2_with fail
      refine (c1 _).mono ?_
      rintro e w' ⟨rfl, rfl⟩
      clear c1
      go_wp2
      obtain ⟨hL, hg, hLk⟩ := R.out
      rw [show (h : Int) % 256 = (h : Int) by omega, show min h 64 = h by omega, hLk]
      refine bodyPost_ret (v := .tuple #[SPOT h k, .bool true]) ?_ rfl ⟨rfl, (Below.refl _ _).alloc (Nat.le_refl _) _⟩
      simp [results, Tryd.f30, go_sem]
    · have h1 : 1 ≤ gk := by
        rcases Nat.eq_zero_or_pos gk with h0 | h0
        · subst h0
          simp at hq
          unfold TREE at hT
          simp at hT
          omega
        · exact h0
      obtain ⟨g, rfl⟩ : ∃ g, gk = g + 1 := ⟨gk - 1, by omega⟩
      have c2 := tree_ok g (by omega)
      have hb : ((q : Int) + 1 == ((TREE (g + 1) : Nat) : Int)) = false := by simp; omega
      generalize hT1 : TREE (g + 1) = t1 at *
      have e3 : wrap64 (g : Int) = (g : Int) := by unfold wrap64; omega
      rw [show (((g + 1 : Nat) : Int)) = (g : Int) + 1 by omega] at c1 ⊢
      have R : Aside (wr = w.alloc (.cells #[.int .u8 0, .int .u64 0] 59) ∧ g + 1 ≤ 62 ∧ q + 2 ≤ 2 ^ (g + 1 + 1) ∧ L = m * 2 ^ (g + 1) ∧ Node (g + 1) m ∧ p = NODES L + q ∧ q + 1 ≠ t1 ∧ TREE (g + 1) = t1) := ⟨hw, hg, hq, hL, hNm, hpL, hT, hT1⟩
      clear hw hg hq hL hNm hpL hT hT1 h1 HN HH
      by_cases hlt : TREE g ≤ q
      · have hd2 : decide (((TREE g : Nat) : Int) ≤ (q : Int)) = true := by simp; omega
        obtain ⟨t2, ht2⟩ : ∃ t2, TREE g = t2 := ⟨_, rfl⟩
        rw [ht2] at c2 hd2
        have hd3 : (t2 : Int) ≤ (q : Int) := by simpa using hd2
        have R2 : Aside (TREE g = t2 ∧ t2 ≤ q) := ⟨ht2, by omega⟩
        clear hlt ht2 hd2
        go_wp2_with fail
        refine (c1 _).mono ?_
        rintro e w' ⟨rfl, rfl⟩
        clear c1
        go_wp2_with fail
        refine (c2 _).mono ?_
        rintro e w' ⟨rfl, rfl⟩
        clear c2
        go_wp2
        go_roundg g
        case measure => omega
        case rel =>
          obtain ⟨r1, r2, r3, r4, r5, r6, r7, r8⟩ := R.out
          obtain ⟨s1, s2⟩ := R2.out
          have hpw := two_le g
          have hpp : 2 ^ (g + 1 + 1) = 2 * 2 ^ (g + 1) := by rw [Nat.pow_succ 2 (g + 1), Nat.mul_comm]
          have hp63 : 2 ^ (g + 1 + 1) ≤ 2 ^ 63 := Nat.pow_le_pow_right (by decide) (by omega)
          have hg64 : 2 ^ g < 2 ^ 64 := Nat.pow_lt_pow_right (by decide) (by omega)
          have hL64 : L < 2 ^ 64 := by
            have := r5.span
            rw [Nat.add_mul, ← r4] at this
            omega
          have ea : IntKind.u64.wrap ((q : Int) - t2) = ((q - t2 : Nat) : Int) := by rw [wrapU]; omega
          have eb : bits .or .u64 (L : Int) (IntKind.u64.wrap (2 ^ min g 64)) = (((2 * m + 1) * 2 ^ g : Nat) : Int) := by
            have e5 : IntKind.u64.wrap (2 ^ min g 64) = ((2 ^ g : Nat) : Int) := by
              rw [wrapU, show min g 64 = g by omega, Int.natCast_pow]
              have : ((2 ^ g : Nat) : Int) = (2 : Int) ^ g := by simp
              have h7 : ((2 : Nat) : Int) = 2 := rfl
              rw [h7, ← this]
              omega
            rw [e5, or_eq hL64 hg64, r4]
            exact congrArg (fun x : Nat => (x : Int)) (or_low (m := m) (H := g + 1) (by omega))
          unfold TREE at s1 r8
          rw [ea, eb, e3]
          refine ⟨q - t2, (2 * m + 1) * 2 ^ g, rfl, rfl, rfl, r1, by omega, by omega, 2 * m + 1, rfl, ⟨by omega, ?_⟩, ?_⟩
          · have := r5.2
            rw [show 62 - g = 62 - (g + 1) + 1 by omega, Nat.pow_succ]
            omega
          · have e6 := NODES_plus m g
            rw [double_pow, ← r4] at e6
            rw [e6, r6]
            unfold TREE
            omega
      · have hd3 : ¬ ((TREE g : Nat) : Int) ≤ (q : Int) := by omega
        obtain ⟨t2, ht2⟩ : ∃ t2, TREE g = t2 := ⟨_, rfl⟩
        rw [ht2] at c2 hd3
        have R2 : Aside (TREE g = t2 ∧ q < t2) := ⟨ht2, by omega⟩
        clear hlt ht2
        go_wp2_with fail
        refine (c1 _).mono ?_
        rintro e w' ⟨rfl, rfl⟩
        clear c1
        go_wp2_with fail
        refine (c2 _).mono ?_
        rintro e w' ⟨rfl, rfl⟩
        clear c2
        go_wp2
        go_roundg g
        case measure => omega
        case rel =>
          obtain ⟨r1, r2, r3, r4, r5, r6, r7, r8⟩ := R.out
          obtain ⟨s1, s2⟩ := R2.out
          have hpw := two_le g
          unfold TREE at s1
          rw [e3]
          refine ⟨q, L, rfl, rfl, rfl, r1, by omega, by omega, 2 * m, by rw [double_pow, ← r4], ⟨by omega, ?_⟩, r6⟩
          have := r5.2
          rw [show 62 - g = 62 - (g + 1) + 1 by omega, Nat.pow_succ]
          omega
end Go.Proofs.YtnplhejopmoopaaDoor

/- What Index, Leaves, Parent, Sibling, Kids, Right, Under and Since answer. -/
namespace Go.Proofs.YtnplhejopmoopaaDoor
open Go.RowKit

/-- Spot answers so at p. -/
def SpotAt (p : Int) (h k : Nat) (ok : Bool) : Prop := ∀ w, Calls Tryd.prog 30 #[.int .u64 p] w fun e w' => e = .returned (.tuple #[SPOT h k, .bool ok]) ∧ Below w.heap.size w w'
theorem SpotAt.node {h k : Nat} (hN : Node h k) : SpotAt ((PLC h k : Nat) : Int) h k true := fun w => spot_ok h k hN w
theorem SpotAt.out {p : Int} (hp : 9223372036854775807 ≤ p) : SpotAt p 0 0 false := fun w => spot_not p hp w

theorem index_leaf (p : Int) (k : Nat) (w : World) (cs : SpotAt p 0 k true) : Calls Tryd.prog 24 #[.int .u64 p] w fun e w' => e = .returned (.tuple #[.int .u64 (k : Int), .bool true]) ∧ Below w.heap.size w w' := by
  have cs := cs w
  go_enter Tryd.func24, Tryd.ntmps24
  go_wp2_with fail
  refine cs.mono ?_
  rintro e w1 ⟨rfl, hb⟩
  clear cs
  have R : Aside (Below w.heap.size w w1) := hb
  clear hb
  go_wp2
  go_ret2
  exact ⟨rfl, R.out.alloc R.out.size _⟩
theorem sibling_raw (p : Int) (h k : Nat) (b : Bool) (r : Int) (w : World) (hh : ((h : Int) == 62) = false) (hm : wrap64 (h : Int) = (h : Int)) (ha : (bits .and .u64 (k : Int) 1 == 1) = b) (cs : SpotAt p h k true)
    (co : ∀ w, Calls Tryd.prog 39 #[.int .u64 p, .int .i64 (h : Int), .bool b] w fun e w' => e = .returned (.int .u64 r) ∧ w = w') :
    Calls Tryd.prog 57 #[.int .u64 p] w fun e w' => e = .returned (.tuple #[.int .u64 r, .bool true]) ∧ Below w.heap.size w w' := by
  have cs := cs w
  go_enter Tryd.func57, Tryd.ntmps57
  go_wp2_with fail
  refine cs.mono ?_
  rintro e w1 ⟨rfl, hb⟩
  clear cs
  have R : Aside (Below w.heap.size w w1) := hb
  clear hb
  go_wp2_with fail
  refine (co _).mono ?_
  rintro e w2 ⟨rfl, rfl⟩
  clear co
  go_wp2
  go_ret2
  exact ⟨rfl, R.out.alloc R.out.size _⟩
theorem kids_raw (p q : Int) (h g k : Nat) (r : Int) (w : World) (hh : ((h : Int) == 0) = false) (hm : wrap64 (h : Int) = (h : Int)) (hg : wrap64 ((h : Int) - 1) = (g : Int)) (hq : IntKind.u64.wrap (p - 1) = q) (cs : SpotAt p h k true)
    (co : ∀ w, Calls Tryd.prog 39 #[.int .u64 q, .int .i64 (g : Int), .bool true] w fun e w' => e = .returned (.int .u64 r) ∧ w = w') :
    Calls Tryd.prog 23 #[.int .u64 p] w fun e w' => e = .returned (.tuple #[.int .u64 r, .int .u64 q, .bool true]) ∧ Below w.heap.size w w' := by
  have cs := cs w
  go_enter Tryd.func23, Tryd.ntmps23
  go_wp2_with fail
  refine cs.mono ?_
  rintro e w1 ⟨rfl, hb⟩
  clear cs
  have R : Aside (Below w.heap.size w w1) := hb
  clear hb
  go_wp2_with fail
  refine (co _).mono ?_
  rintro e w2 ⟨rfl, rfl⟩
  clear co
  go_wp2
  go_ret3
  exact ⟨rfl, R.out.alloc R.out.size _⟩
theorem kids_leaf (p : Int) (k : Nat) (w : World) (cs : SpotAt p 0 k true) : Calls Tryd.prog 23 #[.int .u64 p] w fun e w' => e = .returned (.tuple #[.int .u64 0, .int .u64 0, .bool false]) ∧ Below w.heap.size w w' := by
  have cs := cs w
  go_enter Tryd.func23, Tryd.ntmps23
  go_wp2_with fail
  refine cs.mono ?_
  rintro e w1 ⟨rfl, hb⟩
  clear cs
  have R : Aside (Below w.heap.size w w1) := hb
  clear hb
  go_wp2
  go_ret3
  exact ⟨rfl, R.out.alloc R.out.size _⟩
theorem right_raw (p : Int) (h k : Nat) (b : Bool) (w : World) (ha : (bits .and .u64 (k : Int) 1 == 1) = b) (cs : SpotAt p h k true) :
    Calls Tryd.prog 42 #[.int .u64 p] w fun e w' => e = .returned (.bool b) ∧ Below w.heap.size w w' := by
  have cs := cs w
  go_enter Tryd.func42, Tryd.ntmps42
  go_wp2_with fail
  refine cs.mono ?_
  rintro e w1 ⟨rfl, hb⟩
  clear cs
  have R : Aside (Below w.heap.size w w1) := hb
  clear hb
  go_wp2
  go_ret
  exact ⟨rfl, R.out.alloc R.out.size _⟩
end Go.Proofs.YtnplhejopmoopaaDoor

/- What Place answers. -/
namespace Go.Proofs.YtnplhejopmoopaaDoor
open Go.RowKit

theorem quiet_eq {P : Program} {f : FuncId} {args : Array Value} {w : World} {n : Nat} {v : Value}
    (h : Calls P f args (w.drewN n) fun e w' => e = .returned v ∧ w.drewN n = w') : Calls P f args (w.drewN n) fun e w'' => e = .returned v ∧ ∃ m, w'' = w.drewN m :=
  h.mono fun _ _ ⟨he, hm⟩ => ⟨he, n, hm.symm⟩
end Go.Proofs.YtnplhejopmoopaaDoor

/- What the functions of package pos answer, node by node. -/
namespace Go.Proofs.YtnplhejopmoopaaDoor
open Go.RowKit

theorem and_one (k : Nat) (hk : k < 2 ^ 64) : bits .and .u64 (k : Int) 1 = ((k % 2 : Nat) : Int) := by
  have : bits .and .u64 (k : Int) ((1 : Nat) : Int) = ((k &&& 1 : Nat) : Int) := and_eq hk (by decide)
  rw [Nat.and_one_is_mod] at this
  exact this
theorem odd_eq (k : Nat) (hk : k < 2 ^ 64) : (bits .and .u64 (k : Int) 1 == 1) = decide (k % 2 = 1) := by
  rw [and_one k hk, Bool.eq_iff_iff]
  simp
  omega
theorem PLC_sibling (h k : Nat) : PLC h (SIB k) = if k % 2 = 1 then PLC h k - TREE h else PLC h k + TREE h := by
  unfold SIB
  split
  · have := PLC_sib h (k / 2)
    rw [show 2 * (k / 2) + 1 = k by omega, show 2 * (k / 2) = k - 1 by omega] at this
    omega
  · have := PLC_sib h (k / 2)
    rw [show 2 * (k / 2) = k by omega] at this
    omega
theorem tree_le_right {h k : Nat} (hk : k % 2 = 1) : TREE h ≤ PLC h k := by
  have := PLC_sib h (k / 2)
  rw [show 2 * (k / 2) + 1 = k by omega] at this
  omega
theorem beside_ok (h k : Nat) (hN : Node h k) (hh : h < 62) (w : World) : Calls Tryd.prog 39 #[.int .u64 ((PLC h k : Nat) : Int), .int .i64 (h : Int), .bool (decide (k % 2 = 1))] w fun e w' => e = .returned (.int .u64 ((PLC h (SIB k) : Nat) : Int)) ∧ w = w' := by
  have h0 := hN.lt
  have h1 := (hN.sib hh).lt
  have h2 := PLC_sibling h k
  by_cases hk : k % 2 = 1
  · rw [if_pos hk] at h2
    rw [decide_eq_true hk]
    have h3 := tree_le_right (h := h) hk
    have := beside_right (PLC h k : Nat) (h : Int) (TREE h : Nat) w (fun w => tree_ok h (by omega) w)
    rw [show IntKind.u64.wrap (((PLC h k : Nat) : Int) - ((TREE h : Nat) : Int)) = ((PLC h (SIB k) : Nat) : Int) by rw [wrapU]; omega] at this
    exact this
  · rw [if_neg hk] at h2
    rw [decide_eq_false hk]
    have := beside_left (PLC h k : Nat) (h : Int) (TREE h : Nat) w (fun w => tree_ok h (by omega) w)
    rw [show IntKind.u64.wrap (((PLC h k : Nat) : Int) + ((TREE h : Nat) : Int)) = ((PLC h (SIB k) : Nat) : Int) by rw [wrapU]; omega] at this
    exact this
theorem sibling_ok (h k : Nat) (hN : Node h k) (hh : h < 62) (w : World) : Calls Tryd.prog 57 #[.int .u64 ((PLC h k : Nat) : Int)] w fun e w' => e = .returned (.tuple #[.int .u64 ((PLC h (SIB k) : Nat) : Int), .bool true]) ∧ Below w.heap.size w w' :=
  sibling_raw _ h k (decide (k % 2 = 1)) _ w (by simp; omega) (by unfold wrap64; omega) (odd_eq k (by have := hN.index_lt; omega)) (.node hN) (fun w => beside_ok h k hN hh w)
theorem kids_ok (h k : Nat) (hN : Node (h + 1) k) (w : World) : Calls Tryd.prog 23 #[.int .u64 ((PLC (h + 1) k : Nat) : Int)] w fun e w' => e = .returned (.tuple #[.int .u64 ((PLC h (2 * k) : Nat) : Int), .int .u64 ((PLC h (2 * k + 1) : Nat) : Int), .bool true]) ∧ Below w.heap.size w w' := by
  have h1 := hN.1
  have h2 := PLC_up_right h k
  have h3 := PLC_sib h k
  have h4 := hN.lt
  refine kids_raw _ ((PLC h (2 * k + 1) : Nat) : Int) (h + 1) h k _ w (by simp; omega) (by unfold wrap64; omega) (by unfold wrap64; omega) (by rw [wrapU]; omega) (.node hN) (fun w => ?_)
  have := beside_right (PLC h (2 * k + 1) : Nat) (h : Int) (TREE h : Nat) w (fun w => tree_ok h (by omega) w)
  rw [show IntKind.u64.wrap (((PLC h (2 * k + 1) : Nat) : Int) - ((TREE h : Nat) : Int)) = ((PLC h (2 * k) : Nat) : Int) by rw [wrapU]; omega] at this
  exact this
theorem right_ok (h k : Nat) (hN : Node h k) (w : World) : Calls Tryd.prog 42 #[.int .u64 ((PLC h k : Nat) : Int)] w fun e w' => e = .returned (.bool (decide (k % 2 = 1))) ∧ Below w.heap.size w w' :=
  right_raw _ h k _ w (odd_eq k (by have := hN.index_lt; omega)) (.node hN)
end Go.Proofs.YtnplhejopmoopaaDoor

/- A tree's small calls: left, Node, New. -/
namespace Go.Proofs.YtnplhejopmoopaaDoor.HX
open Go.RowKit
set_option maxRecDepth 100000

theorem results_cell {fn : Func} {p : Tmp} {ty : TypeId} (h : fn.results = #[.cell p ty]) (tmps : Array Value) (w : World) (g : Nat) (t : TypeId) (cs : Array Value) (fr : Nat × Nat) (k : Nat) (el : TypeId)
    (hp : tmps.getD p undef = .pointer (some ⟨g, 0, none⟩)) (hg : w.heap[g]? = some (.cells cs t fr))
    (hu : Tryd.prog.underlying ty = some (.array k el)) (hi : (Tryd.prog.info? ty).map (·.size) = some cs.size) :
    (results fn tmps).run Tryd.prog w = .ok (.agg cs) w := by
  have hp' : tmps[p]?.getD undef = .pointer (some ⟨g, 0, none⟩) := by simpa using hp
  simp [results, h, hp', asAddr, run_loadVar_row w g t ty cs fr (.array k el) hg hu rfl hi]
set_option maxHeartbeats 1000000 in
theorem left_ok {w : World} {B g log len alive N : Nat} {C : CHUNKS} (hS : STORE w B g log len alive N C) (j k : Nat) (hN : Node j k) (hj : j < 62) (hs : PLC j (SIB k) < len) (L : Nat → Nat) (hL : AT C log (PLC j (SIB k)) = some L) :
    Calls Tryd.prog 44 #[.pointer (some ⟨g, 0, none⟩), .int .u64 ((PLC j k : Nat) : Int)] w fun e w' => e = .returned (.agg (UARR .u8 32 L)) ∧ Below w.heap.size w w' := by
  have hz := zeroHash
  obtain ⟨w0, hw0⟩ : ∃ w0, w.alloc (.cells (UARR .u8 32 fun _ => 0) 27) = w0 := ⟨_, rfl⟩
  have hb0 : Below w.heap.size w w0 := by rw [← hw0]; exact (Below.refl _ _).alloc (Nat.le_refl _) _
  have h40 : Has w0 w.heap.size (UARR .u8 32 fun _ => 0) 27 := by rw [← hw0]; exact Has.new w _ _
  have cs := sibling_ok j k hN hj w0
  have hp64 : PLC j (SIB k) < 2 ^ 64 := by have := hS.short; omega
  have cg := fun (W : World) (hb : Below w0.heap.size w0 W) => get_ok ((hS.below hb0).below hb) (PLC j (SIB k)) hp64
  have e1 : GOTH C log len (PLC j (SIB k)) = L := by unfold GOTH; rw [if_pos hs, hL]; rfl
  have e2 : GOT C log len (PLC j (SIB k)) = 0 := by unfold GOT; rw [if_pos hs, hL]; rfl
  rw [e1, e2] at cg
  clear hS hN hj hs hL e1 e2 hp64
  generalize PLC j (SIB k) = q at *
  generalize PLC j k = p at *
  go_enter Tryd.func44, Tryd.ntmps44
  go_wp2_with fail
  refine cs.mono ?_
  rintro e w1 ⟨rfl, hb1⟩
  clear cs
  go_wp2_with fail
  refine (cg w1 hb1).mono ?_
  rintro e w2 ⟨rfl, hb2⟩
  clear cg
  have hst := run_storeCells_new (P := Tryd.prog) w2 27 (UARR .u8 32 fun _ => 0) (UARR .u8 32 L) (info_HASH _) (by rw [UARR_size, UARR_size]) (UARR_one _ _ _)
  have hsu := UARR_size .u8 32 L
  obtain ⟨w3, hw3⟩ : ∃ w3, w2.alloc (.cells (UARR .u8 32 L) 27) = w3 := ⟨_, rfl⟩
  have hb12 : Below w0.heap.size w0 w2 := hb1.trans (hb2.mono hb1.size)
  have hb3 : Below w0.heap.size w0 w3 := by rw [← hw3]; exact hb12.alloc hb12.size _
  have hF3 : Has w3 w2.heap.size (UARR .u8 32 L) 27 := by rw [← hw3]; exact Has.new w2 _ _
  have h43 := h40.keep hb3
  have hb3' : Below w.heap.size w w3 := hb0.trans (hb3.mono hb0.size)
  have hst2 := store_cells32 h43 L
  go_wp2_with (first
    | (refine wpList_load_row rfl 27 (.tmp 7) rfl w2.heap.size rfl 27 (UARR .u8 32 L) (0, 0) _ hF3 Tryd.underlying27 rfl (info_HASH _) ?_)
    | fail)
  refine bodyPost_ret (v := .agg (UARR .u8 32 L)) ?_ rfl ⟨rfl, below_row hb3' (Nat.le_refl _) _⟩
  exact results_cell rfl _ _ w.heap.size 27 _ (0, 0) _ _ rfl (h43.row _) Tryd.underlying27 (info_HASH _)
set_option maxHeartbeats 1000000 in
theorem treenode_ok {w : World} {B g log len alive N : Nat} {C : CHUNKS} (hS : STORE w B g log len alive N C) (p : Nat) (hp : p < 2 ^ 64) :
    Calls Tryd.prog 15 #[.pointer (some ⟨g, 0, none⟩), .int .u64 (p : Int)] w fun e w' => e = .returned (.tuple #[.agg (UARR .u8 32 (GOTH C log len p)), .int .i64 (GOT C log len p)]) ∧ Below w.heap.size w w' := by
  have hz := zeroHash
  obtain ⟨w0, hw0⟩ : ∃ w0, w.alloc (.cells (UARR .u8 32 fun _ => 0) 27) = w0 := ⟨_, rfl⟩
  have hb0 : Below w.heap.size w w0 := by rw [← hw0]; exact (Below.refl _ _).alloc (Nat.le_refl _) _
  have h40 : Has w0 w.heap.size (UARR .u8 32 fun _ => 0) 27 := by rw [← hw0]; exact Has.new w _ _
  have cg := get_ok (hS.below hb0) p hp
  clear hS
  generalize GOTH C log len p = L at *
  generalize GOT C log len p = E at *
  go_enter Tryd.func15, Tryd.ntmps15
  go_wp2_with fail
  refine cg.mono ?_
  rintro e w1 ⟨rfl, hb1⟩
  clear cg
  have h41 := h40.keep hb1
  have hst2 := store_cells32 h41 L
  have hb1' : Below w.heap.size w w1 := hb0.trans (hb1.mono hb0.size)
  have hsu := UARR_size .u8 32 L
  go_wp2
  refine bodyPost_ret (v := .tuple #[.agg (UARR .u8 32 L), .int .i64 E]) ?_ rfl ⟨rfl, below_row hb1' (Nat.le_refl _) _⟩
  exact results_hash rfl _ _ w.heap.size 27 _ (0, 0) _ _ rfl (h41.row _) _ rfl Tryd.underlying27 (info_HASH _)
end Go.Proofs.YtnplhejopmoopaaDoor.HX
