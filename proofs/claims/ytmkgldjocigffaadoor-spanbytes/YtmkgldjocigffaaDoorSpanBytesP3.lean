/- Texts of SpanBytes, one behind the other: PosPeaksPlain, PosSpot, PosBackward, PosPeaksCall, PosKin. -/
import Derived.Deep.LoopGhost
import Derived.RangeFuncBox
import Derived.RangeFuncLeaves
import Derived.RangeFuncCalls
import Derived.Shelf.Abstract
import Derived.Shelf.RegionOpen
import Derived.WalkKit
import Derived.OwnWalkIn
import Derived.TacticsInMore
import Derived.LoopNIn
import Derived.LoopIn
import Derived.Maps.AppendAt
import Derived.RangeFuncNested
import Derived.Deep.QuietTactic
import Derived.BigQuiet
import Derived.Deep.RegionHeld3
import Derived.Test.YtmkgldjocigffaaDoorSpanBytesP2
/- Peaks in plain numbers: the heights of the peaks of n leaves, their places, which one stands over a leaf, the way there. -/
namespace Go.Proofs.YtmkgldjocigffaaDoor

/-- the places of the bits of n that are set, from h on. -/
def UP (h n : Nat) : List Nat := PL (64 - h) h (n / 2 ^ h)
theorem UP_step {h n : Nat} (hh : h < 64) : UP h n = if n / 2 ^ h % 2 = 1 then h :: UP (h + 1) n else UP (h + 1) n := by
  unfold UP
  rw [show 64 - h = (64 - (h + 1)) + 1 by omega, PL, Nat.div_div_eq_div_mul, ← Nat.pow_succ]
theorem UP_zero (n : Nat) : UP 0 n = PLACES n := by
  unfold UP PLACES
  simp
theorem UP_top {h n : Nat} (hn : n < 2 ^ h) : UP h n = [] := by
  unfold UP
  rw [Nat.div_eq_of_lt hn, PL_zero]
/-- the heights of the peaks of n leaves that are at least h, from the left. -/
def HS (h n : Nat) : List Nat := (UP h n).reverse
theorem HS_set {h n : Nat} (hh : h < 64) (hb : n / 2 ^ h % 2 = 1) : HS h n = HS (h + 1) n ++ [h] := by
  unfold HS
  rw [UP_step hh, if_pos hb, List.reverse_cons]
theorem HS_clear {h n : Nat} (hh : h < 64) (hb : ¬ n / 2 ^ h % 2 = 1) : HS h n = HS (h + 1) n := by
  unfold HS
  rw [UP_step hh, if_neg hb]
theorem HS_top {h n : Nat} (hn : n < 2 ^ h) : HS h n = [] := by
  unfold HS
  rw [UP_top hn]
  rfl
theorem HS_zero (n : Nat) : HS 0 n = (PLACES n).reverse := by
  unfold HS
  rw [UP_zero]
theorem HS_length {n : Nat} (hn : n < 2 ^ 64) : ∀ h, h ≤ 64 → (HS h n).length = PC (n / 2 ^ h) := by
  have key : ∀ d h, h + d = 64 → (HS h n).length = PC (n / 2 ^ h) := by
    intro d
    induction d with
    | zero =>
      intro h e
      obtain rfl : h = 64 := by omega
      rw [HS_top hn, Nat.div_eq_of_lt hn, PC_zero]
      rfl
    | succ d ih =>
      intro h e
      have ih := ih (h + 1) (by omega)
      rw [PC_step, Nat.div_div_eq_div_mul, ← Nat.pow_succ, ← ih]
      by_cases hb : n / 2 ^ h % 2 = 1
      · rw [HS_set (by omega) hb, List.length_append, List.length_singleton]
        omega
      · rw [HS_clear (by omega) hb]
        omega
  intro h hh
  exact key (64 - h) h (by omega)
theorem HS_set_of {n : Nat} : ∀ h x, h ≤ 64 → x ∈ HS h n → h ≤ x ∧ x < 64 ∧ n / 2 ^ x % 2 = 1 := by
  have key : ∀ d h, h + d = 64 → ∀ x, x ∈ HS h n → h ≤ x ∧ x < 64 ∧ n / 2 ^ x % 2 = 1 := by
    intro d
    induction d with
    | zero =>
      intro h e x hx
      obtain rfl : h = 64 := by omega
      simp [HS, UP, PL] at hx
    | succ d ih =>
      intro h e x hx
      by_cases hb : n / 2 ^ h % 2 = 1
      · rw [HS_set (by omega) hb, List.mem_append, List.mem_singleton] at hx
        rcases hx with hx | rfl
        · have := ih (h + 1) (by omega) x hx
          exact ⟨by omega, this.2⟩
        · exact ⟨Nat.le_refl _, by omega, hb⟩
      · rw [HS_clear (by omega) hb] at hx
        have := ih (h + 1) (by omega) x hx
        exact ⟨by omega, this.2⟩
  intro h x hh
  exact key (64 - h) h (by omega) x

/-- the place of the peak of height h of n leaves. -/
def PKP (n h : Nat) : Nat := PLC h (2 * (n / 2 ^ (h + 1)))
/-- the places of the peaks of n leaves, from the left. -/
def PEAKS (n : Nat) : List Nat := (HS 0 n).map (PKP n)
theorem half_pow (n h : Nat) : n / 2 ^ (h + 1) = n / 2 ^ h / 2 := by rw [Nat.div_div_eq_div_mul, ← Nat.pow_succ]
theorem NODES_plus (m h : Nat) : NODES ((2 * m + 1) * 2 ^ h) = NODES (2 * m * 2 ^ h) + TREE h := by
  have h1 := NODES_add ((2 * m + 1) * 2 ^ h)
  have h2 := NODES_add (2 * m * 2 ^ h)
  rw [PC_shift, PC_odd, Nat.add_mul, Nat.one_mul] at h1
  rw [PC_shift, PC_even] at h2
  have h3 := two_le h
  rw [Nat.pow_succ] at h3
  rw [Nat.add_mul, Nat.one_mul]
  unfold TREE
  rw [Nat.pow_succ]
  omega
theorem at_set {n h : Nat} (hb : n / 2 ^ h % 2 = 1) : n / 2 ^ h = 2 * (n / 2 ^ (h + 1)) + 1 := by
  rw [half_pow]
  omega
theorem at_clear {n h : Nat} (hb : ¬ n / 2 ^ h % 2 = 1) : n / 2 ^ h = 2 * (n / 2 ^ (h + 1)) := by
  rw [half_pow]
  omega
theorem double_pow (m h : Nat) : 2 * m * 2 ^ h = m * 2 ^ (h + 1) := by
  rw [Nat.pow_succ, Nat.mul_comm 2 m, Nat.mul_assoc, Nat.mul_comm 2]
/-- what the loop over the heights makes: how many nodes, and the places. -/
def ST (l : List Nat) : Nat × List Nat := l.foldl (fun s h => ((s.1 + TREE h) % 2 ^ 64, s.2 ++ [((s.1 + TREE h) % 2 ^ 64 + (2 ^ 64 - 1)) % 2 ^ 64])) (0, [])
theorem ST_snoc (l : List Nat) (h : Nat) : ST (l ++ [h]) = (((ST l).1 + TREE h) % 2 ^ 64, (ST l).2 ++ [(((ST l).1 + TREE h) % 2 ^ 64 + (2 ^ 64 - 1)) % 2 ^ 64]) := by
  unfold ST
  rw [List.foldl_append]
  rfl
theorem NODES_top {n : Nat} (hn : n ≤ 4611686018427387904) : NODES n ≤ 9223372036854775807 := by
  rw [← NODES_most]
  exact NODES_le hn
theorem ST_HS {n : Nat} (hn : n ≤ 4611686018427387904) : ∀ h, h ≤ 64 → ST (HS h n) = (NODES (n / 2 ^ h * 2 ^ h), (HS h n).map (PKP n)) := by
  have key : ∀ d h, h + d = 64 → ST (HS h n) = (NODES (n / 2 ^ h * 2 ^ h), (HS h n).map (PKP n)) := by
    intro d
    induction d with
    | zero =>
      intro h e
      obtain rfl : h = 64 := by omega
      rw [HS_top (by omega), Nat.div_eq_of_lt (by omega), Nat.zero_mul, NODES_zero]
      rfl
    | succ d ih =>
      intro h e
      have ih := ih (h + 1) (by omega)
      by_cases hb : n / 2 ^ h % 2 = 1
      · have e1 := at_set hb
        have h2 : NODES (n / 2 ^ h * 2 ^ h) = NODES (n / 2 ^ (h + 1) * 2 ^ (h + 1)) + TREE h := by
          rw [e1, NODES_plus, double_pow]
        have h3 : NODES (n / 2 ^ h * 2 ^ h) ≤ 9223372036854775807 := NODES_top (Nat.le_trans (Nat.div_mul_le_self _ _) hn)
        have h4 := two_le h
        have hs : (NODES (n / 2 ^ (h + 1) * 2 ^ (h + 1)) + TREE h) % 2 ^ 64 = NODES (n / 2 ^ h * 2 ^ h) := by
          rw [← h2]
          omega
        have hp : (NODES (n / 2 ^ h * 2 ^ h) + (2 ^ 64 - 1)) % 2 ^ 64 = PKP n h := by
          unfold PKP PLC
          rw [double_pow]
          unfold TREE at h2
          omega
        rw [HS_set (by omega) hb, ST_snoc, ih]
        dsimp only
        rw [hs, hp, List.map_append]
        rfl
      · rw [HS_clear (by omega) hb, ih, at_clear hb, double_pow]
  intro h hh
  exact key (64 - h) h (by omega)
theorem ST_all {n : Nat} (hn : n ≤ 4611686018427387904) : ST (HS 0 n) = (NODES n, PEAKS n) := by
  have := ST_HS hn 0 (by omega)
  unfold PEAKS
  simpa using this

theorem Node.peak {n h : Nat} (hn : n ≤ 4611686018427387904) (hb : n / 2 ^ h % 2 = 1) : Node h (2 * (n / 2 ^ (h + 1))) := by
  have h62 : h ≤ 62 := by
    rcases Nat.lt_or_ge 62 h with h1 | h1
    · have : 2 ^ 63 ≤ 2 ^ h := Nat.pow_le_pow_right (by decide) h1
      rw [Nat.div_eq_of_lt (by omega)] at hb
      omega
    · exact h1
  refine ⟨h62, ?_⟩
  have h1 : n / 2 ^ h ≤ 2 ^ (62 - h) := by
    have : n / 2 ^ h ≤ 2 ^ 62 / 2 ^ h := Nat.div_le_div_right (by simpa using hn)
    rw [Nat.pow_div h62 (by decide)] at this
    exact this
  rw [at_set hb] at h1
  omega
end Go.Proofs.YtmkgldjocigffaaDoor

/- What Spot answers: the node that stands at a place. -/
namespace Go.Proofs.YtmkgldjocigffaaDoor
open Go.RowKit

/-- the spot (h, k) as a value. -/
abbrev SPOT (h k : Nat) : Value := .agg #[.int .u8 (h : Int), .int .u64 (k : Int)]
theorem high_ok (X : Nat) (hX : X < 2 ^ 64) (w : World) : Calls Tryd.prog 53 #[.int .u64 (X : Int)] w fun e w' => e = .returned (.int .i64 ((LEN X : Nat) - 1 : Int)) ∧ w = w' := by
  have hl : LEN X ≤ 64 := by
    unfold LEN
    have := L8_le (X / 72057594037927936)
    have := L8_le (X / 281474976710656)
    have := L8_le (X / 1099511627776)
    have := L8_le (X / 4294967296)
    have := L8_le (X / 16777216)
    have := L8_le (X / 65536)
    have := L8_le (X / 256)
    have := L8_le X
    repeat' split
    all_goals omega
  exact high_raw X _ w (fun w => len_ok X hX w) (by omega) (by omega)

theorem spot_not (p : Int) (hp : 9223372036854775807 ≤ p) (w : World) : Calls Tryd.prog 32 #[.int .u64 p] w fun e w' => e = .returned (.tuple #[SPOT 0 0, .bool false]) ∧ Below w.heap.size w w' := by
  go_enter Tryd.func32, Tryd.ntmps32
  go_wp2
  refine bodyPost_ret (v := .tuple #[SPOT 0 0, .bool false]) ?_ rfl ⟨rfl, (Below.refl _ _).alloc (Nat.le_refl _) _⟩
  simp [results, Tryd.f32, go_sem]
theorem or_low {m H : Nat} (hH : 1 ≤ H) : m * 2 ^ H ||| 2 ^ (H - 1) = (2 * m + 1) * 2 ^ (H - 1) := by
  have h1 : 2 ^ (H - 1) < 2 ^ H := Nat.pow_lt_pow_right (by decide) (by omega)
  have h2 := Nat.shiftLeft_add_eq_or_of_lt h1 m
  rw [Nat.shiftLeft_eq] at h2
  rw [← h2, Nat.add_mul, Nat.one_mul]
  congr 1
  obtain ⟨j, rfl⟩ : ∃ j, H = j + 1 := ⟨H - 1, by omega⟩
  rw [Nat.add_sub_cancel, Nat.pow_succ, Nat.mul_comm 2 m, Nat.mul_assoc, Nat.mul_comm 2]
theorem spot_ok (h k : Nat) (hN : Node h k) (w : World) : Calls Tryd.prog 32 #[.int .u64 ((PLC h k : Nat) : Int)] w fun e w' => e = .returned (.tuple #[SPOT h k, .bool true]) ∧ Below w.heap.size w w' := by
  have hp := hN.lt
  obtain ⟨p, hpe⟩ : ∃ p, p = PLC h k := ⟨_, rfl⟩
  rw [← hpe] at hp ⊢
  have HN : Aside (Node h k ∧ p = PLC h k ∧ p < 9223372036854775807) := ⟨hN, hpe, hp⟩
  have hd : decide ((9223372036854775807 : Int) ≤ (p : Int)) = false := by simp; omega
  have e1 : IntKind.u64.wrap ((p : Int) + 1) = (p : Int) + 1 := by rw [wrapU]; omega
  have c1 := high_ok (p + 1) (by omega)
  obtain ⟨h1, h2, h3⟩ := LEN_span (p + 1) (by omega) (by omega)
  obtain ⟨H, hH⟩ : ∃ H, LEN (p + 1) = H + 1 := ⟨LEN (p + 1) - 1, by omega⟩
  rw [hH] at h2 h3 c1
  rw [show (((H + 1 : Nat) : Int) - 1) = (H : Int) by omega, show ((p + 1 : Nat) : Int) = (p : Int) + 1 by omega] at c1
  have HH : Aside (H ≤ 62 ∧ p + 2 ≤ 2 ^ (H + 1)) := by
    refine ⟨?_, by omega⟩
    rcases Nat.lt_or_ge 62 H with h | h
    · have : 2 ^ 63 ≤ 2 ^ H := Nat.pow_le_pow_right (by decide) h
      simp at h2
      omega
    · exact h
  clear hN hpe hp h1 h2 h3 hH
  go_enter Tryd.func32, Tryd.ntmps32
  go_wp2_with fail
  refine (c1 _).mono ?_
  rintro e w' ⟨rfl, rfl⟩
  clear c1
  go_wp2
  go_loopg [0, 4, 5] H (fun g s0 s4 s5 wx => ∃ q L : Nat, s0 = .int .u64 (q : Int) ∧ s4 = .int .i64 (g : Int) ∧ s5 = .int .u64 (L : Int) ∧ Aside (wx = w.alloc (.cells #[.int .u8 0, .int .u64 0] 55) ∧ g ≤ 62 ∧ q + 2 ≤ 2 ^ (g + 1) ∧ ∃ m, L = m * 2 ^ g ∧ Node g m ∧ p = NODES L + q))
  case atStart => exact ⟨p, 0, rfl, rfl, rfl, rfl, HH.out.1, HH.out.2, 0, by simp, ⟨HH.out.1, Nat.two_pow_pos _⟩, by rw [NODES_zero]; omega⟩
  case round =>
    obtain ⟨q, L, rfl, rfl, rfl, A⟩ := hrel
    obtain ⟨hw, hg, hq, m, hL, hNm, hpL⟩ := A.out
    clear A
    have e2 : IntKind.u64.wrap ((q : Int) + 1) = (q : Int) + 1 := by
      have : 2 ^ (gk + 1) ≤ 2 ^ 63 := Nat.pow_le_pow_right (by decide) (by omega)
      rw [wrapU]
      omega
    have c1 := tree_ok gk (by omega)
    by_cases hT : q + 1 = TREE gk
    · have hmk : h = gk ∧ k = m := by
        refine HN.out.1.one hNm ?_
        rw [← HN.out.2.1, hpL, hL]
        unfold PLC
        unfold TREE at hT
        have := two_le gk
        omega
      obtain ⟨rfl, rfl⟩ := hmk
      have hLk : (L : Int) / 2 ^ h = (k : Int) := by
        rw [hL, div_cast, Nat.mul_div_cancel _ (Nat.two_pow_pos h)]
      rw [← hT, show ((q + 1 : Nat) : Int) = (q : Int) + 1 by omega] at c1
      have R : Aside (L = k * 2 ^ h ∧ h ≤ 62 ∧ (L : Int) / 2 ^ h = (k : Int)) := ⟨hL, hg, hLk⟩
      clear hg hq hL hNm hpL HN HH hT hLk
      subst hw
      go_wp2_with fail
      refine (c1 _).mono ?_
      rintro e w' ⟨rfl, rfl⟩
      clear c1
      go_wp2
      obtain ⟨hL, hg, hLk⟩ := R.out
      rw [show (h : Int) % 256 = (h : Int) by omega, show min h 64 = h by omega, hLk]
      refine bodyPost_ret (v := .tuple #[SPOT h k, .bool true]) ?_ rfl ⟨rfl, (Below.refl _ _).alloc (Nat.le_refl _) _⟩
      simp [results, Tryd.f32, go_sem]
    · have h1 : 1 ≤ gk := by
        rcases Nat.eq_zero_or_pos gk with h0 | h0
        · subst h0
          simp at hq
          unfold TREE at hT
          simp at hT
          omega
        · exact h0
      obtain ⟨g, rfl⟩ : ∃ g, gk = g + 1 := ⟨gk - 1, by omega⟩
      have c2 := tree_ok g (by omega)
      have hb : ((q : Int) + 1 == ((TREE (g + 1) : Nat) : Int)) = false := by simp; omega
      generalize hT1 : TREE (g + 1) = t1 at *
      have e3 : wrap64 (g : Int) = (g : Int) := by unfold wrap64; omega
      rw [show (((g + 1 : Nat) : Int)) = (g : Int) + 1 by omega] at c1 ⊢
      have R : Aside (wr = w.alloc (.cells #[.int .u8 0, .int .u64 0] 55) ∧ g + 1 ≤ 62 ∧ q + 2 ≤ 2 ^ (g + 1 + 1) ∧ L = m * 2 ^ (g + 1) ∧ Node (g + 1) m ∧ p = NODES L + q ∧ q + 1 ≠ t1 ∧ TREE (g + 1) = t1) := ⟨hw, hg, hq, hL, hNm, hpL, hT, hT1⟩
      clear hw hg hq hL hNm hpL hT hT1 h1 HN HH
      by_cases hlt : TREE g ≤ q
      · have hd2 : decide (((TREE g : Nat) : Int) ≤ (q : Int)) = true := by simp; omega
        obtain ⟨t2, ht2⟩ : ∃ t2, TREE g = t2 := ⟨_, rfl⟩
        rw [ht2] at c2 hd2
        have hd3 : (t2 : Int) ≤ (q : Int) := by simpa using hd2
        have R2 : Aside (TREE g = t2 ∧ t2 ≤ q) := ⟨ht2, by omega⟩
        clear hlt ht2 hd2
        go_wp2_with fail
        refine (c1 _).mono ?_
        rintro e w' ⟨rfl, rfl⟩
        clear c1
        go_wp2_with fail
        refine (c2 _).mono ?_
        rintro e w' ⟨rfl, rfl⟩
        clear c2
        go_wp2
        go_roundg g
        case measure => omega
        case rel =>
          obtain ⟨r1, r2, r3, r4, r5, r6, r7, r8⟩ := R.out
          obtain ⟨s1, s2⟩ := R2.out
          have hpw := two_le g
          have hpp : 2 ^ (g + 1 + 1) = 2 * 2 ^ (g + 1) := by rw [Nat.pow_succ 2 (g + 1), Nat.mul_comm]
          have hp63 : 2 ^ (g + 1 + 1) ≤ 2 ^ 63 := Nat.pow_le_pow_right (by decide) (by omega)
          have hg64 : 2 ^ g < 2 ^ 64 := Nat.pow_lt_pow_right (by decide) (by omega)
          have hL64 : L < 2 ^ 64 := by
            have := r5.span
            rw [Nat.add_mul, ← r4] at this
            omega
          have ea : IntKind.u64.wrap ((q : Int) - t2) = ((q - t2 : Nat) : Int) := by rw [wrapU]; omega
          have eb : bits .or .u64 (L : Int) (IntKind.u64.wrap (2 ^ min g 64)) = (((2 * m + 1) * 2 ^ g : Nat) : Int) := by
            have e5 : IntKind.u64.wrap (2 ^ min g 64) = ((2 ^ g : Nat) : Int) := by
              rw [wrapU, show min g 64 = g by omega, Int.natCast_pow]
              have : ((2 ^ g : Nat) : Int) = (2 : Int) ^ g := by simp
              have h7 : ((2 : Nat) : Int) = 2 := rfl
              rw [h7, ← this]
              omega
            rw [e5, or_eq hL64 hg64, r4]
            exact congrArg (fun x : Nat => (x : Int)) (or_low (m := m) (H := g + 1) (by omega))
          unfold TREE at s1 r8
          rw [ea, eb, e3]
          refine ⟨q - t2, (2 * m + 1) * 2 ^ g, rfl, rfl, rfl, r1, by omega, by omega, 2 * m + 1, rfl, ⟨by omega, ?_⟩, ?_⟩
          · have := r5.2
            rw [show 62 - g = 62 - (g + 1) + 1 by omega, Nat.pow_succ]
            omega
          · have e6 := NODES_plus m g
            rw [double_pow, ← r4] at e6
            rw [e6, r6]
            unfold TREE
            omega
      · have hd3 : ¬ ((TREE g : Nat) : Int) ≤ (q : Int) := by omega
        obtain ⟨t2, ht2⟩ : ∃ t2, TREE g = t2 := ⟨_, rfl⟩
        rw [ht2] at c2 hd3
        have R2 : Aside (TREE g = t2 ∧ q < t2) := ⟨ht2, by omega⟩
        clear hlt ht2
        go_wp2_with fail
        refine (c1 _).mono ?_
        rintro e w' ⟨rfl, rfl⟩
        clear c1
        go_wp2_with fail
        refine (c2 _).mono ?_
        rintro e w' ⟨rfl, rfl⟩
        clear c2
        go_wp2
        go_roundg g
        case measure => omega
        case rel =>
          obtain ⟨r1, r2, r3, r4, r5, r6, r7, r8⟩ := R.out
          obtain ⟨s1, s2⟩ := R2.out
          have hpw := two_le g
          unfold TREE at s1
          rw [e3]
          refine ⟨q, L, rfl, rfl, rfl, r1, by omega, by omega, 2 * m, by rw [double_pow, ← r4], ⟨by omega, ?_⟩, r6⟩
          have := r5.2
          rw [show 62 - g = 62 - (g + 1) + 1 by omega, Nat.pow_succ]
          omega
end Go.Proofs.YtmkgldjocigffaaDoor

/- slices.Backward over a list of heights: the heights come from the last to the first. -/
namespace Go.Proofs.YtmkgldjocigffaaDoor
open Go.RowKit Go.Shelf

attribute [local go_sem] Oper.semAt_some

/-- what has come when k rounds are over. -/
def UPTO {α : Type} (f : Nat → α) (k : Nat) : List α := (List.range k).map f
theorem UPTO_succ {α : Type} (f : Nat → α) (k : Nat) : UPTO f (k + 1) = UPTO f k ++ [f k] := by simp [UPTO, List.range_succ]
theorem UPTO_length {α : Type} (f : Nat → α) (k : Nat) : (UPTO f k).length = k := by simp [UPTO]

/-- what a round keeps: what lies below n₀, and the list's own box. -/
def KB (n₀ Bs : Nat) (A B : World) : Prop := Below n₀ A B ∧ B.cell? ⟨Bs, 0, none⟩ = A.cell? ⟨Bs, 0, none⟩
theorem KB.t {n₀ Bs : Nat} {A B C : World} (h : KB n₀ Bs A B) (k : KB n₀ Bs B C) : KB n₀ Bs A C := ⟨h.1.trans k.1, k.2.trans h.2⟩
theorem KB.b {n₀ Bs : Nat} {w : World} (hn : n₀ ≤ w.heap.size) (hB : Bs < w.heap.size) (W : World) (l : Nat) (o o' : Obj) (hl : w.heap.size ≤ l) (h : W.heap[l]? = some o) (h1 : o.isCells = false) (h2 : o.isWalk = false) : KB n₀ Bs W (W.putObj l o') :=
  ⟨belowK_b hn W l o o' hl h h1 h2, (belowK_b (Nat.le_refl w.heap.size) W l o o' hl h h1 h2).cell (p := ⟨Bs, 0, none⟩) hB⟩

/-- the pair that comes in round j: the index, and the height there. -/
def BACK (len : Nat) (f : Nat → Fin 64) (j : Nat) : Nat × Fin 64 := (len - 1 - j, f (len - 1 - j))

set_option maxRecDepth 100000 in
set_option maxHeartbeats 2000000 in
theorem backward1_in (F : Fence) (n : Nat) (hF : F.fn 72) (hro : F.round = none) (hn : 1 ≤ n) (l Bs n₀ b len cap : Nat) (f : Nat → Fin 64) (hreach : len ≤ 64) (hb : b < n₀) (J Jx : List (Nat × Fin 64) → World → Prop)
    (hY : ∀ pre x W, J pre W → pre.length < len → YieldAt F (n - 1) Tryd.prog l #[.int .i64 (x.1 : Int), .int .i64 (x.2.val : Int)] W fun e W' =>
      (e = .returned (.bool true) ∧ J (pre ++ [x]) W' ∧ KB n₀ Bs W W') ∨ (e = .returned (.bool false) ∧ Jx (pre ++ [x]) W'))
    (W : World) (hBs : W.cell? ⟨Bs, 0, none⟩ = some (.slice (some ⟨b, 0, none⟩) len cap)) (hc : ∀ j, j < len → W.cell? ⟨b, j, none⟩ = some (.int .i64 ((f j).val : Int))) (h0 : J [] W) :
    CallsIn F n Tryd.prog 72 #[.func (.yield l) #[] #[], .pointer (some ⟨Bs, 0, none⟩)] W fun e W' => (∃ v, e = .returned v) ∧
      ((∃ ys, ys = UPTO (BACK len f) len ∧ J ys W') ∨ (∃ pre, (∃ k, k ≤ len ∧ pre = UPTO (BACK len f) k) ∧ Jx pre W')) := by
  refine callsIn_of_wp Tryd.func72 rfl hF ?_ hro
  simp only [Tryd.ntmps72, List.size_toArray, List.length_cons, List.length_nil, Nat.reduceAdd, Nat.reduceSub, Array.replicate_succ, Array.replicate_zero, List.push_toArray, List.append_toArray, List.nil_append, List.cons_append]
  have e1 : wrap64 ((len : Int) - 1) = (len : Int) - 1 := by unfold wrap64; omega
  gi_wp2
  gi_loopw [3] (fun i wr => ∃ k : Nat, k ≤ len ∧ i = .int .i64 ((len : Int) - 1 - (k : Int)) ∧ J (UPTO (BACK len f) k) wr ∧ KB n₀ Bs W wr)
    (fun i _ => (intOf i + 1).toNat)
  case atStart => exact ⟨0, Nat.zero_le _, by simp, h0, Below.refl _ _, rfl⟩
  case round =>
    obtain ⟨k, hk, rfl, hJs, hnx⟩ := hrel
    by_cases hlt : k < len
    · obtain ⟨j, hj⟩ : ∃ j : Nat, (len : Int) - 1 - (k : Int) = (j : Int) := ⟨len - 1 - k, by omega⟩
      have hjl : j < len := by omega
      have hbk : BACK len f k = (j, f j) := by
        unfold BACK
        rw [show len - 1 - k = j by omega]
      have hcx : wr.cell? ⟨b, j, none⟩ = some (.int .i64 ((f j).val : Int)) := (hnx.1.cell (p := ⟨b, j, none⟩) hb).trans (hc j hjl)
      have hcs : wr.cell? ⟨Bs, 0, none⟩ = some (.slice (some ⟨b, 0, none⟩) len cap) := hnx.2.trans hBs
      obtain ⟨fn, tmps, assign, body, hy, hR⟩ := hY _ (j, f j) wr hJs (by rw [UPTO_length]; exact hlt)
      dsimp only at hy
      rw [hj]
      have e2 : wrap64 ((j : Int) - 1) = (j : Int) - 1 := by unfold wrap64; omega
      have hJ' : Aside ((len : Int) - 1 - (k : Int) = (j : Int)) := hj
      have hjl' : (j : Int) < (len : Int) := by omega
      clear hj
      gi_wp2
      refine hR.mono ?_
      rintro e W3 (⟨rfl, hJ3, hk3⟩ | ⟨rfl, hJx3⟩)
      · gi_wp2
        go_roundw
        case rel => exact ⟨k + 1, by omega, by have := hJ'.out; congr 1; omega, by rw [UPTO_succ, hbk]; exact hJ3, hnx.t hk3⟩
        case measure => simp [intOf]
      · gi_wp2
        refine bodyPost_ret (results_none rfl _ _ _) rfl ?_
        exact ⟨⟨_, rfl⟩, .inr ⟨_, ⟨k + 1, by omega, by rw [UPTO_succ, hbk]⟩, hJx3⟩⟩
    · obtain rfl : k = len := by omega
      rw [show (k : Int) - 1 - (k : Int) = -1 by omega]
      gi_wp2
      go_end0
      exact ⟨⟨_, rfl⟩, .inl ⟨_, rfl, hJs⟩⟩

set_option maxHeartbeats 1000000 in
theorem backward_in (F : Fence) (n : Nat) (hF : F.fn 63) (hro : F.round = none) (a : Option Addr) (len cap : Nat) (w : World) :
    CallsIn F n Tryd.prog 63 #[.slice a len cap] w fun e w' => e = .returned (.func (.func 72) #[] #[.pointer (some ⟨w.heap.size, 0, none⟩)]) ∧ w' = w.alloc (.cells #[.slice a len cap] 90) := by
  refine callsIn_of_wp Tryd.func63 rfl hF ?_ hro
  simp only [Tryd.ntmps63, List.size_toArray, List.length_cons, List.length_nil, Nat.reduceAdd, Nat.reduceSub, Array.replicate_succ, Array.replicate_zero, List.push_toArray, List.append_toArray, List.nil_append, List.cons_append]
  gi_wp2
  go_ret
  exact ⟨rfl, rfl⟩

theorem backward_stops (F : Fence) (n : Nat) (hF : F.fn 72) (hro : F.round = none) (hn : 1 ≤ n) (Bs n₀ b len cap : Nat) (f : Nat → Fin 64) (hreach : len ≤ 64) (hb : b < n₀) (w : World) (hBs : Bs < w.heap.size) (hn₀ : n₀ ≤ w.heap.size)
    (hc : w.cell? ⟨Bs, 0, none⟩ = some (.slice (some ⟨b, 0, none⟩) len cap)) (hI : ∀ j, j < len → w.cell? ⟨b, j, none⟩ = some (.int .i64 ((f j).val : Int))) :
    SeqStopsK F n Tryd.prog 72 #[.pointer (some ⟨Bs, 0, none⟩)] (fun x : Nat × Fin 64 => #[Value.int .i64 (x.1 : Int), Value.int .i64 (x.2.val : Int)]) (KB n₀ Bs) (fun ys => ys = UPTO (BACK len f) len)
      (fun pre => ∃ k, k ≤ len ∧ pre = UPTO (BACK len f) k) len w := fun l J Jx W hW _ _ hY h0 =>
  backward1_in F n hF hro hn l Bs n₀ b len cap f hreach hb J Jx hY W ((hW.cell (p := ⟨Bs, 0, none⟩) hBs).trans hc) (fun j hj => (hW.cell (p := ⟨b, j, none⟩) (by show b < _; omega)).trans (hI j hj)) h0
end Go.Proofs.YtmkgldjocigffaaDoor

/- What Peaks answers: the places of the peaks, in a list of its own. -/
namespace Go.Proofs.YtmkgldjocigffaaDoor
open Go.RowKit Go.Shelf

attribute [local go_sem] Oper.semAt_some

/-- numbers as cells. -/
def UCELLS (l : List Nat) : List Value := l.map fun (x : Nat) => Value.int .u64 (x : Int)
theorem UCELLS_snoc (l : List Nat) (x : Nat) : UCELLS (l ++ [x]) = UCELLS l ++ [.int .u64 (x : Int)] := by simp [UCELLS]
theorem info_u64 : (Tryd.prog.info? 22).map (fun i => (i.zero, i.size, i.bytes)) = some (some (.int .u64 0), 1, 8) := by kernel_rfl
theorem make_u64 (n : Nat) (hn : n ≤ 64) (w : World) : ∃ cur : Array Value, cur.size = n ∧ (Instr.makeSlice 23 (.int .i64 0) (.int .i64 (n : Int))).run Tryd.prog w = .ok (.slice (some ⟨w.heap.size, 0, none⟩) 0 n) (w.alloc (.cells cur 22)) := by
  obtain ⟨i, hi, hz, hs1, hby⟩ := info_parts info_u64
  have h := run_make (P := Tryd.prog) w 23 22 i (.int .u64 0) Tryd.underlying23 hi hz .i64 .i64 0 n (by omega) (by omega) (by rw [hby]; omega) (by omega)
  refine ⟨_, ?_, h⟩
  rw [size_madeCells, hs1]
  omega
/-- the heights that have come. -/
def HTS (pre : List (Nat × Fin 64)) : List Nat := pre.map fun x => x.2.val
theorem HTS_snoc (pre : List (Nat × Fin 64)) (x : Nat × Fin 64) : HTS (pre ++ [x]) = HTS pre ++ [x.2.val] := by simp [HTS]
theorem ST_length (l : List Nat) : (ST l).2.length = l.length := by
  have key : ∀ (l : List Nat) (s : Nat × List Nat), (l.foldl (fun s h => ((s.1 + TREE h) % 2 ^ 64, s.2 ++ [((s.1 + TREE h) % 2 ^ 64 + (2 ^ 64 - 1)) % 2 ^ 64])) s).2.length = s.2.length + l.length := by
    intro l
    induction l with
    | nil => intro s; simp
    | cons h l ih =>
      intro s
      rw [List.foldl_cons, ih]
      simp
      omega
  have := key l (0, [])
  simpa [ST] using this
theorem ST_lt (l : List Nat) : (ST l).1 < 2 ^ 64 := by
  rcases List.eq_nil_or_concat l with rfl | ⟨i, x, rfl⟩
  · simp [ST]
  · rw [List.concat_eq_append, ST_snoc]
    exact Nat.mod_lt _ (by decide)
theorem HTS_back (X : Nat) (f : Nat → Fin 64) (hf : ∀ j, j < POP X → (f j).val = PLACE X j) : HTS (UPTO (BACK (POP X) f) (POP X)) = (PLACES X).reverse := by
  apply List.ext_getElem?
  intro j
  by_cases hj : j < POP X
  · rw [List.getElem?_reverse (by rw [PLACES_length]; exact hj), PLACES_length, PLACE_at (by omega), ← hf _ (by omega)]
    simp [HTS, UPTO, BACK, hj]
  · rw [List.getElem?_eq_none (by simp [HTS, UPTO]; omega), List.getElem?_eq_none (by rw [List.length_reverse, PLACES_length]; omega)]

theorem own_mono {w : World} {base base' : Nat} {t : TypeId} {s : Nat} {v : Value} {n : Nat} {xs : List Value} (h : w.ownsRow base t s v n xs) (hb : base' ≤ base) : w.ownsRow base' t s v n xs :=
  ⟨h.1, h.2.imp id fun ⟨g, c, cur, a, b, r⟩ => ⟨g, c, cur, a, Nat.le_trans hb b, r⟩⟩
set_option maxRecDepth 100000 in
set_option maxHeartbeats 2000000 in
theorem peaks_ok (X : Nat) (hX : X ≤ 4611686018427387904) (w : World) (hT : Tabled w) (h0 : 0 < w.heap.size) : Calls Tryd.prog 50 #[.int .u64 (X : Int)] w fun e w' =>
    ∃ g cap, e = .returned (.slice (some ⟨g, 0, none⟩) (PC X) cap) ∧ w'.ownsRow w.heap.size 22 1 (.slice (some ⟨g, 0, none⟩) (PC X) cap) (PC X) (UCELLS (PEAKS X)) ∧ Below w.heap.size w w' := by
  obtain ⟨i0, hi, hz0, hz1, hz2⟩ := info_parts info_u64
  have cb := bits_ok X (by omega) w hT h0
  have hle := POP_le X
  obtain ⟨f, hf⟩ : ∃ f : Nat → Fin 64, ∀ j, j < POP X → (f j).val = PLACE X j := ⟨fun j => if h : j < POP X then ⟨PLACE X j, by have := PLACE_le h; omega⟩ else 0, fun j hj => by simp [hj]⟩
  have hba := HTS_back X f hf
  have hplc := fun (w' : World) (base g n cap : Nat) (h : w'.ownsRow base 3 1 (.slice (some ⟨g, 0, none⟩) n cap) n (ICELLS (PLACES X))) => places_at h
  have hpc : POP X = PC X := POP_PC (by omega)
  generalize POP X = p at *
  obtain ⟨L, hL⟩ : ∃ L, ICELLS (PLACES X) = L := ⟨_, rfl⟩
  simp only [hL] at hplc cb
  have HA : Aside (HTS (UPTO (BACK p f) p) = (PLACES X).reverse ∧ p = PC X ∧ X ≤ 4611686018427387904) := ⟨hba, hpc, hX⟩
  clear hba hpc hX hL hT h0
  have hd : ¬ (4611686018427387904 : Int) < (X : Int) := by have := HA.out.2.2; omega
  refine (callsIn_wide (n := 5)).1 ?_
  refine callsIn_of_wp_marks Tryd.func50 rfl trivial ?_ rfl
  simp only [Tryd.ntmps50, List.size_toArray, List.length_cons, List.length_nil, Nat.reduceAdd, Nat.reduceSub, Array.replicate_succ, Array.replicate_zero, List.push_toArray, List.append_toArray, List.nil_append, List.cons_append]
  gi_wp2_with fail
  refine ⟨trivial, (callsIn_wide.2 cb).mono ?_⟩
  rintro e w1 ⟨g, cap, rfl, hrow, hg, hb⟩
  clear cb
  obtain ⟨cur, hcs, hmk⟩ := make_u64 p hle w1
  gi_wp2_with fail
  refine ⟨trivial, (backward_in Fence.wide 4 trivial rfl _ _ _ _).mono ?_⟩
  rintro e w2 ⟨rfl, rfl⟩
  obtain ⟨s1, hs1⟩ : ∃ s1, w1.heap.size = s1 := ⟨_, rfl⟩
  have bO := Boxed.new (w1.alloc (.cells cur 22)) 23 (.slice (some ⟨w1.heap.size, 0, none⟩) 0 p)
  have bM := Boxed.new ((w1.alloc (.cells cur 22)).alloc (.cells #[.slice (some ⟨w1.heap.size, 0, none⟩) 0 p] 23)) 22 (.int .u64 0)
  have bN := Boxed.new (((w1.alloc (.cells cur 22)).alloc (.cells #[.slice (some ⟨w1.heap.size, 0, none⟩) 0 p] 23)).alloc (.cells #[.int .u64 0] 22)) 90 (.slice (some ⟨g, 0, none⟩) p cap)
  have hr0 : (w1.alloc (.cells cur 22)).ownsRow s1 22 1 (.slice (some ⟨s1, 0, none⟩) 0 p) 0 [] := by
    rw [← hs1]
    exact World.ownsRow_made w1 cur p (Nat.le_refl _) (by simp only [maxLen]; omega) (by rw [hcs]; omega)
  simp only [World.size_alloc, hs1] at bO bM bN ⊢
  have bO := (bO.alloc (.cells #[.int .u64 0] 22)).alloc (.cells #[.slice (some ⟨g, 0, none⟩) p cap] 90)
  have bM := bM.alloc (.cells #[.slice (some ⟨g, 0, none⟩) p cap] 90)
  have hr0 := ((hr0.alloc (.cells #[.slice (some ⟨s1, 0, none⟩) 0 p] 23)).alloc (.cells #[.int .u64 0] 22)).alloc (.cells #[.slice (some ⟨g, 0, none⟩) p cap] 90)
  have hB1 : Below s1 w1 ((((w1.alloc (.cells cur 22)).alloc (.cells #[.slice (some ⟨s1, 0, none⟩) 0 p] 23)).alloc (.cells #[.int .u64 0] 22)).alloc (.cells #[.slice (some ⟨g, 0, none⟩) p cap] 90)) :=
    ((((Below.refl _ w1).alloc (by omega) _).alloc (by simp; omega) _).alloc (by simp; omega) _).alloc (by simp; omega) _
  have hgs : g < s1 := by omega
  have hcg : ∀ j, j < p → w1.cell? ⟨g, j, none⟩ = some (.int .i64 ((f j).val : Int)) := fun j hj => by rw [hf j hj]; exact hplc _ _ _ _ _ hrow j hj
  have hsz : ((((w1.alloc (.cells cur 22)).alloc (.cells #[.slice (some ⟨s1, 0, none⟩) 0 p] 23)).alloc (.cells #[.int .u64 0] 22)).alloc (.cells #[.slice (some ⟨g, 0, none⟩) p cap] 90)).heap.size = s1 + 4 := by simp; omega
  obtain ⟨W0, hW0⟩ : ∃ W0, ((((w1.alloc (.cells cur 22)).alloc (.cells #[.slice (some ⟨s1, 0, none⟩) 0 p] 23)).alloc (.cells #[.int .u64 0] 22)).alloc (.cells #[.slice (some ⟨g, 0, none⟩) p cap] 90)) = W0 := ⟨_, rfl⟩
  rw [hW0] at bO bM bN hr0 hB1 hsz ⊢
  have hbw : Below w.heap.size w W0 := hb.trans (hB1.mono (by have := hb.size; omega))
  clear hW0
  gi_wp2_with fail
  refine wpIn_rangeFunc_ownG rfl (by omega) (gf := 72) (lb := #[.pointer (some ⟨s1 + 1 + 1 + 1, 0, none⟩)]) rfl trivial (enters_of Tryd.func72 (by kernel_rfl) rfl)
    (backward_stops Fence.wide (5 - 1) trivial rfl (by omega) (s1 + 1 + 1 + 1) s1 g p cap f hle hgs W0 (by omega) (by omega) bN.cell (fun j hj => (hB1.cell (p := ⟨g, j, none⟩) hgs).trans (hcg j hj)))
    KB.t (KB.b (by omega) (by omega)) (Below.refl _ _) (fun _ => rfl)
    (fun pre W => ((∃ v, Boxed W (s1 + 1) 23 v ∧ W.ownsRow s1 22 1 v pre.length (UCELLS (ST (HTS pre)).2) ∧ v = .slice (some ⟨s1, 0, none⟩) pre.length p) ∧ Boxed W (s1 + 1 + 1) 22 (.int .u64 ((ST (HTS pre)).1 : Int)) ∧ Boxed W (s1 + 1 + 1 + 1) 90 (.slice (some ⟨g, 0, none⟩) p cap)) ∧ Below w.heap.size w W)
    (fun _ _ _ => False)
    (OwnFrom.and (OwnFrom.and (Own.from (holdsRow_own s1 (s1 + 1) 23 22 1 (fun pre => pre.length) (fun pre => UCELLS (ST (HTS pre)).2) (fun pre v => v = .slice (some ⟨s1, 0, none⟩) pre.length p)) _) (OwnFrom.and (Own.from (boxed_own _ _ _) _) (Own.from (boxed_own _ _ _) _))) (ownFrom_below (Nat.le_refl _) (by have := hb.size; omega)))
    (fun _ _ _ _ _ hs _ _ => hs)
    ⟨⟨⟨_, bO, hr0, rfl⟩, bM, bN⟩, hbw⟩
    (fun x => { tmps := #[.int .u64 (X : Int), undef, .slice none 0 0, .slice (some ⟨g, 0, none⟩) p cap, .pointer (some ⟨s1 + 1, 0, none⟩), .pointer (some ⟨s1 + 1 + 1, 0, none⟩), undef, .int .i64 (x.2.val : Int), .int .u64 (X : Int), .bool false, .int .u64 (X : Int), .slice (some ⟨g, 0, none⟩) p cap, .slice (some ⟨g, 0, none⟩) p cap, .int .i64 (p : Int), .slice (some ⟨s1, 0, none⟩) 0 p, .slice (some ⟨g, 0, none⟩) p cap, .func (.func 72) #[] #[.pointer (some ⟨s1 + 1 + 1 + 1, 0, none⟩)], .int .i64 (x.1 : Int), .int .i64 (x.2.val : Int), undef, undef, undef, undef, undef, undef, undef, undef, undef, undef], defers := [] }) ?assign ?body ?done ?stop
  case assign =>
    intro l x W K hK
    gi_wp2
    exact hK
  case body =>
    rintro l pre x W ⟨⟨⟨v, bO, hrow, rfl⟩, bM, bN⟩, hB⟩ hlt
    have hsn := ST_snoc (HTS pre) x.2.val
    have hml := ST_lt (HTS pre)
    have hsl := ST_length (HTS pre)
    rw [show (HTS pre).length = pre.length by simp [HTS]] at hsl
    obtain ⟨m, hm⟩ : ∃ m, (ST (HTS pre)).1 = m := ⟨_, rfl⟩
    obtain ⟨ls, hls⟩ : ∃ ls, (ST (HTS pre)).2 = ls := ⟨_, rfl⟩
    have ct := fun w => tree_ok x.2.val (by omega) w
    obtain ⟨t, ht⟩ : ∃ t, TREE x.2.val = t := ⟨_, rfl⟩
    rw [hm, hls, ht] at hsn
    rw [hm] at hml bM
    rw [hls] at hsl hrow
    rw [ht] at ct
    obtain ⟨m2, hm2⟩ : ∃ m2, (m + t) % 2 ^ 64 = m2 := ⟨_, rfl⟩
    obtain ⟨q, hq⟩ : ∃ q, (m2 + (2 ^ 64 - 1)) % 2 ^ 64 = q := ⟨_, rfl⟩
    rw [hm2, hq] at hsn
    have e1 : IntKind.u64.wrap ((m : Int) + (t : Int)) = (m2 : Int) := by rw [wrapU]; omega
    have e2 : IntKind.u64.wrap ((m2 : Int) - 1) = (q : Int) := by rw [wrapU]; omega
    have R : Aside (ST (HTS (pre ++ [x])) = (m2, ls ++ [q]) ∧ ls.length = pre.length ∧ pre.length < p) := ⟨by rw [HTS_snoc]; exact hsn, hsl, hlt⟩
    clear hsn hml hsl hlt hm hls ht hm2 hq
    have hc4 := bO.cell
    have hc5 := bM.cell
    have hf5 := bM.frozen
    have hmx : Tryd.prog.follows .mixedOrders = true := by kernel_rfl
    clear hplc hf hcg hz0 hz2
    have hsW : s1 + 4 ≤ W.heap.size := by have := bN.lt; omega
    obtain ⟨W5, hW5⟩ : ∃ W5, (W.setCell ⟨s1 + 1 + 1, 0, none⟩ (.int .u64 (m2 : Int))).drew = W5 := ⟨_, rfl⟩
    have bO5 : Boxed W5 (s1 + 1) 23 (.slice (some ⟨s1, 0, none⟩) pre.length p) := by rw [← hW5]; exact bO.other (by omega) _
    have bM5 : Boxed W5 (s1 + 1 + 1) 22 (.int .u64 (m2 : Int)) := by rw [← hW5]; exact bM.set _
    have bN5 : Boxed W5 (s1 + 1 + 1 + 1) 90 (.slice (some ⟨g, 0, none⟩) p cap) := by rw [← hW5]; exact bN.other (by omega) _
    have hrow5 : W5.ownsRow s1 22 1 (.slice (some ⟨s1, 0, none⟩) pre.length p) pre.length (UCELLS ls) := by rw [← hW5]; exact (hrow.kept (grownBy_setCell' W (s1 + 1 + 1) (.int .u64 (m2 : Int))) (.inr (by simp [Value.ownBlock]; omega))).drew
    have hk5 : KeepsOthers W W5 := by rw [← hW5]; exact (KeepsOthers.setCell _ _ _).trans (KeepsOthers.drew _)
    have hb5 : Below s1 W W5 := by rw [← hW5]; exact ((Below.refl s1 W).setCell (p := ⟨s1 + 1 + 1, 0, none⟩) (by show s1 ≤ s1 + 1 + 1; omega) _).drew
    have hs5 : s1 + 4 ≤ W5.heap.size := by have := bN5.lt; omega
    have hcN : W.cell? ⟨s1 + 1 + 1 + 1, 0, none⟩ = some (.slice (some ⟨g, 0, none⟩) p cap) := bN.cell
    gi_wp2
    gi_region_with_o (refine ⟨trivial, ?_⟩; gi_at_call 54; refine (CallsIn.inRound l (callsIn_wide.2 (ct _))).mono ?_; rintro e w' ⟨rfl, rfl⟩)
    all_goals clear hc4 hc5 hf5 bO bM bN hrow ct
    all_goals have hc4 := bO5.cell
    all_goals have hc5 := bM5.cell
    all_goals gi_wp2_with (gi_at_builtin; refine wpListIn_append_fits _ rfl _ _ 23 rfl s1 22 i0 1 Tryd.underlying23 hi hz1 s1 pre.length p (UCELLS ls) rfl (hrow5.alloc _) ⟨W5.heap.size, 0, none⟩ 1 1 [.int .u64 (q : Int)] rfl rfl (cell_one_new _ _ _) (by simp [Value.oneCell']) (by have := R.out.2.2; omega) ?_; intro w1' hown' hgrow; obtain ⟨hv1, hv2, hr2, hk2, hb2⟩ := bO5.appended (by decide) hrow5 (by omega) (by omega) hown' hgrow; have hc1 := hv1.cell; have hf1 := hv1.frozen)
    all_goals have bN6 := ((bN5.alloc (.cells #[.int .u64 (q : Int)] 22)).kept hgrow (by simp; omega)).other (B' := s1 + 1) (by omega) (.slice (some ⟨s1, 0, none⟩) (pre.length + 1) p)
    all_goals have bM6 := ((bM5.alloc (.cells #[.int .u64 (q : Int)] 22)).kept hgrow (by simp; omega)).other (B' := s1 + 1) (by omega) (.slice (some ⟨s1, 0, none⟩) (pre.length + 1) p)
    all_goals obtain ⟨r1, r2, r3⟩ := R.out
    all_goals refine ⟨(hk5.trans hk2).from _, ⟨hb5.trans hb2, bN6.cell.trans hcN.symm⟩, ⟨⟨_, hv2, ?_, by simp⟩, ?_, bN6⟩, hB.trans ((hb5.trans hb2).mono (by have := hb.size; omega))⟩
    all_goals rw [r1]
    all_goals first | exact bM6 | (rw [UCELLS_snoc, List.length_append]; exact hr2)
  case done =>
    rintro D ys W hD hys ⟨⟨⟨v, bO, hrow, rfl⟩, bM, bN⟩, hB⟩ hK
    have hc := bO.cell
    gi_wp2
    refine ⟨by simp, .inl ⟨_, _, rfl, run_takeDeferred hK, ?_⟩⟩
    have hys' : ys = UPTO (BACK p f) p := hys
    subst hys'
    obtain ⟨a1, a2, a3⟩ := HA.out
    have hl : (UPTO (BACK p f) p).length = p := UPTO_length _ _
    rw [hl, a1, ← HS_zero, ST_all a3] at hrow
    refine ⟨_, results_tmp rfl _ _ _, s1, p, ?_, ?_, hB.trans (belowK_b (w := w) (Nat.le_refl _) W D _ _ (by have := hb.size; omega) hK rfl rfl)⟩
    · rw [← a2, hl]
      rfl
    · rw [← a2]
      exact ownsRow_putObj (own_mono hrow (by have := hb.size; omega)) _ hK rfl
  case stop =>
    rintro D c pre W _ _ h _
    exact h.elim
end Go.Proofs.YtmkgldjocigffaaDoor

/- What Index, Leaves, Parent, Sibling, Kids, Right, Under and Since answer. -/
namespace Go.Proofs.YtmkgldjocigffaaDoor
open Go.RowKit

/-- Spot answers so at p. -/
def SpotAt (p : Int) (h k : Nat) (ok : Bool) : Prop := ∀ w, Calls Tryd.prog 32 #[.int .u64 p] w fun e w' => e = .returned (.tuple #[SPOT h k, .bool ok]) ∧ Below w.heap.size w w'
theorem SpotAt.node {h k : Nat} (hN : Node h k) : SpotAt ((PLC h k : Nat) : Int) h k true := fun w => spot_ok h k hN w
theorem SpotAt.out {p : Int} (hp : 9223372036854775807 ≤ p) : SpotAt p 0 0 false := fun w => spot_not p hp w

theorem under_raw (p : Int) (h k : Nat) (r s : Int) (w : World) (e0 : IntKind.u64.wrap ((k : Int) + 1) = (k : Int) + 1) (e1 : IntKind.u64.wrap ((k : Int) * 2 ^ min h 64) = r) (e2 : IntKind.u64.wrap (((k : Int) + 1) * 2 ^ min h 64) = s) (cs : SpotAt p h k true) :
    Calls Tryd.prog 12 #[.int .u64 p] w fun e w' => e = .returned (.tuple #[.int .u64 r, .int .u64 s, .bool true]) ∧ Below w.heap.size w w' := by
  have cs := cs w
  go_enter Tryd.func12, Tryd.ntmps12
  go_wp2_with fail
  refine cs.mono ?_
  rintro e w1 ⟨rfl, hb⟩
  clear cs
  have R : Aside (Below w.heap.size w w1) := hb
  clear hb
  go_wp2
  have hc0 : (w1.alloc (.cells #[.int .u8 (h : Int), .int .u64 (k : Int)] 55)).cell? ⟨w1.heap.size, 0, none⟩ = some (.int .u8 (h : Int)) := by simp
  have hc1 : (w1.alloc (.cells #[.int .u8 (h : Int), .int .u64 (k : Int)] 55)).cell? ⟨w1.heap.size, 1, none⟩ = some (.int .u64 (k : Int)) := by simp
  have R2 : Aside (Below w.heap.size w (w1.alloc (.cells #[.int .u8 (h : Int), .int .u64 (k : Int)] 55))) := R.out.alloc R.out.size _
  clear R
  generalize w1.alloc (.cells #[.int .u8 (h : Int), .int .u64 (k : Int)] 55) = W at *
  generalize w1.heap.size = b at *
  go_quiet (fail)
  go_wp2
  go_ret3
  exact ⟨rfl, below_drewN R2.out nq⟩
theorem kids_raw (p q : Int) (h g k : Nat) (r : Int) (w : World) (hh : ((h : Int) == 0) = false) (hm : wrap64 (h : Int) = (h : Int)) (hg : wrap64 ((h : Int) - 1) = (g : Int)) (hq : IntKind.u64.wrap (p - 1) = q) (cs : SpotAt p h k true)
    (co : ∀ w, Calls Tryd.prog 73 #[.int .u64 q, .int .i64 (g : Int), .bool true] w fun e w' => e = .returned (.int .u64 r) ∧ w = w') :
    Calls Tryd.prog 65 #[.int .u64 p] w fun e w' => e = .returned (.tuple #[.int .u64 r, .int .u64 q, .bool true]) ∧ Below w.heap.size w w' := by
  have cs := cs w
  go_enter Tryd.func65, Tryd.ntmps65
  go_wp2_with fail
  refine cs.mono ?_
  rintro e w1 ⟨rfl, hb⟩
  clear cs
  have R : Aside (Below w.heap.size w w1) := hb
  clear hb
  go_wp2_with fail
  refine (co _).mono ?_
  rintro e w2 ⟨rfl, rfl⟩
  clear co
  go_wp2
  go_ret3
  exact ⟨rfl, R.out.alloc R.out.size _⟩
end Go.Proofs.YtmkgldjocigffaaDoor
