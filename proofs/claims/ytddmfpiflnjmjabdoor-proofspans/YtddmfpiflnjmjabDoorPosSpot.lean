/- What Spot answers: the node that stands at a place. -/
import Derived.Test.YtddmfpiflnjmjabDoorPosCalls
import Derived.Test.YtddmfpiflnjmjabDoorPosPeaksPlain
import Derived.Deep.LoopGhost
namespace Go.Proofs.YtddmfpiflnjmjabDoor
open Go.RowKit

/-- the spot (h, k) as a value. -/
abbrev SPOT (h k : Nat) : Value := .agg #[.int .u8 (h : Int), .int .u64 (k : Int)]
theorem high_ok (X : Nat) (hX : X < 2 ^ 64) (w : World) : Calls Tryd.prog 23 #[.int .u64 (X : Int)] w fun e w' => e = .returned (.int .i64 ((LEN X : Nat) - 1 : Int)) ∧ w = w' := by
  have hl : LEN X ≤ 64 := by
    unfold LEN
    have := L8_le (X / 72057594037927936)
    have := L8_le (X / 281474976710656)
    have := L8_le (X / 1099511627776)
    have := L8_le (X / 4294967296)
    have := L8_le (X / 16777216)
    have := L8_le (X / 65536)
    have := L8_le (X / 256)
    have := L8_le X
    repeat' split
    all_goals omega
  exact high_raw X _ w (fun w => len_ok X hX w) (by omega) (by omega)

theorem spot_not (p : Int) (hp : 9223372036854775807 ≤ p) (w : World) : Calls Tryd.prog 11 #[.int .u64 p] w fun e w' => e = .returned (.tuple #[SPOT 0 0, .bool false]) ∧ Below w.heap.size w w' := by
  go_enter Tryd.func11, Tryd.ntmps11
  go_wp2
  refine bodyPost_ret (v := .tuple #[SPOT 0 0, .bool false]) ?_ rfl ⟨rfl, (Below.refl _ _).alloc (Nat.le_refl _) _⟩
  simp [results, Tryd.f11, go_sem]
theorem or_low {m H : Nat} (hH : 1 ≤ H) : m * 2 ^ H ||| 2 ^ (H - 1) = (2 * m + 1) * 2 ^ (H - 1) := by
  have h1 : 2 ^ (H - 1) < 2 ^ H := Nat.pow_lt_pow_right (by decide) (by omega)
  have h2 := Nat.shiftLeft_add_eq_or_of_lt h1 m
  rw [Nat.shiftLeft_eq] at h2
  rw [← h2, Nat.add_mul, Nat.one_mul]
  congr 1
  obtain ⟨j, rfl⟩ : ∃ j, H = j + 1 := ⟨H - 1, by omega⟩
  rw [Nat.add_sub_cancel, Nat.pow_succ, Nat.mul_comm 2 m, Nat.mul_assoc, Nat.mul_comm 2]
theorem spot_ok (h k : Nat) (hN : Node h k) (w : World) : Calls Tryd.prog 11 #[.int .u64 ((PLC h k : Nat) : Int)] w fun e w' => e = .returned (.tuple #[SPOT h k, .bool true]) ∧ Below w.heap.size w w' := by
  have hp := hN.lt
  obtain ⟨p, hpe⟩ : ∃ p, p = PLC h k := ⟨_, rfl⟩
  rw [← hpe] at hp ⊢
  have HN : Aside (Node h k ∧ p = PLC h k ∧ p < 9223372036854775807) := ⟨hN, hpe, hp⟩
  have hd : decide ((9223372036854775807 : Int) ≤ (p : Int)) = false := by simp; omega
  have e1 : IntKind.u64.wrap ((p : Int) + 1) = (p : Int) + 1 := by rw [wrapU]; omega
  have c1 := high_ok (p + 1) (by omega)
  obtain ⟨h1, h2, h3⟩ := LEN_span (p + 1) (by omega) (by omega)
  obtain ⟨H, hH⟩ : ∃ H, LEN (p + 1) = H + 1 := ⟨LEN (p + 1) - 1, by omega⟩
  rw [hH] at h2 h3 c1
  rw [show (((H + 1 : Nat) : Int) - 1) = (H : Int) by omega, show ((p + 1 : Nat) : Int) = (p : Int) + 1 by omega] at c1
  have HH : Aside (H ≤ 62 ∧ p + 2 ≤ 2 ^ (H + 1)) := by
    refine ⟨?_, by omega⟩
    rcases Nat.lt_or_ge 62 H with h | h
    · have : 2 ^ 63 ≤ 2 ^ H := Nat.pow_le_pow_right (by decide) h
      simp at h2
      omega
    · exact h
  clear hN hpe hp h1 h2 h3 hH
  go_enter Tryd.func11, Tryd.ntmps11
  go_wp2_with fail
  refine (c1 _).mono ?_
  rintro e w' ⟨rfl, rfl⟩
  clear c1
  go_wp2
  go_loopg [0, 4, 5] H (fun g s0 s4 s5 wx => ∃ q L : Nat, s0 = .int .u64 (q : Int) ∧ s4 = .int .i64 (g : Int) ∧ s5 = .int .u64 (L : Int) ∧ Aside (wx = w.alloc (.cells #[.int .u8 0, .int .u64 0] 36) ∧ g ≤ 62 ∧ q + 2 ≤ 2 ^ (g + 1) ∧ ∃ m, L = m * 2 ^ g ∧ Node g m ∧ p = NODES L + q))
  case atStart => exact ⟨p, 0, rfl, rfl, rfl, rfl, HH.out.1, HH.out.2, 0, by simp, ⟨HH.out.1, Nat.two_pow_pos _⟩, by rw [NODES_zero]; omega⟩
  case round =>
    obtain ⟨q, L, rfl, rfl, rfl, A⟩ := hrel
    obtain ⟨hw, hg, hq, m, hL, hNm, hpL⟩ := A.out
    clear A
    have e2 : IntKind.u64.wrap ((q : Int) + 1) = (q : Int) + 1 := by
      have : 2 ^ (gk + 1) ≤ 2 ^ 63 := Nat.pow_le_pow_right (by decide) (by omega)
      rw [wrapU]
      omega
    have c1 := tree_ok gk (by omega)
    by_cases hT : q + 1 = TREE gk
    · have hmk : h = gk ∧ k = m := by
        refine HN.out.1.one hNm ?_
        rw [← HN.out.2.1, hpL, hL]
        unfold PLC
        unfold TREE at hT
        have := two_le gk
        omega
      obtain ⟨rfl, rfl⟩ := hmk
      have hLk : (L : Int) / 2 ^ h = (k : Int) := by
        rw [hL, div_cast, Nat.mul_div_cancel _ (Nat.two_pow_pos h)]
      rw [← hT, show ((q + 1 : Nat) : Int) = (q : Int) + 1 by omega] at c1
      have R : Aside (L = k * 2 ^ h ∧ h ≤ 62 ∧ (L : Int) / 2 ^ h = (k : Int)) := ⟨hL, hg, hLk⟩
      clear hg hq hL hNm hpL HN HH hT hLk
      subst hw
      go_wp2_with fail
      refine (c1 _).mono ?_
      rintro e w' ⟨rfl, rfl⟩
      clear c1
      go_wp2
      obtain ⟨hL, hg, hLk⟩ := R.out
      rw [show (h : Int) % 256 = (h : Int) by omega, show min h 64 = h by omega, hLk]
      refine bodyPost_ret (v := .tuple #[SPOT h k, .bool true]) ?_ rfl ⟨rfl, (Below.refl _ _).alloc (Nat.le_refl _) _⟩
      simp [results, Tryd.f11, go_sem]
    · have h1 : 1 ≤ gk := by
        rcases Nat.eq_zero_or_pos gk with h0 | h0
        · subst h0
          simp at hq
          unfold TREE at hT
          simp at hT
          omega
        · exact h0
      obtain ⟨g, rfl⟩ : ∃ g, gk = g + 1 := ⟨gk - 1, by omega⟩
      have c2 := tree_ok g (by omega)
      have hb : ((q : Int) + 1 == ((TREE (g + 1) : Nat) : Int)) = false := by simp; omega
      generalize hT1 : TREE (g + 1) = t1 at *
      have e3 : wrap64 (g : Int) = (g : Int) := by unfold wrap64; omega
      rw [show (((g + 1 : Nat) : Int)) = (g : Int) + 1 by omega] at c1 ⊢
      have R : Aside (wr = w.alloc (.cells #[.int .u8 0, .int .u64 0] 36) ∧ g + 1 ≤ 62 ∧ q + 2 ≤ 2 ^ (g + 1 + 1) ∧ L = m * 2 ^ (g + 1) ∧ Node (g + 1) m ∧ p = NODES L + q ∧ q + 1 ≠ t1 ∧ TREE (g + 1) = t1) := ⟨hw, hg, hq, hL, hNm, hpL, hT, hT1⟩
      clear hw hg hq hL hNm hpL hT hT1 h1 HN HH
      by_cases hlt : TREE g ≤ q
      · have hd2 : decide (((TREE g : Nat) : Int) ≤ (q : Int)) = true := by simp; omega
        obtain ⟨t2, ht2⟩ : ∃ t2, TREE g = t2 := ⟨_, rfl⟩
        rw [ht2] at c2 hd2
        have hd3 : (t2 : Int) ≤ (q : Int) := by simpa using hd2
        have R2 : Aside (TREE g = t2 ∧ t2 ≤ q) := ⟨ht2, by omega⟩
        clear hlt ht2 hd2
        go_wp2_with fail
        refine (c1 _).mono ?_
        rintro e w' ⟨rfl, rfl⟩
        clear c1
        go_wp2_with fail
        refine (c2 _).mono ?_
        rintro e w' ⟨rfl, rfl⟩
        clear c2
        go_wp2
        go_roundg g
        case measure => omega
        case rel =>
          obtain ⟨r1, r2, r3, r4, r5, r6, r7, r8⟩ := R.out
          obtain ⟨s1, s2⟩ := R2.out
          have hpw := two_le g
          have hpp : 2 ^ (g + 1 + 1) = 2 * 2 ^ (g + 1) := by rw [Nat.pow_succ 2 (g + 1), Nat.mul_comm]
          have hp63 : 2 ^ (g + 1 + 1) ≤ 2 ^ 63 := Nat.pow_le_pow_right (by decide) (by omega)
          have hg64 : 2 ^ g < 2 ^ 64 := Nat.pow_lt_pow_right (by decide) (by omega)
          have hL64 : L < 2 ^ 64 := by
            have := r5.span
            rw [Nat.add_mul, ← r4] at this
            omega
          have ea : IntKind.u64.wrap ((q : Int) - t2) = ((q - t2 : Nat) : Int) := by rw [wrapU]; omega
          have eb : bits .or .u64 (L : Int) (IntKind.u64.wrap (2 ^ min g 64)) = (((2 * m + 1) * 2 ^ g : Nat) : Int) := by
            have e5 : IntKind.u64.wrap (2 ^ min g 64) = ((2 ^ g : Nat) : Int) := by
              rw [wrapU, show min g 64 = g by omega, Int.natCast_pow]
              have : ((2 ^ g : Nat) : Int) = (2 : Int) ^ g := by simp
              have h7 : ((2 : Nat) : Int) = 2 := rfl
              rw [h7, ← this]
              omega
            rw [e5, or_eq hL64 hg64, r4]
            exact congrArg (fun x : Nat => (x : Int)) (or_low (m := m) (H := g + 1) (by omega))
          unfold TREE at s1 r8
          rw [ea, eb, e3]
          refine ⟨q - t2, (2 * m + 1) * 2 ^ g, rfl, rfl, rfl, r1, by omega, by omega, 2 * m + 1, rfl, ⟨by omega, ?_⟩, ?_⟩
          · have := r5.2
            rw [show 62 - g = 62 - (g + 1) + 1 by omega, Nat.pow_succ]
            omega
          · have e6 := NODES_plus m g
            rw [double_pow, ← r4] at e6
            rw [e6, r6]
            unfold TREE
            omega
      · have hd3 : ¬ ((TREE g : Nat) : Int) ≤ (q : Int) := by omega
        obtain ⟨t2, ht2⟩ : ∃ t2, TREE g = t2 := ⟨_, rfl⟩
        rw [ht2] at c2 hd3
        have R2 : Aside (TREE g = t2 ∧ q < t2) := ⟨ht2, by omega⟩
        clear hlt ht2
        go_wp2_with fail
        refine (c1 _).mono ?_
        rintro e w' ⟨rfl, rfl⟩
        clear c1
        go_wp2_with fail
        refine (c2 _).mono ?_
        rintro e w' ⟨rfl, rfl⟩
        clear c2
        go_wp2
        go_roundg g
        case measure => omega
        case rel =>
          obtain ⟨r1, r2, r3, r4, r5, r6, r7, r8⟩ := R.out
          obtain ⟨s1, s2⟩ := R2.out
          have hpw := two_le g
          unfold TREE at s1
          rw [e3]
          refine ⟨q, L, rfl, rfl, rfl, r1, by omega, by omega, 2 * m, by rw [double_pow, ← r4], ⟨by omega, ?_⟩, r6⟩
          have := r5.2
          rw [show 62 - g = 62 - (g + 1) + 1 by omega, Nat.pow_succ]
          omega
end Go.Proofs.YtddmfpiflnjmjabDoor
