/- What the document's Spot gives. -/
import Derived.Test.YtddmfpiflnjmjaaDoorPosRef
namespace Go.Proofs.YtddmfpiflnjmjaaDoor
open Go.RowKit

theorem refspot_not (p : Int) (hp : 9223372036854775807 ≤ p) (w : World) : Calls Tryd.prog 85 #[.int .u64 p] w fun e w' => e = .returned (.tuple #[SPOT 0 0, .bool false]) ∧ Below w.heap.size w w' := by
  have c1 := power_ok 62 (by omega)
  rw [show (((2 ^ 62 : Nat) : Int)) = 4611686018427387904 by decide, show (((62 : Nat) : Int)) = 62 from rfl] at c1
  have hd : (9223372036854775806 : Int) < p := by omega
  go_enter Tryd.func85, Tryd.ntmps85
  go_wp2_with fail
  refine (c1 _).mono ?_
  rintro e w' ⟨rfl, rfl⟩
  clear c1
  go_wp2
  refine bodyPost_ret (v := .tuple #[SPOT 0 0, .bool false]) ?_ rfl ⟨rfl, (Below.refl _ _).alloc (Nat.le_refl _) _⟩
  simp [results, Tryd.f85, go_sem]
theorem wr_add {a b c : Nat} (h : a + b = c) (hc : c < 2 ^ 64) : IntKind.u64.wrap ((a : Int) + (b : Int)) = (c : Int) := by rw [wrapU]; omega
theorem wr_inc {a c : Nat} (h : a + 1 = c) (hc : c < 2 ^ 64) : IntKind.u64.wrap ((a : Int) + 1) = (c : Int) := by rw [wrapU]; omega
theorem wr_dec {a c : Nat} (h : c + 1 = a) (hc : c < 2 ^ 64) : IntKind.u64.wrap ((a : Int) - 1) = (c : Int) := by rw [wrapU]; omega
theorem wr_two {a c : Nat} (h : 2 * a = c) (hc : c < 2 ^ 64) : IntKind.u64.wrap (2 * (a : Int)) = (c : Int) := by rw [wrapU]; omega
theorem wr_half {a c : Nat} (h : 2 * c = a) (hc : c < 2 ^ 64) : IntKind.u64.wrap ((a : Int) / 2) = (c : Int) := by rw [wrapU]; omega
theorem half_int {a c : Nat} (h : 2 * c = a) : (a : Int) / 2 = (c : Int) := by omega
/-- one step down from the node (g + 1, m), which p stands under. -/
theorem rs_plain {g m b p z1 bz : Nat} (hg : g + 1 ≤ 62) (hN : Node (g + 1) m) (hb : b = NODES (m * 2 ^ (g + 1))) (hbp : b ≤ p) (hpu : p + 2 ≤ b + 2 ^ (g + 1 + 1)) (hz : 2 ^ (g + 1) = z1 + 1) (hbz : b + z1 = bz) (hT : p ≠ b + 2 * z1) :
    Node g (2 * m) ∧ Node g (2 * m + 1) ∧ b = NODES (2 * m * 2 ^ g) ∧ bz = NODES ((2 * m + 1) * 2 ^ g) ∧ (bz ≤ p → p + 2 ≤ bz + 2 ^ (g + 1)) ∧ (p < bz → p + 2 ≤ b + 2 ^ (g + 1)) := by
  have h2 := hN.2
  have e : 2 ^ (62 - g) = 2 ^ (62 - (g + 1)) * 2 := by rw [← Nat.pow_succ]; congr 1; omega
  have e2 : 2 ^ (g + 1 + 1) = 2 * (z1 + 1) := by rw [Nat.pow_succ, hz, Nat.mul_comm]
  refine ⟨⟨by omega, by rw [e]; omega⟩, ⟨by omega, by rw [e]; omega⟩, by rw [hb, double_pow], ?_, fun h => by omega, fun h => by omega⟩
  rw [NODES_plus, double_pow, ← hb]
  unfold TREE
  omega
theorem refspot_ok (h k : Nat) (hN : Node h k) (w : World) : Calls Tryd.prog 85 #[.int .u64 ((PLC h k : Nat) : Int)] w fun e w' => e = .returned (.tuple #[SPOT h k, .bool true]) ∧ Below w.heap.size w w' := by
  have hp := hN.lt
  obtain ⟨p, hpe⟩ : ∃ p, p = PLC h k := ⟨_, rfl⟩
  rw [← hpe] at hp ⊢
  have HN : Aside (Node h k ∧ p = PLC h k ∧ p < 9223372036854775807) := ⟨hN, hpe, hp⟩
  have c1 := power_ok 62 (by omega)
  rw [show (((2 ^ 62 : Nat) : Int)) = 4611686018427387904 by decide, show (((62 : Nat) : Int)) = 62 from rfl] at c1
  have hd : ¬ (9223372036854775806 : Int) < (p : Int) := by omega
  clear hN hpe hp
  go_enter Tryd.func85, Tryd.ntmps85
  go_wp2_with fail
  refine (c1 _).mono ?_
  rintro e w' ⟨rfl, rfl⟩
  clear c1
  go_wp2
  go_loopg [4, 5, 6] 62 (fun g s4 s5 s6 wx => ∃ b m : Nat, s4 = .int .u64 (b : Int) ∧ s5 = .int .i64 (g : Int) ∧ s6 = .int .u64 (m : Int) ∧ Aside (wx = w.alloc (.cells #[.int .u8 0, .int .u64 0] 76) ∧ g ≤ 62 ∧ b = NODES (m * 2 ^ g) ∧ Node g m ∧ b ≤ p ∧ p + 2 ≤ b + 2 ^ (g + 1)))
  case atStart => exact ⟨0, 0, rfl, rfl, rfl, rfl, by omega, by simp [NODES_zero], ⟨by omega, by simp⟩, by omega, by have := HN.out.2.2; omega⟩
  case round =>
    obtain ⟨b, m, rfl, rfl, rfl, A⟩ := hrel
    obtain ⟨hw, hg, hb, hNm, hbp, hpu⟩ := A.out
    clear A
    have hpl : 2 ^ gk ≤ 2 ^ 62 := Nat.pow_le_pow_right (by decide) hg
    obtain ⟨z1, hz⟩ : ∃ z1, 2 ^ gk = z1 + 1 := ⟨2 ^ gk - 1, by have := Nat.two_pow_pos gk; omega⟩
    have c1 := power_ok gk (by omega)
    rw [hz] at c1 hpl
    have hbl : b < 9223372036854775807 := by have := HN.out.2.2; omega
    obtain ⟨u, hu⟩ : ∃ u, 2 * z1 = u := ⟨_, rfl⟩
    obtain ⟨bu, hbu⟩ : ∃ bu, b + u = bu := ⟨_, rfl⟩
    have e1 : IntKind.u64.wrap (((z1 + 1 : Nat) : Int) - 1) = (z1 : Int) := wr_dec rfl (by omega)
    have e1' : IntKind.u64.wrap (z1 : Int) = (z1 : Int) := by rw [wrapU]; omega
    rw [show ((z1 + 1 : Nat) : Int) = (z1 : Int) + 1 by omega] at c1 e1
    have e2 : IntKind.u64.wrap (2 * (z1 : Int)) = (u : Int) := wr_two hu (by omega)
    have e3 : IntKind.u64.wrap ((b : Int) + (u : Int)) = (bu : Int) := wr_add hbu (by omega)
    by_cases hT : p = bu
    · have hmk : h = gk ∧ k = m := by
        refine HN.out.1.one hNm ?_
        rw [← HN.out.2.1]
        unfold PLC
        rw [hz] at hb
        rw [Nat.pow_succ, hz, ← hb]
        omega
      obtain ⟨rfl, rfl⟩ := hmk
      have hT' : ((p : Int) == (bu : Int)) = true := by simp; omega
      have hh : (h : Int) % 256 = (h : Int) := by omega
      clear hg hb hNm hbp hpu HN hpl hbl hz hu hbu hT
      subst hw
      go_wp2_with fail
      refine (c1 _).mono ?_
      rintro e w' ⟨rfl, rfl⟩
      clear c1
      go_wp2
      refine bodyPost_ret (v := .tuple #[SPOT h k, .bool true]) ?_ rfl ⟨rfl, (Below.refl _ _).alloc (Nat.le_refl _) _⟩
      simp [results, Tryd.f85, go_sem]
    · have hT' : ((p : Int) == (bu : Int)) = false := by simp; omega
      have h1 : 1 ≤ gk := by
        rcases Nat.eq_zero_or_pos gk with h0 | h0
        · subst h0
          simp at hz
          omega
        · exact h0
      obtain ⟨g, rfl⟩ : ∃ g, gk = g + 1 := ⟨gk - 1, by omega⟩
      have hm62 := hNm.index_lt
      obtain ⟨bz, hbz⟩ : ∃ bz, b + z1 = bz := ⟨_, rfl⟩
      obtain ⟨m2, hm2⟩ : ∃ m2, 2 * m = m2 := ⟨_, rfl⟩
      obtain ⟨m3, hm3⟩ : ∃ m3, m2 + 1 = m3 := ⟨_, rfl⟩
      have RR := rs_plain hg hNm hb hbp hpu hz hbz (by omega)
      rw [hm2, hm3] at RR
      have e4 : IntKind.u64.wrap (2 * (m : Int)) = (m2 : Int) := wr_two hm2 (by omega)
      have e5 : IntKind.u64.wrap ((u : Int) / 2) = (z1 : Int) := wr_half hu (by omega)
      have e5' : (u : Int) / 2 = (z1 : Int) := half_int hu
      have e6 : wrap64 (g : Int) = (g : Int) := by unfold wrap64; omega
      have e7 : IntKind.u64.wrap ((b : Int) + (z1 : Int)) = (bz : Int) := wr_add hbz (by omega)
      have e8 : IntKind.u64.wrap ((m2 : Int) + 1) = (m3 : Int) := wr_inc hm3 (by omega)
      have R : Aside (wr = w.alloc (.cells #[.int .u8 0, .int .u64 0] 76) ∧ g + 1 ≤ 62 ∧ b ≤ p ∧ Node g m2 ∧ Node g m3 ∧ b = NODES (m2 * 2 ^ g) ∧ bz = NODES (m3 * 2 ^ g) ∧ (bz ≤ p → p + 2 ≤ bz + 2 ^ (g + 1)) ∧ (p < bz → p + 2 ≤ b + 2 ^ (g + 1))) := ⟨hw, hg, hbp, RR⟩
      rw [show (((g + 1 : Nat) : Int)) = (g : Int) + 1 by omega] at c1 ⊢
      clear RR hw hg hNm hbp hb hpu hT hz hbz hbu hu HN hpl hbl h1 hm62 hm2 hm3 hd
      by_cases hlt : bz ≤ p
      · have hd3 : (bz : Int) ≤ (p : Int) := by omega
        have R2 : Aside (bz ≤ p) := hlt
        clear hlt
        go_wp2_with fail
        refine (c1 _).mono ?_
        rintro e w' ⟨rfl, rfl⟩
        clear c1
        go_wp2
        go_roundg g
        case measure => omega
        case rel =>
          obtain ⟨r1, r2, r3, r4, r5, r6, r7, r8, r9⟩ := R.out
          have s1 := R2.out
          rw [e6]
          exact ⟨bz, m3, rfl, rfl, rfl, r1, by omega, r7, r5, s1, r8 s1⟩
      · have hd3 : ¬ (bz : Int) ≤ (p : Int) := by omega
        have R2 : Aside (p < bz) := by unfold Aside; omega
        clear hlt
        go_wp2_with fail
        refine (c1 _).mono ?_
        rintro e w' ⟨rfl, rfl⟩
        clear c1
        go_wp2
        go_roundg g
        case measure => omega
        case rel =>
          obtain ⟨r1, r2, r3, r4, r5, r6, r7, r8, r9⟩ := R.out
          have s1 := R2.out
          rw [e6]
          exact ⟨b, m2, rfl, rfl, rfl, r1, by omega, r6, r4, r3, r9 s1⟩
end Go.Proofs.YtddmfpiflnjmjaaDoor
