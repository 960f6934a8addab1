/- Texts of ProofWrites, one behind the other: PosPlace, PosRef, PosRefSpot, PosOk. -/
import Derived.Test.YtfjmbfppilfepaaDoorProofWritesP8
/- What Place answers. -/
namespace Go.Proofs.YtfjmbfppilfepaaDoor
open Go.RowKit

theorem quiet_eq {P : Program} {f : FuncId} {args : Array Value} {w : World} {n : Nat} {v : Value}
    (h : Calls P f args (w.drewN n) fun e w' => e = .returned v ∧ w.drewN n = w') : Calls P f args (w.drewN n) fun e w'' => e = .returned v ∧ ∃ m, w'' = w.drewN m :=
  h.mono fun _ _ ⟨he, hm⟩ => ⟨he, n, hm.symm⟩
theorem place_high (h k : Nat) (hh : 62 < h) (w : World) : Calls Tryd.prog 63 #[SPOT h k] w fun e w' => e = .returned (.tuple #[.int .u64 0, .bool false]) ∧ Below w.heap.size w w' := by
  have hd : decide ((62 : Int) < (h : Int)) = true := by simp; omega
  go_enter Tryd.func63, Tryd.ntmps63
  go_wp2
  have hc0 : (w.alloc (.cells #[.int .u8 (h : Int), .int .u64 (k : Int)] 99)).cell? ⟨w.heap.size, 0, none⟩ = some (.int .u8 (h : Int)) := by simp
  have R2 : Aside (Below w.heap.size w (w.alloc (.cells #[.int .u8 (h : Int), .int .u64 (k : Int)] 99))) := (Below.refl _ _).alloc (Nat.le_refl _) _
  generalize w.alloc (.cells #[.int .u8 (h : Int), .int .u64 (k : Int)] 99) = W at *
  generalize hb : w.heap.size = b at *
  go_quiet (fail)
  go_wp2
  go_ret2
  exact ⟨rfl, by rw [hb]; exact below_drewN R2.out nq⟩
theorem place_wide (h k : Nat) (t m : Int) (w : World) (hh : h ≤ 62) (hm : wrap64 (h : Int) = (h : Int)) (ht : wrap64 (62 - (h : Int)) = t) (hk : decide (m < (k : Int)) = true) (cm : ∀ w, Calls Tryd.prog 87 #[.int .i64 t] w fun e w' => e = .returned (.int .u64 m) ∧ w = w') :
    Calls Tryd.prog 63 #[SPOT h k] w fun e w' => e = .returned (.tuple #[.int .u64 0, .bool false]) ∧ Below w.heap.size w w' := by
  have hd : decide ((62 : Int) < (h : Int)) = false := by simp; omega
  go_enter Tryd.func63, Tryd.ntmps63
  go_wp2
  have hc0 : (w.alloc (.cells #[.int .u8 (h : Int), .int .u64 (k : Int)] 99)).cell? ⟨w.heap.size, 0, none⟩ = some (.int .u8 (h : Int)) := by simp
  have hc1 : (w.alloc (.cells #[.int .u8 (h : Int), .int .u64 (k : Int)] 99)).cell? ⟨w.heap.size, 1, none⟩ = some (.int .u64 (k : Int)) := by simp
  have R2 : Aside (Below w.heap.size w (w.alloc (.cells #[.int .u8 (h : Int), .int .u64 (k : Int)] 99))) := (Below.refl _ _).alloc (Nat.le_refl _) _
  generalize w.alloc (.cells #[.int .u8 (h : Int), .int .u64 (k : Int)] 99) = W at *
  generalize hb : w.heap.size = b at *
  clear hh
  go_quiet ((go_at_call 87; exact quiet_eq (cm _)))
  go_wp2
  go_ret2
  exact ⟨rfl, by rw [hb]; exact below_drewN R2.out nq⟩
theorem place_raw (h k : Nat) (t m l a r : Int) (w : World) (hh : h ≤ 62) (hm : wrap64 (h : Int) = (h : Int)) (hm2 : IntKind.u64.wrap (h : Int) = (h : Int)) (ht : wrap64 (62 - (h : Int)) = t) (hk : decide (m < (k : Int)) = false) (cm : ∀ w, Calls Tryd.prog 87 #[.int .i64 t] w fun e w' => e = .returned (.int .u64 m) ∧ w = w')
    (e0 : IntKind.u64.wrap ((k : Int) + 1) = (k : Int) + 1) (e1 : IntKind.u64.wrap (IntKind.u64.wrap (((k : Int) + 1) * 2 ^ min h 64) - 1) = l) (ca : ∀ w, Calls Tryd.prog 76 #[.int .u64 l] w fun e w' => e = .returned (.int .u64 a) ∧ w = w') (e2 : IntKind.u64.wrap (a + (h : Int)) = r) :
    Calls Tryd.prog 63 #[SPOT h k] w fun e w' => e = .returned (.tuple #[.int .u64 r, .bool true]) ∧ Below w.heap.size w w' := by
  have hd : decide ((62 : Int) < (h : Int)) = false := by simp; omega
  go_enter Tryd.func63, Tryd.ntmps63
  go_wp2
  have hc0 : (w.alloc (.cells #[.int .u8 (h : Int), .int .u64 (k : Int)] 99)).cell? ⟨w.heap.size, 0, none⟩ = some (.int .u8 (h : Int)) := by simp
  have hc1 : (w.alloc (.cells #[.int .u8 (h : Int), .int .u64 (k : Int)] 99)).cell? ⟨w.heap.size, 1, none⟩ = some (.int .u64 (k : Int)) := by simp
  have R2 : Aside (Below w.heap.size w (w.alloc (.cells #[.int .u8 (h : Int), .int .u64 (k : Int)] 99))) := (Below.refl _ _).alloc (Nat.le_refl _) _
  generalize w.alloc (.cells #[.int .u8 (h : Int), .int .u64 (k : Int)] 99) = W at *
  generalize hb : w.heap.size = b at *
  clear hh
  go_quiet ((go_at_call 87; exact quiet_eq (cm _)))
  have R3 : Aside (Below b w (W.drewN nq)) := below_drewN R2.out nq
  have hc0' : (W.drewN nq).cell? ⟨b, 0, none⟩ = some (.int .u8 (h : Int)) := hc0
  have hc1' : (W.drewN nq).cell? ⟨b, 1, none⟩ = some (.int .u64 (k : Int)) := hc1
  clear hc0 hc1 R2 cm
  generalize W.drewN nq = W2 at *
  go_wp2
  go_quiet ((go_at_call 76; exact quiet_eq (ca _)))
  go_wp2
  go_ret2
  exact ⟨rfl, by rw [hb]; exact below_drewN R3.out _⟩
end Go.Proofs.YtfjmbfppilfepaaDoor

/- What the document's answers for layer 3 give: Power, Nodes, Leaf, Leaves. -/
namespace Go.Proofs.YtfjmbfppilfepaaDoor
open Go.RowKit

theorem power_ok (n : Nat) (hn : n < 64) (w : World) : Calls Tryd.prog 108 #[.int .i64 (n : Int)] w fun e w' => e = .returned (.int .u64 ((2 ^ n : Nat) : Int)) ∧ w = w' := by
  have HN : Aside (n < 64) := hn
  clear hn
  go_enter Tryd.func108, Tryd.ntmps108
  go_wp2
  go_loopg [3, 4] n (fun g s3 s4 wx => ∃ i v : Nat, s3 = .int .u64 (v : Int) ∧ s4 = .int .i64 (i : Int) ∧ Aside (v = 2 ^ i ∧ i + g = n) ∧ wx = w)
  case atStart => exact ⟨0, 1, rfl, rfl, ⟨rfl, by omega⟩, rfl⟩
  case round =>
    obtain ⟨i, v, rfl, rfl, A, hw⟩ := hrel
    subst hw
    cases gk with
    | zero =>
      have hi : ¬ (i : Int) < (n : Int) := by have := A.out.2; omega
      go_wp2
      go_ret
      obtain ⟨r1, r2⟩ := A.out
      refine ⟨?_, rfl⟩
      rw [r1, show i = n by omega]
      rfl
    | succ g =>
      have hi : (i : Int) < (n : Int) := by have := A.out.2; omega
      go_wp2
      go_roundg g
      case measure => omega
      case rel =>
        obtain ⟨r1, r2⟩ := A.out
        have h64 := HN.out
        have hp : 2 ^ (i + 1) ≤ 2 ^ 63 := Nat.pow_le_pow_right (by decide) (by omega)
        refine ⟨i + 1, 2 ^ (i + 1), ?_, ?_, ⟨rfl, by omega⟩, rfl⟩
        · congr 1
          rw [wrapU, r1]
          rw [Nat.pow_succ] at hp ⊢
          omega
        · congr 1
          unfold wrap64
          omega
theorem refnodes_not (n : Int) (hn : 4611686018427387904 < n) (w : World) : Calls Tryd.prog 109 #[.int .u64 n] w fun e w' => e = .returned (.tuple #[.int .u64 0, .bool false]) ∧ w = w' := by
  go_enter Tryd.func109, Tryd.ntmps109
  go_wp2
  go_ret2
  exact ⟨rfl, rfl⟩
theorem refnodes_ok (n : Nat) (hn : n ≤ 4611686018427387904) (w : World) : Calls Tryd.prog 109 #[.int .u64 (n : Int)] w fun e w' => e = .returned (.tuple #[.int .u64 ((NODES n : Nat) : Int), .bool true]) ∧ w = w' := by
  have HN : Aside (n ≤ 4611686018427387904) := hn
  have hd : ¬ (4611686018427387904 : Int) < (n : Int) := by omega
  clear hn
  go_enter Tryd.func109, Tryd.ntmps109
  go_wp2
  go_loopg [0, 4] n (fun g s0 s4 wx => ∃ v : Nat, s0 = .int .u64 (g : Int) ∧ s4 = .int .u64 (v : Int) ∧ Aside (v + NODES g = NODES n) ∧ wx = w)
  case atStart => exact ⟨0, rfl, rfl, by unfold Aside; omega, rfl⟩
  case round =>
    obtain ⟨v, rfl, rfl, A, hw⟩ := hrel
    subst hw
    cases gk with
    | zero =>
      go_wp2
      go_ret2
      have r1 := A.out
      rw [NODES_zero] at r1
      refine ⟨?_, rfl⟩
      rw [← r1]
      rfl
    | succ g =>
      have hi : (0 : Int) < (((g + 1 : Nat)) : Int) := by omega
      have e1 : Aside (IntKind.u64.wrap ((v : Int) + ((g + 1 : Nat) : Int)) = ((v + (g + 1) : Nat) : Int)) := by
        have h1 := NODES_half (g + 1)
        have h2 := A.out
        have h3 := NODES_top HN.out
        unfold Aside
        rw [wrapU]
        omega
      have e2 : Aside (IntKind.u64.wrap (((g + 1 : Nat) : Int) / 2) = (((g + 1) / 2 : Nat) : Int)) := by
        have h1 := NODES_ge (g + 1)
        have h2 := A.out
        have h3 := NODES_top HN.out
        unfold Aside
        rw [wrapU]
        omega
      generalize hG : g + 1 = G at *
      go_wp2
      go_roundg (G / 2)
      case measure => omega
      case rel =>
        refine ⟨v + G, ?_, ?_, ?_, rfl⟩
        · first | rfl | (congr 1; omega) | (rw [e2.out])
        · rw [e1.out]
        · have h1 := NODES_half G
          have h2 := A.out
          unfold Aside
          omega
end Go.Proofs.YtfjmbfppilfepaaDoor

/- What the document's Spot gives. -/
namespace Go.Proofs.YtfjmbfppilfepaaDoor
open Go.RowKit

theorem refspot_not (p : Int) (hp : 9223372036854775807 ≤ p) (w : World) : Calls Tryd.prog 115 #[.int .u64 p] w fun e w' => e = .returned (.tuple #[SPOT 0 0, .bool false]) ∧ Below w.heap.size w w' := by
  have c1 := power_ok 62 (by omega)
  rw [show (((2 ^ 62 : Nat) : Int)) = 4611686018427387904 by decide, show (((62 : Nat) : Int)) = 62 from rfl] at c1
  have hd : (9223372036854775806 : Int) < p := by omega
  go_enter Tryd.func115, Tryd.ntmps115
  go_wp2_with fail
  refine (c1 _).mono ?_
  rintro e w' ⟨rfl, rfl⟩
  clear c1
  go_wp2
  refine bodyPost_ret (v := .tuple #[SPOT 0 0, .bool false]) ?_ rfl ⟨rfl, (Below.refl _ _).alloc (Nat.le_refl _) _⟩
  simp [results, Tryd.f115, go_sem]
theorem wr_add {a b c : Nat} (h : a + b = c) (hc : c < 2 ^ 64) : IntKind.u64.wrap ((a : Int) + (b : Int)) = (c : Int) := by rw [wrapU]; omega
theorem wr_inc {a c : Nat} (h : a + 1 = c) (hc : c < 2 ^ 64) : IntKind.u64.wrap ((a : Int) + 1) = (c : Int) := by rw [wrapU]; omega
theorem wr_dec {a c : Nat} (h : c + 1 = a) (hc : c < 2 ^ 64) : IntKind.u64.wrap ((a : Int) - 1) = (c : Int) := by rw [wrapU]; omega
theorem wr_two {a c : Nat} (h : 2 * a = c) (hc : c < 2 ^ 64) : IntKind.u64.wrap (2 * (a : Int)) = (c : Int) := by rw [wrapU]; omega
theorem wr_half {a c : Nat} (h : 2 * c = a) (hc : c < 2 ^ 64) : IntKind.u64.wrap ((a : Int) / 2) = (c : Int) := by rw [wrapU]; omega
theorem half_int {a c : Nat} (h : 2 * c = a) : (a : Int) / 2 = (c : Int) := by omega
/-- one step down from the node (g + 1, m), which p stands under. -/
theorem rs_plain {g m b p z1 bz : Nat} (hg : g + 1 ≤ 62) (hN : Node (g + 1) m) (hb : b = NODES (m * 2 ^ (g + 1))) (hbp : b ≤ p) (hpu : p + 2 ≤ b + 2 ^ (g + 1 + 1)) (hz : 2 ^ (g + 1) = z1 + 1) (hbz : b + z1 = bz) (hT : p ≠ b + 2 * z1) :
    Node g (2 * m) ∧ Node g (2 * m + 1) ∧ b = NODES (2 * m * 2 ^ g) ∧ bz = NODES ((2 * m + 1) * 2 ^ g) ∧ (bz ≤ p → p + 2 ≤ bz + 2 ^ (g + 1)) ∧ (p < bz → p + 2 ≤ b + 2 ^ (g + 1)) := by
  have h2 := hN.2
  have e : 2 ^ (62 - g) = 2 ^ (62 - (g + 1)) * 2 := by rw [← Nat.pow_succ]; congr 1; omega
  have e2 : 2 ^ (g + 1 + 1) = 2 * (z1 + 1) := by rw [Nat.pow_succ, hz, Nat.mul_comm]
  refine ⟨⟨by omega, by rw [e]; omega⟩, ⟨by omega, by rw [e]; omega⟩, by rw [hb, double_pow], ?_, fun h => by omega, fun h => by omega⟩
  rw [NODES_plus, double_pow, ← hb]
  unfold TREE
  omega
theorem refspot_ok (h k : Nat) (hN : Node h k) (w : World) : Calls Tryd.prog 115 #[.int .u64 ((PLC h k : Nat) : Int)] w fun e w' => e = .returned (.tuple #[SPOT h k, .bool true]) ∧ Below w.heap.size w w' := by
  have hp := hN.lt
  obtain ⟨p, hpe⟩ : ∃ p, p = PLC h k := ⟨_, rfl⟩
  rw [← hpe] at hp ⊢
  have HN : Aside (Node h k ∧ p = PLC h k ∧ p < 9223372036854775807) := ⟨hN, hpe, hp⟩
  have c1 := power_ok 62 (by omega)
  rw [show (((2 ^ 62 : Nat) : Int)) = 4611686018427387904 by decide, show (((62 : Nat) : Int)) = 62 from rfl] at c1
  have hd : ¬ (9223372036854775806 : Int) < (p : Int) := by omega
  clear hN hpe hp
  go_enter Tryd.func115, Tryd.ntmps115
  go_wp2_with fail
  refine (c1 _).mono ?_
  rintro e w' ⟨rfl, rfl⟩
  clear c1
  go_wp2
  go_loopg [4, 5, 6] 62 (fun g s4 s5 s6 wx => ∃ b m : Nat, s4 = .int .u64 (b : Int) ∧ s5 = .int .i64 (g : Int) ∧ s6 = .int .u64 (m : Int) ∧ Aside (wx = w.alloc (.cells #[.int .u8 0, .int .u64 0] 99) ∧ g ≤ 62 ∧ b = NODES (m * 2 ^ g) ∧ Node g m ∧ b ≤ p ∧ p + 2 ≤ b + 2 ^ (g + 1)))
  case atStart => exact ⟨0, 0, rfl, rfl, rfl, rfl, by omega, by simp [NODES_zero], ⟨by omega, by simp⟩, by omega, by have := HN.out.2.2; omega⟩
  case round =>
    obtain ⟨b, m, rfl, rfl, rfl, A⟩ := hrel
    obtain ⟨hw, hg, hb, hNm, hbp, hpu⟩ := A.out
    clear A
    have hpl : 2 ^ gk ≤ 2 ^ 62 := Nat.pow_le_pow_right (by decide) hg
    obtain ⟨z1, hz⟩ : ∃ z1, 2 ^ gk = z1 + 1 := ⟨2 ^ gk - 1, by have := Nat.two_pow_pos gk; omega⟩
    have c1 := power_ok gk (by omega)
    rw [hz] at c1 hpl
    have hbl : b < 9223372036854775807 := by have := HN.out.2.2; omega
    obtain ⟨u, hu⟩ : ∃ u, 2 * z1 = u := ⟨_, rfl⟩
    obtain ⟨bu, hbu⟩ : ∃ bu, b + u = bu := ⟨_, rfl⟩
    have e1 : IntKind.u64.wrap (((z1 + 1 : Nat) : Int) - 1) = (z1 : Int) := wr_dec rfl (by omega)
    have e1' : IntKind.u64.wrap (z1 : Int) = (z1 : Int) := by rw [wrapU]; omega
    rw [show ((z1 + 1 : Nat) : Int) = (z1 : Int) + 1 by omega] at c1 e1
    have e2 : IntKind.u64.wrap (2 * (z1 : Int)) = (u : Int) := wr_two hu (by omega)
    have e3 : IntKind.u64.wrap ((b : Int) + (u : Int)) = (bu : Int) := wr_add hbu (by omega)
    by_cases hT : p = bu
    · have hmk : h = gk ∧ k = m := by
        refine HN.out.1.one hNm ?_
        rw [← HN.out.2.1]
        unfold PLC
        rw [hz] at hb
        rw [Nat.pow_succ, hz, ← hb]
        omega
      obtain ⟨rfl, rfl⟩ := hmk
      have hT' : ((p : Int) == (bu : Int)) = true := by simp; omega
      have hh : (h : Int) % 256 = (h : Int) := by omega
      clear hg hb hNm hbp hpu HN hpl hbl hz hu hbu hT
      subst hw
      go_wp2_with fail
      refine (c1 _).mono ?_
      rintro e w' ⟨rfl, rfl⟩
      clear c1
      go_wp2
      refine bodyPost_ret (v := .tuple #[SPOT h k, .bool true]) ?_ rfl ⟨rfl, (Below.refl _ _).alloc (Nat.le_refl _) _⟩
      simp [results, Tryd.f115, go_sem]
    · have hT' : ((p : Int) == (bu : Int)) = false := by simp; omega
      have h1 : 1 ≤ gk := by
        rcases Nat.eq_zero_or_pos gk with h0 | h0
        · subst h0
          simp at hz
          omega
        · exact h0
      obtain ⟨g, rfl⟩ : ∃ g, gk = g + 1 := ⟨gk - 1, by omega⟩
      have hm62 := hNm.index_lt
      obtain ⟨bz, hbz⟩ : ∃ bz, b + z1 = bz := ⟨_, rfl⟩
      obtain ⟨m2, hm2⟩ : ∃ m2, 2 * m = m2 := ⟨_, rfl⟩
      obtain ⟨m3, hm3⟩ : ∃ m3, m2 + 1 = m3 := ⟨_, rfl⟩
      have RR := rs_plain hg hNm hb hbp hpu hz hbz (by omega)
      rw [hm2, hm3] at RR
      have e4 : IntKind.u64.wrap (2 * (m : Int)) = (m2 : Int) := wr_two hm2 (by omega)
      have e5 : IntKind.u64.wrap ((u : Int) / 2) = (z1 : Int) := wr_half hu (by omega)
      have e5' : (u : Int) / 2 = (z1 : Int) := half_int hu
      have e6 : wrap64 (g : Int) = (g : Int) := by unfold wrap64; omega
      have e7 : IntKind.u64.wrap ((b : Int) + (z1 : Int)) = (bz : Int) := wr_add hbz (by omega)
      have e8 : IntKind.u64.wrap ((m2 : Int) + 1) = (m3 : Int) := wr_inc hm3 (by omega)
      have R : Aside (wr = w.alloc (.cells #[.int .u8 0, .int .u64 0] 99) ∧ g + 1 ≤ 62 ∧ b ≤ p ∧ Node g m2 ∧ Node g m3 ∧ b = NODES (m2 * 2 ^ g) ∧ bz = NODES (m3 * 2 ^ g) ∧ (bz ≤ p → p + 2 ≤ bz + 2 ^ (g + 1)) ∧ (p < bz → p + 2 ≤ b + 2 ^ (g + 1))) := ⟨hw, hg, hbp, RR⟩
      rw [show (((g + 1 : Nat) : Int)) = (g : Int) + 1 by omega] at c1 ⊢
      clear RR hw hg hNm hbp hb hpu hT hz hbz hbu hu HN hpl hbl h1 hm62 hm2 hm3 hd
      by_cases hlt : bz ≤ p
      · have hd3 : (bz : Int) ≤ (p : Int) := by omega
        have R2 : Aside (bz ≤ p) := hlt
        clear hlt
        go_wp2_with fail
        refine (c1 _).mono ?_
        rintro e w' ⟨rfl, rfl⟩
        clear c1
        go_wp2
        go_roundg g
        case measure => omega
        case rel =>
          obtain ⟨r1, r2, r3, r4, r5, r6, r7, r8, r9⟩ := R.out
          have s1 := R2.out
          rw [e6]
          exact ⟨bz, m3, rfl, rfl, rfl, r1, by omega, r7, r5, s1, r8 s1⟩
      · have hd3 : ¬ (bz : Int) ≤ (p : Int) := by omega
        have R2 : Aside (p < bz) := by unfold Aside; omega
        clear hlt
        go_wp2_with fail
        refine (c1 _).mono ?_
        rintro e w' ⟨rfl, rfl⟩
        clear c1
        go_wp2
        go_roundg g
        case measure => omega
        case rel =>
          obtain ⟨r1, r2, r3, r4, r5, r6, r7, r8, r9⟩ := R.out
          have s1 := R2.out
          rw [e6]
          exact ⟨b, m2, rfl, rfl, rfl, r1, by omega, r6, r4, r3, r9 s1⟩
end Go.Proofs.YtfjmbfppilfepaaDoor

/- What the functions of package pos answer, node by node. -/
namespace Go.Proofs.YtfjmbfppilfepaaDoor
open Go.RowKit

theorem and_one (k : Nat) (hk : k < 2 ^ 64) : bits .and .u64 (k : Int) 1 = ((k % 2 : Nat) : Int) := by
  have : bits .and .u64 (k : Int) ((1 : Nat) : Int) = ((k &&& 1 : Nat) : Int) := and_eq hk (by decide)
  rw [Nat.and_one_is_mod] at this
  exact this
theorem odd_eq (k : Nat) (hk : k < 2 ^ 64) : (bits .and .u64 (k : Int) 1 == 1) = decide (k % 2 = 1) := by
  rw [and_one k hk, Bool.eq_iff_iff]
  simp
  omega
theorem shift_eq (a h : Nat) (hh : h ≤ 62) (hl : a * 2 ^ h < 2 ^ 64) : IntKind.u64.wrap ((a : Int) * 2 ^ min h 64) = ((a * 2 ^ h : Nat) : Int) := by
  rw [show min h 64 = h by omega, mul_cast, Nat.mod_eq_of_lt hl]
theorem MASK_pow {h : Nat} (hh : h ≤ 62) : MASK (62 - (h : Int)) = 2 ^ (62 - h) - 1 := by
  unfold MASK
  rw [show min (62 - (h : Int)).toNat 64 = 62 - h by omega]
theorem place_ok (h k : Nat) (hN : Node h k) (w : World) : Calls Tryd.prog 63 #[SPOT h k] w fun e w' => e = .returned (.tuple #[.int .u64 ((PLC h k : Nat) : Int), .bool true]) ∧ Below w.heap.size w w' := by
  have h1 := hN.1
  have h2 := hN.2
  have h3 := hN.span
  have h4 := hN.index_lt
  have h5 := hN.lt
  have h6 := Nat.two_pow_pos (62 - h)
  have h7 := PLC_last h k
  have h8 := last_lt h k
  refine place_raw h k (62 - (h : Int)) ((2 ^ (62 - h) - 1 : Nat) : Int) (((k + 1) * 2 ^ h - 1 : Nat) : Int) ((NODES ((k + 1) * 2 ^ h - 1) : Nat) : Int) _ w h1 (by unfold wrap64; omega) (by rw [wrapU]; omega) (by unfold wrap64; omega) (by simp; omega) (fun w => ?_) (by rw [wrapU]; omega) ?_ (fun w => ahead_ok _ (by omega) w) ?_
  · rw [← MASK_pow h1]
    exact mask_ok _ (by omega) w
  · have := shift_eq (k + 1) h h1 (by omega)
    rw [show (((k + 1 : Nat)) : Int) = (k : Int) + 1 by omega] at this
    rw [this, wrapU]
    omega
  · rw [wrapU]
    omega
theorem place_not (h k : Nat) (hN : ¬ Node h k) (w : World) : Calls Tryd.prog 63 #[SPOT h k] w fun e w' => e = .returned (.tuple #[.int .u64 0, .bool false]) ∧ Below w.heap.size w w' := by
  rcases Nat.lt_or_ge 62 h with h1 | h1
  · exact place_high h k h1 w
  · have h2 : 2 ^ (62 - h) ≤ k := by
      rcases Nat.lt_or_ge k (2 ^ (62 - h)) with h3 | h3
      · exact absurd ⟨h1, h3⟩ hN
      · exact h3
    have h6 := Nat.two_pow_pos (62 - h)
    refine place_wide h k (62 - (h : Int)) ((2 ^ (62 - h) - 1 : Nat) : Int) w h1 (by unfold wrap64; omega) (by unfold wrap64; omega) (by simp; omega) (fun w => ?_)
    rw [← MASK_pow h1]
    exact mask_ok _ (by omega) w
theorem PLC_parent (h k : Nat) : PLC (h + 1) (k / 2) = if k % 2 = 1 then PLC h k + 1 else PLC h k + TREE h + 1 := by
  split
  · have := PLC_up_right h (k / 2)
    rw [show 2 * (k / 2) + 1 = k by omega] at this
    exact this
  · have := PLC_up_left h (k / 2)
    rw [show 2 * (k / 2) = k by omega] at this
    have h3 := two_le h
    unfold TREE
    omega
theorem PLC_sibling (h k : Nat) : PLC h (SIB k) = if k % 2 = 1 then PLC h k - TREE h else PLC h k + TREE h := by
  unfold SIB
  split
  · have := PLC_sib h (k / 2)
    rw [show 2 * (k / 2) + 1 = k by omega, show 2 * (k / 2) = k - 1 by omega] at this
    omega
  · have := PLC_sib h (k / 2)
    rw [show 2 * (k / 2) = k by omega] at this
    omega
theorem tree_le_right {h k : Nat} (hk : k % 2 = 1) : TREE h ≤ PLC h k := by
  have := PLC_sib h (k / 2)
  rw [show 2 * (k / 2) + 1 = k by omega] at this
  omega
theorem over_ok (h k : Nat) (hN : Node h k) (hh : h < 62) (w : World) : Calls Tryd.prog 78 #[.int .u64 ((PLC h k : Nat) : Int), .int .i64 (h : Int), .bool (decide (k % 2 = 1))] w fun e w' => e = .returned (.int .u64 ((PLC (h + 1) (k / 2) : Nat) : Int)) ∧ w = w' := by
  have h1 := (hN.up hh).lt
  have h2 := PLC_parent h k
  by_cases hk : k % 2 = 1
  · rw [if_pos hk] at h2
    rw [decide_eq_true hk]
    have := over_right (PLC h k : Nat) (h : Int) w
    rw [show IntKind.u64.wrap (((PLC h k : Nat) : Int) + 1) = ((PLC (h + 1) (k / 2) : Nat) : Int) by rw [wrapU]; omega] at this
    exact this
  · rw [if_neg hk] at h2
    rw [decide_eq_false hk]
    have := over_left (PLC h k : Nat) (h : Int) (TREE h : Nat) w (fun w => tree_ok h (by omega) w)
    rw [show IntKind.u64.wrap (IntKind.u64.wrap (((PLC h k : Nat) : Int) + ((TREE h : Nat) : Int)) + 1) = ((PLC (h + 1) (k / 2) : Nat) : Int) by rw [wrapU, wrapU]; omega] at this
    exact this
theorem beside_ok (h k : Nat) (hN : Node h k) (hh : h < 62) (w : World) : Calls Tryd.prog 77 #[.int .u64 ((PLC h k : Nat) : Int), .int .i64 (h : Int), .bool (decide (k % 2 = 1))] w fun e w' => e = .returned (.int .u64 ((PLC h (SIB k) : Nat) : Int)) ∧ w = w' := by
  have h0 := hN.lt
  have h1 := (hN.sib hh).lt
  have h2 := PLC_sibling h k
  by_cases hk : k % 2 = 1
  · rw [if_pos hk] at h2
    rw [decide_eq_true hk]
    have h3 := tree_le_right (h := h) hk
    have := beside_right (PLC h k : Nat) (h : Int) (TREE h : Nat) w (fun w => tree_ok h (by omega) w)
    rw [show IntKind.u64.wrap (((PLC h k : Nat) : Int) - ((TREE h : Nat) : Int)) = ((PLC h (SIB k) : Nat) : Int) by rw [wrapU]; omega] at this
    exact this
  · rw [if_neg hk] at h2
    rw [decide_eq_false hk]
    have := beside_left (PLC h k : Nat) (h : Int) (TREE h : Nat) w (fun w => tree_ok h (by omega) w)
    rw [show IntKind.u64.wrap (((PLC h k : Nat) : Int) + ((TREE h : Nat) : Int)) = ((PLC h (SIB k) : Nat) : Int) by rw [wrapU]; omega] at this
    exact this
theorem Node.kid {h k : Nat} (a : Node (h + 1) k) : Node h (2 * k) ∧ Node h (2 * k + 1) := by
  have h1 := a.1
  have h2 := a.2
  have e : 2 ^ (62 - h) = 2 ^ (62 - (h + 1)) * 2 := by rw [← Nat.pow_succ]; congr 1; omega
  exact ⟨⟨by omega, by rw [e]; omega⟩, ⟨by omega, by rw [e]; omega⟩⟩
end Go.Proofs.YtfjmbfppilfepaaDoor
