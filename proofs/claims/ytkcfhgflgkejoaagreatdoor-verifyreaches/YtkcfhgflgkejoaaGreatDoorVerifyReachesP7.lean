/- Texts of VerifyReaches, one behind the other: PosRefSpot, PosRefKin, PosTops, PosRefPeaks, PosRefPeak, PosRefPath, PosAwake, PosFour, CutCalls, CutHas. -/
import Derived.Deep.QuietTactic
import Derived.BigQuiet
import Derived.Test.YtkcfhgflgkejoaaGreatDoorVerifyReachesP4
import Derived.Test.YtkcfhgflgkejoaaGreatDoorVerifyReachesP5
import Derived.Test.YtkcfhgflgkejoaaGreatDoorVerifyReachesP6
/- What the document's Spot gives. -/
namespace Go.Proofs.YtkcfhgflgkejoaaGreatDoor
open Go.RowKit

theorem refspot_not (p : Int) (hp : 9223372036854775807 ≤ p) (w : World) : Calls Tryz.prog 128 #[.int .u64 p] w fun e w' => e = .returned (.tuple #[SPOT 0 0, .bool false]) ∧ Below w.heap.size w w' := by
  have c1 := power_ok 62 (by omega)
  rw [show (((2 ^ 62 : Nat) : Int)) = 4611686018427387904 by decide, show (((62 : Nat) : Int)) = 62 from rfl] at c1
  have hd : (9223372036854775806 : Int) < p := by omega
  go_enter Tryz.func128, Tryz.ntmps128
  go_wp2_with fail
  refine (c1 _).mono ?_
  rintro e w' ⟨rfl, rfl⟩
  clear c1
  go_wp2
  refine bodyPost_ret (v := .tuple #[SPOT 0 0, .bool false]) ?_ rfl ⟨rfl, (Below.refl _ _).alloc (Nat.le_refl _) _⟩
  simp [results, Tryz.f128, go_sem]
theorem wr_add {a b c : Nat} (h : a + b = c) (hc : c < 2 ^ 64) : IntKind.u64.wrap ((a : Int) + (b : Int)) = (c : Int) := by rw [wrapU]; omega
theorem wr_inc {a c : Nat} (h : a + 1 = c) (hc : c < 2 ^ 64) : IntKind.u64.wrap ((a : Int) + 1) = (c : Int) := by rw [wrapU]; omega
theorem wr_dec {a c : Nat} (h : c + 1 = a) (hc : c < 2 ^ 64) : IntKind.u64.wrap ((a : Int) - 1) = (c : Int) := by rw [wrapU]; omega
theorem wr_two {a c : Nat} (h : 2 * a = c) (hc : c < 2 ^ 64) : IntKind.u64.wrap (2 * (a : Int)) = (c : Int) := by rw [wrapU]; omega
theorem wr_half {a c : Nat} (h : 2 * c = a) (hc : c < 2 ^ 64) : IntKind.u64.wrap ((a : Int) / 2) = (c : Int) := by rw [wrapU]; omega
theorem half_int {a c : Nat} (h : 2 * c = a) : (a : Int) / 2 = (c : Int) := by omega
/-- one step down from the node (g + 1, m), which p stands under. -/
theorem rs_plain {g m b p z1 bz : Nat} (hg : g + 1 ≤ 62) (hN : Node (g + 1) m) (hb : b = NODES (m * 2 ^ (g + 1))) (hbp : b ≤ p) (hpu : p + 2 ≤ b + 2 ^ (g + 1 + 1)) (hz : 2 ^ (g + 1) = z1 + 1) (hbz : b + z1 = bz) (hT : p ≠ b + 2 * z1) :
    Node g (2 * m) ∧ Node g (2 * m + 1) ∧ b = NODES (2 * m * 2 ^ g) ∧ bz = NODES ((2 * m + 1) * 2 ^ g) ∧ (bz ≤ p → p + 2 ≤ bz + 2 ^ (g + 1)) ∧ (p < bz → p + 2 ≤ b + 2 ^ (g + 1)) := by
  have h2 := hN.2
  have e : 2 ^ (62 - g) = 2 ^ (62 - (g + 1)) * 2 := by rw [← Nat.pow_succ]; congr 1; omega
  have e2 : 2 ^ (g + 1 + 1) = 2 * (z1 + 1) := by rw [Nat.pow_succ, hz, Nat.mul_comm]
  refine ⟨⟨by omega, by rw [e]; omega⟩, ⟨by omega, by rw [e]; omega⟩, by rw [hb, double_pow], ?_, fun h => by omega, fun h => by omega⟩
  rw [NODES_plus, double_pow, ← hb]
  unfold TREE
  omega
theorem refspot_ok (h k : Nat) (hN : Node h k) (w : World) : Calls Tryz.prog 128 #[.int .u64 ((PLC h k : Nat) : Int)] w fun e w' => e = .returned (.tuple #[SPOT h k, .bool true]) ∧ Below w.heap.size w w' := by
  have hp := hN.lt
  obtain ⟨p, hpe⟩ : ∃ p, p = PLC h k := ⟨_, rfl⟩
  rw [← hpe] at hp ⊢
  have HN : Aside (Node h k ∧ p = PLC h k ∧ p < 9223372036854775807) := ⟨hN, hpe, hp⟩
  have c1 := power_ok 62 (by omega)
  rw [show (((2 ^ 62 : Nat) : Int)) = 4611686018427387904 by decide, show (((62 : Nat) : Int)) = 62 from rfl] at c1
  have hd : ¬ (9223372036854775806 : Int) < (p : Int) := by omega
  clear hN hpe hp
  go_enter Tryz.func128, Tryz.ntmps128
  go_wp2_with fail
  refine (c1 _).mono ?_
  rintro e w' ⟨rfl, rfl⟩
  clear c1
  go_wp2
  go_loopg [4, 5, 6] 62 (fun g s4 s5 s6 wx => ∃ b m : Nat, s4 = .int .u64 (b : Int) ∧ s5 = .int .i64 (g : Int) ∧ s6 = .int .u64 (m : Int) ∧ Aside (wx = w.alloc (.cells #[.int .u8 0, .int .u64 0] 64) ∧ g ≤ 62 ∧ b = NODES (m * 2 ^ g) ∧ Node g m ∧ b ≤ p ∧ p + 2 ≤ b + 2 ^ (g + 1)))
  case atStart => exact ⟨0, 0, rfl, rfl, rfl, rfl, by omega, by simp [NODES_zero], ⟨by omega, by simp⟩, by omega, by have := HN.out.2.2; omega⟩
  case round =>
    obtain ⟨b, m, rfl, rfl, rfl, A⟩ := hrel
    obtain ⟨hw, hg, hb, hNm, hbp, hpu⟩ := A.out
    clear A
    have hpl : 2 ^ gk ≤ 2 ^ 62 := Nat.pow_le_pow_right (by decide) hg
    obtain ⟨z1, hz⟩ : ∃ z1, 2 ^ gk = z1 + 1 := ⟨2 ^ gk - 1, by have := Nat.two_pow_pos gk; omega⟩
    have c1 := power_ok gk (by omega)
    rw [hz] at c1 hpl
    have hbl : b < 9223372036854775807 := by have := HN.out.2.2; omega
    obtain ⟨u, hu⟩ : ∃ u, 2 * z1 = u := ⟨_, rfl⟩
    obtain ⟨bu, hbu⟩ : ∃ bu, b + u = bu := ⟨_, rfl⟩
    have e1 : IntKind.u64.wrap (((z1 + 1 : Nat) : Int) - 1) = (z1 : Int) := wr_dec rfl (by omega)
    have e1' : IntKind.u64.wrap (z1 : Int) = (z1 : Int) := by rw [wrapU]; omega
    rw [show ((z1 + 1 : Nat) : Int) = (z1 : Int) + 1 by omega] at c1 e1
    have e2 : IntKind.u64.wrap (2 * (z1 : Int)) = (u : Int) := wr_two hu (by omega)
    have e3 : IntKind.u64.wrap ((b : Int) + (u : Int)) = (bu : Int) := wr_add hbu (by omega)
    by_cases hT : p = bu
    · have hmk : h = gk ∧ k = m := by
        refine HN.out.1.one hNm ?_
        rw [← HN.out.2.1]
        unfold PLC
        rw [hz] at hb
        rw [Nat.pow_succ, hz, ← hb]
        omega
      obtain ⟨rfl, rfl⟩ := hmk
      have hT' : ((p : Int) == (bu : Int)) = true := by simp; omega
      have hh : (h : Int) % 256 = (h : Int) := by omega
      clear hg hb hNm hbp hpu HN hpl hbl hz hu hbu hT
      subst hw
      go_wp2_with fail
      refine (c1 _).mono ?_
      rintro e w' ⟨rfl, rfl⟩
      clear c1
      go_wp2
      refine bodyPost_ret (v := .tuple #[SPOT h k, .bool true]) ?_ rfl ⟨rfl, (Below.refl _ _).alloc (Nat.le_refl _) _⟩
      simp [results, Tryz.f128, go_sem]
    · have hT' : ((p : Int) == (bu : Int)) = false := by simp; omega
      have h1 : 1 ≤ gk := by
        rcases Nat.eq_zero_or_pos gk with h0 | h0
        · subst h0
          simp at hz
          omega
        · exact h0
      obtain ⟨g, rfl⟩ : ∃ g, gk = g + 1 := ⟨gk - 1, by omega⟩
      have hm62 := hNm.index_lt
      obtain ⟨bz, hbz⟩ : ∃ bz, b + z1 = bz := ⟨_, rfl⟩
      obtain ⟨m2, hm2⟩ : ∃ m2, 2 * m = m2 := ⟨_, rfl⟩
      obtain ⟨m3, hm3⟩ : ∃ m3, m2 + 1 = m3 := ⟨_, rfl⟩
      have RR := rs_plain hg hNm hb hbp hpu hz hbz (by omega)
      rw [hm2, hm3] at RR
      have e4 : IntKind.u64.wrap (2 * (m : Int)) = (m2 : Int) := wr_two hm2 (by omega)
      have e5 : IntKind.u64.wrap ((u : Int) / 2) = (z1 : Int) := wr_half hu (by omega)
      have e5' : (u : Int) / 2 = (z1 : Int) := half_int hu
      have e6 : wrap64 (g : Int) = (g : Int) := by unfold wrap64; omega
      have e7 : IntKind.u64.wrap ((b : Int) + (z1 : Int)) = (bz : Int) := wr_add hbz (by omega)
      have e8 : IntKind.u64.wrap ((m2 : Int) + 1) = (m3 : Int) := wr_inc hm3 (by omega)
      have R : Aside (wr = w.alloc (.cells #[.int .u8 0, .int .u64 0] 64) ∧ g + 1 ≤ 62 ∧ b ≤ p ∧ Node g m2 ∧ Node g m3 ∧ b = NODES (m2 * 2 ^ g) ∧ bz = NODES (m3 * 2 ^ g) ∧ (bz ≤ p → p + 2 ≤ bz + 2 ^ (g + 1)) ∧ (p < bz → p + 2 ≤ b + 2 ^ (g + 1))) := ⟨hw, hg, hbp, RR⟩
      rw [show (((g + 1 : Nat) : Int)) = (g : Int) + 1 by omega] at c1 ⊢
      clear RR hw hg hNm hbp hb hpu hT hz hbz hbu hu HN hpl hbl h1 hm62 hm2 hm3 hd
      by_cases hlt : bz ≤ p
      · have hd3 : (bz : Int) ≤ (p : Int) := by omega
        have R2 : Aside (bz ≤ p) := hlt
        clear hlt
        go_wp2_with fail
        refine (c1 _).mono ?_
        rintro e w' ⟨rfl, rfl⟩
        clear c1
        go_wp2
        go_roundg g
        case measure => omega
        case rel =>
          obtain ⟨r1, r2, r3, r4, r5, r6, r7, r8, r9⟩ := R.out
          have s1 := R2.out
          rw [e6]
          exact ⟨bz, m3, rfl, rfl, rfl, r1, by omega, r7, r5, s1, r8 s1⟩
      · have hd3 : ¬ (bz : Int) ≤ (p : Int) := by omega
        have R2 : Aside (p < bz) := by unfold Aside; omega
        clear hlt
        go_wp2_with fail
        refine (c1 _).mono ?_
        rintro e w' ⟨rfl, rfl⟩
        clear c1
        go_wp2
        go_roundg g
        case measure => omega
        case rel =>
          obtain ⟨r1, r2, r3, r4, r5, r6, r7, r8, r9⟩ := R.out
          have s1 := R2.out
          rw [e6]
          exact ⟨b, m2, rfl, rfl, rfl, r1, by omega, r6, r4, r3, r9 s1⟩
end Go.Proofs.YtkcfhgflgkejoaaGreatDoor

/- What the document's answers give for a node's kin. -/
namespace Go.Proofs.YtkcfhgflgkejoaaGreatDoor
open Go.RowKit

/-- the document's Spot answers so at p. -/
def RefAt (p : Int) (h k : Nat) (ok : Bool) : Prop := ∀ w, Calls Tryz.prog 128 #[.int .u64 p] w fun e w' => e = .returned (.tuple #[SPOT h k, .bool ok]) ∧ Below w.heap.size w w'
theorem RefAt.node {h k : Nat} (hN : Node h k) : RefAt ((PLC h k : Nat) : Int) h k true := fun w => refspot_ok h k hN w
theorem RefAt.out {p : Int} (hp : 9223372036854775807 ≤ p) : RefAt p 0 0 false := fun w => refspot_not p hp w
theorem refplace_raw (h k : Nat) (t z y l a r : Int) (w : World) (hh : h ≤ 62) (hm : wrap64 (h : Int) = (h : Int)) (hm2 : IntKind.u64.wrap (h : Int) = (h : Int)) (ht : wrap64 (62 - (h : Int)) = t) (hk : decide (y ≤ (k : Int)) = false)
    (cy : ∀ w, Calls Tryz.prog 64 #[.int .i64 t] w fun e w' => e = .returned (.int .u64 y) ∧ w = w') (cz : ∀ w, Calls Tryz.prog 64 #[.int .i64 (h : Int)] w fun e w' => e = .returned (.int .u64 z) ∧ w = w')
    (e0 : IntKind.u64.wrap ((k : Int) + 1) = (k : Int) + 1) (e1 : IntKind.u64.wrap (IntKind.u64.wrap (((k : Int) + 1) * z) - 1) = l) (ca : ∀ w, Calls Tryz.prog 127 #[.int .u64 l] w fun e w' => e = .returned (.tuple #[.int .u64 a, .bool true]) ∧ w = w') (e2 : IntKind.u64.wrap (a + (h : Int)) = r) :
    Calls Tryz.prog 113 #[SPOT h k] w fun e w' => e = .returned (.tuple #[.int .u64 r, .bool true]) ∧ Below w.heap.size w w' := by
  have hd : decide ((62 : Int) < (h : Int)) = false := by simp; omega
  go_enter Tryz.func113, Tryz.ntmps113
  go_wp2
  have hc0 : (w.alloc (.cells #[.int .u8 (h : Int), .int .u64 (k : Int)] 64)).cell? ⟨w.heap.size, 0, none⟩ = some (.int .u8 (h : Int)) := by simp
  have hc1 : (w.alloc (.cells #[.int .u8 (h : Int), .int .u64 (k : Int)] 64)).cell? ⟨w.heap.size, 1, none⟩ = some (.int .u64 (k : Int)) := by simp
  have R2 : Aside (Below w.heap.size w (w.alloc (.cells #[.int .u8 (h : Int), .int .u64 (k : Int)] 64))) := (Below.refl _ _).alloc (Nat.le_refl _) _
  generalize w.alloc (.cells #[.int .u8 (h : Int), .int .u64 (k : Int)] 64) = W at *
  generalize hb : w.heap.size = b at *
  clear hh
  go_quiet ((go_at_call 64; exact quiet_eq (cy _)))
  have R3 : Aside (Below b w (W.drewN nq)) := below_drewN R2.out nq
  have hc0' : (W.drewN nq).cell? ⟨b, 0, none⟩ = some (.int .u8 (h : Int)) := hc0
  have hc1' : (W.drewN nq).cell? ⟨b, 1, none⟩ = some (.int .u64 (k : Int)) := hc1
  clear hc0 hc1 R2 cy
  generalize W.drewN nq = W2 at *
  go_wp2
  go_quiet (first | (go_at_call 64; exact quiet_eq (cz _)) | (go_at_call 127; exact quiet_eq (ca _)))
  go_wp2
  go_ret2
  exact ⟨rfl, by rw [hb]; exact below_drewN R3.out _⟩
theorem refplace_ok (h k : Nat) (hN : Node h k) (w : World) : Calls Tryz.prog 113 #[SPOT h k] w fun e w' => e = .returned (.tuple #[.int .u64 ((PLC h k : Nat) : Int), .bool true]) ∧ Below w.heap.size w w' := by
  have h1 := hN.1
  have h2 := hN.2
  have h3 := hN.span
  have h4 := hN.index_lt
  have h5 := hN.lt
  have h7 := PLC_last h k
  have h8 := last_lt h k
  refine refplace_raw h k ((62 - h : Nat) : Int) ((2 ^ h : Nat) : Int) ((2 ^ (62 - h) : Nat) : Int) (((k + 1) * 2 ^ h - 1 : Nat) : Int) ((NODES ((k + 1) * 2 ^ h - 1) : Nat) : Int) _ w h1 (by unfold wrap64; omega) (by rw [wrapU]; omega) (by unfold wrap64; omega) (by simp only [decide_eq_false_iff_not]; omega) (fun w => power_ok _ (by omega) w) (fun w => power_ok _ (by omega) w) (by rw [wrapU]; omega) ?_ (fun w => refnodes_ok _ (by omega) w) ?_
  · rw [show (((k : Int) + 1) * ((2 ^ h : Nat) : Int)) = (((k + 1) * 2 ^ h : Nat) : Int) by rw [Int.natCast_mul]; rfl]
    generalize (k + 1) * 2 ^ h = x at *
    rw [wrapU, wrapU]
    omega
  · rw [wrapU]
    omega
end Go.Proofs.YtkcfhgflgkejoaaGreatDoor

/- What the document's Tops gives: the spots of the peaks. -/
namespace Go.Proofs.YtkcfhgflgkejoaaGreatDoor
open Go.RowKit

/-- the spots of the peaks of n leaves whose height is at least h. -/
def TOPS (h n : Nat) : List (Nat × Nat) := (HS h n).map fun g => (g, 2 * (n / 2 ^ (g + 1)))
theorem TOPS_set {h n : Nat} (hh : h < 64) (hb : n / 2 ^ h % 2 = 1) : TOPS h n = TOPS (h + 1) n ++ [(h, 2 * (n / 2 ^ (h + 1)))] := by
  unfold TOPS
  rw [HS_set hh hb, List.map_append]
  rfl
theorem TOPS_clear {h n : Nat} (hh : h < 64) (hb : ¬ n / 2 ^ h % 2 = 1) : TOPS h n = TOPS (h + 1) n := by
  unfold TOPS
  rw [HS_clear hh hb]
theorem TOPS_length {n : Nat} (hn : n < 2 ^ 64) (h : Nat) (hh : h ≤ 64) : (TOPS h n).length = PC (n / 2 ^ h) := by
  unfold TOPS
  rw [List.length_map]
  exact HS_length hn h hh
/-- one height of Tops. -/
theorem tops_plain {n h at' r : Nat} (ha : at' = n / 2 ^ (h + 1) * 2 ^ (h + 1)) (hr : r = n - at') : at' ≤ n ∧ (2 ^ h ≤ r ↔ n / 2 ^ h % 2 = 1) ∧ at' / 2 ^ h = 2 * (n / 2 ^ (h + 1)) ∧ (n / 2 ^ h % 2 = 1 → at' + 2 ^ h = n / 2 ^ h * 2 ^ h) ∧ (¬ n / 2 ^ h % 2 = 1 → at' = n / 2 ^ h * 2 ^ h) := by
  have hp := Nat.two_pow_pos h
  have e1 : at' = 2 * (n / 2 ^ (h + 1)) * 2 ^ h := by rw [ha, double_pow]
  have hd := Nat.div_add_mod n (2 ^ h)
  have hm := Nat.mod_lt n hp
  rw [Nat.mul_comm] at hd
  have hq : at' / 2 ^ h = 2 * (n / 2 ^ (h + 1)) := by rw [e1, Nat.mul_div_cancel _ hp]
  by_cases hb : n / 2 ^ h % 2 = 1
  · have h2 := at_set hb
    have e2 : n / 2 ^ h * 2 ^ h = at' + 2 ^ h := by rw [h2, Nat.add_mul, Nat.one_mul, ← e1]
    exact ⟨by omega, ⟨fun _ => hb, fun _ => by omega⟩, hq, fun _ => e2.symm, fun h => absurd hb h⟩
  · have h2 := at_clear hb
    have e2 : n / 2 ^ h * 2 ^ h = at' := by rw [h2, ← e1]
    exact ⟨by omega, ⟨fun _ => by omega, fun h => absurd h hb⟩, hq, fun h => absurd h hb, fun _ => e2.symm⟩
set_option maxHeartbeats 1000000 in
theorem tops_ok (n : Nat) (hn : n ≤ 4611686018427387904) (w : World) : Calls Tryz.prog 31 #[.int .u64 (n : Int)] w fun e w' =>
    ∃ v, e = .returned v ∧ w'.ownsRow w.heap.size 64 2 v (PC n) (SCELLS (TOPS 0 n)) ∧ Below w.heap.size w w' := by
  have HN : Aside (n ≤ 4611686018427387904) := hn
  have hd : ¬ (4611686018427387904 : Int) < (n : Int) := by omega
  clear hn
  go_enter Tryz.func31, Tryz.ntmps31
  go_wp2
  go_loopg [3, 4, 5] 63 (fun q s3 s4 s5 wx => ∃ a : Nat, s4 = .int .u64 (a : Int) ∧ s5 = .int .i64 ((q : Int) - 1) ∧ Aside (q ≤ 63 ∧ a = n / 2 ^ q * 2 ^ q ∧ wx.ownsRow w.heap.size 64 2 s3 (PC (n / 2 ^ q)) (SCELLS (TOPS q n)) ∧ Below w.heap.size w wx))
  case atStart =>
    have hz : n / 2 ^ 63 = 0 := Nat.div_eq_of_lt (by have := HN.out; omega)
    refine ⟨0, rfl, rfl, by omega, by rw [hz, Nat.zero_mul], ?_, Below.refl _ _⟩
    rw [hz, PC_zero]
    have ht : TOPS 63 n = [] := by
      unfold TOPS
      rw [HS_top (by have := HN.out; omega)]
      rfl
    rw [ht]
    exact ⟨rfl, .inl ⟨rfl, rfl⟩⟩
  case round =>
    obtain ⟨a, rfl, rfl, A⟩ := hrel
    cases gk with
    | zero =>
      have hlt : ¬ (0 : Int) ≤ ((0 : Nat) : Int) - 1 := by omega
      go_wp2
      go_ret
      obtain ⟨_, _, hown, hbel⟩ := A.out
      rw [Nat.pow_zero, Nat.div_one] at hown
      exact ⟨_, rfl, hown, hbel⟩
    | succ h =>
      obtain ⟨h63, ha, hown, hbel⟩ := A.out
      have hnn := HN.out
      obtain ⟨r, hr⟩ : ∃ r, r = n - a := ⟨_, rfl⟩
      obtain ⟨p1, p2, p3, p4, p5⟩ := tops_plain ha hr
      have c := power_ok h (by omega)
      have hpw : 2 ^ h ≤ 2 ^ 62 := Nat.pow_le_pow_right (by decide) (by omega)
      have hp0 := Nat.two_pow_pos h
      have e0 : ((h + 1 : Nat) : Int) - 1 = (h : Int) := by omega
      have e0' : ¬ (h : Int) < 0 := by omega
      have e1 : IntKind.u64.wrap ((n : Int) - (a : Int)) = (r : Int) := by rw [wrapU]; omega
      have e3 : (h : Int) % 256 = (h : Int) := by omega
      have e4 : wrap64 ((h : Int) - 1) = (h : Int) - 1 := by unfold wrap64; omega
      rw [e0]
      by_cases hb : n / 2 ^ h % 2 = 1
      · have hge : 2 ^ h ≤ r := p2.2 hb
        have pq := p4 hb
        have e5 : (a : Int) / ((2 ^ h : Nat) : Int) = ((2 * (n / 2 ^ (h + 1)) : Nat) : Int) := by rw [← p3, Int.natCast_ediv]
        have hT := TOPS_set (n := n) (h := h) (by omega) hb
        have hPC : PC (n / 2 ^ h) = PC (n / 2 ^ (h + 1)) + 1 := by rw [PC_step, ← half_pow]; omega
        have hlen : PC (n / 2 ^ (h + 1)) ≤ 1000 := by have := PC_lt_pow 64 (n / 2 ^ (h + 1)) (Nat.lt_of_le_of_lt (Nat.div_le_self _ _) (by omega)); omega
        have hk64 : 2 * (n / 2 ^ (h + 1)) < 2 ^ 64 := by rw [← p3]; exact Nat.lt_of_le_of_lt (Nat.div_le_self _ _) (by omega)
        generalize 2 * (n / 2 ^ (h + 1)) = k at *
        have e7 : IntKind.u64.wrap (k : Int) = (k : Int) := by rw [wrapU]; omega
        have e6 : IntKind.u64.wrap ((a : Int) + ((2 ^ h : Nat) : Int)) = ((n / 2 ^ h * 2 ^ h : Nat) : Int) := by rw [wrapU, ← pq]; omega
        have hge' : ((2 ^ h : Nat) : Int) ≤ (r : Int) := by omega
        have hz0 : ¬ ((2 ^ h : Nat) : Int) = 0 := by omega
        generalize hm : PC (n / 2 ^ (h + 1)) = m at *
        generalize hl : TOPS (h + 1) n = l at *
        generalize ((2 ^ h : Nat) : Int) = z at *
        generalize hx : n / 2 ^ h * 2 ^ h = x at *
        have R : Aside (h ≤ 62 ∧ x = n / 2 ^ h * 2 ^ h ∧ wr.ownsRow w.heap.size 64 2 u3 m (SCELLS l) ∧ Below w.heap.size w wr ∧ m ≤ 1000 ∧ PC (n / 2 ^ h) = m + 1 ∧ TOPS h n = l ++ [(h, k)]) := ⟨by omega, hx.symm, hown, hbel, hlen, hPC, hT⟩
        clear A HN h63 ha hown hbel hnn hr p1 p2 p3 p4 p5 hpw hp0 hb hge pq hT hPC hlen hk64 hm hl hx
        go_wp2_with fail
        refine (c _).mono ?_
        rintro e w' ⟨rfl, rfl⟩
        go_wp2_with fail
        refine (c _).mono ?_
        rintro e w' ⟨rfl, rfl⟩
        go_wp2_with (at_builtin; refine app_spot _ rfl (.tmp 19) (.tmp 27) rfl w.heap.size u3 m l rfl (R.out.2.2.1.alloc _) wr.heap.size 1 h k rfl (by rw [World.cell?_alloc_at _ _ _ _ rfl]; rfl) (by rw [World.cell?_alloc_at _ _ _ _ rfl]; rfl) R.out.2.2.2.2.1 (by have := R.out.2.2.2.1.size; simp; omega) ?_; intro g' cap w1 hown hgrow hg)
        obtain ⟨r1, r2, r3, r4, r5, r6, r7⟩ := R.out
        have R2 : Aside (h ≤ 63 ∧ x = n / 2 ^ h * 2 ^ h ∧ w1.ownsRow w.heap.size 64 2 (.slice (some ⟨g', 0, none⟩) (m + 1) cap) (PC (n / 2 ^ h)) (SCELLS (TOPS h n)) ∧ Below w.heap.size w w1) := ⟨by omega, r2, by rw [r6, r7]; exact hown, (r4.alloc r4.size _).grown hgrow (by have := r4.size; simp; omega) (fun k e => (r3.lt k e).1)⟩
        clear hown hgrow hg R r1 r2 r3 r4 r5 r6 r7
        refine (c _).mono ?_
        rintro e w' ⟨rfl, rfl⟩
        clear c
        go_wp2
        go_roundg h
        case measure => omega
        case rel => exact ⟨x, by first | rfl | (rw [e6]), by first | rfl | (rw [e4]), R2.out⟩
      · have hge : ¬ 2 ^ h ≤ r := fun h => hb (p2.1 h)
        have pq := p5 hb
        have hge' : ¬ ((2 ^ h : Nat) : Int) ≤ (r : Int) := by omega
        have hT := TOPS_clear (n := n) (h := h) (by omega) hb
        have hPC : PC (n / 2 ^ h) = PC (n / 2 ^ (h + 1)) := by rw [PC_step, ← half_pow]; omega
        generalize ((2 ^ h : Nat) : Int) = z at *
        have R : Aside (h ≤ 63 ∧ a = n / 2 ^ h * 2 ^ h ∧ wr.ownsRow w.heap.size 64 2 u3 (PC (n / 2 ^ h)) (SCELLS (TOPS h n)) ∧ Below w.heap.size w wr) := ⟨by omega, pq, by rw [hT, hPC]; exact hown, hbel⟩
        clear A HN h63 ha hown hbel hnn hr p1 p2 p3 p4 p5 hpw hp0 hb hge pq hT hPC
        go_wp2_with fail
        refine (c _).mono ?_
        rintro e w' ⟨rfl, rfl⟩
        clear c
        go_wp2
        go_roundg h
        case measure => omega
        case rel => exact ⟨a, rfl, by first | rfl | (rw [e4]), R.out⟩
end Go.Proofs.YtkcfhgflgkejoaaGreatDoor

/- What the document's Peaks gives. -/
namespace Go.Proofs.YtkcfhgflgkejoaaGreatDoor
open Go.RowKit

theorem tops_spots (n : Nat) (hn : n ≤ 4611686018427387904) (w : World) : Calls Tryz.prog 31 #[.int .u64 (n : Int)] w fun e w' =>
    ∃ a cap, e = .returned (.slice a (PC n) cap) ∧ Spots w' a (TOPS 0 n) ∧ Below w.heap.size w w' := by
  refine (tops_ok n hn w).mono ?_
  rintro e w' ⟨v, rfl, hown, hb⟩
  have hl := TOPS_length (n := n) (by omega) 0 (by omega)
  rw [Nat.pow_zero, Nat.div_one] at hl
  obtain ⟨a, cap, rfl, hs⟩ := spots_own hl hown
  exact ⟨a, cap, rfl, hs, hb⟩
theorem TOPS_node {n : Nat} (hn : n ≤ 4611686018427387904) {j h k : Nat} (e : (TOPS 0 n)[j]? = some (h, k)) : Node h k ∧ h < 64 := by
  unfold TOPS at e
  rw [List.getElem?_map] at e
  obtain ⟨g, hg, e2⟩ := Option.map_eq_some_iff.1 e
  simp only [Prod.mk.injEq] at e2
  obtain ⟨rfl, rfl⟩ := e2
  obtain ⟨_, h1, h2⟩ := HS_set_of 0 g (by omega) (List.mem_of_getElem? hg)
  exact ⟨Node.peak hn h2, h1⟩
theorem PEAKS_TOPS (n : Nat) : PEAKS n = (TOPS 0 n).map fun x => PLC x.1 x.2 := by
  unfold PEAKS TOPS
  rw [List.map_map]
  rfl
set_option maxHeartbeats 1000000 in
theorem refpeaks_ok (n : Nat) (hn : n ≤ 4611686018427387904) (w : World) : Calls Tryz.prog 104 #[.int .u64 (n : Int)] w fun e w' =>
    ∃ v, e = .returned v ∧ w'.ownsRow w.heap.size 24 1 v (PC n) (UCELLS (PEAKS n)) ∧ Below w.heap.size w w' := by
  have c := tops_spots n hn w
  have hl := TOPS_length (n := n) (by omega) 0 (by omega)
  rw [Nat.pow_zero, Nat.div_one] at hl
  have hP := PC_lt_pow 64 n (by omega)
  have hN := fun (j h k : Nat) (e : (TOPS 0 n)[j]? = some (h, k)) => TOPS_node hn e
  have hpt := PEAKS_TOPS n
  generalize PC n = L at *
  generalize TOPS 0 n = l at *
  have HL : Aside (l.length = L ∧ L ≤ 64 ∧ (∀ j h k, l[j]? = some (h, k) → Node h k ∧ h < 64) ∧ PEAKS n = l.map fun x => PLC x.1 x.2) := ⟨hl, hP, hN, hpt⟩
  clear hn hl hP hN hpt
  go_enter Tryz.func104, Tryz.ntmps104
  go_wp2_with fail
  refine c.mono ?_
  rintro e w1 ⟨a, cap, rfl, hs, hb⟩
  have R1 : Aside (Spots w1 a l ∧ Below w.heap.size w w1) := ⟨hs, hb⟩
  clear c hs hb
  go_wp2
  go_loopg [3, 5] L (fun q s3 s5 wx => ∃ j : Nat, s5 = .int .i64 (j : Int) ∧ Aside (j + q = L ∧ wx.ownsRow w1.heap.size 24 1 s3 j (UCELLS ((l.take j).map fun x => PLC x.1 x.2)) ∧ Below w1.heap.size w1 wx))
  case atStart => exact ⟨0, rfl, by omega, ⟨rfl, .inl ⟨rfl, rfl⟩⟩, Below.refl _ _⟩
  case round =>
    obtain ⟨j, rfl, A⟩ := hrel
    cases gk with
    | zero =>
      obtain rfl : j = L := by have := A.out.1; omega
      have hlt : ¬ (j : Int) < (j : Int) := by omega
      go_wp2
      go_ret
      obtain ⟨_, hown, hbel⟩ := A.out
      rw [List.take_of_length_le (by rw [HL.out.1]; omega), ← HL.out.2.2.2] at hown
      exact ⟨_, rfl, own_mono hown R1.out.2.size, R1.out.2.trans (hbel.mono R1.out.2.size)⟩
    | succ q =>
      have hjl : j < L := by have := A.out.1; omega
      have hlt : (j : Int) < (L : Int) := by omega
      have hj0 : ¬ (j : Int) < 0 := by omega
      obtain ⟨⟨h, k⟩, hx⟩ : ∃ x, l[j]? = some x := ⟨_, List.getElem?_eq_getElem (by rw [HL.out.1]; exact hjl)⟩
      obtain ⟨g, rfl, hg, hc⟩ := R1.out.1 (by rw [HL.out.1]; omega)
      have h0 : wr.cell? ⟨g, j * 2, none⟩ = some (.int .u8 (h : Int)) := (A.out.2.2.cell (p := ⟨g, j * 2, none⟩) hg).trans (hc j h k hx).1
      have h1 : wr.cell? ⟨g, j * 2 + 1, none⟩ = some (.int .u64 (k : Int)) := (A.out.2.2.cell (p := ⟨g, j * 2 + 1, none⟩) hg).trans (hc j h k hx).2
      have cp := fun w => refplace_ok h k (HL.out.2.2.1 j h k hx).1 w
      have e1 : wrap64 ((j : Int) + 1) = ((j + 1 : Nat) : Int) := by have := HL.out.2.1; unfold wrap64; omega
      have ht : (l.take (j + 1)).map (fun x => PLC x.1 x.2) = (l.take j).map (fun x => PLC x.1 x.2) ++ [PLC h k] := by
        rw [List.take_add_one, hx]
        simp
      generalize PLC h k = y at *
      generalize hm : (l.take j).map (fun x => PLC x.1 x.2) = m at *
      generalize hm2 : (l.take (j + 1)).map (fun x => PLC x.1 x.2) = m2 at *
      have R : Aside (j + 1 + q = L ∧ wr.ownsRow w1.heap.size 24 1 u3 j (UCELLS m) ∧ Below w1.heap.size w1 wr ∧ j ≤ 1000 ∧ m2 = m ++ [y] ∧ (l.take (j + 1)).map (fun x => PLC x.1 x.2) = m2) := ⟨by have := A.out.1; omega, A.out.2.1, A.out.2.2, by have := HL.out.2.1; omega, ht, hm2⟩
      clear A HL R1 hx hg hc ht hm hm2 hjl
      go_wp2_with fail
      refine (cp _).mono ?_
      rintro e w2 ⟨rfl, hb⟩
      replace R : Aside (j + 1 + q = L ∧ w2.ownsRow w1.heap.size 24 1 u3 j (UCELLS m) ∧ Below w1.heap.size w1 w2 ∧ j ≤ 1000 ∧ m2 = m ++ [y] ∧ (l.take (j + 1)).map (fun x => PLC x.1 x.2) = m2) := ⟨R.out.1, own_below R.out.2.1 hb, R.out.2.2.1.trans (hb.mono R.out.2.2.1.size), R.out.2.2.2⟩
      clear cp hb h0 h1
      go_wp2_with (at_builtin; refine app_u64 _ rfl (.tmp 24) (.tmp 26) rfl w1.heap.size u3 j m rfl (R.out.2.1.alloc _) w2.heap.size 1 y rfl (by rw [World.cell?_alloc_at _ _ _ _ rfl]; rfl) R.out.2.2.2.1 (by have := R.out.2.2.1.size; simp; omega) ?_; intro g' cap' w3 hown hgrow hg)
      obtain ⟨r1, r2, r3, r4, r5, r6⟩ := R.out
      have R2 : Aside (j + 1 + q = L ∧ w3.ownsRow w1.heap.size 24 1 (.slice (some ⟨g', 0, none⟩) (j + 1) cap') (j + 1) (UCELLS ((l.take (j + 1)).map fun x => PLC x.1 x.2)) ∧ Below w1.heap.size w1 w3) := ⟨r1, by rw [r6, r5]; exact hown, (r3.alloc r3.size _).grown hgrow (by have := r3.size; simp; omega) (fun k e => (r2.lt k e).1)⟩
      clear hown hgrow hg R r1 r2 r3 r4 r5 r6
      go_wp2
      go_roundg q
      case measure => omega
      case rel => exact ⟨j + 1, by first | rfl | (rw [e1]), R2.out⟩
end Go.Proofs.YtkcfhgflgkejoaaGreatDoor

/- What the document's Peak gives. -/
namespace Go.Proofs.YtkcfhgflgkejoaaGreatDoor
open Go.RowKit

theorem TOPS_at {n j : Nat} (hn : n < 2 ^ 64) (hj : j < PC n) : (TOPS 0 n)[j]? = some (HGT n j, KGT n j) := by
  unfold TOPS
  rw [List.getElem?_map, (HGT_at hn hj).1]
  rfl
end Go.Proofs.YtkcfhgflgkejoaaGreatDoor

/- What the document's Path gives. -/
namespace Go.Proofs.YtkcfhgflgkejoaaGreatDoor
open Go.RowKit

end Go.Proofs.YtkcfhgflgkejoaaGreatDoor

/- awake answers true: the forest of seven leaves. -/
namespace Go.Proofs.YtkcfhgflgkejoaaGreatDoor
open Go.RowKit

/-- a list of numbers, cell by cell. -/
theorem row_at {w : World} {base g n cap : Nat} {l : List Nat} (h : w.ownsRow base 24 1 (.slice (some ⟨g, 0, none⟩) n cap) n (UCELLS l)) (i : Nat) (hi : i < l.length) : w.cell? ⟨g, i, none⟩ = some (.int .u64 (l.getD i 0 : Nat)) := by
  have hlen : l.length = n := by have := h.1; simpa [UCELLS] using this
  rw [h.cellAt i (by omega)]
  unfold UCELLS
  rw [List.getElem?_map, List.getD_eq_getElem?_getD, List.getElem?_eq_getElem hi]
  rfl
end Go.Proofs.YtkcfhgflgkejoaaGreatDoor

/- Two lists that read the same; four lists of one's own, none of which shares a block with another. -/
namespace Go.Proofs.YtkcfhgflgkejoaaGreatDoor
open Go.RowKit

/-- a list of numbers lies there. -/
def Nums (w : World) (v : Value) (l : List Nat) : Prop := ∃ a cap, v = .slice a l.length cap ∧ (0 < l.length → ∃ g, a = some ⟨g, 0, none⟩ ∧ g < w.heap.size ∧ ∀ (j : Nat), j < l.length → w.cell? ⟨g, j, none⟩ = some (.int .u64 ((l.getD j 0 : Nat) : Int)))
theorem Nums.below {w w' : World} {v : Value} {l : List Nat} {B : Nat} (h : Nums w v l) (hb : Below B w w') (hB : w.heap.size ≤ B) : Nums w' v l := by
  obtain ⟨a, cap, rfl, h⟩ := h
  refine ⟨a, cap, rfl, fun h0 => ?_⟩
  obtain ⟨g, e, hg, hc⟩ := h h0
  exact ⟨g, e, Nat.lt_of_lt_of_le hg hb.size, fun j hj => (hb.cell (p := ⟨g, j, none⟩) (Nat.lt_of_lt_of_le hg hB)).trans (hc j hj)⟩
/-- four lists of one's own: no two in one block, none in a block of K. -/
structure Four (w : World) (B : Nat) (K : Nat → Prop) (v : Nat → Value) (n : Nat → Nat) (xs : Nat → List Value) : Prop where
  row : ∀ x, x < 4 → w.ownsRow B 24 1 (v x) (n x) (xs x)
  apart : ∀ x y, x < 4 → y < 4 → x ≠ y → ∀ g, (v x).ownBlock = some g → (v y).ownBlock ≠ some g
  off : ∀ x, x < 4 → ∀ g, (v x).ownBlock = some g → ¬ K g
/-- a function that is another one at one place. -/
def UPD {α : Type} (f : Nat → α) (x : Nat) (a : α) : Nat → α := fun z => if z = x then a else f z
theorem UPD_at {α : Type} (f : Nat → α) (x : Nat) (a : α) : UPD f x a x = a := by simp [UPD]
theorem UPD_other {α : Type} (f : Nat → α) {x z : Nat} (a : α) (h : z ≠ x) : UPD f x a z = f z := by simp [UPD, h]
theorem Four.alloc {w : World} {B : Nat} {K : Nat → Prop} {v : Nat → Value} {n : Nat → Nat} {xs : Nat → List Value} (h : Four w B K v n xs) (o : Obj) : Four (w.alloc o) B K v n xs := ⟨fun x hx => (h.row x hx).alloc o, h.apart, h.off⟩
theorem Four.below {w w' : World} {B : Nat} {K : Nat → Prop} {v : Nat → Value} {n : Nat → Nat} {xs : Nat → List Value} (h : Four w B K v n xs) (hb : Below w.heap.size w w') : Four w' B K v n xs := ⟨fun x hx => own_below (h.row x hx) hb, h.apart, h.off⟩
theorem grown_set (W : World) (b j : Nat) (v : Value) : W.grownBy (W.setCell ⟨b, j, none⟩ v) (some b) :=
  ⟨rfl, rfl, rfl, (KeepsWalks.setCell W _ v).size, fun k _ hk => Below.heap_setCell _ _ _ k (fun e => hk (by rw [e]))⟩
/-- what is stored into a block of K. -/
theorem Four.other {w : World} {B : Nat} {K : Nat → Prop} {v : Nat → Value} {n : Nat → Nat} {xs : Nat → List Value} (h : Four w B K v n xs) {b : Nat} (hb : K b) (j : Nat) (u : Value) : Four (w.setCell ⟨b, j, none⟩ u) B K v n xs :=
  ⟨fun x hx => (h.row x hx).kept (grown_set w b j u) (.inr fun e => h.off x hx b e hb), h.apart, h.off⟩
/-- what is stored into one of the four. -/
theorem Four.store {w : World} {B : Nat} {K : Nat → Prop} {v : Nat → Value} {n : Nat → Nat} {xs : Nat → List Value} (h : Four w B K v n xs) {x g m cap : Nat} (hx : x < 4) (hv : v x = .slice (some ⟨g, 0, none⟩) m cap) (j : Nat) (u : Value) :
    Four (w.setCell ⟨g, j, none⟩ u) B K v n (UPD xs x ((xs x).set j u)) := by
  refine ⟨fun z hz => ?_, h.apart, h.off⟩
  by_cases e : z = x
  · subst e
    have hr := h.row z hz
    rw [hv] at hr ⊢
    have hm : m = n z := by
      rcases hr.2 with ⟨e, _⟩ | ⟨_, _, _, e, _⟩
      · simp at e
      · simp at e
        omega
    subst hm
    rw [UPD_at]
    exact (hr.stored j u).1
  · rw [UPD_other xs _ e]
    refine (h.row z hz).kept (grown_set w g j u) (.inr fun e2 => ?_)
    exact h.apart x z hx hz (fun e3 => e e3.symm) g (by rw [hv]; rfl) e2
/-- a list's form. -/
theorem own_slice {w : World} {B n : Nat} {v : Value} {xs : List Value} (h : w.ownsRow B 24 1 v n xs) : ∃ a cap, v = .slice a n cap ∧ (0 < n → ∃ g, a = some ⟨g, 0, none⟩ ∧ g < w.heap.size ∧ B ≤ g) := by
  rcases h.2 with ⟨rfl, h0⟩ | ⟨g, cap, cur, rfl, hb, hg, r⟩
  · subst h0
    exact ⟨none, 0, rfl, fun h => by omega⟩
  · exact ⟨_, cap, rfl, fun _ => ⟨g, rfl, (Array.getElem?_eq_some_iff.1 hg).1, hb⟩⟩
theorem app_more {ops : Array Oper} {rest : List Oper} {o : Oper} {a : Act} {Q : Exit → Act → World → Prop} (w : World) (hgd : o.guard = none) (s x : Operand)
    (ho : o.op = .call { callee := .builtin .append, args := #[s, x], argTypes := #[65, 65] })
    (base : Nat) (v : Value) (n : Nat) (xs : List Value) (hs : a.eval s = v) (hown : w.ownsRow base 24 1 v n xs)
    (b c : Nat) (y : Int) (hx : a.eval x = .slice (some ⟨b, 0, none⟩) 1 c) (hc : w.cell? ⟨b, 0, none⟩ = some (.int .u64 y))
    (hb : n ≤ 1000) (hbase : base ≤ w.heap.size)
    (h : ∀ g cap w', w'.ownsRow base 24 1 (.slice (some ⟨g, 0, none⟩) (n + 1) cap) (n + 1) (xs ++ [.int .u64 y]) → w.grownBy w' v.ownBlock → (v.ownBlock = some g ∨ g = w.heap.size) → g < w'.heap.size → wpList Tryz.prog ops Q rest (a.put o.dst (.slice (some ⟨g, 0, none⟩) (n + 1) cap)) w') : wpList Tryz.prog ops Q (o :: rest) a w := by
  obtain ⟨i, hi, hz, hs1, hby⟩ := info_parts info_u64
  refine wpList_append_lies w hgd s x 65 ho base 24 i (.int .u64 0) 1 8 Tryz.underlying65 hi hz hs1 hby rfl (by decide) v n xs hs hown ⟨b, 0, none⟩ 1 c [.int .u64 y] hx rfl ?_ (fun u hu => by simp at hu; subst hu; rfl) (by decide) (by simp only [maxLen]; omega) (by omega) hbase w.heap.size rfl h
  intro j u hj
  cases j with
  | zero =>
    simp only [List.getElem?_cons_zero, Option.some.injEq] at hj
    subst hj
    exact hc
  | succ j => simp at hj
theorem Has.grown {w w' : World} {g : Nat} {c : Array Value} {t : TypeId} {row : Option Nat} (h : Has w g c t) (hg : w.grownBy w' row) (hne : row ≠ some g) : Has w' g c t := by
  obtain ⟨_, _, _, _, hk⟩ := hg
  exact (hk g h.lt (fun e => hne e.symm)).trans h
/-- the four as they come: each in a world of its own. -/
theorem Four.of {w : World} {B b1 b2 b3 b4 : Nat} {K : Nat → Prop} {v0 v1 v2 v3 : Value} {n m : Nat} {xs ys : List Value} (h0 : w.ownsRow B 24 1 v0 n xs) (h1 : w.ownsRow b1 24 1 v1 n xs) (h2 : w.ownsRow b2 24 1 v2 m ys) (h3 : w.ownsRow b3 24 1 v3 m ys)
    (l0 : ∀ k, v0.ownBlock = some k → k < b1) (l1 : ∀ k, v1.ownBlock = some k → k < b2) (l2 : ∀ k, v2.ownBlock = some k → k < b3) (l3 : ∀ k, v3.ownBlock = some k → k < b4) (o1 : B ≤ b1) (o2 : b1 ≤ b2) (o3 : b2 ≤ b3) (o4 : b3 ≤ b4) (hK : ∀ k, K k → b4 ≤ k) :
    ∃ (V : Nat → Value) (N : Nat → Nat) (XS : Nat → List Value), Four w B K V N XS ∧ V 0 = v0 ∧ V 1 = v1 ∧ V 2 = v2 ∧ V 3 = v3 ∧ (∀ x, x < 4 → N x = n ∨ N x = m) := by
  have key : ∀ x, x < 4 → x = 0 ∨ x = 1 ∨ x = 2 ∨ x = 3 := fun x hx => by omega
  have bnd : ∀ x, x < 4 → ∀ k, ((if x = 0 then v0 else if x = 1 then v1 else if x = 2 then v2 else v3 : Value)).ownBlock = some k → (if x = 0 then B else if x = 1 then b1 else if x = 2 then b2 else b3) ≤ k ∧ k < (if x = 0 then b1 else if x = 1 then b2 else if x = 2 then b3 else b4) := fun x hx k hk => by
    rcases key x hx with rfl | rfl | rfl | rfl
    · exact ⟨(h0.lt k hk).1, l0 k hk⟩
    · exact ⟨(h1.lt k hk).1, l1 k hk⟩
    · exact ⟨(h2.lt k hk).1, l2 k hk⟩
    · exact ⟨(h3.lt k hk).1, l3 k hk⟩
  refine ⟨fun x => if x = 0 then v0 else if x = 1 then v1 else if x = 2 then v2 else v3, fun x => if x < 2 then n else m, fun x => if x < 2 then xs else ys, ⟨fun x hx => ?_, fun x y hx hy hne k hk hk2 => ?_, fun x hx k hk hkk => ?_⟩, rfl, rfl, rfl, rfl, fun x hx => ?_⟩
  · rcases key x hx with rfl | rfl | rfl | rfl
    · exact h0
    · exact own_mono h1 o1
    · exact own_mono h2 (Nat.le_trans o1 o2)
    · exact own_mono h3 (Nat.le_trans o1 (Nat.le_trans o2 o3))
  · have hx' := bnd x hx k hk
    have hy' := bnd y hy k hk2
    rcases key x hx with rfl | rfl | rfl | rfl <;> rcases key y hy with rfl | rfl | rfl | rfl <;> simp at hx' hy' hne <;> omega
  · have hx' := bnd x hx k hk
    have := hK k hkk
    rcases key x hx with rfl | rfl | rfl | rfl <;> simp at hx' <;> omega
  · rcases key x hx with rfl | rfl | rfl | rfl <;> simp
end Go.Proofs.YtkcfhgflgkejoaaGreatDoor

/- What the small functions of package cut answer. -/
namespace Go.Proofs.YtkcfhgflgkejoaaGreatDoor
open Go.RowKit

theorem low_nat (X : Nat) (hX : X < 2 ^ 64) : ∃ t : Nat, t ≤ 64 ∧ (X = 0 → t = 64) ∧ (∀ h, h ≤ 64 → (X % 2 ^ h = 0 ↔ h ≤ t)) ∧ ∀ w, Tabled w → Calls Tryz.prog 69 #[.int .u64 (X : Int)] w fun e w' => e = .returned (.int .i64 (t : Int)) ∧ w = w' := by
  by_cases h0 : X = 0
  · subst h0
    exact ⟨64, Nat.le_refl _, fun _ => rfl, fun h hh => by simp [hh], fun w _ => low_raw _ _ w (tz_zero w)⟩
  · obtain ⟨t, q, e⟩ := low_split X h0
    have ht := (neg_and hX e).2
    refine ⟨t, by omega, fun c => absurd c h0, ?_, fun w hT => low_raw _ _ w (tz_ok X t q hX e w hT)⟩
    intro h _
    constructor
    · intro hm
      rcases Nat.lt_or_ge t h with c | c
      · have h1 : 2 ^ (t + 1) ∣ 2 ^ h := Nat.pow_dvd_pow 2 c
        have h2 : X % 2 ^ (t + 1) = 0 := Nat.mod_eq_zero_of_dvd (Nat.dvd_trans h1 (Nat.dvd_of_mod_eq_zero hm))
        rw [e, Nat.mul_comm] at h2
        have := even_up.1 h2
        omega
      · exact c
    · intro hm
      have h1 : 2 ^ h ∣ 2 ^ t := Nat.pow_dvd_pow 2 hm
      exact Nat.mod_eq_zero_of_dvd (Nat.dvd_trans h1 ⟨_, e⟩)
theorem HT_min {a b t : Nat} (hab : a < b) (hb : b ≤ 4611686018427387904) (ht : t ≤ 64) (hd : ∀ h, h ≤ 64 → (a % 2 ^ h = 0 ↔ h ≤ t)) : min (t : Int) ((LEN (b - a) : Nat) - 1 : Int) = ((HT a b : Nat) : Int) := by
  obtain ⟨l1, l2, l3⟩ := LEN_span (b - a) (by omega) (by omega)
  have l4 : LEN (b - a) - 1 ≤ 62 := by
    rcases Nat.lt_or_ge 62 (LEN (b - a) - 1) with h | h
    · have : 2 ^ 63 ≤ 2 ^ (LEN (b - a) - 1) := Nat.pow_le_pow_right (by decide) h
      omega
    · exact h
  have : min t (LEN (b - a) - 1) = HT a b := by
    refine HT_only hab hb ⟨(hd _ (by omega)).2 (by omega), ?_⟩ ?_
    · have : 2 ^ min t (LEN (b - a) - 1) ≤ 2 ^ (LEN (b - a) - 1) := Nat.pow_le_pow_right (by decide) (by omega)
      omega
    · intro c
      rcases Nat.lt_or_ge t (LEN (b - a) - 1) with h | h
      · have := (hd _ (by omega)).1 c.1
        omega
      · have h1 := c.2
        have : 2 ^ LEN (b - a) ≤ 2 ^ (min t (LEN (b - a) - 1) + 1) := Nat.pow_le_pow_right (by decide) (by omega)
        omega
  rw [← this]
  omega
theorem end_raw (h k : Nat) (s r : Int) (w : World) (e1 : IntKind.u64.wrap ((k : Int) + 1) = s) (e : IntKind.u64.wrap (s * 2 ^ min h 64) = r) : Calls Tryz.prog 71 #[SPOT h k] w fun e w' => e = .returned (.int .u64 r) ∧ Below w.heap.size w w' := by
  subst e
  go_enter Tryz.func71, Tryz.ntmps71
  go_wp2
  go_ret
  exact ⟨rfl, (Below.refl _ _).alloc (Nat.le_refl _) _⟩
theorem end_ok (h k : Nat) (hN : Node h k) (w : World) : Calls Tryz.prog 71 #[SPOT h k] w fun e w' => e = .returned (.int .u64 (((k + 1) * 2 ^ h : Nat) : Int)) ∧ Below w.heap.size w w' := by
  have h1 := hN.span
  have h3 := hN.index_lt
  refine end_raw h k ((k + 1 : Nat) : Int) _ w (by rw [wrapU]; omega) ?_
  exact shift_eq (k + 1) h hN.1 (by omega)
end Go.Proofs.YtkcfhgflgkejoaaGreatDoor

/- A block that stays while a list of one's own grows. -/
namespace Go.Proofs.YtkcfhgflgkejoaaGreatDoor
open Go.RowKit

theorem Has.grew {w w' : World} {g : Nat} {c : Array Value} {t : TypeId} {row : Option Nat} (h : Has w g c t) (hg : w.grownBy w' row) (hne : row ≠ some g) : Has w' g c t := by
  obtain ⟨_, _, _, _, hk⟩ := hg
  exact (hk g h.lt (fun e => hne e.symm)).trans h
theorem kept_new {wr w1 : World} {c : Array Value} {t t' : TypeId} {base s n : Nat} {v : Value} {xs : List Value} {o : Obj} (hown : wr.ownsRow base t' s v n xs) (hgrow : ((wr.alloc (.cells c t)).alloc o).grownBy w1 v.ownBlock) : Has w1 wr.heap.size c t :=
  ((Has.new wr c t).alloc o).grew hgrow (fun e => by have := (hown.lt _ e).2; omega)
end Go.Proofs.YtkcfhgflgkejoaaGreatDoor
