/- The walk of PosForest. -/
import Derived.Test.YtfkgbafaeljieabDoorPosForestPlain
import Derived.Test.YtfkgbafaeljieabDoorPosAll
import Derived.Test.YtfkgbafaeljieabDoorPosAwake
import Derived.Deep.RegionHeld3
namespace Go.Proofs.YtfkgbafaeljieabDoor
open Go.RowKit
set_option maxRecDepth 100000

theorem posForest_far (n : Int) (w : World) (h : n < 0 ∨ 300 < n) : Calls Tryd.prog 3 #[.int .i64 n] w fun e w' => e = .returned (.bool true) ∧ Below w.heap.size w w' := by
  rcases Int.lt_or_le n 0 with h1 | h1
  · clear h
    go_enter Tryd.func3, Tryd.ntmps3
    go_wp2
    go_ret
    exact ⟨rfl, Below.refl _ _⟩
  · have h2 : 300 < n := by omega
    have h3 : ¬ n < 0 := by omega
    clear h
    go_enter Tryd.func3, Tryd.ntmps3
    go_wp2
    go_ret
    exact ⟨rfl, Below.refl _ _⟩
set_option maxHeartbeats 4000000 in
theorem posForest_near (n : Nat) (w : World) (hn : n ≤ 300) (ca : ∀ W, Below w.heap.size w W → Calls Tryd.prog 15 #[] W fun e w' => e = .returned (.bool true) ∧ Below W.heap.size W w') :
    Calls Tryd.prog 3 #[.int .i64 (n : Int)] w fun e w' => e = .returned (.bool true) ∧ Below w.heap.size w w' := by
  have CA : Aside (∀ W, Below w.heap.size w W → Calls Tryd.prog 15 #[] W fun e w' => e = .returned (.bool true) ∧ Below W.heap.size W w') := ca
  have HN : Aside (n ≤ 300) := hn
  obtain ⟨sp, hsp⟩ := tells
  have SP : Aside (Tells sp) := hsp
  have h1 : ¬ (n : Int) < 0 := by omega
  have h2 : ¬ (300 : Int) < (n : Int) := by omega
  have hmm := @run_makeMap Tryd.prog
  clear ca hn hsp
  go_enter Tryd.func3, Tryd.ntmps3
  go_wp2
  have S : Aside (Placed (w.alloc (.map #[] 0)) w.heap.size 0 ∧ Below w.heap.size w (w.alloc (.map #[] 0))) := ⟨Placed.made w, (Below.refl _ _).alloc (Nat.le_refl _) _⟩
  clear hmm
  generalize w.alloc (.map #[] 0) = w1 at *
  obtain ⟨mb, hmb⟩ : ∃ mb, w.heap.size = mb := ⟨_, rfl⟩
  have HM : Aside (w.heap.size = mb) := hmb
  simp only [hmb]
  clear hmb
  go_loopg [3, 5] n (fun q s3 s5 wx => ∃ i : Nat, s5 = .int .i64 (i : Int) ∧ Aside (i + q = n ∧ wx.ownsRow w.heap.size 26 2 s3 (NODES i) (SCELLS (SPL sp (NODES i))) ∧ Placed wx mb (NODES i) ∧ Below w.heap.size w wx))
  case atStart =>
    refine ⟨0, rfl, by omega, ?_, ?_, S.out.2⟩
    · rw [NODES_zero]
      exact ⟨rfl, .inl ⟨rfl, rfl⟩⟩
    · rw [NODES_zero, ← HM.out]
      exact S.out.1
  case round =>
    obtain ⟨i, rfl, A⟩ := hrel
    clear S
    cases gk with
    | zero =>
      obtain rfl : i = n := by have := A.out.1; omega
      obtain ⟨a, cap, hv, hs⟩ := spots_own (SPL_length sp (NODES i)) A.out.2.1
      have hM6 : NODES i ≤ 600 := by have := NODES_add i; have := HN.out; omega
      have S : Aside (Spots wr a (SPL sp (NODES i)) ∧ Placed wr mb (NODES i) ∧ Below w.heap.size w wr ∧ NODES i ≤ 600) := ⟨hs, A.out.2.2.1, A.out.2.2.2, hM6⟩
      clear A hs hM6 HN
      subst hv
      generalize hM : NODES i = M at *
      clear hM
      generalize hw20 : wr = w20 at *
      clear hw20
      go_wp2
      go_loopg [11] M (fun q s11 wx => ∃ p : Nat, s11 = .int .i64 (p : Int) ∧ Aside (p + q = M ∧ Below w20.heap.size w20 wx))
      case atStart => exact ⟨0, rfl, by omega, Below.refl _ _⟩
      case round =>
        obtain ⟨p, rfl, A⟩ := hrel
        cases gk with
        | zero =>
          obtain rfl : p = M := by have := A.out.1; omega
          have hlt : ¬ (p : Int) < (p : Int) := by omega
          have R : Aside (Below w.heap.size w wr) := S.out.2.2.1.trans (A.out.2.mono S.out.2.2.1.size)
          clear A S
          go_wp2_with fail
          refine (CA.out _ R.out).mono ?_
          rintro e w21 ⟨rfl, hb⟩
          have R2 : Aside (Below w.heap.size w w21) := R.out.trans (hb.mono R.out.size)
          clear hb R CA
          go_wp2
          go_ret
          exact ⟨rfl, R2.out⟩
        | succ q =>
          have hpM : p < M := by have := A.out.1; omega
          have hlt : (p : Int) < (M : Int) := by omega
          have hp0 : ¬ (p : Int) < 0 := by omega
          have hp6 : p < 600 := by have := S.out.2.2.2; omega
          have ep : wrap64 ((p : Int) + 1) = ((p + 1 : Nat) : Int) := by unfold wrap64; omega
          have eu : IntKind.u64.wrap (p : Int) = (p : Int) := by rw [wrapU]; omega
          have eM : IntKind.u64.wrap (M : Int) = (M : Int) := by have := S.out.2.2.2; rw [wrapU]; omega
          obtain ⟨g, rfl, hg, hc⟩ := S.out.1 (by rw [SPL_length]; omega)
          obtain ⟨h, k, hx, hN, hpl⟩ : ∃ h k, sp p = (h, k) ∧ Node h k ∧ PLC h k = p := ⟨(sp p).1, (sp p).2, rfl, SP.out p (by omega)⟩
          have hc2 := hc p h k (by rw [SPL_at sp hpM, hx])
          have u0 : wr.cell? ⟨g, p * 2, none⟩ = some (.int .u8 (h : Int)) := (A.out.2.cell (p := ⟨g, p * 2, none⟩) hg).trans hc2.1
          have u1 : wr.cell? ⟨g, p * 2 + 1, none⟩ = some (.int .u64 (k : Int)) := (A.out.2.cell (p := ⟨g, p * 2 + 1, none⟩) hg).trans hc2.2
          have B : Aside (p + 1 + q = M ∧ Below w20.heap.size w20 wr ∧ g < wr.heap.size) := ⟨by have := A.out.1; omega, A.out.2, Nat.lt_of_lt_of_le hg A.out.2.size⟩
          have c1 := fun w => spot_ok h k hN w
          have c2 := fun w => place_ok h k hN w
          have c3 := fun w => right_ok h k hN w
          have HNd : Aside (Node h k ∧ PLC h k = p ∧ p < 600) := ⟨hN, hpl, hp6⟩
          rw [hpl] at c1 c2 c3
          clear A hc hc2 hg hx hN hpl hpM hp6
          go_wp2_with fail
          refine (c1 _).mono ?_
          rintro e w21 ⟨rfl, hb⟩
          replace u0 := (hb.cell (p := ⟨g, p * 2, none⟩) B.out.2.2).trans u0
          replace u1 := (hb.cell (p := ⟨g, p * 2 + 1, none⟩) B.out.2.2).trans u1
          replace B : Aside (p + 1 + q = M ∧ Below w20.heap.size w20 w21 ∧ g < w21.heap.size) := ⟨B.out.1, B.out.2.1.trans (hb.mono B.out.2.1.size), Nat.lt_of_lt_of_le B.out.2.2 hb.size⟩
          clear c1 hb
          have hb : Below w21.heap.size w21 (w21.alloc (.cells #[.int .u8 (h : Int), .int .u64 (k : Int)] 26)) := (Below.refl _ _).alloc (Nat.le_refl _) _
          have hz : w21.heap.size < (w21.alloc (.cells #[.int .u8 (h : Int), .int .u64 (k : Int)] 26)).heap.size := by simp
          have y0 : (w21.alloc (.cells #[.int .u8 (h : Int), .int .u64 (k : Int)] 26)).cell? ⟨w21.heap.size, 0, none⟩ = some (.int .u8 (h : Int)) := by simp
          have y1 : (w21.alloc (.cells #[.int .u8 (h : Int), .int .u64 (k : Int)] 26)).cell? ⟨w21.heap.size, 1, none⟩ = some (.int .u64 (k : Int)) := by simp
          replace u0 := (hb.cell (p := ⟨g, p * 2, none⟩) B.out.2.2).trans u0
          replace u1 := (hb.cell (p := ⟨g, p * 2 + 1, none⟩) B.out.2.2).trans u1
          replace B : Aside (p + 1 + q = M ∧ Below w20.heap.size w20 (w21.alloc (.cells #[.int .u8 (h : Int), .int .u64 (k : Int)] 26)) ∧ g < (w21.alloc (.cells #[.int .u8 (h : Int), .int .u64 (k : Int)] 26)).heap.size ∧ w21.heap.size < (w21.alloc (.cells #[.int .u8 (h : Int), .int .u64 (k : Int)] 26)).heap.size) := ⟨B.out.1, B.out.2.1.trans (hb.mono B.out.2.1.size), Nat.lt_of_lt_of_le B.out.2.2 hb.size, hz⟩
          clear hb hz
          go_wp2_with fail
          generalize w21.alloc (.cells #[.int .u8 (h : Int), .int .u64 (k : Int)] 26) = w22 at *
          generalize w21.heap.size = b at *
          refine (c2 _).mono ?_
          rintro e w23 ⟨rfl, hb⟩
          replace u0 := (hb.cell (p := ⟨g, p * 2, none⟩) B.out.2.2.1).trans u0
          replace u1 := (hb.cell (p := ⟨g, p * 2 + 1, none⟩) B.out.2.2.1).trans u1
          replace y0 := (hb.cell (p := ⟨b, 0, none⟩) B.out.2.2.2).trans y0
          replace y1 := (hb.cell (p := ⟨b, 1, none⟩) B.out.2.2.2).trans y1
          replace B : Aside (p + 1 + q = M ∧ Below w20.heap.size w20 w23 ∧ g < w23.heap.size ∧ b < w23.heap.size) := ⟨B.out.1, B.out.2.1.trans (hb.mono B.out.2.1.size), Nat.lt_of_lt_of_le B.out.2.2.1 hb.size, Nat.lt_of_lt_of_le B.out.2.2.2 hb.size⟩
          clear c2 hb
          obtain ⟨rb, hrb⟩ : ∃ rb, decide (k % 2 = 1) = rb := ⟨_, rfl⟩
          have hrk : ((k : Int) % 2 == 1) = rb := by
            rw [← hrb, Bool.eq_iff_iff]
            simp
            omega
          have hrt : ((k : Int).tmod 2 == 1) = rb := by rw [Int.tmod_eq_emod_of_nonneg (by omega)]; exact hrk
          rw [hrb] at c3
          clear hrb
          go_wp2
          go_region_held3 (fun W : World => W.cell? ⟨b, 0, none⟩ = some (.int .u8 (h : Int)) ∧ W.cell? ⟨b, 1, none⟩ = some (.int .u64 (k : Int)) ∧ W.cell? ⟨g, p * 2, none⟩ = some (.int .u8 (h : Int)) ∧ W.cell? ⟨g, p * 2 + 1, none⟩ = some (.int .u64 (k : Int))) (go_keep) ((go_at_call 11; refine (c3 _).mono ?_; rintro e w24 ⟨rfl, hb⟩; have q1 := (hb.cell (p := ⟨b, 0, none⟩) B.out.2.2.2).trans y0; have q2 := (hb.cell (p := ⟨b, 1, none⟩) B.out.2.2.2).trans y1; have q3 := (hb.cell (p := ⟨g, p * 2, none⟩) B.out.2.2.1).trans u0; have q4 := (hb.cell (p := ⟨g, p * 2 + 1, none⟩) B.out.2.2.1).trans u1))
          have hBw : Below w20.heap.size w20 w24 := B.out.2.1.drew.trans (hb.mono B.out.2.1.size)
          replace B : Aside (p + 1 + q = M ∧ Below w20.heap.size w20 w24 ∧ b < w24.heap.size) := ⟨B.out.1, hBw, Nat.lt_of_lt_of_le B.out.2.2.2 hb.size⟩
          clear hb hBw q3 q4 u0 u1 y0 y1 c3
          obtain ⟨hN, hpl, hp6⟩ := HNd.out
          have hh8 : h < 62 := by
            rcases Nat.lt_or_ge h 62 with h1 | h1
            · exact h1
            · have e1 := PLC_eq h k
              have e2 : 2 ^ 63 ≤ 2 ^ (h + 1) := Nat.pow_le_pow_right (by decide) (by omega)
              have e3 := PC_le k
              have e4 : 2 ^ (h + 1) * (k + 1) = 2 ^ (h + 1) * k + 2 ^ (h + 1) := by rw [Nat.mul_add, Nat.mul_one]
              have e5 : 1 * k ≤ 2 ^ (h + 1) * k := Nat.mul_le_mul_right _ (Nat.two_pow_pos _)
              omega
          have hk62 := hN.index_lt
          have c6 := fun w => parent_ok h k hN hh8 w
          have hNu := hN.up hh8
          obtain ⟨h1, hh1⟩ : ∃ h1, h + 1 = h1 := ⟨_, rfl⟩
          obtain ⟨kh, hkh⟩ : ∃ kh, k / 2 = kh := ⟨_, rfl⟩
          obtain ⟨u, hu⟩ : ∃ u, PLC (h + 1) (k / 2) = u := ⟨_, rfl⟩
          have a1 : ((h : Int) + 1) % 256 = (h1 : Int) := by omega
          have a2 : (k : Int) / 2 = (kh : Int) := by omega
          have a3 : IntKind.u64.wrap (kh : Int) = (kh : Int) := by rw [wrapU]; omega
          rw [hu, hpl] at c6
          rw [hh1, hkh] at hNu hu
          have HU : Aside (Node h1 kh ∧ PLC h1 kh = u) := ⟨hNu, hu⟩
          clear hh1 hkh hNu hu
          rcases Nat.eq_zero_or_pos h with h0 | h0
          · subst h0
            have c4 := fun w => index_leaf ((PLC 0 k : Nat) : Int) k w (.node hN)
            have c5 := fun w => kids_leaf ((PLC 0 k : Nat) : Int) k w (.node hN)
            rw [hpl] at c4 c5
            clear hN hpl hp6 hh8 hk62 HNd
            go_wp2_with fail
            refine (c4 _).mono ?_
            rintro e w25 ⟨rfl, hb⟩
            replace q1 := (hb.cell (p := ⟨b, 0, none⟩) B.out.2.2).trans q1
            replace q2 := (hb.cell (p := ⟨b, 1, none⟩) B.out.2.2).trans q2
            replace B : Aside (p + 1 + q = M ∧ Below w20.heap.size w20 w25 ∧ b < w25.heap.size) := ⟨B.out.1, B.out.2.1.trans (hb.mono B.out.2.1.size), Nat.lt_of_lt_of_le B.out.2.2 hb.size⟩
            clear c4 hb
            go_wp2_with fail
            refine (c5 _).mono ?_
            rintro e w26 ⟨rfl, hb⟩
            replace q1 := (hb.cell (p := ⟨b, 0, none⟩) B.out.2.2).trans q1
            replace q2 := (hb.cell (p := ⟨b, 1, none⟩) B.out.2.2).trans q2
            replace B : Aside (p + 1 + q = M ∧ Below w20.heap.size w20 w26 ∧ b < w26.heap.size) := ⟨B.out.1, B.out.2.1.trans (hb.mono B.out.2.1.size), Nat.lt_of_lt_of_le B.out.2.2 hb.size⟩
            clear c5 hb
            obtain ⟨c, hlk, hcv⟩ := (S.out.2.1.below B.out.2.1).look_ok HU.out.1
            rw [HU.out.2] at hlk hcv
            obtain rfl : h1 = 1 := by omega
            replace hlk : (Instr.lookup 23 (.map (some mb)) (.agg #[.int .u8 1, .int .u64 (kh : Int)]) true).run Tryd.prog w26 = .ok (.tuple #[.int .u64 c, .bool (decide (u < M))]) w26 := hlk
            clear HU a1
            go_wp2_with fail
            refine (c6 _).mono ?_
            rintro e w27 ⟨rfl, hb⟩
            replace B : Aside (p + 1 + q = M ∧ Below w20.heap.size w20 w27) := ⟨B.out.1, B.out.2.1.trans (hb.mono B.out.2.1.size)⟩
            clear c6 hb q1 q2 hlk
            by_cases hum : u < M
            · have hd : decide (u < M) = true := decide_eq_true hum
              have hcu := hcv hum
              clear hum hcv
              go_wp2
              go_roundg q
              case measure => omega
              case rel => exact ⟨p + 1, by first | rfl | (rw [ep]), B.out⟩
            · have hd : decide (u < M) = false := decide_eq_false hum
              have hum' : ¬ (u : Int) < (M : Int) := by omega
              clear hum hcv
              go_wp2
              go_roundg q
              case measure => omega
              case rel => exact ⟨p + 1, by first | rfl | (rw [ep]), B.out⟩
          · obtain ⟨g0, rfl⟩ : ∃ g0, h = g0 + 1 := ⟨h - 1, by omega⟩
            have c4 := fun w => index_inner ((PLC (g0 + 1) k : Nat) : Int) (g0 + 1) k w (by omega) (.node hN)
            have c5 := fun w => kids_ok g0 k hN w
            obtain ⟨hNl, hNr⟩ := hN.kid
            obtain ⟨k2, hk2⟩ : ∃ k2, 2 * k = k2 := ⟨_, rfl⟩
            obtain ⟨k3, hk3⟩ : ∃ k3, k2 + 1 = k3 := ⟨_, rfl⟩
            have hk362 := hNr.index_lt
            have hup := PLC_up_right g0 k
            have hsb := PLC_sib g0 k
            have htw := two_le g0
            rw [hk2, hk3] at hNr c5 hup hsb hk362
            rw [hk2] at hNl
            have b2 : IntKind.u64.wrap (2 * (k : Int)) = (k2 : Int) := by rw [wrapU]; omega
            have b3 : IntKind.u64.wrap ((k2 : Int) + 1) = (k3 : Int) := by rw [wrapU]; omega
            rw [hpl] at c4 c5
            have a1' : ((g0 : Int) + 1 + 1) % 256 = (h1 : Int) := by omega
            obtain ⟨H, hH⟩ : ∃ H, g0 + 1 = H := ⟨_, rfl⟩
            have b1 : ((H : Int) - 1) % 256 = (g0 : Int) := by omega
            have b4 : ((H : Int) == 0) = false := by simp; omega
            have b5 : ((H : Int) != 0) = true := by simp; omega
            obtain ⟨l, hl⟩ : ∃ l, PLC g0 k2 = l := ⟨_, rfl⟩
            obtain ⟨r, hr⟩ : ∃ r, PLC g0 k3 = r := ⟨_, rfl⟩
            rw [hl, hr] at c5
            have HV : Aside (Node g0 k2 ∧ PLC g0 k2 = l ∧ Node g0 k3 ∧ PLC g0 k3 = r ∧ l < M ∧ r < M) := by
              have := B.out.1
              unfold TREE at hsb
              exact ⟨hNl, hl, hNr, hr, by omega, by omega⟩
            rw [hH] at *
            clear hNl hNr hl hr hup hsb htw hk362 hk2 hk3 hH hN hpl hp6 hh8 hk62 HNd h0
            go_wp2_with fail
            refine (c4 _).mono ?_
            rintro e w25 ⟨rfl, hb⟩
            replace q1 := (hb.cell (p := ⟨b, 0, none⟩) B.out.2.2).trans q1
            replace q2 := (hb.cell (p := ⟨b, 1, none⟩) B.out.2.2).trans q2
            replace B : Aside (p + 1 + q = M ∧ Below w20.heap.size w20 w25 ∧ b < w25.heap.size) := ⟨B.out.1, B.out.2.1.trans (hb.mono B.out.2.1.size), Nat.lt_of_lt_of_le B.out.2.2 hb.size⟩
            clear c4 hb
            go_wp2_with fail
            refine (c5 _).mono ?_
            rintro e w26 ⟨rfl, hb⟩
            replace q1 := (hb.cell (p := ⟨b, 0, none⟩) B.out.2.2).trans q1
            replace q2 := (hb.cell (p := ⟨b, 1, none⟩) B.out.2.2).trans q2
            replace B : Aside (p + 1 + q = M ∧ Below w20.heap.size w20 w26 ∧ b < w26.heap.size) := ⟨B.out.1, B.out.2.1.trans (hb.mono B.out.2.1.size), Nat.lt_of_lt_of_le B.out.2.2 hb.size⟩
            clear c5 hb
            obtain ⟨c, hlk, hcv⟩ := (S.out.2.1.below B.out.2.1).look_ok HU.out.1
            rw [HU.out.2] at hlk hcv
            have hk1 := (S.out.2.1.below B.out.2.1).look HV.out.1 (by rw [HV.out.2.1]; exact HV.out.2.2.2.2.1)
            have hk2 := (S.out.2.1.below B.out.2.1).look HV.out.2.2.1 (by rw [HV.out.2.2.2.1]; exact HV.out.2.2.2.2.2)
            rw [HV.out.2.1] at hk1
            rw [HV.out.2.2.2.1] at hk2
            clear HU HV
            go_wp2_with fail
            refine (c6 _).mono ?_
            rintro e w27 ⟨rfl, hb⟩
            replace B : Aside (p + 1 + q = M ∧ Below w20.heap.size w20 w27) := ⟨B.out.1, B.out.2.1.trans (hb.mono B.out.2.1.size)⟩
            clear c6 hb q1 q2 hlk hk1 hk2
            by_cases hum : u < M
            · have hd : decide (u < M) = true := decide_eq_true hum
              have hcu := hcv hum
              clear hum hcv
              go_wp2
              go_roundg q
              case measure => omega
              case rel => exact ⟨p + 1, by first | rfl | (rw [ep]), B.out⟩
            · have hd : decide (u < M) = false := decide_eq_false hum
              have hum' : ¬ (u : Int) < (M : Int) := by omega
              clear hum hcv
              go_wp2
              go_roundg q
              case measure => omega
              case rel => exact ⟨p + 1, by first | rfl | (rw [ep]), B.out⟩
    | succ q =>
      have hin : i < n := by have := A.out.1; omega
      have hlt : (i : Int) < (n : Int) := by omega
      have hi3 : i < 300 := by have := HN.out; omega
      have e0 : IntKind.u64.wrap (i : Int) = (i : Int) := by rw [wrapU]; omega
      have e1 : wrap64 ((i : Int) + 1) = ((i + 1 : Nat) : Int) := by unfold wrap64; omega
      generalize hwo : wr = wo at *
      clear hwo
      go_wp2
      have S : Aside (FI w sp mb wo.heap.size u3 (PLC 0 i) 0 i (wo.alloc (.cells #[.int .u8 0, .int .u64 (i : Int)] 26))) := by
        obtain ⟨_, a2, a3, a4⟩ := A.out
        rw [PLC_leaf]
        exact ⟨a2.alloc _, fun g hg => by have := (a2.lt g hg).2; omega, a3.alloc _, Has.new _ _ _, a4.alloc a4.size _, by rw [HM.out]; omega, a4.size⟩
      generalize wo.alloc (.cells #[.int .u8 0, .int .u64 (i : Int)] 26) = w2 at *
      generalize wo.heap.size = sb at *
      have HQ : Aside (i + 1 + q = n ∧ i < 300) := ⟨by have := A.out.1; omega, hi3⟩
      clear A hin hi3
      go_loopg [3] i (fun k s3 wx => ∃ j : Nat, Aside (Next i j k ∧ FI w sp mb sb s3 (PLC j k) j k wx))
      case atStart => exact ⟨0, Next.start i, S.out⟩
      case round =>
        obtain ⟨j, A⟩ := hrel
        clear S
        obtain ⟨hj8, hNd, hm1000, hki⟩ := A.out.1.small HQ.out.2
        obtain ⟨a, cap, hv, -⟩ := spots_own (SPL_length sp (PLC j gk)) A.out.2.row
        have y0 : wr.cell? ⟨sb, 0, none⟩ = some (.int .u8 (j : Int)) := A.out.2.has.cell 0
        have y1 : wr.cell? ⟨sb, 1, none⟩ = some (.int .u64 (gk : Int)) := A.out.2.has.cell 1
        have hspm : sp (PLC j gk) = (j, gk) := SP.out.at hNd
        obtain ⟨w3, hst, hP3, hg3⟩ := A.out.2.map.store (by omega) hNd rfl
        obtain ⟨m, hm⟩ : ∃ m, PLC j gk = m := ⟨_, rfl⟩
        have e3 : IntKind.u64.wrap (m : Int) = (m : Int) := by rw [wrapU]; omega
        rw [hm] at hst
        have hne : mb ≠ sb := A.out.2.map.not_has A.out.2.has
        have hH3 : Has w3 sb #[.int .u8 (j : Int), .int .u64 (gk : Int)] 26 := by
          obtain ⟨_, _, _, _, hk⟩ := hg3
          exact (hk sb A.out.2.has.lt (by simp; exact fun e => hne e.symm)).trans A.out.2.has
        have z0 : w3.cell? ⟨sb, 0, none⟩ = some (.int .u8 (j : Int)) := hH3.cell 0
        have z1 : w3.cell? ⟨sb, 1, none⟩ = some (.int .u64 (gk : Int)) := hH3.cell 1
        have hF := A.out.2
        have hrow3 : w3.ownsRow w.heap.size 26 2 u3 m (SCELLS (SPL sp m)) := by
          rw [← hm]
          refine hF.row.kept hg3 ?_
          cases hb : u3.ownBlock with
          | none => exact .inl rfl
          | some g => exact .inr (fun e => hF.map.not_row hF.row hb (by simpa using e.symm))
        have hbel3 : Below w.heap.size w w3 := hF.bel.grown hg3 hF.bel.size (fun k e => by cases e; exact hF.om)
        rw [hm] at hv hP3 hspm hm1000
        subst hv
        have hnx := A.out.1
        have R : Aside (w3.ownsRow w.heap.size 26 2 (.slice a m cap) m (SCELLS (SPL sp m)) ∧ (∀ g, (Value.slice a m cap).ownBlock = some g → g ≠ sb) ∧ Placed w3 mb (m + 1) ∧ Has w3 sb #[.int .u8 (j : Int), .int .u64 (gk : Int)] 26 ∧ Below w.heap.size w w3 ∧ m < 1000 ∧ sp m = (j, gk) ∧ Next i j gk ∧ PLC j gk = m ∧ w.heap.size ≤ mb ∧ w.heap.size ≤ sb) := ⟨hrow3, hF.off, hP3, hH3, hbel3, hm1000, hspm, hnx, hm, hF.om, hF.os⟩
        clear A hF hrow3 hbel3 hP3 hg3 hH3 hspm hnx hm hne hNd hki hm1000
        have e4 : IntKind.u64.wrap ((m : Int) + 1) = (m : Int) + 1 := by have := R.out.2.2.2.2.2.1; rw [wrapU]; omega
        have e5 : IntKind.u64.wrap ((i + 1 : Nat) : Int) = ((i + 1 : Nat) : Int) := by have := HQ.out.2; rw [wrapU]; omega
        have e6 : ((j : Int) + 1) % 256 = ((j + 1 : Nat) : Int) := by omega
        obtain ⟨k2, hk2⟩ : ∃ k2, gk / 2 = k2 := ⟨_, rfl⟩
        have e7 : (gk : Int) / 2 = (k2 : Int) := by omega
        have e8 : IntKind.u64.wrap (k2 : Int) = (k2 : Int) := by
          have := (R.out.2.2.2.2.2.2.2.1.small HQ.out.2).2.2.2
          have := HQ.out.2
          rw [wrapU]
          omega
        have HK2 : Aside (gk / 2 = k2) := hk2
        clear hk2
        cases hpar : ((gk : Int) % 2 == 0) with
        | true =>
          have hk0 : gk % 2 = 0 := by
            have : (gk : Int) % 2 = 0 := by simpa using hpar
            omega
          have hcn : NODES (i + 1) = m + 1 := by rw [R.out.2.2.2.2.2.2.2.1.count hk0, R.out.2.2.2.2.2.2.2.2.1]
          have c1 := fun w => nodes_ok (i + 1) (by have := HQ.out.2; omega) w
          have c2 := fun w => leaves_yes (i + 1) (by have := HQ.out.2; omega) w
          rw [hcn] at c1 c2
          rw [show ((i + 1 : Nat) : Int) = (i : Int) + 1 from rfl, show ((m + 1 : Nat) : Int) = (m : Int) + 1 from rfl] at c1 c2
          have HC : Aside (NODES (i + 1) = m + 1) := hcn
          clear hk0 hcn
          go_wp2_with (at_builtin; refine app_spot_more _ rfl (.tmp 45) (.tmp 47) rfl w.heap.size (.slice a m cap) m (SPL sp m) rfl (R.out.1.alloc _) w3.heap.size 1 j gk rfl (by rw [World.cell?_alloc_at _ _ _ _ rfl]; rfl) (by rw [World.cell?_alloc_at _ _ _ _ rfl]; rfl) (by have := R.out.2.2.2.2.2.1; omega) (by have := R.out.2.2.2.2.1.size; simp; omega) ?_; intro g' cap' w6 hown hgrow hg; have T : Aside (Has w6 sb #[.int .u8 (j : Int), .int .u64 (gk : Int)] 26) := (R.out.2.2.2.1.alloc _).grown hgrow (fun e => R.out.2.1 sb e rfl); have x0 : w6.cell? ⟨sb, 0, none⟩ = some (.int .u8 (j : Int)) := T.out.cell 0; have x1 : w6.cell? ⟨sb, 1, none⟩ = some (.int .u64 (gk : Int)) := T.out.cell 1)
          obtain ⟨r1, r2, r3, r4, r5, r6, r7, r8, r9, r10, r11⟩ := R.out
          have T2 : Aside (w6.ownsRow w.heap.size 26 2 (.slice (some ⟨g', 0, none⟩) (m + 1) cap') (NODES (i + 1)) (SCELLS (SPL sp (NODES (i + 1)))) ∧ Placed w6 mb (NODES (i + 1)) ∧ Below w.heap.size w w6) := by
            rw [HC.out, SPL_succ, r7]
            refine ⟨hown, (r3.alloc _).kept hgrow ?_, (r5.alloc r5.size _).grown hgrow (by have := r5.size; simp; omega) (fun k e => (r1.lt k e).1)⟩
            intro e
            exact r3.not_row r1 e.symm rfl
          clear r1 r2 r3 r4 r5 r6 r7 r8 r9 r10 r11 R hown hgrow hg T x0 x1
          refine (c1 _).mono ?_
          rintro e w7 ⟨rfl, rfl⟩
          clear c1
          go_wp2_with fail
          refine (c2 _).mono ?_
          rintro e w7 ⟨rfl, hb⟩
          have T3 : Aside (w7.ownsRow w.heap.size 26 2 (.slice (some ⟨g', 0, none⟩) (m + 1) cap') (NODES (i + 1)) (SCELLS (SPL sp (NODES (i + 1)))) ∧ Placed w7 mb (NODES (i + 1)) ∧ Below w.heap.size w w7) := ⟨own_below T2.out.1 hb, T2.out.2.1.below hb, T2.out.2.2.trans (hb.mono T2.out.2.2.size)⟩
          clear c2 hb T2
          go_wp2
          go_roundg q
          case measure => omega
          case rel => exact ⟨i + 1, by first | rfl | (rw [e1]), HQ.out.1, T3.out⟩
        | false =>
          have hk1 : gk % 2 = 1 := by
            have : ¬ (gk : Int) % 2 = 0 := by simpa using hpar
            omega
          go_wp2_with (at_builtin; refine app_spot_more _ rfl (.tmp 45) (.tmp 47) rfl w.heap.size (.slice a m cap) m (SPL sp m) rfl (R.out.1.alloc _) w3.heap.size 1 j gk rfl (by rw [World.cell?_alloc_at _ _ _ _ rfl]; rfl) (by rw [World.cell?_alloc_at _ _ _ _ rfl]; rfl) (by have := R.out.2.2.2.2.2.1; omega) (by have := R.out.2.2.2.2.1.size; simp; omega) ?_; intro g' cap' w6 hown hgrow hg; have T : Aside (Has w6 sb #[.int .u8 (j : Int), .int .u64 (gk : Int)] 26) := (R.out.2.2.2.1.alloc _).grown hgrow (fun e => R.out.2.1 sb e rfl); have x0 : w6.cell? ⟨sb, 0, none⟩ = some (.int .u8 (j : Int)) := T.out.cell 0; have x1 : w6.cell? ⟨sb, 1, none⟩ = some (.int .u64 (gk : Int)) := T.out.cell 1; have f0 : w6.frozen? ⟨sb, 0, none⟩ = false := T.out.frozen 0; have f1 : w6.frozen? ⟨sb, 1, none⟩ = false := T.out.frozen 1)
          obtain ⟨r1, r2, r3, r4, r5, r6, r7, r8, r9, r10, r11⟩ := R.out
          have hup := PLC_up_right j (gk / 2)
          rw [show 2 * (gk / 2) + 1 = gk by omega, r9, HK2.out] at hup
          have T2 : Aside (Next i (j + 1) k2 ∧ w6.ownsRow w.heap.size 26 2 (.slice (some ⟨g', 0, none⟩) (m + 1) cap') (PLC (j + 1) k2) (SCELLS (SPL sp (PLC (j + 1) k2))) ∧ Placed w6 mb (PLC (j + 1) k2) ∧ Below w.heap.size w w6 ∧ g' ≠ sb ∧ mb ≠ sb ∧ w.heap.size ≤ mb ∧ w.heap.size ≤ sb ∧ k2 < gk) := by
            rw [hup, SPL_succ, r7]
            refine ⟨by have := r8.up hk1; rw [HK2.out] at this; exact this, hown, (r3.alloc _).kept hgrow (fun e => r3.not_row r1 e.symm rfl), (r5.alloc r5.size _).grown hgrow (by have := r5.size; simp; omega) (fun k e => (r1.lt k e).1), ?_, r3.not_has r4, r10, r11, by have := HK2.out; omega⟩
            rcases hg with h | h
            · exact r2 g' h
            · have := r4.lt
              simp at h
              omega
          clear r1 r2 r3 r4 r5 r6 r7 r8 r9 r10 r11 R hown hgrow hg x0 x1 f0 f1 hup hk1 HK2
          go_roundg k2
          case measure => have := T2.out.2.2.2.2.2.2.2.2; omega
          case rel =>
            obtain ⟨t1, t2, t3, t4, t5, t6, t7, t8, _⟩ := T2.out
            refine ⟨j + 1, t1, ?_, ?_, ?_, ?_, ?_, t7, t8⟩
            · exact (t2.kept (grown_set _ sb 0 _) (.inr (by simp [Value.ownBlock]; exact t5))).kept (grown_set _ sb 1 _) (.inr (by simp [Value.ownBlock]; exact t5))
            · intro g hg
              have : g' = g := by simpa [Value.ownBlock] using hg
              omega
            · exact (t3.setCell (a := ⟨sb, 0, none⟩) t6 _).setCell (a := ⟨sb, 1, none⟩) t6 _
            · exact (T.out.set 0 _).set 1 _
            · exact (t4.setCell (p := ⟨sb, 0, none⟩) t8 _).setCell (p := ⟨sb, 1, none⟩) t8 _
theorem posForest_walk (a0 : Int) (_w0 : (Lit.int .i64 a0).wf = true) (w : World) (hT : Tabled w) (h0 : 0 < w.heap.size) :
    Calls Tryd.prog 3 #[.int .i64 a0] w fun e w' => e = .returned (.bool true) ∧ Below w.heap.size w w' := by
  by_cases h : a0 < 0 ∨ 300 < a0
  · exact posForest_far a0 w h
  · obtain ⟨n, rfl⟩ : ∃ X : Nat, a0 = (X : Int) := ⟨a0.toNat, by omega⟩
    exact posForest_near n w (by omega) (fun W hW => awake_ok W (hT.below h0 hW) (Nat.lt_of_lt_of_le h0 hW.size))
end Go.Proofs.YtfkgbafaeljieabDoor
