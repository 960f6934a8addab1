/- The walk of NumCounts. -/
import Derived.Test.YtlklnljgmkagoabDoorNumListPlain
import Derived.Deep.QuietTactic
import Derived.BigQuiet
import Derived.Deep.RegionHeld3
namespace Go.Proofs.YtlklnljgmkagoabDoor
open Go.RowKit

theorem SHL_one {v : Nat} (hv : v ≤ 63) : SHL 1 (v : Int) = 2 ^ v := by
  have h : 2 ^ v < 2 ^ 64 := Nat.pow_lt_pow_right (by decide) (by omega)
  unfold SHL
  rw [if_neg (by omega), Int.toNat_natCast, Nat.one_mul, Nat.mod_eq_of_lt h]
set_option maxRecDepth 100000 in
set_option maxHeartbeats 1000000 in
theorem numCounts_core (X : Nat) (P : Nat) (w : World) (L H : Int) (HX : Aside (X < 2 ^ 64)) (HP : Aside (POP X = P)) (HL : Aside (X = 0 → L = 64 ∧ H = -1)) (HL2 : Aside (X ≠ 0 → L = (PLACE X 0 : Nat) ∧ H = (PLACE X (P - 1) : Nat)))
    (cB : Calls Tryd.prog 4 #[.int .u64 (X : Int)] w fun e w' => ∃ g cap, e = .returned (.slice (some ⟨g, 0, none⟩) P cap) ∧ (∀ i, i < P → w'.cell? ⟨g, i, none⟩ = some (.int .i64 (PLACE X i : Nat))) ∧ g < w'.heap.size ∧ Below w.heap.size w w')
    (cO : ∀ w, Calls Tryd.prog 6 #[.int .u64 (X : Int)] w fun e w' => e = .returned (.int .i64 (P : Int)) ∧ w = w')
    (cS : ∀ k, k < P → ∀ w, Calls Tryd.prog 5 #[.int .u64 1, .int .i64 ((PLACE X k : Nat) : Int)] w fun e w' => e = .returned (.int .u64 ((2 ^ PLACE X k : Nat) : Int)) ∧ w = w')
    (cL : ∀ W, Below w.heap.size w W → Calls Tryd.prog 7 #[.int .u64 (X : Int)] W fun e w' => e = .returned (.int .i64 L) ∧ W = w')
    (cH : ∀ w, Calls Tryd.prog 8 #[.int .u64 (X : Int)] w fun e w' => e = .returned (.int .i64 H) ∧ w = w') :
    Calls Tryd.prog 3 #[.int .u64 (X : Int)] w fun e w' => e = .returned (.bool true) ∧ Below w.heap.size w w' := by
  have CL : Aside (∀ W, Below w.heap.size w W → Calls Tryd.prog 7 #[.int .u64 (X : Int)] W fun e w' => e = .returned (.int .i64 L) ∧ W = w') := cL
  have CS : Aside (∀ k, k < P → ∀ w, Calls Tryd.prog 5 #[.int .u64 1, .int .i64 ((PLACE X k : Nat) : Int)] w fun e w' => e = .returned (.int .u64 ((2 ^ PLACE X k : Nat) : Int)) ∧ w = w') := cS
  have CO : Aside (∀ w, Calls Tryd.prog 6 #[.int .u64 (X : Int)] w fun e w' => e = .returned (.int .i64 (P : Int)) ∧ w = w') := cO
  have CH : Aside (∀ w, Calls Tryd.prog 8 #[.int .u64 (X : Int)] w fun e w' => e = .returned (.int .i64 H) ∧ w = w') := cH
  clear cL cS cO cH
  go_enter Tryd.func3, Tryd.ntmps3
  go_wp2_with fail
  refine cB.mono ?_
  rintro e w1 ⟨g, cap, rfl, hc, hg, hb⟩
  have HC : Aside ((∀ i, i < P → w1.cell? ⟨g, i, none⟩ = some (.int .i64 (PLACE X i : Nat))) ∧ g < w1.heap.size ∧ Below w.heap.size w w1) := ⟨hc, hg, hb⟩
  clear cB hc hg hb
  have hP : P ≤ 64 := by rw [← HP.out]; exact POP_le X
  go_wp2
  go_loopg [4, 5] P (fun n s4 s5 wx => ∃ k : Nat, k + n = P ∧ s4 = .int .u64 (PART X k : Nat) ∧ s5 = .int .i64 k ∧ Aside (Below w1.heap.size w1 wx))
  case atStart => exact ⟨0, by omega, rfl, rfl, Below.refl _ _⟩
  case round =>
    obtain ⟨k, hkn, rfl, rfl, A⟩ := hrel
    cases gk with
    | zero =>
      obtain rfl : k = P := by omega
      rw [show PART X k = X by rw [← HP.out]; exact PART_all HX.out]
      have AW : Aside (Below w.heap.size w wr) := HC.out.2.2.trans (A.out.mono HC.out.2.2.size)
      go_wp2_with fail
      refine (CO.out _).mono ?_
      rintro e w' ⟨rfl, rfl⟩
      cases hx : ((X : Int) == 0) with
      | true =>
        obtain ⟨rfl, rfl⟩ := HL.out (by simpa using hx)
        clear HL HL2 A HC HX HP
        go_wp2_with fail
        refine (CL.out _ AW.out).mono ?_
        rintro e w' ⟨rfl, rfl⟩
        go_wp2_with fail
        refine (CH.out _).mono ?_
        rintro e w' ⟨rfl, rfl⟩
        go_wp2_with fail
        refine (awake_ok _).mono ?_
        rintro e w' ⟨rfl, hg, hb⟩
        have HB : Aside (Below w.heap.size w w') := AW.out.trans (hb.mono AW.out.size)
        clear hg hb
        go_wp2
        go_ret
        exact ⟨rfl, HB.out⟩
      | false =>
        obtain ⟨rfl, rfl⟩ := HL2.out (by simpa using hx)
        have hk : 0 < k := by rw [← HP.out]; exact POP_pos HX.out (by simpa using hx)
        obtain ⟨j, hj⟩ : ∃ j, j = k - 1 := ⟨k - 1, rfl⟩
        have hj1 : (k : Int) - 1 = (j : Int) := by omega
        have hjP : (j : Int) < (k : Int) := by omega
        have hj0 : (0 : Int) ≤ (j : Int) := by omega
        have hk0 : (0 : Int) < (k : Int) := by omega
        have h1 : wr.cell? ⟨g, 0, none⟩ = some (.int .i64 (PLACE X 0 : Nat)) := (A.out.cell (by exact HC.out.2.1)).trans (HC.out.1 0 (by omega))
        have h2 : wr.cell? ⟨g, j, none⟩ = some (.int .i64 (PLACE X j : Nat)) := (A.out.cell (by exact HC.out.2.1)).trans (HC.out.1 j (by omega))
        rw [← hj] at CH
        have HG : Aside (g < wr.heap.size) := Nat.lt_of_lt_of_le HC.out.2.1 A.out.size
        have hwj : IntKind.i64.wrap (j : Int) = (j : Int) := by rw [IntKind.wrap_i64]; omega
        have hwk : IntKind.i64.wrap ((k : Int) - 1) = (j : Int) := by rw [IntKind.wrap_i64]; omega
        generalize PLACE X 0 = v0 at *
        generalize PLACE X j = v1 at *
        clear HL HL2 A HC HX HP hj CS CO
        go_wp2_with fail
        go_region_held3 (fun W : World => W.cell? ⟨g, 0, none⟩ = some (.int .i64 (v0 : Int)) ∧ W.cell? ⟨g, j, none⟩ = some (.int .i64 (v1 : Int))) (go_keep) (first | (go_at_call 7; refine (CL.out _ (by first | exact AW.out | exact AW.out.drew | exact below_drewN AW.out _)).mono ?_; rintro e w5 ⟨rfl, rfl⟩) | (go_at_call 8; refine (CH.out _).mono ?_; rintro e w6 ⟨rfl, rfl⟩) | (go_at_call 9; refine (awake_ok _).mono ?_; rintro e w7 ⟨rfl, hg, hb⟩; have q1 := (hb.cell (p := ⟨g, 0, none⟩) (by exact HG.out)).trans h1; have q2 := (hb.cell (p := ⟨g, j, none⟩) (by exact HG.out)).trans h2))
        have HB : Aside (Below w.heap.size w w7) := AW.out.drew.trans (hb.mono AW.out.size)
        clear hg hb q1 q2 h1 h2
        go_wp2
        go_ret
        exact ⟨rfl, HB.out⟩
    | succ n =>
      have hlt : (k : Int) < (P : Int) := by omega
      have h1 : wr.cell? ⟨g, k, none⟩ = some (.int .i64 (PLACE X k : Nat)) := (A.out.cell (by exact HC.out.2.1)).trans (HC.out.1 k (by omega))
      have cs := CS.out k (by omega)
      have hv : PLACE X k ≤ 63 := PLACE_le (by rw [HP.out]; omega)
      have F : Aside (PART X (k + 1) = PART X k + 2 ^ PLACE X k ∧ PART X (k + 1) < 2 ^ 64) := ⟨PART_succ (by rw [HP.out]; omega), PART_lt HX.out _⟩
      have hd0 : decide (((PLACE X k : Nat) : Int) < 0) = false := by simp
      have hd1 : decide ((63 : Int) < ((PLACE X k : Nat) : Int)) = false := by simp; omega
      have hl2 : decide ((k : Int) < (P : Int)) = true := by simp; omega
      generalize hv' : PLACE X k = v at *
      generalize 2 ^ v = z at *
      have HS : Aside (PART X (k + 1) = PART X k + z) := F.out.1
      have hz : (PART X k : Int) + (z : Int) < 18446744073709551616 := by have := F.out; omega
      rcases Nat.eq_zero_or_pos k with hk | hk
      · have hk0 : decide ((0 : Int) < (k : Int)) = false := by simp; omega
        clear hv'
        have hk1 : decide (0 < k) = false := by simp; omega
        clear hk HX HP HL HL2 CL CS CO CH HC
        go_wp2_with fail
        go_quiet (fail)
        go_wp2_with fail
        refine (cs _).mono ?_
        rintro e w' ⟨rfl, rfl⟩
        clear cs
        go_wp2
        go_roundg n
        case measure => omega
        case rel => exact ⟨k + 1, by omega, by first | rfl | (rw [HS.out, Int.natCast_add]), by first | rfl | go_num, below_drewN A.out _⟩
      · obtain ⟨j, hj⟩ : ∃ j, k = j + 1 := ⟨k - 1, by omega⟩
        have hj1 : (k : Int) - 1 = (j : Int) := by omega
        have h2 : wr.cell? ⟨g, j, none⟩ = some (.int .i64 (PLACE X j : Nat)) := (A.out.cell (by exact HC.out.2.1)).trans (HC.out.1 j (by omega))
        have hk0 : decide ((0 : Int) < (k : Int)) = true := by simp; omega
        have hk1 : decide (0 < k) = true := by simp; omega
        have huv : PLACE X j < v := by
          rw [← hv', hj]
          exact PLACE_lt (by rw [HP.out]; omega)
        have hd2 : decide ((v : Int) ≤ ((PLACE X j : Nat) : Int)) = false := by simp; omega
        have hd3 : decide (v ≤ PLACE X j) = false := by simp; omega
        have hjP : (j : Int) < (P : Int) := by omega
        have hj0 : (0 : Int) ≤ (j : Int) := by omega
        generalize PLACE X j = u at *
        clear hk HX HP HL HL2 CL CS CO CH HC hv' hj
        go_wp2_with fail
        go_quiet (fail)
        go_wp2_with fail
        refine (cs _).mono ?_
        rintro e w' ⟨rfl, rfl⟩
        clear cs
        go_wp2
        go_roundg n
        case measure => omega
        case rel => exact ⟨k + 1, by omega, by first | rfl | (rw [HS.out, Int.natCast_add]), by first | rfl | go_num, below_drewN A.out _⟩

theorem numCounts_walk (a0 : Int) (w0 : (Lit.int .u64 a0).wf = true) (w : World) (hT : Tabled w) (h0 : 0 < w.heap.size) :
    Calls Tryd.prog 3 #[.int .u64 a0] w fun e w' => e = .returned (.bool true) ∧ Below w.heap.size w w' := by
  have b0 := wf_u64 w0
  obtain ⟨X, rfl⟩ : ∃ X : Nat, a0 = (X : Int) := ⟨a0.toNat, by omega⟩
  have hX : X < 2 ^ 64 := by omega
  clear b0 w0
  have cB : Calls Tryd.prog 4 #[.int .u64 (X : Int)] w fun e w' => ∃ g cap, e = .returned (.slice (some ⟨g, 0, none⟩) (POP X) cap) ∧ (∀ i, i < POP X → w'.cell? ⟨g, i, none⟩ = some (.int .i64 (PLACE X i : Nat))) ∧ g < w'.heap.size ∧ Below w.heap.size w w' := by
    refine (bits_ok X hX w hT h0).mono ?_
    rintro e w' ⟨g, cap, rfl, h1, h2, h3⟩
    exact ⟨g, cap, rfl, fun i hi => places_at h1 i hi, h2, h3⟩
  have cS : ∀ k, k < POP X → ∀ w, Calls Tryd.prog 5 #[.int .u64 1, .int .i64 ((PLACE X k : Nat) : Int)] w fun e w' => e = .returned (.int .u64 ((2 ^ PLACE X k : Nat) : Int)) ∧ w = w' := fun k hk w => by
    have hv := PLACE_le hk
    have h := shl_ok 1 (PLACE X k : Nat) (by decide) (by omega) (by omega) w
    have e : SHL 1 ((PLACE X k : Nat) : Int) = 2 ^ PLACE X k := by
      generalize PLACE X k = v at hv
      exact SHL_one hv
    rw [e] at h
    exact h
  by_cases hz : X = 0
  · subst hz
    refine numCounts_core 0 (POP 0) w 64 (-1) hX rfl (fun _ => ⟨rfl, rfl⟩) (fun h => absurd rfl h) cB (fun w => ones_ok 0 hX w) cS (fun W _ => low_raw _ _ _ (tz_zero W)) (fun w => ?_)
    exact high_raw _ 0 w (fun w => len_ok 0 hX w) (by decide) (by decide)
  · obtain ⟨t, q, e⟩ := low_split X hz
    have hl := PLACE_last hX hz
    have hp := POP_pos hX hz
    have hle := PLACE_le (X := X) (i := POP X - 1) (by omega)
    refine numCounts_core X (POP X) w (t : Int) ((PLACE X (POP X - 1) : Nat) : Int) hX rfl (fun h => absurd h hz) (fun _ => ⟨by rw [PLACE_first hX e], rfl⟩) cB (fun w => ones_ok X hX w) cS (fun W hW => low_raw _ _ _ (tz_ok X t q hX e W (hT.below h0 hW))) (fun w => ?_)
    have h := high_raw X _ w (fun w => len_ok X hX w) (by omega) (by omega)
    rw [show ((LEN X : Nat) : Int) - 1 = ((PLACE X (POP X - 1) : Nat) : Int) by omega] at h
    exact h
end Go.Proofs.YtlklnljgmkagoabDoor
