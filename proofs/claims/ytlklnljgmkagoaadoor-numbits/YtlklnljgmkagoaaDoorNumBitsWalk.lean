/- The walk of NumBits. -/
import Derived.Test.YtlklnljgmkagoaaDoorNumRefBits
namespace Go.Proofs.YtlklnljgmkagoaaDoor
open Go.RowKit

set_option maxRecDepth 100000 in
set_option maxHeartbeats 1000000 in
theorem numBits_core (X : Nat) (w : World) (L H : Int) (n : Nat) (f : Nat → Nat) (hn : n ≤ 64)
    (cO : ∀ w, Calls Tryd.prog 4 #[.int .u64 (X : Int)] w fun e w' => e = .returned (.int .i64 (n : Int)) ∧ w = w')
    (rO : ∀ w, Calls Tryd.prog 5 #[.int .u64 (X : Int)] w fun e w' => e = .returned (.int .i64 (n : Int)) ∧ Below w.heap.size w w')
    (cL : ∀ W, Below w.heap.size w W → Calls Tryd.prog 6 #[.int .u64 (X : Int)] W fun e w' => e = .returned (.int .i64 L) ∧ W = w')
    (rL : ∀ w, Calls Tryd.prog 7 #[.int .u64 (X : Int)] w fun e w' => e = .returned (.int .i64 L) ∧ Below w.heap.size w w')
    (cH : ∀ w, Calls Tryd.prog 8 #[.int .u64 (X : Int)] w fun e w' => e = .returned (.int .i64 H) ∧ w = w')
    (rH : ∀ w, Calls Tryd.prog 9 #[.int .u64 (X : Int)] w fun e w' => e = .returned (.int .i64 H) ∧ Below w.heap.size w w')
    (cB : ∀ W, Below w.heap.size w W → Calls Tryd.prog 11 #[.int .u64 (X : Int)] W fun e w' => ∃ v, e = .returned v ∧ (∃ a c, v = .slice a n c) ∧ (0 < n → ∃ g c, v = .slice (some ⟨g, 0, none⟩) n c ∧ g < w'.heap.size ∧ ∀ i, i < n → w'.cell? ⟨g, i, none⟩ = some (.int .i64 (f i : Nat))) ∧ Below W.heap.size W w')
    (rB : ∀ W, Calls Tryd.prog 12 #[.int .u64 (X : Int)] W fun e w' => ∃ v, e = .returned v ∧ (∃ a c, v = .slice a n c) ∧ (0 < n → ∃ g c, v = .slice (some ⟨g, 0, none⟩) n c ∧ g < w'.heap.size ∧ ∀ i, i < n → w'.cell? ⟨g, i, none⟩ = some (.int .i64 (f i : Nat))) ∧ Below W.heap.size W w') :
    Calls Tryd.prog 3 #[.int .u64 (X : Int)] w fun e w' => e = .returned (.bool true) ∧ Below w.heap.size w w' := by
  have CO : Aside (∀ w, Calls Tryd.prog 4 #[.int .u64 (X : Int)] w fun e w' => e = .returned (.int .i64 (n : Int)) ∧ w = w') := cO
  have RO : Aside (∀ w, Calls Tryd.prog 5 #[.int .u64 (X : Int)] w fun e w' => e = .returned (.int .i64 (n : Int)) ∧ Below w.heap.size w w') := rO
  have CL : Aside (∀ W, Below w.heap.size w W → Calls Tryd.prog 6 #[.int .u64 (X : Int)] W fun e w' => e = .returned (.int .i64 L) ∧ W = w') := cL
  have RL : Aside (∀ w, Calls Tryd.prog 7 #[.int .u64 (X : Int)] w fun e w' => e = .returned (.int .i64 L) ∧ Below w.heap.size w w') := rL
  have CH : Aside (∀ w, Calls Tryd.prog 8 #[.int .u64 (X : Int)] w fun e w' => e = .returned (.int .i64 H) ∧ w = w') := cH
  have RH : Aside (∀ w, Calls Tryd.prog 9 #[.int .u64 (X : Int)] w fun e w' => e = .returned (.int .i64 H) ∧ Below w.heap.size w w') := rH
  have CB : Aside (∀ W, Below w.heap.size w W → Calls Tryd.prog 11 #[.int .u64 (X : Int)] W fun e w' => ∃ v, e = .returned v ∧ (∃ a c, v = .slice a n c) ∧ (0 < n → ∃ g c, v = .slice (some ⟨g, 0, none⟩) n c ∧ g < w'.heap.size ∧ ∀ i, i < n → w'.cell? ⟨g, i, none⟩ = some (.int .i64 (f i : Nat))) ∧ Below W.heap.size W w') := cB
  have RB : Aside (∀ W, Calls Tryd.prog 12 #[.int .u64 (X : Int)] W fun e w' => ∃ v, e = .returned v ∧ (∃ a c, v = .slice a n c) ∧ (0 < n → ∃ g c, v = .slice (some ⟨g, 0, none⟩) n c ∧ g < w'.heap.size ∧ ∀ i, i < n → w'.cell? ⟨g, i, none⟩ = some (.int .i64 (f i : Nat))) ∧ Below W.heap.size W w') := rB
  have HN : Aside (n ≤ 64) := hn
  clear cO rO cL rL cH rH cB rB hn
  go_enter Tryd.func3, Tryd.ntmps3
  go_wp2_with fail
  refine (CO.out _).mono ?_
  rintro e w' ⟨rfl, rfl⟩
  go_wp2_with fail
  refine (RO.out _).mono ?_
  rintro e w1 ⟨rfl, hb⟩
  have B1 : Aside (Below w.heap.size w w1) := hb
  clear hb CO RO
  go_wp2_with fail
  refine (CL.out _ B1.out).mono ?_
  rintro e w' ⟨rfl, rfl⟩
  go_wp2_with fail
  refine (RL.out _).mono ?_
  rintro e w2 ⟨rfl, hb⟩
  have B2 : Aside (Below w.heap.size w w2) := B1.out.trans (hb.mono B1.out.size)
  clear hb CL RL B1
  go_wp2_with fail
  refine (CH.out _).mono ?_
  rintro e w' ⟨rfl, rfl⟩
  go_wp2_with fail
  refine (RH.out _).mono ?_
  rintro e w3 ⟨rfl, hb⟩
  have B3 : Aside (Below w.heap.size w w3) := B2.out.trans (hb.mono B2.out.size)
  clear hb CH RH B2
  go_wp2_with fail
  refine (CB.out _ B3.out).mono ?_
  rintro e w4 ⟨va, rfl, ha, hA, hb⟩
  have B4 : Aside (Below w.heap.size w w4) := B3.out.trans (hb.mono B3.out.size)
  have HA : Aside ((∃ a c, va = .slice a n c) ∧ (0 < n → ∃ g c, va = .slice (some ⟨g, 0, none⟩) n c ∧ g < w4.heap.size ∧ ∀ i, i < n → w4.cell? ⟨g, i, none⟩ = some (.int .i64 (f i : Nat)))) := ⟨ha, hA⟩
  clear hb ha hA CB B3
  go_wp2_with fail
  refine (RB.out _).mono ?_
  rintro e w5 ⟨vb, rfl, ha, hA, hb⟩
  have B5 : Aside (Below w.heap.size w w5) := B4.out.trans (hb.mono B4.out.size)
  have HB : Aside ((∃ a c, vb = .slice a n c) ∧ (0 < n → ∃ g c, vb = .slice (some ⟨g, 0, none⟩) n c ∧ g < w5.heap.size ∧ ∀ i, i < n → w5.cell? ⟨g, i, none⟩ = some (.int .i64 (f i : Nat)))) := ⟨ha, hA⟩
  have HA2 : Aside (0 < n → ∃ g c, va = .slice (some ⟨g, 0, none⟩) n c ∧ g < w5.heap.size ∧ ∀ i, i < n → w5.cell? ⟨g, i, none⟩ = some (.int .i64 (f i : Nat))) := fun h => by
    obtain ⟨g, c, e, hg, hc⟩ := HA.out.2 h
    exact ⟨g, c, e, Nat.lt_of_lt_of_le hg hb.size, fun i hi => (hb.cell (by exact hg)).trans (hc i hi)⟩
  clear hb ha hA RB B4
  go_wp2_with fail
  refine (list_ok va vb n f _ HN.out HA.out.1 HB.out.1 HA2.out HB.out.2).mono ?_
  rintro e w6 ⟨rfl, hb⟩
  have B6 : Aside (Below w.heap.size w w6) := B5.out.trans (hb.mono B5.out.size)
  clear hb HA HB HA2 HN B5
  go_wp2_with fail
  refine (awake_ok _).mono ?_
  rintro e w7 ⟨rfl, hg, hb⟩
  have B7 : Aside (Below w.heap.size w w7) := B6.out.trans (hb.mono B6.out.size)
  clear hb hg B6
  go_wp2
  go_ret
  exact ⟨rfl, B7.out⟩

theorem numBits_walk (a0 : Int) (w0 : (Lit.int .u64 a0).wf = true) (w : World) (hT : Tabled w) (h0 : 0 < w.heap.size) :
    Calls Tryd.prog 3 #[.int .u64 a0] w fun e w' => e = .returned (.bool true) ∧ Below w.heap.size w w' := by
  have b0 := wf_u64 w0
  obtain ⟨X, rfl⟩ : ∃ X : Nat, a0 = (X : Int) := ⟨a0.toNat, by omega⟩
  have hX : X < 2 ^ 64 := by omega
  clear b0 w0
  refine numBits_core X w (if X = 0 then 64 else ((PLACE X 0 : Nat) : Int)) (if X = 0 then -1 else ((PLACE X (POP X - 1) : Nat) : Int)) (POP X) (PLACE X) (POP_le X) (fun w => ones_ok X hX w) (fun w => refones_ok X hX w) (fun W hW => ?_) (fun w => reflow_ok X hX w) (fun w => ?_) (fun w => refhigh_ok X hX w) (fun W hW => ?_) (fun W => ?_)
  · by_cases hz : X = 0
    · rw [if_pos hz]
      subst hz
      exact low_raw _ _ _ (tz_zero W)
    · rw [if_neg hz]
      obtain ⟨t, q, e⟩ := low_split X hz
      rw [PLACE_first hX e]
      exact low_raw _ _ _ (tz_ok X t q hX e W (hT.below h0 hW))
  · by_cases hz : X = 0
    · rw [if_pos hz]
      subst hz
      exact high_raw _ 0 w (fun w => len_ok 0 hX w) (by decide) (by decide)
    · rw [if_neg hz]
      have hl := PLACE_last hX hz
      have hp := POP_pos hX hz
      have hle := PLACE_le (X := X) (i := POP X - 1) (by omega)
      have h := high_raw X _ w (fun w => len_ok X hX w) (by omega) (by omega)
      rw [show ((LEN X : Nat) : Int) - 1 = ((PLACE X (POP X - 1) : Nat) : Int) by omega] at h
      exact h
  · refine (bits_ok X hX W (hT.below h0 hW) (Nat.lt_of_lt_of_le h0 hW.size)).mono ?_
    rintro e w' ⟨g, cap, rfl, h1, h2, h3⟩
    exact ⟨_, rfl, ⟨_, _, rfl⟩, fun _ => ⟨g, cap, rfl, h2, fun i hi => places_at h1 i hi⟩, h3⟩
  · refine (refbits_ok X hX W).mono ?_
    rintro e w' ⟨v, rfl, h1, h3⟩
    refine ⟨v, rfl, own_form h1, fun hp => ?_, h3⟩
    obtain ⟨g, c, rfl, hg⟩ := own_pos h1 hp
    exact ⟨g, c, rfl, hg, fun i hi => places_at h1 i hi⟩
end Go.Proofs.YtlklnljgmkagoaaDoor
