/- Texts of VerifyBinds, one behind the other: VerifyPrefix. -/
import Derived.Test.YtccghfpnakkmaaaDoorVerifyBindsP27
import Derived.Test.YtccghfpnakkmaaaDoorVerifyBindsP28
/- What Prefix of package verify answers. -/
namespace Go.Proofs.YtccghfpnakkmaaaDoor
open Go.RowKit
set_option maxRecDepth 100000

/-- what Prefix answers. -/
def PFXA (d : Int) (js : List (Nat × Nat)) (m : Nat) (r1 : List Int) (n : Nat) (r2 bl : List Int) : Int :=
  if (DEX bl).1 ≠ 0 then (DEX bl).1 else if (DEX bl).2.1 ≠ m then 30 else if (DEX bl).2.2.1 ≠ n then 30 else
    if UNDA d m (RCA d js (DEX bl).2.1 (DEX bl).2.2.1 (DEX bl).2.2.2.1 (DEX bl).2.2.2.2).2.1.1 (RCA d js (DEX bl).2.1 (DEX bl).2.2.1 (DEX bl).2.2.2.1 (DEX bl).2.2.2.2).2.1.2 r1 ≠ 0 then
      UNDA d m (RCA d js (DEX bl).2.1 (DEX bl).2.2.1 (DEX bl).2.2.2.1 (DEX bl).2.2.2.2).2.1.1 (RCA d js (DEX bl).2.1 (DEX bl).2.2.1 (DEX bl).2.2.2.1 (DEX bl).2.2.2.2).2.1.2 r1
    else UNDA d n (RCA d js (DEX bl).2.1 (DEX bl).2.2.1 (DEX bl).2.2.2.1 (DEX bl).2.2.2.2).2.2.1 (RCA d js (DEX bl).2.1 (DEX bl).2.2.1 (DEX bl).2.2.2.1 (DEX bl).2.2.2.2).2.2.2 r2
set_option maxHeartbeats 4000000 in
theorem prefix_ok (d : Int) (m : Nat) (hm : m < 2 ^ 64) (r1 : List Int) (hr1 : IsH r1) (n : Nat) (hn : n < 2 ^ 64) (r2 : List Int) (hr2 : IsH r2) (ba : Option Addr) (bn bc : Nat) (hbn : bn ≤ 1000000) (hbc : bn ≤ bc) (bl : List Int) (js : List (Nat × Nat)) (hJ : (DEX bl).2.1 ≤ (DEX bl).2.2.1 → (DEX bl).2.2.1 ≤ 4611686018427387904 → JSOK (DEX bl).2.1 ((DEX bl).2.2.1 - (DEX bl).2.1) js) (w : World) (hB : Bytes w ba bn bl) (hT : Tabled w) (hX : HX.Tabled w) (h0 : 2 < w.heap.size) :
    Calls Tryd.prog 8 #[.int .i64 d, .int .u64 (m : Int), .agg (CELLS r1).toArray, .int .u64 (n : Int), .agg (CELLS r2).toArray, .slice ba bn bc] w fun e w' => e = .returned (.int .i64 (PFXA d js m r1 n r2 bl)) ∧ Below w.heap.size w w' := by
  have l1 := hr1.1
  have l2 := hr2.1
  obtain ⟨b7, hb7⟩ : ∃ b7, b7 = w.heap.size := ⟨_, rfl⟩
  have R0 : Aside (Below w.heap.size w ((w.alloc (.cells (CELLS r1).toArray 24)).alloc (.cells (CELLS r2).toArray 24)) ∧ Has ((w.alloc (.cells (CELLS r1).toArray 24)).alloc (.cells (CELLS r2).toArray 24)) b7 (CELLS r1).toArray 24 ∧ Has ((w.alloc (.cells (CELLS r1).toArray 24)).alloc (.cells (CELLS r2).toArray 24)) (b7 + 1) (CELLS r2).toArray 24) := by
    rw [hb7]
    exact ⟨((Below.refl _ _).alloc (Nat.le_refl _) _).alloc (by simp) _, (Has.new _ _ _).alloc _, Has.at _ _ _ (by simp)⟩
  have HT : Aside (∀ W, Below w.heap.size w W → Tabled W ∧ HX.Tabled W ∧ 0 < W.heap.size ∧ Bytes W ba bn bl ∧ 2 < W.heap.size) := fun W h => by
    have hs := h.size
    exact ⟨hT.below (by omega) h, hX.below h, by omega, hB.below h, by omega⟩
  have HA : Aside (IsH r1 ∧ IsH r2 ∧ m < 2 ^ 64 ∧ n < 2 ^ 64 ∧ bn ≤ 1000000 ∧ bn ≤ bc) := ⟨hr1, hr2, hm, hn, hbn, hbc⟩
  clear hr1 hr2 hm hn hbn hbc hB hT hX h0
  obtain ⟨E, F, S, N, t, hD⟩ : ∃ E F S N t, DEX bl = (E, F, S, N, t) := ⟨_, _, _, _, _, rfl⟩
  rw [hD] at hJ
  dsimp only at hJ
  have HJ : Aside (F ≤ S → S ≤ 4611686018427387904 → JSOK F (S - F) js) := hJ
  clear hJ
  have hU : PFXA d js m r1 n r2 bl = if E ≠ 0 then E else if F ≠ m then 30 else if S ≠ n then 30 else if UNDA d m (RCA d js F S N t).2.1.1 (RCA d js F S N t).2.1.2 r1 ≠ 0 then UNDA d m (RCA d js F S N t).2.1.1 (RCA d js F S N t).2.1.2 r1 else UNDA d n (RCA d js F S N t).2.2.1 (RCA d js F S N t).2.2.2 r2 := by unfold PFXA; rw [hD]
  generalize PFXA d js m r1 n r2 bl = U at *
  have HV : Aside ((¬ E = 0 → U = E) ∧ (E = 0 → ¬ F = m → U = 30) ∧ (E = 0 → F = m → ¬ S = n → U = 30) ∧ (E = 0 → F = m → S = n → U = if UNDA d m (RCA d js F S N t).2.1.1 (RCA d js F S N t).2.1.2 r1 ≠ 0 then UNDA d m (RCA d js F S N t).2.1.1 (RCA d js F S N t).2.1.2 r1 else UNDA d n (RCA d js F S N t).2.2.1 (RCA d js F S N t).2.2.2 r2)) :=
    ⟨fun h => hU.trans (if_pos h), fun h1 h2 => by rw [hU, if_neg (by simpa using h1), if_pos h2], fun h1 h2 h3 => by rw [hU, if_neg (by simpa using h1), if_neg (by simpa using h2), if_pos h3], fun h1 h2 h3 => by rw [hU, if_neg (by simpa using h1), if_neg (by simpa using h2), if_neg (by simpa using h3)]⟩
  clear hU
  have HD : Aside (DEX bl = (E, F, S, N, t)) := hD
  clear hD
  go_enter Tryd.func8, Tryd.ntmps8
  go_upto_region 1 with fail
  rw [← hb7]
  have HB : Aside (b7 = w.heap.size) := hb7
  clear hb7
  generalize (w.alloc (.cells (CELLS r1).toArray 24)).alloc (.cells (CELLS r2).toArray 24) = W0 at *
  go_wp2_with fail
  have cD := decodeprefix_own ba bn bc HA.out.2.2.2.2.1 bl W0 (HT.out _ R0.out.1).2.2.2.1 HA.out.2.2.2.2.2 (HT.out _ R0.out.1).1 (HT.out _ R0.out.1).2.2.1
  rw [HD.out] at cD
  refine cD.mono ?_
  clear cD HD
  rintro e w1 ⟨a1, c1, rfl, hrow, hr, hb⟩
  dsimp only at *
  obtain ⟨b8, hb8⟩ : ∃ b, b = w1.heap.size := ⟨_, rfl⟩
  have hbb : Below w1.heap.size w1 (w1.alloc (.cells #[.int .u64 (F : Int), .int .u64 (S : Int), .slice a1 N c1] 60)) := (Below.refl _ _).alloc (Nat.le_refl _) _
  have R1 : Aside (Below w.heap.size w (w1.alloc (.cells #[.int .u64 (F : Int), .int .u64 (S : Int), .slice a1 N c1] 60)) ∧ Has (w1.alloc (.cells #[.int .u64 (F : Int), .int .u64 (S : Int), .slice a1 N c1] 60)) b7 (CELLS r1).toArray 24 ∧ Has (w1.alloc (.cells #[.int .u64 (F : Int), .int .u64 (S : Int), .slice a1 N c1] 60)) (b7 + 1) (CELLS r2).toArray 24 ∧ Has (w1.alloc (.cells #[.int .u64 (F : Int), .int .u64 (S : Int), .slice a1 N c1] 60)) b8 #[.int .u64 (F : Int), .int .u64 (S : Int), .slice a1 N c1] 60 ∧ Flat (w1.alloc (.cells #[.int .u64 (F : Int), .int .u64 (S : Int), .slice a1 N c1] 60)) a1 N t) :=
    ⟨(R0.out.1.trans (hb.mono R0.out.1.size)).trans (hbb.mono (R0.out.1.trans (hb.mono R0.out.1.size)).size), (R0.out.2.1.keep hb).keep hbb, (R0.out.2.2.keep hb).keep hbb, Has.at _ _ _ hb8, (own_flat hrow hr).below hbb⟩
  clear hrow hr hb hbb R0
  go_upto_region 2 with fail
  rw [← hb8]
  clear hb8
  generalize w1.alloc (.cells #[.int .u64 (F : Int), .int .u64 (S : Int), .slice a1 N c1] 60) = W1 at *
  clear w1 W0
  have y0 : W1.cell? ⟨b8, 0, none⟩ = some (.int .u64 (F : Int)) := R1.out.2.2.2.1.cell 0
  have y1 : W1.cell? ⟨b8, 1, none⟩ = some (.int .u64 (S : Int)) := R1.out.2.2.2.1.cell 1
  have y2 : W1.cell? ⟨b8, 2, none⟩ = some (.slice a1 N c1) := R1.out.2.2.2.1.cell 2
  have hb := R1.out.1
  by_cases hE : E = 0
  · by_cases hF : F = m
    · by_cases hS : S = n
      · have HW : Aside (U = if UNDA d m (RCA d js F S N t).2.1.1 (RCA d js F S N t).2.1.2 r1 ≠ 0 then UNDA d m (RCA d js F S N t).2.1.1 (RCA d js F S N t).2.1.2 r1 else UNDA d n (RCA d js F S N t).2.2.1 (RCA d js F S N t).2.2.2 r2) := HV.out.2.2.2 hE hF hS
        subst hE hF hS
        clear HV
        go_wp2_with fail
        refine (reach_ok d F S js HJ.out a1 N c1 t W1 R1.out.2.2.2.2 (HT.out _ hb).1 (HT.out _ hb).2.1 (HT.out _ hb).2.2.2.2).mono ?_
        have hrg := RCA_range (d := d) (js := js) (F := F) (S := S) R1.out.2.2.2.2.1 R1.out.2.2.2.2.2.2
        generalize RCA d js F S N t = C at *
        obtain ⟨CE, ⟨CN, CL⟩, DN, DL⟩ := C
        rintro e w2 ⟨a2, c2, a3, c3, rfl, hrow, hrow2, hb2⟩
        dsimp only at *
        have R2 : Aside (Below w.heap.size w w2 ∧ Has w2 b7 (CELLS r1).toArray 24 ∧ Has w2 (b7 + 1) (CELLS r2).toArray 24 ∧ Flat w2 a2 CN CL ∧ Flat w2 a3 DN DL) := ⟨hb.trans (hb2.mono hb.size), R1.out.2.1.keep hb2, R1.out.2.2.1.keep hb2, own_flat hrow hrg.1, own_flat hrow2 hrg.2⟩
        clear hrow hrow2 hrg hb2 hb R1 y0 y1 y2
        have h7 := R2.out.2.1
        go_wp2_with (first
          | (refine wpList_load_row rfl 24 (.tmp 8) rfl b7 rfl 24 (CELLS r1).toArray (0, 0) _ h7 Tryd.underlying24 rfl (info_arr l1) ?_)
          | fail)
        refine (rooted_ok d F HA.out.2.2.1 a2 CN c2 CL r1 HA.out.1 w2 R2.out.2.2.2.1 (HT.out _ R2.out.1).2.1).mono ?_
        rintro e w3 ⟨rfl, hb3⟩
        generalize UNDA d F CN CL r1 = U1 at *
        have R3 : Aside (Below w.heap.size w w3 ∧ Has w3 (b7 + 1) (CELLS r2).toArray 24 ∧ Flat w3 a3 DN DL) := ⟨R2.out.1.trans (hb3.mono R2.out.1.size), R2.out.2.2.1.keep hb3, R2.out.2.2.2.2.below hb3⟩
        clear hb3 R2 h7
        by_cases hU1 : U1 = 0
        · subst hU1
          have HW2 : Aside (U = UNDA d S DN DL r2) := by have := HW.out; rw [if_neg (by simp)] at this; exact this
          clear HW
          have h8 := R3.out.2.1
          go_wp2_with (first
            | (refine wpList_load_row rfl 24 (.tmp 10) rfl (b7 + 1) rfl 24 (CELLS r2).toArray (0, 0) _ h8 Tryd.underlying24 rfl (info_arr l2) ?_)
            | fail)
          refine (rooted_ok d S HA.out.2.2.2.1 a3 DN c3 DL r2 HA.out.2.1 w3 R3.out.2.2 (HT.out _ R3.out.1).2.1).mono ?_
          rintro e w4 ⟨rfl, hb4⟩
          have R4 : Aside (Below w.heap.size w w4) := R3.out.1.trans (hb4.mono R3.out.1.size)
          clear hb4 R3 h8 HT HA
          go_wp2_with fail
          go_ret
          exact ⟨by rw [HW2.out]; rfl, R4.out⟩
        · have HW2 : Aside (U = U1) := by have := HW.out; rw [if_pos hU1] at this; exact this
          clear HW HT HA
          go_wp2_with fail
          go_ret
          exact ⟨by rw [HW2.out]; rfl, R3.out.1⟩
      · have HW : Aside (U = 30) := HV.out.2.2.1 hE hF hS
        have hS' : ¬ (S : Int) = (n : Int) := by omega
        subst hE hF
        clear HV HT HA R1 HJ
        go_wp2_with fail
        go_ret
        exact ⟨by rw [HW.out]; rfl, hb⟩
    · have HW : Aside (U = 30) := HV.out.2.1 hE hF
      have hF' : ¬ (F : Int) = (m : Int) := by omega
      subst hE
      clear HV HT HA R1 HJ
      go_wp2_with fail
      go_ret
      exact ⟨by rw [HW.out]; rfl, hb⟩
  · have HW : Aside (U = E) := HV.out.1 hE
    clear HV HT HA R1 y0 y1 y2 HJ
    go_wp2_with fail
    go_ret
    exact ⟨by rw [HW.out]; rfl, hb⟩
end Go.Proofs.YtccghfpnakkmaaaDoor
