/- Texts of CarryRound, one behind the other: CarryRoundWalk, PosDoor, ProofDoor, HashDoor, VerifyLaid3, VerifyDoorProof, CarryDoor. -/
import Derived.Test.YtannhflmnegpbaaDoorRows
import Derived.ProofKit
import Derived.LaidMore
import Derived.OpenShut
import Derived.Stop.Joined
import Derived.Deep.Strs
import Derived.Test.YtannhflmnegpbaaDoorCarryRoundP6
import Derived.Test.YtannhflmnegpbaaDoorCarryRoundP8
import Derived.Test.YtannhflmnegpbaaDoorCarryRoundP9
import Derived.Test.YtannhflmnegpbaaDoorCarryRoundP15
import Derived.Test.YtannhflmnegpbaaDoorCarryRoundP16
import Derived.Test.YtannhflmnegpbaaDoorCarryRoundP27
import Derived.Test.YtannhflmnegpbaaDoorCarryRoundP29
/- The walk of CarryRound. -/
namespace Go.Proofs.YtannhflmnegpbaaDoor
open Go.RowKit
set_option maxRecDepth 100000

theorem EVT_set33 (X : Nat) (leaf : List Int) (hl : leaf.length = 32) (v v' : Value) : (EVT X leaf v).setIfInBounds 33 v' = EVT X leaf v' := by
  have h32 : (CELLS leaf).length = 32 := by simp [CELLS, hl]
  simp only [EVT, List.setIfInBounds_toArray, List.set_cons_succ]
  rw [List.set_append_right _ _ (by omega), h32]
  rfl
theorem own_sliceb {w : World} {base s n : Nat} {t : TypeId} {v : Value} {xs : List Value} (h : w.ownsRow base t s v n xs) : ∃ a c, v = .slice a n c := by
  rcases h.2 with ⟨rfl, h0⟩ | ⟨g, cap, cur, rfl, _⟩
  · subst h0
    exact ⟨_, _, rfl⟩
  · exact ⟨_, _, rfl⟩
theorem EVD_leaf (l : List Int) : (EVD l).2.2.1.length = 32 := by
  unfold EVD
  split
  · rfl
  split
  · rfl
  unfold ED1
  split
  · rfl
  split
  · rfl
  unfold ED2
  split
  · rfl
  split
  · rfl
  show (List.take 32 _).length = 32
  rw [List.length_take]
  omega
theorem EVE_range {X n : Nat} {leaf l : List Int} (hX : X < 2 ^ 64) (hl : IsH leaf) (hr : ∀ x ∈ l, 0 ≤ x ∧ x ≤ 255) (hn : l.length = 32 * n) (h : n ≤ 1000) : (∀ x ∈ (EVE X n leaf l).2, 0 ≤ x ∧ x ≤ 255) ∧ (EVE X n leaf l).2.length ≤ 1000000 := by
  unfold EVE
  split
  · simp
  split
  · simp
  have h1 := SHORT_length X
  have h2 := NTOP_le X
  refine ⟨fun x hx => ?_, by simp only [List.length_append, List.length_cons, List.length_nil, h1, hl.1, hn]; omega⟩
  simp only [List.mem_append, List.mem_singleton] at hx
  rcases hx with ((hx | hx) | hx) | hx
  · subst hx
    decide
  · exact SHORT_range hX x hx
  · exact hl.2 x hx
  · exact hr x hx
set_option maxHeartbeats 8000000 in
theorem carryRound_walk (X : Nat) (hX : X < 2 ^ 64) (leaf : List Int) (hleaf : IsH leaf) (a : Option Addr) (n c : Nat) (hc : a = none → c = 0) (l : List Int) (ba : Option Addr) (bn bc : Nat) (hbc : ba = none → bc = 0) (bl : List Int) (w : World) (hF : Flat w a n l) (hB : Bytes w ba bn bl)
    (hT : Tabled w) (hXT : HX.Tabled w) (h0 : 2 < w.heap.size) :
    Calls Tryd.prog 4 #[.agg (EVT X leaf (.slice a n c)), .slice ba bn bc] w fun e w' => e = .returned (.bool true) ∧ Below w.heap.size w w' := by
  obtain ⟨W0, hW0⟩ : ∃ W0, w.alloc (.cells (EVT X leaf (.slice a n c)) 27) = W0 := ⟨_, rfl⟩
  obtain ⟨be, hbe⟩ : ∃ be, w.heap.size = be := ⟨_, rfl⟩
  have R0 : Aside (Below w.heap.size w W0 ∧ Has W0 be (EVT X leaf (.slice a n c)) 27) := by
    rw [← hW0, ← hbe]
    exact ⟨(Below.refl _ _).alloc (Nat.le_refl _) _, Has.new _ _ _⟩
  have HA : Aside (X < 2 ^ 64 ∧ IsH leaf ∧ (a = none → c = 0) ∧ (ba = none → bc = 0)) := ⟨hX, hleaf, hc, hbc⟩
  have l32 := hleaf.1
  have AW : Aside (∀ W, Below W0.heap.size W0 W → Calls Tryd.prog 17 #[] W fun e w' => e = .returned (.bool true) ∧ Below w.heap.size w w') := fun W hb => by
    have h := R0.out.1.trans (hb.mono R0.out.1.size)
    exact (awake12_ok W (hT.below (by omega) h) (hXT.below h) (Nat.lt_of_lt_of_le h0 h.size)).mono fun e w' z => ⟨z.1, h.trans (z.2.mono h.size)⟩
  have KB : Aside (∀ W, Below W0.heap.size W0 W → Below w.heap.size w W ∧ Flat W a n l ∧ Bytes W ba bn bl ∧ Has W be (EVT X leaf (.slice a n c)) 27) := fun W hb => by
    have h := R0.out.1.trans (hb.mono R0.out.1.size)
    exact ⟨h, hF.below h, hB.below h, R0.out.2.keep hb⟩
  have y2 := (EVT_at R0.out.2 l32).2.2
  clear hX hleaf hc hbc hF hB hT hXT h0
  by_cases hbig : n ≤ 200 ∧ bn ≤ 6400
  · obtain ⟨s1, s2⟩ := hbig
    have S12 : Aside (n ≤ 200 ∧ bn ≤ 6400) := ⟨s1, s2⟩
    have i1 : ¬ (200 : Int) < (n : Int) := by omega
    have i2 : ¬ (6400 : Int) < (bn : Int) := by omega
    clear s1 s2
    obtain ⟨ZE, eZ, hz, hbu, hi, hone⟩ := zero_event
    have hev := fun (x : Nat) (lf : List Int) (hl : lf.length = 32) (v : Value) => info_event' x lf hl v
    have hsz : ∀ (x : Nat) (lf : List Int) (hl : lf.length = 32) (v : Value), ZE.size = (EVT x lf v).size := fun x lf hl v => by
      rw [← eZ, show (EVT x lf v).size = 34 by simp only [EVT, List.size_toArray, List.length_cons, List.length_append, CELLS, List.length_map, hl, List.length_nil]]
      rfl
    have HS : Aside ((∀ (x : Nat) (lf : List Int) (_ : lf.length = 32) (v : Value), ZE.size = (EVT x lf v).size) ∧ (∀ (x : Nat) (lf : List Int) (_ : lf.length = 32) (v : Value), (Tryd.prog.info? 27).map (·.size) = some (EVT x lf v).size)) := ⟨hsz, hev⟩
    clear eZ hbu hi hone hsz hev
    obtain ⟨VE, hVE⟩ : ∃ VE, EVT X leaf (.slice a n c) = VE := ⟨_, rfl⟩
    have HVE : Aside (EVT X leaf (.slice a n c) = VE ∧ ZE.size = VE.size ∧ (Tryd.prog.info? 27).map (·.size) = some VE.size ∧ VE.all (·.oneCell') = true) := ⟨hVE, by rw [← hVE]; exact HS.out.1 X leaf l32 _, by rw [← hVE]; exact HS.out.2 X leaf l32 _, by rw [← hVE]; exact event_one _ _ _ _ _⟩
    rw [hVE] at hW0 R0 KB ⊢
    clear hVE
    have hHe := R0.out.2
    have he1 := HVE.out.2.1
    have he2 := HVE.out.2.2.1
    have he3 := HVE.out.2.2.2
    go_enter Tryd.func4, Tryd.ntmps4
    go_upto_region 3 with fail
    clear hW0 hbe
    go_upto_region 4 with (first
      | (refine wpList_load_row rfl 27 (.tmp 2) rfl be rfl 27 VE (0, 0) _ hHe Tryd.underlying27 rfl he2 ?_)
      | (refine wpList_store_row rfl 27 (.tmp 5) (.tmp 23) rfl _ VE rfl rfl 27 ZE (Has.new W0 _ _) he2 he1 he3 ?_; rw [World.setRow_alloc_new]))
    obtain ⟨b5, hb5⟩ : ∃ b5, W0.heap.size = b5 := ⟨_, rfl⟩
    have hb1 : Below W0.heap.size W0 (W0.alloc (.cells VE 27)) := (Below.refl _ _).alloc (Nat.le_refl _) _
    have hH5 : Has (W0.alloc (.cells VE 27)) b5 VE 27 := Has.at _ _ _ hb5.symm
    have HB5 : Aside (W0.heap.size = b5) := hb5
    rw [hb5]
    clear hb5 hHe he1
    generalize W0.alloc (.cells VE 27) = w1 at *
    have y3 : w1.cell? ⟨be, 33, none⟩ = some (.slice a n c) := by
      have h := (KB.out w1 hb1).2.2.2
      rw [← HVE.out.1] at h
      exact (EVT_at h l32).2.2
    have cR : Aside (Calls Tryd.prog 5 #[.slice a n c] w1 (ROWED w1 n l)) := row12_ok a n c (by have := S12.out; omega) HA.out.2.2.1 l w1 (KB.out w1 hb1).2.1
    clear y2
    go_wp2_with fail
    refine cR.out.mono ?_
    rintro e w2 ⟨rg, rc, rfl, hro, _, _, hrg, hb2⟩
    clear cR y3
    have hH52 := hH5.keep hb2
    have y5 : w2.cell? ⟨b5, 33, none⟩ = some (.slice a n c) := by
      rw [← HVE.out.1] at hH52
      exact (EVT_at hH52 l32).2.2
    have z5 := hH52.frozen 33
    obtain ⟨w3, hw3⟩ : ∃ w3, w2.setCell ⟨b5, 33, none⟩ (.slice (some ⟨rg, 0, none⟩) n rc) = w3 := ⟨_, rfl⟩
    have R3 : Aside (Below W0.heap.size W0 w3 ∧ Has w3 b5 (EVT X leaf (.slice (some ⟨rg, 0, none⟩) n rc)) 27 ∧ w3.ownsRow w1.heap.size 24 32 (.slice (some ⟨rg, 0, none⟩) n rc) n (CELLS l)) := by
      have hh := hH52.set 33 (.slice (some ⟨rg, 0, none⟩) n rc)
      rw [← HVE.out.1, EVT_set33 X leaf l32] at hh
      have hb02 := hb1.trans (hb2.mono hb1.size)
      rw [← hw3]
      refine ⟨hb02.setCell (p := ⟨b5, 33, none⟩) (Nat.le_of_eq HB5.out) _, hh, (KEPT.of_set (A := fun k => k = b5) w2 ⟨b5, 33, none⟩ _ rfl).own hro (fun k e q => ?_)⟩
      have := (hro.lt k e).1
      have := hH5.lt
      omega
    clear hro hrg hb2 hb1 hH5 hH52
    go_upto_region 5 with fail
    clear hw3 y5 z5
    have hH3 := R3.out.2.1
    obtain ⟨V3, hV3⟩ : ∃ V3, EVT X leaf (.slice (some ⟨rg, 0, none⟩) n rc) = V3 := ⟨_, rfl⟩
    have hv2 : (Tryd.prog.info? 27).map (·.size) = some V3.size := by rw [← hV3]; exact HS.out.2 _ _ l32 _
    have hlr : ∀ x ∈ l, 0 ≤ x ∧ x ≤ 255 := (KB.out w3 R3.out.1).2.1.2.2
    have hll : l.length = 32 * n := (KB.out w3 R3.out.1).2.1.1
    have cE : Aside (Calls Tryd.prog 7 #[.agg V3] w3 (ANSB w3 (EVE X n leaf l))) := by
      rw [← hV3]
      exact encodeevent_ok X HA.out.1 leaf HA.out.2.1 _ n rc (by have := S12.out; omega) l w3 (own_flat R3.out.2.2 hlr)
    have HR : Aside ((EVE X n leaf l).1 = 0 → EVD (EVE X n leaf l).2 = (0, X, leaf, n, l)) := fun h => EVE_EVD HA.out.1 l32 hll h
    have HRR : Aside ((∀ x ∈ (EVE X n leaf l).2, 0 ≤ x ∧ x ≤ 255) ∧ (EVE X n leaf l).2.length ≤ 1000000) := EVE_range HA.out.1 HA.out.2.1 hlr hll (by have := S12.out; omega)
    rw [hV3] at hH3
    clear hV3 hlr hll
    go_wp2_with (refine wpList_load_row rfl 27 (.tmp 5) rfl b5 rfl 27 V3 (0, 0) _ hH3 Tryd.underlying27 rfl hv2 ?_)
    refine cE.out.mono ?_
    clear cE hH3 hv2
    generalize EVE X n leaf l = E at *
    obtain ⟨EE, EL⟩ := E
    rintro e w4 ⟨v, rfl, ho, hb4⟩
    dsimp only at *
    obtain ⟨va, vc, rfl⟩ := own_sliceb ho
    have R4 : Aside (Below W0.heap.size W0 w4) := R3.out.1.trans (hb4.mono R3.out.1.size)
    by_cases hEE : EE = 0
    · subst hEE
      have eD := HR.out rfl
      have hBv := own_bytes_any ho HRR.out.1
      have cD : Aside (Calls Tryd.prog 12 #[.slice va EL.length vc] w4 (ANSE w4 (0, X, leaf, n, l))) := by
        have h := decodeevent_ok va EL.length vc hBv.2 HRR.out.2 EL w4 hBv.1
        rw [eD] at h
        exact h
      clear eD hBv ho hb4 HR HRR R3
      go_wp2_with fail
      refine cD.out.mono ?_
      rintro e w5 ⟨xa, xc, rfl, hxf, _, hb5⟩
      dsimp only at *
      clear cD
      have R5 : Aside (Below W0.heap.size W0 w5 ∧ Flat w5 xa n l) := ⟨R4.out.trans (hb5.mono R4.out.size), hxf⟩
      obtain ⟨VX, hVX⟩ : ∃ VX, EVT X leaf (.slice xa n xc) = VX := ⟨_, rfl⟩
      have HVX : Aside (EVT X leaf (.slice xa n xc) = VX) := hVX
      have hd1 : ZE.size = VX.size := by rw [← hVX]; exact HS.out.1 _ _ l32 _
      have hd2 : (Tryd.prog.info? 27).map (·.size) = some VX.size := by rw [← hVX]; exact HS.out.2 _ _ l32 _
      have hd3 : VX.all (·.oneCell') = true := by rw [← hVX]; exact event_one _ _ _ _ _
      rw [hVX]
      clear hVX hb5 hxf R4
      go_upto_region 8 with (refine wpList_store_row rfl 27 (.tmp 8) (.tmp 38) rfl _ VX rfl rfl 27 ZE (Has.new w5 _ _) hd2 hd1 hd3 ?_; rw [World.setRow_alloc_new])
      obtain ⟨bx, hbx⟩ : ∃ bx, w5.heap.size = bx := ⟨_, rfl⟩
      have hb6 : Below w5.heap.size w5 (w5.alloc (.cells VX 27)) := (Below.refl _ _).alloc (Nat.le_refl _) _
      have hHx : Has (w5.alloc (.cells VX 27)) bx VX 27 := Has.at _ _ _ hbx.symm
      rw [hbx]
      clear hbx
      generalize w5.alloc (.cells VX 27) = wX at *
      have RX : Aside (Below W0.heap.size W0 wX ∧ Flat wX xa n l) := ⟨R5.out.1.trans (hb6.mono R5.out.1.size), R5.out.2.below hb6⟩
      have hHe2 := (KB.out wX RX.out.1).2.2.2
      have r1 := EVT_range hHx
      have r2 := EVT_range hHe2
      have cS : Aside (Calls Tryd.prog 13 #[.agg VX, .agg VE] wX fun e w' => e = .returned (.bool true) ∧ Below W0.heap.size W0 w') := by
        have h := sameevents_ok X leaf l32 xa a n xc c l wX RX.out.2 (KB.out wX RX.out.1).2.1 (by have := S12.out; omega)
        rw [HVX.out, HVE.out.1] at h
        exact h.mono fun e w' z => ⟨z.1, RX.out.1.trans (z.2.mono RX.out.1.size)⟩
      have he2' : (Tryd.prog.info? 27).map (·.size) = some VE.toList.length := by rw [Array.length_toList]; exact he2
      have hd2' : (Tryd.prog.info? 27).map (·.size) = some VX.toList.length := by rw [Array.length_toList]; exact hd2
      clear R5 hb6 hd1 hd3 hHx hHe2
      go_wp2_with (first
        | (refine load_mid_ifc (by rfl) 27 (.tmp 8) rfl bx 0 rfl VX.toList _ r1 Tryd.underlying27 rfl hd2' ?_)
        | (refine load_mid_ifc (by rfl) 27 (.tmp 2) rfl be 0 rfl VE.toList _ r2 Tryd.underlying27 rfl he2' ?_)
        | fail)
      refine cS.out.mono ?_
      rintro e WT ⟨rfl, hbT⟩
      clear cS RX r1 r2
      have RT : Aside (Below W0.heap.size W0 WT) := hbT
      clear hbT
      have cT : Aside (Calls Tryd.prog 10 #[.slice ba bn bc] WT (TEXTED WT bn bl)) := text12_ok ba bn bc (by have := S12.out; omega) HA.out.2.2.2 bl WT (KB.out WT RT.out).2.2.1
      go_wp2_with fail
      refine cT.out.mono ?_
      rintro e w6 ⟨tg, tc, rfl, hto, htc, _, htg, hb6⟩
      clear cT
      have hbr : ∀ x ∈ bl, 0 ≤ x ∧ x ≤ 255 := (KB.out WT RT.out).2.2.1.2.2
      have hB6 : Bytes w6 (some ⟨tg, 0, none⟩) bn bl := own_bytes hto htg hbr
      have R6 : Aside (Below W0.heap.size W0 w6) := RT.out.trans (hb6.mono RT.out.size)
      have cD : Aside (Calls Tryd.prog 12 #[.slice (some ⟨tg, 0, none⟩) bn tc] w6 (ANSE w6 (EVD bl))) := decodeevent_ok _ bn tc (by omega) (by have := S12.out; omega) bl w6 hB6
      have HD : Aside ((EVD bl).1 = 0 → ∃ (X n : Nat) (leaf t : List Int), EVD bl = (0, X, leaf, n, t) ∧ X < 2 ^ 64 ∧ IsH leaf ∧ t.length = 32 * n ∧ n ≤ 64 ∧ EVE X n leaf t = (0, bl)) := fun h => EVD_EVE hbr h
      have HL3 : Aside ((EVD bl).2.2.1.length = 32) := EVD_leaf bl
      clear hto htc htg hb6 hB6 hbr
      go_wp2_with fail
      refine cD.out.mono ?_
      clear cD
      generalize EVD bl = D at *
      obtain ⟨DE, DX, DL, DN, DT⟩ := D
      rintro e w7 ⟨da, dc, rfl, hdf, hdc, hb7⟩
      dsimp only at *
      have R7 : Aside (Below W0.heap.size W0 w7 ∧ Flat w7 da DN DT) := ⟨R6.out.trans (hb7.mono R6.out.size), hdf⟩
      obtain ⟨VD, hVD⟩ : ∃ VD, EVT DX DL (.slice da DN dc) = VD := ⟨_, rfl⟩
      have HVD : Aside (EVT DX DL (.slice da DN dc) = VD) := hVD
      have hd1 : ZE.size = VD.size := by rw [← hVD]; exact HS.out.1 _ _ HL3.out _
      have hd2 : (Tryd.prog.info? 27).map (·.size) = some VD.size := by rw [← hVD]; exact HS.out.2 _ _ HL3.out _
      have hd3 : VD.all (·.oneCell') = true := by rw [← hVD]; exact event_one _ _ _ _ _
      rw [hVD]
      clear hVD hb7 hdf R6 RT hdc
      go_upto_region 11 with (refine wpList_store_row rfl 27 (.tmp 10) (.tmp 52) rfl _ VD rfl rfl 27 ZE (Has.new w7 _ _) hd2 hd1 hd3 ?_; rw [World.setRow_alloc_new])
      obtain ⟨bd, hbd⟩ : ∃ bd, w7.heap.size = bd := ⟨_, rfl⟩
      have hb8 : Below w7.heap.size w7 (w7.alloc (.cells VD 27)) := (Below.refl _ _).alloc (Nat.le_refl _) _
      have hHd : Has (w7.alloc (.cells VD 27)) bd VD 27 := Has.at _ _ _ hbd.symm
      rw [hbd]
      clear hbd
      generalize w7.alloc (.cells VD 27) = w8 at *
      have R8 : Aside (Below W0.heap.size W0 w8 ∧ Flat w8 da DN DT) := ⟨R7.out.1.trans (hb8.mono R7.out.1.size), R7.out.2.below hb8⟩
      clear R7 hb8 hd1 hd3
      by_cases hDE : DE = 0
      · subst hDE
        obtain ⟨_, _, _, _, eD, q1, q2, q3, q4, q5⟩ := HD.out rfl
        cases eD
        have cE : Aside (Calls Tryd.prog 7 #[.agg VD] w8 (ANSB w8 (0, bl))) := by
          have h := encodeevent_ok DX q1 DL q2 da DN dc (by omega) DT w8 R8.out.2
          rw [q5, HVD.out] at h
          exact h
        clear HD q1 q2 q3 q4 q5
        go_wp2_with (refine wpList_load_row rfl 27 (.tmp 10) rfl bd rfl 27 VD (0, 0) _ hHd Tryd.underlying27 rfl hd2 ?_)
        refine cE.out.mono ?_
        rintro e w9 ⟨ev, rfl, heo, hb9⟩
        clear cE
        dsimp only at heo
        obtain ⟨ea, ec, rfl⟩ := own_sliceb heo
        have R9 : Aside (Below W0.heap.size W0 w9) := R8.out.1.trans (hb9.mono R8.out.1.size)
        have hbr : ∀ x ∈ bl, 0 ≤ x ∧ x ≤ 255 := (KB.out w9 R9.out).2.2.1.2.2
        have cS : Aside (Calls Tryd.prog 8 #[.slice ba bn bc, .slice ea bl.length ec] w9 fun e w' => e = .returned (.bool true) ∧ Below W0.heap.size W0 w') := (samebytes_ok ba ea bn bl.length bc ec bl bl w9 (KB.out w9 R9.out).2.2.1 (own_bytes_any heo hbr).1 (by have := S12.out; omega)).mono fun e w' z => ⟨by rw [z.1]; simp, R9.out.trans (z.2.mono R9.out.size)⟩
        clear heo hb9 hbr R8 hHd hd2
        go_wp2_with fail
        refine cS.out.mono ?_
        rintro e w10 ⟨rfl, hb10⟩
        clear cS R9
        have cA := AW.out w10 hb10
        clear hb10
        go_wp2_with fail
        refine cA.mono ?_
        rintro e w11 ⟨rfl, hb11⟩
        have FN : Aside (Below w.heap.size w w11) := hb11
        clear cA hb11
        go_wp2
        go_ret
        exact ⟨rfl, FN.out⟩
      · have hDE' : (DE != 0) = true := by simp [hDE]
        have cA := AW.out w8 R8.out.1
        clear hDE HD R8
        go_wp2_with fail
        refine cA.mono ?_
        rintro e w11 ⟨rfl, hb11⟩
        have FN : Aside (Below w.heap.size w w11) := hb11
        clear cA hb11
        go_wp2
        go_ret
        exact ⟨rfl, FN.out⟩
    · have hEE' : (EE == 0) = false := by simp [hEE]
      have RT : Aside (Below W0.heap.size W0 w4) := R4.out
      clear hEE HR HRR ho hb4 R3 R4
      generalize w4 = WT at *
      have cT : Aside (Calls Tryd.prog 10 #[.slice ba bn bc] WT (TEXTED WT bn bl)) := text12_ok ba bn bc (by have := S12.out; omega) HA.out.2.2.2 bl WT (KB.out WT RT.out).2.2.1
      go_wp2_with fail
      refine cT.out.mono ?_
      rintro e w6 ⟨tg, tc, rfl, hto, htc, _, htg, hb6⟩
      clear cT
      have hbr : ∀ x ∈ bl, 0 ≤ x ∧ x ≤ 255 := (KB.out WT RT.out).2.2.1.2.2
      have hB6 : Bytes w6 (some ⟨tg, 0, none⟩) bn bl := own_bytes hto htg hbr
      have R6 : Aside (Below W0.heap.size W0 w6) := RT.out.trans (hb6.mono RT.out.size)
      have cD : Aside (Calls Tryd.prog 12 #[.slice (some ⟨tg, 0, none⟩) bn tc] w6 (ANSE w6 (EVD bl))) := decodeevent_ok _ bn tc (by omega) (by have := S12.out; omega) bl w6 hB6
      have HD : Aside ((EVD bl).1 = 0 → ∃ (X n : Nat) (leaf t : List Int), EVD bl = (0, X, leaf, n, t) ∧ X < 2 ^ 64 ∧ IsH leaf ∧ t.length = 32 * n ∧ n ≤ 64 ∧ EVE X n leaf t = (0, bl)) := fun h => EVD_EVE hbr h
      have HL3 : Aside ((EVD bl).2.2.1.length = 32) := EVD_leaf bl
      clear hto htc htg hb6 hB6 hbr
      go_wp2_with fail
      refine cD.out.mono ?_
      clear cD
      generalize EVD bl = D at *
      obtain ⟨DE, DX, DL, DN, DT⟩ := D
      rintro e w7 ⟨da, dc, rfl, hdf, hdc, hb7⟩
      dsimp only at *
      have R7 : Aside (Below W0.heap.size W0 w7 ∧ Flat w7 da DN DT) := ⟨R6.out.trans (hb7.mono R6.out.size), hdf⟩
      obtain ⟨VD, hVD⟩ : ∃ VD, EVT DX DL (.slice da DN dc) = VD := ⟨_, rfl⟩
      have HVD : Aside (EVT DX DL (.slice da DN dc) = VD) := hVD
      have hd1 : ZE.size = VD.size := by rw [← hVD]; exact HS.out.1 _ _ HL3.out _
      have hd2 : (Tryd.prog.info? 27).map (·.size) = some VD.size := by rw [← hVD]; exact HS.out.2 _ _ HL3.out _
      have hd3 : VD.all (·.oneCell') = true := by rw [← hVD]; exact event_one _ _ _ _ _
      rw [hVD]
      clear hVD hb7 hdf R6 RT hdc
      go_upto_region 11 with (refine wpList_store_row rfl 27 (.tmp 10) (.tmp 52) rfl _ VD rfl rfl 27 ZE (Has.new w7 _ _) hd2 hd1 hd3 ?_; rw [World.setRow_alloc_new])
      obtain ⟨bd, hbd⟩ : ∃ bd, w7.heap.size = bd := ⟨_, rfl⟩
      have hb8 : Below w7.heap.size w7 (w7.alloc (.cells VD 27)) := (Below.refl _ _).alloc (Nat.le_refl _) _
      have hHd : Has (w7.alloc (.cells VD 27)) bd VD 27 := Has.at _ _ _ hbd.symm
      rw [hbd]
      clear hbd
      generalize w7.alloc (.cells VD 27) = w8 at *
      have R8 : Aside (Below W0.heap.size W0 w8 ∧ Flat w8 da DN DT) := ⟨R7.out.1.trans (hb8.mono R7.out.1.size), R7.out.2.below hb8⟩
      clear R7 hb8 hd1 hd3
      by_cases hDE : DE = 0
      · subst hDE
        obtain ⟨_, _, _, _, eD, q1, q2, q3, q4, q5⟩ := HD.out rfl
        cases eD
        have cE : Aside (Calls Tryd.prog 7 #[.agg VD] w8 (ANSB w8 (0, bl))) := by
          have h := encodeevent_ok DX q1 DL q2 da DN dc (by omega) DT w8 R8.out.2
          rw [q5, HVD.out] at h
          exact h
        clear HD q1 q2 q3 q4 q5
        go_wp2_with (refine wpList_load_row rfl 27 (.tmp 10) rfl bd rfl 27 VD (0, 0) _ hHd Tryd.underlying27 rfl hd2 ?_)
        refine cE.out.mono ?_
        rintro e w9 ⟨ev, rfl, heo, hb9⟩
        clear cE
        dsimp only at heo
        obtain ⟨ea, ec, rfl⟩ := own_sliceb heo
        have R9 : Aside (Below W0.heap.size W0 w9) := R8.out.1.trans (hb9.mono R8.out.1.size)
        have hbr : ∀ x ∈ bl, 0 ≤ x ∧ x ≤ 255 := (KB.out w9 R9.out).2.2.1.2.2
        have cS : Aside (Calls Tryd.prog 8 #[.slice ba bn bc, .slice ea bl.length ec] w9 fun e w' => e = .returned (.bool true) ∧ Below W0.heap.size W0 w') := (samebytes_ok ba ea bn bl.length bc ec bl bl w9 (KB.out w9 R9.out).2.2.1 (own_bytes_any heo hbr).1 (by have := S12.out; omega)).mono fun e w' z => ⟨by rw [z.1]; simp, R9.out.trans (z.2.mono R9.out.size)⟩
        clear heo hb9 hbr R8 hHd hd2
        go_wp2_with fail
        refine cS.out.mono ?_
        rintro e w10 ⟨rfl, hb10⟩
        clear cS R9
        have cA := AW.out w10 hb10
        clear hb10
        go_wp2_with fail
        refine cA.mono ?_
        rintro e w11 ⟨rfl, hb11⟩
        have FN : Aside (Below w.heap.size w w11) := hb11
        clear cA hb11
        go_wp2
        go_ret
        exact ⟨rfl, FN.out⟩
      · have hDE' : (DE != 0) = true := by simp [hDE]
        have cA := AW.out w8 R8.out.1
        clear hDE HD R8
        go_wp2_with fail
        refine cA.mono ?_
        rintro e w11 ⟨rfl, hb11⟩
        have FN : Aside (Below w.heap.size w w11) := hb11
        clear cA hb11
        go_wp2
        go_ret
        exact ⟨rfl, FN.out⟩
  · have FN : Aside (Below w.heap.size w W0) := R0.out.1
    by_cases h1 : n ≤ 200
    · have i1 : ¬ (200 : Int) < (n : Int) := by omega
      have i2 : (6400 : Int) < (bn : Int) := by omega
      clear hbig h1 AW KB R0 HA
      go_enter Tryd.func4, Tryd.ntmps4
      go_wp2
      go_ret
      exact ⟨rfl, by first | exact FN.out | (rw [← hbe]; exact FN.out)⟩
    · have i1 : (200 : Int) < (n : Int) := by omega
      clear hbig h1 AW KB R0 HA
      go_enter Tryd.func4, Tryd.ntmps4
      go_wp2
      go_ret
      exact ⟨rfl, by first | exact FN.out | (rw [← hbe]; exact FN.out)⟩
end Go.Proofs.YtannhflmnegpbaaDoor

/- What the card's row gives the walks of layer 3: spots that came in; the table of math/bits. -/
namespace Go.Proofs.YtannhflmnegpbaaDoor
open Go.ChangeShapes Go.WideShapes Go.ChangeAt Go.WideMaps Go.WideElems Go.RowKit
set_option maxRecDepth 100000

theorem own : ownKnob Tryd.prog.godebug = none := by kernel_rfl
theorem laidOut : laidOutB Tryd.prog = true := by kernel_rfl
theorem gTab : Tryd.prog.globalNamed "math/bits.deBruijn64tab" = some 0 := by kernel_rfl
theorem tTab : (Tryd.prog.globals[0]?).map (·.type) = some 101 := by kernel_rfl
theorem tabData {H : Type} : (Rows.laid_math_bits_deBruijn64tab : DataW H) = .agg (TAB.map fun n => .lit (.int .u8 (n : Nat))) := rfl
end Go.Proofs.YtannhflmnegpbaaDoor

/- What the card's row gives the walks of layer 7: hashes, lists of hashes, proofs and bytes that came in. -/
namespace Go.Proofs.YtannhflmnegpbaaDoor
open Go.ChangeShapes Go.WideShapes Go.ChangeAt Go.WideMaps Go.WideElems Go.RowKit Go.Deep
set_option maxRecDepth 100000

/-- one hash, by its cells. -/
theorem open_hash {H : Type} {enc : TypeId × Value → H} {W : World} {fuel : Nat} {cs : List Value} {x : DataW H × List MemPlace} (hf : DataW.trod enc Tryd.prog W 0 (fun _ => true) true fuel 24 cs = some x) : ∃ h : List Int, h.length = 32 ∧ (∀ x ∈ h, 0 ≤ x ∧ x ≤ 255) ∧ cs = CELLS h := by
  obtain ⟨xs, m, rfl, _, hl, hn, hel⟩ := DataW.trod_array Tryd.underlying24 hf
  have c5 : Tryd.prog.cellsOf 5 = 1 := by kernel_rfl
  have c32 : Tryd.prog.cellsOf 24 = 32 := by kernel_rfl
  rw [c32] at hl
  have hx : ∀ i, i < 32 → ∃ k : Int, cs[i]? = some (.int .u8 k) ∧ 0 ≤ k ∧ k ≤ 255 := fun i hi => by
    have h0 := hel i hi
    rw [List.getElem?_eq_getElem (by omega), c5, Nat.mul_one] at h0
    obtain ⟨k, e1, _, e3⟩ := DataW.trod_int Tryd.underlying5 h0
    have hb := bounds_u8 e3
    refine ⟨k, ?_, by omega, by omega⟩
    have := congrArg (fun l => l[0]?) e1
    simpa using this
  have F : ∃ f : Nat → Int, ∀ i, i < 32 → cs[i]? = some (.int .u8 (f i)) ∧ 0 ≤ f i ∧ f i ≤ 255 := by
    refine ⟨fun i => if hi : i < 32 then (hx i hi).choose else 0, fun i hi => ?_⟩
    simp only [hi, dif_pos]
    exact (hx i hi).choose_spec
  obtain ⟨f, hf1⟩ := F
  refine ⟨(List.range 32).map f, by simp, fun x hx => ?_, ?_⟩
  · simp only [List.mem_map, List.mem_range] at hx
    obtain ⟨i, hi, rfl⟩ := hx
    exact (hf1 i hi).2
  · apply List.ext_getElem?
    intro i
    by_cases hi : i < 32
    · rw [(hf1 i hi).1, CELLS_get _ i (by simp; exact hi), List.getD_eq_getElem?_getD, List.getElem?_map, List.getElem?_range hi]
      rfl
    · rw [List.getElem?_eq_none (by omega), List.getElem?_eq_none (by simp [CELLS]; omega)]
/-- a list of hashes that came in. -/
theorem open_flat {H : Type} {enc : TypeId × Value → H} {W : World} {fuel : Nat} {a : Option Addr} {k c : Nat} {x : DataW H × List MemPlace} (hf : DataW.trod enc Tryd.prog W 0 (fun _ => true) true fuel 25 [.slice a k c] = some x) :
    ∃ l : List Int, Flat W a k l ∧ (a = none → c = 0) ∧ k ≤ c := by
  rcases DataW.trod_slice Tryd.underlying25 hf with ⟨h0, _⟩ | ⟨ad, len, cap, elems, rest, n, _, h0, hx, _, hl, hm, hlen, hel, _, _⟩
  · simp at h0
    obtain ⟨rfl, rfl, rfl⟩ := h0
    exact ⟨[], ⟨rfl, fun h => absurd h (by omega), by simp⟩, fun _ => rfl, Nat.le_refl _⟩
  · simp at h0
    obtain ⟨rfl, rfl, rfl⟩ := h0
    have c32 : Tryd.prog.cellsOf 24 = 32 := by kernel_rfl
    have each : ∀ i, i < k → ∃ h : List Int, h.length = 32 ∧ (∀ x ∈ h, 0 ≤ x ∧ x ≤ 255) ∧ ∀ j, j < 32 → W.cell? ((ad.add (i * 32)).add j) = some (.int .u8 (h.getD j 0)) := fun i hi => by
      have h := hel i hi
      rw [List.getElem?_eq_getElem (by omega), c32, Option.bind_eq_some_iff] at h
      obtain ⟨cs, hcs, ht⟩ := h
      obtain ⟨f, h1, h2, rfl⟩ := open_hash ht
      have hs := (World.cells?_some hcs).2.2
      refine ⟨f, h1, h2, fun j hj => ?_⟩
      have s := hs j hj
      rw [s]
      exact CELLS_get f j (by omega)
    have F : ∃ f : Nat → List Int, ∀ i, i < k → (f i).length = 32 ∧ (∀ x ∈ f i, 0 ≤ x ∧ x ≤ 255) ∧ ∀ j, j < 32 → W.cell? ((ad.add (i * 32)).add j) = some (.int .u8 ((f i).getD j 0)) := by
      refine ⟨fun i => if hi : i < k then (each i hi).choose else [], fun i hi => ?_⟩
      simp only [hi, dif_pos]
      exact (each i hi).choose_spec
    obtain ⟨f, hf2⟩ := F
    have hrange : ∀ i, i < k → ∀ j, j < 32 → 0 ≤ (f i).getD j 0 ∧ (f i).getD j 0 ≤ 255 := fun i hi j hj => by
      rw [List.getD_eq_getElem?_getD, List.getElem?_eq_getElem (by rw [(hf2 i hi).1]; exact hj)]
      exact (hf2 i hi).2.1 _ (List.getElem_mem _)
    refine ⟨(List.range (32 * k)).map fun m => (f (m / 32)).getD (m % 32) 0, ⟨by simp, fun h0k => ?_, fun x hx => ?_⟩, (fun e => by cases e), by omega⟩
    · obtain ⟨b, off, spot⟩ := ad
      have hc := (hf2 0 h0k).2.2 0 (by decide)
      have hspot : spot = none := by simpa [Addr.add] using World.cell?_spot hc
      subst hspot
      refine ⟨b, off, rfl, ?_, fun m hm => ?_⟩
      · have := World.block_lt_of_cell? W _ hc
        simpa [Addr.add] using this
      · have h1 := (hf2 (m / 32) (by omega)).2.2 (m % 32) (by omega)
        rw [addr_add, addr_add] at h1
        rw [List.getD_eq_getElem?_getD, List.getElem?_map, List.getElem?_range hm]
        simp only [Option.map_some, Option.getD_some]
        rw [← h1]
        congr 2
        omega
    · simp only [List.mem_map, List.mem_range] at hx
      obtain ⟨m, hm, rfl⟩ := hx
      exact hrange _ (by omega) _ (by omega)
/-- a list of bytes that came in. -/
theorem open_text {H : Type} {enc : TypeId × Value → H} {W : World} {a : Option Addr} {len cap : Nat} {d : DataW H} {ps : List MemPlace} (hd : DataW.Trod enc Tryd.prog W 0 (fun _ => true) true 28 (.slice a len cap) d ps) :
    ∃ l : List Int, Bytes W a len l ∧ (a = none → cap = 0) ∧ len ≤ cap := by
  obtain ⟨fuel, hf⟩ := hd
  rcases open_ints Tryd.underlying28 Tryd.underlying5 (by kernel_rfl) hf with ⟨hcs, _⟩ | ⟨x, l, c, zs, hcs, _, hl, hm, hz, hx, hcell, hwz⟩
  · simp [Value.cells] at hcs
    obtain ⟨rfl, rfl, rfl⟩ := hcs
    exact ⟨[], ⟨rfl, fun h => by omega, by simp⟩, fun _ => rfl, Nat.le_refl _⟩
  · simp [Value.cells] at hcs
    obtain ⟨rfl, rfl, rfl⟩ := hcs
    have hr : IsRow .u8 W (some x) len cap zs := .inr ⟨_, rfl, hl, hm, by simpa using hz, hcell, hwz⟩
    exact ⟨_, hr.bytes, (fun e => by cases e), hl⟩
end Go.Proofs.YtannhflmnegpbaaDoor

/- What the card's row gives the walks: arrays and slices of bytes that came in; the two tables. -/
namespace Go.Proofs.YtannhflmnegpbaaDoor.HX
set_option maxRecDepth 100000
open Go.ChangeShapes Go.WideShapes Go.ChangeAt Go.WideMaps Go.WideElems Go.RowKit

theorem own : ownKnob Tryd.prog.godebug = none := by kernel_rfl
theorem laidOut : laidOutB Tryd.prog = true := by kernel_rfl
theorem gRounds : Tryd.prog.globalNamed "massif/hash.rounds" = some 2 := by kernel_rfl
theorem gBegin : Tryd.prog.globalNamed "massif/hash.begin" = some 1 := by kernel_rfl
theorem tRounds : (Tryd.prog.globals[2]?).map (·.type) = some 123 := by kernel_rfl
theorem tBegin : (Tryd.prog.globals[1]?).map (·.type) = some 121 := by kernel_rfl
theorem roundsData {H : Type} : (Rows.laid_massif_hash_rounds : DataW H) = .agg (KLIST.map fun n => .lit (.int .u32 (n : Nat))) := rfl
theorem beginData {H : Type} : (Rows.laid_massif_hash_begin : DataW H) = .agg (BEGIN.map fun n => .lit (.int .u32 (n : Nat))) := rfl

/-- a slice of bytes that came in. -/
theorem open_text {H : Type} {enc : TypeId × Value → H} {W : World} {a : Option Addr} {len cap : Nat} {d : DataW H} {ps : List MemPlace} (hd : DataW.Trod enc Tryd.prog W 0 (fun _ => true) true 28 (.slice a len cap) d ps) :
    ∃ l : List Nat, Text W a len l ∧ (a = none → cap = 0) := by
  have hr : ∃ zs, IsRow .u8 W a len cap zs := by
    obtain ⟨fuel, hf⟩ := hd
    rcases open_ints Tryd.underlying28 Tryd.underlying5 (by kernel_rfl) hf with ⟨hcs, _⟩ | ⟨x, l, c, zs, hcs, _, hl, hm, hz, hx, hcell, hwz⟩
    · simp [Value.cells] at hcs
      obtain ⟨rfl, rfl, rfl⟩ := hcs
      exact ⟨[], .inl ⟨rfl, rfl, rfl, rfl⟩⟩
    · simp [Value.cells] at hcs
      obtain ⟨rfl, rfl, rfl⟩ := hcs
      exact ⟨zs, .inr ⟨_, rfl, hl, hm, by simpa using hz, hcell, hwz⟩⟩
  obtain ⟨zs, hr⟩ := hr
  have hb := hr.bytes
  have e : INTS ((zs.take len).map Int.toNat) = zs.take len := by
    unfold INTS
    rw [List.map_map]
    conv => rhs; rw [← List.map_id (zs.take len)]
    apply List.map_congr_left
    intro x hx
    have := hb.2.2 x hx
    simp
    omega
  refine ⟨(zs.take len).map Int.toNat, Text.of_bytes (by rw [e]; exact hb), fun h => ?_⟩
  rcases hr with ⟨_, _, h3, _⟩ | ⟨x, h1, _⟩
  · exact h3
  · rw [h] at h1
    cases h1
theorem table_at {H : Type} {enc : TypeId × Value → H} {W : World} {base fuel n : Nat} {sp : Nat → Bool} {held : Bool} {t : TypeId} {cs : List Value} {ps : List MemPlace} (L : List Nat) (hL : L.length = n) (ht : Tryd.prog.underlying t = some (.array n 120))
    (hd : DataW.trod enc Tryd.prog W base sp held fuel t cs = some (.agg (L.map fun n => .lit (.int .u32 (n : Nat))), ps)) (i : Nat) (hi : i < n) : cs[i]? = some (.int .u32 (L.getD i 0 : Nat)) := by
  obtain ⟨xs, m1, rfl, hx1, hlen, hn, hel⟩ := DataW.trod_array ht hd
  have c5 : Tryd.prog.cellsOf 120 = 1 := by kernel_rfl
  simp only [Prod.mk.injEq, DataW.agg.injEq] at hx1
  have hx := hx1.1
  have h0 := hel i hi
  have hi' : i < xs.length := by omega
  rw [List.getElem?_eq_getElem hi', c5, Nat.mul_one] at h0
  obtain ⟨k, e1, e2, _⟩ := DataW.trod_int Tryd.underlying120 h0
  have hk : (k : Int) = ((L.getD i 0 : Nat) : Int) := by
    have hz := congrArg (fun l => l[i]?) hx
    have hT : i < L.length := by omega
    simp only [List.getElem?_map, List.getElem?_eq_getElem hi', List.getElem?_eq_getElem hT, Option.map_some, e2] at hz
    simp at hz
    rw [List.getD_eq_getElem?_getD, List.getElem?_eq_getElem hT]
    simpa using hz.symm
  rw [← hk]
  have := congrArg (fun l => l[0]?) e1
  simpa using this
end Go.Proofs.YtannhflmnegpbaaDoor.HX

/- What the card's row gives a walk of chapter 8: the three tables. -/
namespace Go.Proofs.YtannhflmnegpbaaDoor
open Go.ChangeShapes Go.WideShapes Go.ChangeAt Go.WideMaps Go.WideElems Go.RowKit
set_option maxRecDepth 100000

theorem of_laid3 {W : World} (h : laidMetH Tryd.prog [("math/bits.deBruijn64tab", Rows.laid_math_bits_deBruijn64tab), ("massif/hash.begin", Rows.laid_massif_hash_begin), ("massif/hash.rounds", Rows.laid_massif_hash_rounds)] W) : Tabled W ∧ HX.Tabled W ∧ 2 < W.heap.size := by
  rw [MakeChecks.laidMetH_plain _ _ _ (by kernel_rfl)] at h
  obtain ⟨ps, ⟨g0, t0, cs0, f0, p0, q0, hg0, ht0, hv0, hd0, ⟨g1, t1, cs1, f1, p1, q1, hg1, ht1, hv1, hd1, ⟨g2, t2, cs2, f2, p2, q2, hg2, ht2, hv2, hd2, _, _⟩, _⟩, _⟩, _, _⟩ := h
  obtain rfl := Option.some.inj (gTab.symm.trans hg0)
  obtain rfl := Option.some.inj (tTab.symm.trans ht0)
  obtain rfl := Option.some.inj (HX.gBegin.symm.trans hg1)
  obtain rfl := Option.some.inj (HX.tBegin.symm.trans ht1)
  obtain rfl := Option.some.inj (HX.gRounds.symm.trans hg2)
  obtain rfl := Option.some.inj (HX.tRounds.symm.trans ht2)
  rw [HX.beginData] at hd1
  rw [HX.roundsData] at hd2
  have A : ∀ i, i < 8 → W.cell? ⟨1, i, none⟩ = some (.int .u32 (HX.BEGIN.getD i 0 : Nat)) := fun i hi => (World.var?_cell hg1 hv1 i).trans (Array.getElem?_toList.symm.trans (HX.table_at HX.BEGIN rfl Tryd.underlying121 hd1 i hi))
  have B : ∀ i, i < 64 → W.cell? ⟨2, i, none⟩ = some (.int .u32 (HX.KC i : Nat)) := fun i hi => (World.var?_cell hg2 hv2 i).trans (Array.getElem?_toList.symm.trans (HX.table_at HX.KLIST rfl Tryd.underlying123 hd2 i hi))
  obtain ⟨xs, m1, rfl, hx1, hlen, hn, hel⟩ := DataW.trod_array Tryd.underlying101 hd0
  have c5 : Tryd.prog.cellsOf 5 = 1 := by kernel_rfl
  simp only [Prod.mk.injEq] at hx1
  have hx := hx1.1
  rw [tabData] at hx
  simp only [DataW.agg.injEq] at hx
  have T : Tabled W := fun i hi => by
    have h0 := hel i hi
    have hi' : i < xs.length := by omega
    rw [List.getElem?_eq_getElem hi', c5, Nat.mul_one] at h0
    obtain ⟨k, e1, e2, _⟩ := DataW.trod_int Tryd.underlying5 h0
    have hk : (k : Int) = ((TAB.getD i 0 : Nat) : Int) := by
      have hz := congrArg (fun l => l[i]?) hx
      have hT : i < TAB.length := hi
      simp only [List.getElem?_map, List.getElem?_eq_getElem hi', List.getElem?_eq_getElem hT, Option.map_some, e2] at hz
      simp at hz
      rw [List.getD_eq_getElem?_getD, List.getElem?_eq_getElem hT]
      simpa using hz.symm
    have hv := World.var?_cell hg0 hv0 i
    rw [hv, ← hk]
    have := congrArg (fun l => l[0]?) e1
    simp at this
    simpa using this
  have z0 : 0 < W.heap.size := World.block_lt_of_cell? W _ (T 0 (by decide))
  have z1 : 1 < W.heap.size := World.block_lt_of_cell? W _ (A 0 (by decide))
  have z2 : 2 < W.heap.size := World.block_lt_of_cell? W _ (B 0 (by decide))
  exact ⟨T, ⟨B, A, by omega⟩, by omega⟩
end Go.Proofs.YtannhflmnegpbaaDoor

/- A proof of one leaf that came in. -/
namespace Go.Proofs.YtannhflmnegpbaaDoor
open Go.ChangeShapes Go.WideShapes Go.ChangeAt Go.WideMaps Go.WideElems Go.RowKit Go.Deep
set_option maxRecDepth 100000

end Go.Proofs.YtannhflmnegpbaaDoor

/- An event that came in. -/
namespace Go.Proofs.YtannhflmnegpbaaDoor
open Go.ChangeShapes Go.WideShapes Go.ChangeAt Go.WideMaps Go.WideElems Go.RowKit Go.Deep
set_option maxRecDepth 100000

theorem under_event12 : ∃ f0 f1 f2 : Field, Tryd.prog.underlying 27 = some (.struct #[f0, f1, f2]) ∧ f0.type = 22 ∧ f0.offset = 0 ∧ f1.type = 24 ∧ f1.offset = 1 ∧ f2.type = 25 ∧ f2.offset = 33 := ⟨_, _, _, Tryd.underlying27, rfl, rfl, rfl, rfl, rfl, rfl⟩
/-- a structure of a number, a hash and a list of hashes that came in. -/
theorem open_event {H : Type} {enc : TypeId × Value → H} {W : World} {r : Reach} {b0 : Nat} {v : Value} {d : DataW H} {ps : List MemPlace}
    (hval : Value.okWide Tryd.prog W r b0 27 v) (hd : DataW.Trod enc Tryd.prog W 0 (fun _ => true) true 27 v d ps) : ∃ (X : Nat) (leaf : List Int) (a : Option Addr) (n c : Nat) (l : List Int), X < 2 ^ 64 ∧ leaf.length = 32 ∧ (∀ x ∈ leaf, 0 ≤ x ∧ x ≤ 255) ∧ v = .agg (EVT X leaf (.slice a n c)) ∧ Flat W a n l ∧ (a = none → c = 0) ∧ n ≤ c := by
  obtain ⟨f0, f1, f2, hu, t0, o0, t1, o1, t2, o2⟩ := under_event12
  simp only [Value.okWide, hu] at hval
  obtain ⟨cs, rfl, hsz, _⟩ := hval
  obtain ⟨fuel, hf⟩ := hd
  obtain ⟨y0, y1, y2, m, _, hl, h0, h1, h2⟩ := trod_struct3 hu hf
  have hc : Tryd.prog.cellsOf 27 = 34 := by kernel_rfl
  rw [hc] at hsz
  have c1 : Tryd.prog.cellsOf 22 = 1 := by kernel_rfl
  have c2 : Tryd.prog.cellsOf 25 = 1 := by kernel_rfl
  have c3 : Tryd.prog.cellsOf 24 = 32 := by kernel_rfl
  rw [t0, o0, c1] at h0
  rw [t1, o1, c3] at h1
  rw [t2, o2, c2] at h2
  have e0 : (Value.agg cs).cells.toList = cs.toList := rfl
  rw [e0] at h0 h1 h2
  have hlen : cs.toList.length = 34 := by rw [Array.length_toList]; exact hsz
  generalize hL : cs.toList = L at *
  rw [List.drop_zero] at h0
  obtain ⟨x, hx⟩ : ∃ x, L.take 1 = [x] := List.length_eq_one_iff.1 (by rw [List.length_take]; omega)
  obtain ⟨z, hz⟩ : ∃ z, (L.drop 33).take 1 = [z] := List.length_eq_one_iff.1 (by rw [List.length_take, List.length_drop]; omega)
  obtain ⟨leaf, k1, k2, k3⟩ := open_hash h1
  have eL : L = x :: (CELLS leaf ++ [z]) := by
    have a1 : L.drop 33 = [z] := by rw [← hz, List.take_of_length_le (by rw [List.length_drop]; omega)]
    rw [← k3, ← a1, show L.drop 33 = (L.drop 1).drop 32 by rw [List.drop_drop], List.take_append_drop, ← List.singleton_append, ← hx, List.take_append_drop]
  rw [hx] at h0
  rw [hz] at h2
  obtain ⟨a, e1, _, e3⟩ := DataW.trod_int Tryd.underlying22 h0
  have ha := wf_u64 e3
  simp at e1
  subst e1
  obtain ⟨ad, k, c, rfl⟩ : ∃ ad k c, z = .slice ad k c := by
    rcases DataW.trod_slice Tryd.underlying25 h2 with ⟨h0, _⟩ | ⟨ad, len, cap, elems, rest, n, _, h0, _⟩
    · simp at h0
      exact ⟨_, _, _, h0⟩
    · simp at h0
      exact ⟨_, _, _, h0⟩
  obtain ⟨l, g1, g2, g3⟩ := open_flat h2
  refine ⟨a.toNat, leaf, ad, k, c, l, by omega, k1, k2, ?_, g1, g2, g3⟩
  congr 1
  apply Array.ext'
  rw [hL, eL]
  show _ = (Value.int .u64 ((a.toNat : Nat) : Int) :: (CELLS leaf ++ [.slice ad k c]))
  rw [Int.toNat_of_nonneg (by omega)]
end Go.Proofs.YtannhflmnegpbaaDoor
