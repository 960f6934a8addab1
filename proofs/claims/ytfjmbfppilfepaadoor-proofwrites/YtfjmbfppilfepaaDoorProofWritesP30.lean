/- Texts of ProofWrites, one behind the other: ProofWritesWalk. -/
import Derived.Test.YtfjmbfppilfepaaDoorProofWritesP20
import Derived.Test.YtfjmbfppilfepaaDoorProofWritesP21
import Derived.Test.YtfjmbfppilfepaaDoorProofWritesP27
import Derived.Test.YtfjmbfppilfepaaDoorProofWritesP29
/- The walk of ProofWrites. -/
namespace Go.Proofs.YtfjmbfppilfepaaDoor
open Go.RowKit
set_option maxRecDepth 100000

set_option maxHeartbeats 8000000 in
theorem proofWrites_core (S I : Nat) (hS : S < 2 ^ 64) (hI : I < 2 ^ 64) (pa : Option Addr) (pn pc : Nat) (hpc : pa = none → pc = 0) (pl : List Int) (F Z : Nat) (hF : F < 2 ^ 64) (hZ : Z < 2 ^ 64) (xa : Option Addr) (xn xc : Nat) (hxc : xa = none → xc = 0) (xl : List Int)
    (w : World) (hP : Flat w pa pn pl) (hX : Flat w xa xn xl) (hT : Tabled w) (h0 : 0 < w.heap.size) (l1 : pn ≤ 300) (l2 : xn ≤ 300) :
    Calls Tryd.prog 5 #[.agg (PV S I pa pn pc), .agg (PV F Z xa xn xc)] w fun e w' => e = .returned (.bool true) ∧ Below w.heap.size w w' := by
  have k1 : ¬ (300 : Int) < (pn : Int) := by omega
  have k2 : ¬ (300 : Int) < (xn : Int) := by omega
  have HA : Aside (S < 2 ^ 64 ∧ I < 2 ^ 64 ∧ F < 2 ^ 64 ∧ Z < 2 ^ 64 ∧ (pa = none → pc = 0) ∧ (xa = none → xc = 0) ∧ pn ≤ 300 ∧ xn ≤ 300) := ⟨hS, hI, hF, hZ, hpc, hxc, l1, l2⟩
  have HW : Aside (Flat w pa pn pl ∧ Flat w xa xn xl ∧ Tabled w ∧ 0 < w.heap.size) := ⟨hP, hX, hT, h0⟩
  clear hS hI hF hZ hpc hxc l1 l2 hP hX hT h0
  go_enter Tryd.func5, Tryd.ntmps5
  go_upto_region 3 with fail
  have hH3 := (Has.new w (PV S I pa pn pc) 25).alloc (.cells (PV F Z xa xn xc) 27)
  have hH4 : Has ((w.alloc (.cells (PV S I pa pn pc) 25)).alloc (.cells (PV F Z xa xn xc) 27)) (w.heap.size + 1) (PV F Z xa xn xc) 27 := Has.at _ _ _ (by simp)
  obtain ⟨W0, hW0⟩ : ∃ W0, W0 = (w.alloc (.cells (PV S I pa pn pc) 25)).alloc (.cells (PV F Z xa xn xc) 27) := ⟨_, rfl⟩
  obtain ⟨B, hBB⟩ : ∃ B, B = w.heap.size := ⟨_, rfl⟩
  have R0 : Aside (Below w.heap.size w W0 ∧ Has W0 B (PV S I pa pn pc) 25 ∧ Has W0 (B + 1) (PV F Z xa xn xc) 27 ∧ W0.heap.size = B + 2 ∧ B = w.heap.size) := by
    rw [hBB, hW0]
    exact ⟨((Below.refl _ _).alloc (Nat.le_refl _) _).alloc (by simp) _, hH3, hH4, by simp, rfl⟩
  rw [← hW0, ← hBB]
  clear hH3 hH4 hW0 hBB k1 k2
  go_cut [5, 6] from 36 to 211 (fun s7 s8 W => ∃ g7 g8, s7 = .pointer (some ⟨g7, 0, none⟩) ∧ s8 = .pointer (some ⟨g8, 0, none⟩) ∧ Aside (Below w.heap.size w W ∧ Has W B (PV S I pa pn pc) 25 ∧ Has W (B + 1) (PV F Z xa xn xc) 27 ∧ Has W g7 (PV S I pa pn pc) 25 ∧ Has W g8 (PV F Z xa xn xc) 27 ∧ g7 ≠ g8 ∧ B + 2 ≤ g7 ∧ B + 2 ≤ g8 ∧ B = w.heap.size))
  case first =>
    have c0 : W0.cell? ⟨B, 0, none⟩ = some (.int .u64 (S : Int)) := R0.out.2.1.cell 0
    have c1 : W0.cell? ⟨B, 1, none⟩ = some (.int .u64 (I : Int)) := R0.out.2.1.cell 1
    have c2 : W0.cell? ⟨B, 2, none⟩ = some (.slice pa pn pc) := R0.out.2.1.cell 2
    have d0 : W0.cell? ⟨B + 1, 0, none⟩ = some (.int .u64 (F : Int)) := R0.out.2.2.1.cell 0
    have d1 : W0.cell? ⟨B + 1, 1, none⟩ = some (.int .u64 (Z : Int)) := R0.out.2.2.1.cell 1
    have d2 : W0.cell? ⟨B + 1, 2, none⟩ = some (.slice xa xn xc) := R0.out.2.2.1.cell 2
    go_region_held3 (fun W : World => W.cell? ⟨B, 0, none⟩ = some (.int .u64 (S : Int)) ∧ W.cell? ⟨B, 1, none⟩ = some (.int .u64 (I : Int)) ∧ W.cell? ⟨B, 2, none⟩ = some (.slice pa pn pc) ∧ W.cell? ⟨B + 1, 0, none⟩ = some (.int .u64 (F : Int)) ∧ W.cell? ⟨B + 1, 1, none⟩ = some (.int .u64 (Z : Int)) ∧ W.cell? ⟨B + 1, 2, none⟩ = some (.slice xa xn xc)) (go_keep) (fail)
    all_goals go_wp2_with fail
    all_goals go_meet
    all_goals obtain ⟨r1, r2, r3, r4, r5⟩ := R0.out
    · have hb : Below W0.heap.size W0 (((W0.alloc (.cells (PV S I pa pn pc) 25)).alloc (.cells (PV F Z xa xn xc) 27)).drew) := (((Below.refl _ _).alloc (Nat.le_refl _) _).alloc (by simp) _).drew
      exact ⟨_, _, rfl, rfl, r1.trans (hb.mono r1.size), r2.keep hb, r3.keep hb, (Has.new W0 _ _).alloc _, Has.at _ _ _ (by simp), by omega, by omega, by omega, r5⟩
    · have hb : Below W0.heap.size W0 (((W0.alloc (.cells (PV F Z xa xn xc) 27)).alloc (.cells (PV S I pa pn pc) 25)).drew) := (((Below.refl _ _).alloc (Nat.le_refl _) _).alloc (by simp) _).drew
      exact ⟨_, _, rfl, rfl, r1.trans (hb.mono r1.size), r2.keep hb, r3.keep hb, Has.at _ _ _ (by simp), (Has.new W0 _ _).alloc _, by omega, by omega, by omega, r5⟩
  case rest =>
    obtain ⟨g7, g8, rfl, rfl, A⟩ := hcut
    generalize wc = W1 at *
    clear R0
    have A0 : Aside (RN0 w W1 B (B + 1) g7 g8 S I pa pn pc F Z xa xn xc pa pc) := by
      obtain ⟨r1, r2, r3, r4, r5, r6, r7, r8, r9⟩ := A.out
      exact ⟨r1, r2, r3, r4, r5, r6, by omega, by omega, by omega, by omega, by omega, by omega⟩
    clear A
    have C1 : Aside (∀ W, Below w.heap.size w W → Calls Tryd.prog 7 #[.slice pa pn pc] W (ROWED W pn pl)) := fun W h => row_ok pa pn pc (by have := HA.out; omega) HA.out.2.2.2.2.1 pl W (HW.out.1.below h)
    have C2 : Aside (∀ W, Below w.heap.size w W → Calls Tryd.prog 7 #[.slice xa xn xc] W (ROWED W xn xl)) := fun W h => row_ok xa xn xc (by have := HA.out; omega) HA.out.2.2.2.2.2.1 xl W (HW.out.2.1.below h)
    have HR : Aside ((∀ x ∈ pl, 0 ≤ x ∧ x ≤ 255) ∧ (∀ x ∈ xl, 0 ≤ x ∧ x ≤ 255)) := ⟨HW.out.1.2.2, HW.out.2.1.2.2⟩
    go_upto_region 4 with fail
    go_cut [] from 36 to 211 (fun W => ∃ rg cg rx cx, Aside (RND w W B (B + 1) g7 g8 S I pa pn pc F Z xa xn xc rg cg rx cx pl xl))
    case first =>
      refine two_rows _ _ _ _ _ _ _ _ _ _ _ _ _ _ _ _ _ _ _ _ _ _ _ _ _ _ _ _ _ _ _ _ _ _ _ _ _ _ _ _ _ _ _ _ _ _ _ _ _ _ _ _ _ _ _ _ _ _ _ _ _ _ _ _ _ _ _ _ _ _ _ _ _ _ _ _ _ _ _ _ _ _ _ _ _ _ _ _ _ _ _ _ _ _ _ _ _ _ _ _ _ _ _ _ _ _ _ _ _ _ _ _ _ _ _ _ _ _ _ _ _ _ _ _ _ _ _ _ _ _ _ _ _ _ _ _ _ _ _ _ _ _ _ _ _ _ _ _ _ _ _ _ _ _ _ _ _ _ _ _ _ _ _ _ _ _ _ _ _ _ _ _ _ _ _ _ _ _ _ _ _ _ _ _ _ _ _ _ _ _ _ _ _ _ _ _ _ _ _ _ _ _ _ _ _ _ _ _ _ B (B + 1) g7 g8 pa pn pc xa xn xc (fun W => RN0 w W B (B + 1) g7 g8 S I pa pn pc F Z xa xn xc pa pc) (fun X W => ∃ rg cg, X = .slice (some ⟨rg, 0, none⟩) pn cg ∧ RN0 w W B (B + 1) g7 g8 S I pa pn pc F Z xa xn xc pa pc ∧ MKD W g7 g8 rg pn cg pl)
        (fun X Y W => ∃ rg cg rx cx, X = .slice (some ⟨rg, 0, none⟩) pn cg ∧ Y = .slice (some ⟨rx, 0, none⟩) xn cx ∧ RN0 w W B (B + 1) g7 g8 S I pa pn pc F Z xa xn xc pa pc ∧ MKD W g7 g8 rg pn cg pl ∧ MKD W g7 g8 rx xn cx xl)
        (fun X Y W => ∃ rg cg rx cx, X = .slice (some ⟨rg, 0, none⟩) pn cg ∧ Y = .slice (some ⟨rx, 0, none⟩) xn cx ∧ RN0 w W B (B + 1) g7 g8 S I pa pn pc F Z xa xn xc (some ⟨rg, 0, none⟩) cg ∧ MKD W g7 g8 rg pn cg pl ∧ MKD W g7 g8 rx xn cx xl)
        (fun X Y W => ∃ rg cg rx cx, X = .slice (some ⟨rg, 0, none⟩) pn cg ∧ Y = .slice (some ⟨rx, 0, none⟩) xn cx ∧ RND w W B (B + 1) g7 g8 S I pa pn pc F Z xa xn xc rg cg rx cx pl xl)
        (fun W h => ⟨h.h3.cell 2, h.h4.cell 2⟩) (fun X W ⟨_, _, _, h, _⟩ => ⟨h.h3.cell 2, h.h4.cell 2⟩) (fun X Y W ⟨_, _, _, _, _, _, h, _⟩ => ⟨h.h3.cell 2, h.h4.cell 2⟩) (fun X Y W ⟨_, _, _, _, _, _, h, _⟩ => ⟨h.h3.cell 2, h.h4.cell 2⟩) (fun X Y W ⟨_, _, _, _, _, _, h⟩ => ⟨h.h3.cell 2, h.h4.cell 2⟩)
        ?_ ?_ ?_ ?_ ⟨A0.out.bel.drew, A0.out.h3, A0.out.h4, A0.out.h7, A0.out.h8, A0.out.ne⟩ (fun _ _ _ _ _ h => h) ?_
      · intro W h
        refine (C1.out W h.bel).mono ?_
        rintro e w1 ⟨rg, cg, rfl, hown, hcap, hrg, hg, hb⟩
        have hr1 := (hown.lt rg rfl).1
        have h7 := h.h7.lt
        have h8 := h.h8.lt
        exact ⟨_, rfl, rg, cg, rfl, h.step hb, own_flat hown HR.out.1, ⟨hrg, hg, hcap⟩, by omega, by omega⟩
      · rintro X W ⟨rg, cg, rfl, h, hm⟩
        refine (C2.out W h.bel).mono ?_
        rintro e w1 ⟨rx, cx, rfl, hown, hcap, hrg, hg, hb⟩
        have hr1 := (hown.lt rx rfl).1
        have h7 := h.h7.lt
        have h8 := h.h8.lt
        exact ⟨_, rfl, rg, cg, rx, cx, rfl, rfl, h.step hb, hm.step hb, own_flat hown HR.out.2, ⟨hrg, hg, hcap⟩, by omega, by omega⟩
      · rintro X Y W ⟨rg, cg, rx, cx, rfl, rfl, h, hm, hm2⟩
        refine ⟨_, store_hashes (h.h7.cell 2) (h.h7.frozen 2), rg, cg, rx, cx, rfl, rfl, ⟨h.bel.setCell (p := ⟨g7, 2, none⟩) h.ne.2.2.2.2.2.1 _, h.h3.other (a := ⟨g7, 2, none⟩) h.ne.2.1 _, h.h4.other (a := ⟨g7, 2, none⟩) h.ne.2.2.2.1 _, h.h7.set 2 _, h.h8.other (a := ⟨g7, 2, none⟩) (fun e => h.ne.1 e.symm) _, h.ne⟩, hm.other (a := ⟨g7, 2, none⟩) hm.ne.1 _, hm2.other (a := ⟨g7, 2, none⟩) hm2.ne.1 _⟩
      · rintro X Y W ⟨rg, cg, rx, cx, rfl, rfl, h, hm, hm2⟩
        have k1 := hm.other (a := ⟨g8, 2, none⟩) hm.ne.2 (.slice (some ⟨rx, 0, none⟩) xn cx)
        have k2 := hm2.other (a := ⟨g8, 2, none⟩) hm2.ne.2 (.slice (some ⟨rx, 0, none⟩) xn cx)
        refine ⟨_, store_hashes (h.h8.cell 2) (h.h8.frozen 2), rg, cg, rx, cx, rfl, rfl, ⟨h.bel.setCell (p := ⟨g8, 2, none⟩) h.ne.2.2.2.2.2.2 _, h.h3.other (a := ⟨g8, 2, none⟩) h.ne.2.2.1 _, h.h4.other (a := ⟨g8, 2, none⟩) h.ne.2.2.2.2.1 _, h.h7.other (a := ⟨g8, 2, none⟩) h.ne.1 _, h.h8.set 2 _, k1.fl, k2.fl, k1.mr, k2.mr⟩⟩
      · rintro X Y W ⟨rg, cg, rx, cx, rfl, rfl, h⟩
        go_wp2_with fail
        go_meet
        exact ⟨rg, cg, rx, cx, h⟩
    case rest =>
      obtain ⟨rg, cg, rx, cx, A⟩ := hcut
      generalize wc = W2 at *
      clear A0 C1 C2 HR
      have HT : Aside (∀ W, Below w.heap.size w W → Tabled W ∧ 0 < W.heap.size ∧ Flat W pa pn pl ∧ Flat W xa xn xl) := fun W h => ⟨HW.out.2.2.1.below HW.out.2.2.2 h, Nat.lt_of_lt_of_le HW.out.2.2.2 h.size, HW.out.1.below h, HW.out.2.1.below h⟩
      clear HW
      obtain ⟨E, L, hEc⟩ : ∃ E L, ENC S I pn pl = (E, L) := ⟨_, _, rfl⟩
      obtain ⟨E', L', hEc'⟩ : ∃ E L, ENX F Z xn xl = (E, L) := ⟨_, _, rfl⟩
      obtain ⟨N, hN⟩ : ∃ N, L.length = N := ⟨_, rfl⟩
      obtain ⟨M, hM⟩ : ∃ M, L'.length = M := ⟨_, rfl⟩
      have HE : Aside (ENC S I pn pl = (E, L) ∧ ENX F Z xn xl = (E', L') ∧ (∀ x ∈ L, 0 ≤ x ∧ x ≤ 255) ∧ (∀ x ∈ L', 0 ≤ x ∧ x ≤ 255) ∧ L.length = N ∧ L'.length = M ∧ N ≤ 10000 ∧ M ≤ 10000) := ⟨hEc, hEc', ENCB_range HA.out.1 HA.out.2.1 (by decide) A.out.fg.2.2 hEc, ENCB_range HA.out.2.2.1 HA.out.2.2.2.1 (by decide) A.out.fx.2.2 hEc', hN, hM, by have h1 := ENCB_long A.out.fg.1 hEc; have h2 := HA.out; omega, by have h1 := ENCB_long A.out.fx.1 hEc'; have h2 := HA.out; omega⟩
      clear hEc hEc' hN hM
      have y0 : W2.cell? ⟨B, 0, none⟩ = some (.int .u64 (S : Int)) := A.out.h3.cell 0
      have y1 : W2.cell? ⟨B, 1, none⟩ = some (.int .u64 (I : Int)) := A.out.h3.cell 1
      have y2 : W2.cell? ⟨B, 2, none⟩ = some (.slice pa pn pc) := A.out.h3.cell 2
      go_wp2_with fail
      clear y0 y1 y2
      have cE := refencode_ok S I HA.out.1 HA.out.2.1 pa pn pc (by have := HA.out; omega) pl W2 (HT.out _ A.out.bel).2.2.1
      rw [HE.out.1] at cE
      refine cE.mono ?_
      clear cE
      rintro e w3 ⟨v, rfl, hrow, hb⟩
      dsimp only at *
      obtain ⟨a7, c7, rfl, hBy, hcc⟩ := own_sl hrow HE.out.2.2.1
      rw [HE.out.2.2.2.2.1] at hBy ⊢
      have A' : Aside (RND w w3 B (B + 1) g7 g8 S I pa pn pc F Z xa xn xc rg cg rx cx pl xl) := A.out.step hb
      have Y1 : Aside (Bytes w3 a7 N L) := hBy
      clear hrow hb hBy hcc A
      have A := A'
      clear A'
      have y0 : w3.cell? ⟨B + 1, 0, none⟩ = some (.int .u64 (F : Int)) := A.out.h4.cell 0
      have y1 : w3.cell? ⟨B + 1, 1, none⟩ = some (.int .u64 (Z : Int)) := A.out.h4.cell 1
      have y2 : w3.cell? ⟨B + 1, 2, none⟩ = some (.slice xa xn xc) := A.out.h4.cell 2
      go_wp2_with fail
      clear y0 y1 y2
      have cE := refencodeprefix_ok F Z HA.out.2.2.1 HA.out.2.2.2.1 xa xn xc (by have := HA.out; omega) xl w3 (HT.out _ A.out.bel).2.2.2
      rw [HE.out.2.1] at cE
      refine cE.mono ?_
      clear cE
      rintro e w4 ⟨v, rfl, hrow, hb⟩
      dsimp only at *
      obtain ⟨a9, c9, rfl, hBy, hcc⟩ := own_sl hrow HE.out.2.2.2.1
      rw [HE.out.2.2.2.2.2.1] at hBy ⊢
      have A' : Aside (RND w w4 B (B + 1) g7 g8 S I pa pn pc F Z xa xn xc rg cg rx cx pl xl) := A.out.step hb
      have Y2 : Aside (Bytes w4 a7 N L ∧ Bytes w4 a9 M L') := ⟨Y1.out.below hb, hBy⟩
      clear Y1
      clear hrow hb hBy hcc A
      have A := A'
      clear A'
      generalize w4 = wp at *
      have G0 : Aside (Below wp.heap.size wp wp ∧ Bytes wp a7 N L ∧ Bytes wp a9 M L') := ⟨Below.refl _ _, Y2.out.1, Y2.out.2⟩
      clear Y2
      have RU := A.out.step (G0.out.1)
      have y0 : wp.cell? ⟨g7, 0, none⟩ = some (.int .u64 (S : Int)) := RU.h7.cell 0
      have y1 : wp.cell? ⟨g7, 1, none⟩ = some (.int .u64 (I : Int)) := RU.h7.cell 1
      have y2 : wp.cell? ⟨g7, 2, none⟩ = some (.slice (some ⟨rg, 0, none⟩) pn cg) := RU.h7.cell 2
      go_wp2_with fail
      clear y0 y1 y2
      have cE := encode_ok S I HA.out.1 HA.out.2.1 (some ⟨rg, 0, none⟩) pn cg (by have := HA.out; omega) pl wp RU.fg (HT.out _ RU.bel).1 (HT.out _ RU.bel).2.1
      rw [HE.out.1] at cE
      refine cE.mono ?_
      clear cE
      rintro e w5 ⟨v, rfl, hrow, hb⟩
      dsimp only at *
      obtain ⟨a11, c11, rfl, hBy, hcc⟩ := own_sl hrow HE.out.2.2.1
      rw [HE.out.2.2.2.2.1] at hBy hrow ⊢
      have G1 : Aside (Below wp.heap.size wp w5 ∧ Bytes w5 a7 N L ∧ Bytes w5 a9 M L' ∧ w5.ownsRow wp.heap.size 5 1 (.slice a11 N c11) N (CELLS L) ∧ (∀ g, (Value.slice a11 N c11).ownBlock = some g → wp.heap.size ≤ g ∧ g < w5.heap.size)) := ⟨G0.out.1.trans (hb.mono G0.out.1.size), G0.out.2.1.below hb, G0.out.2.2.below hb, own_mono hrow (G0.out.1).size, fun g e => by have h1 := hrow.lt g e; exact ⟨h1.1, h1.2⟩⟩
      clear hrow hb hBy hcc RU G0
      have RU := A.out.step (G1.out.1)
      have y0 : w5.cell? ⟨g7, 0, none⟩ = some (.int .u64 (S : Int)) := RU.h7.cell 0
      have y1 : w5.cell? ⟨g7, 1, none⟩ = some (.int .u64 (I : Int)) := RU.h7.cell 1
      have y2 : w5.cell? ⟨g7, 2, none⟩ = some (.slice (some ⟨rg, 0, none⟩) pn cg) := RU.h7.cell 2
      go_wp2_with fail
      clear y0 y1 y2
      have cE := encode_ok S I HA.out.1 HA.out.2.1 (some ⟨rg, 0, none⟩) pn cg (by have := HA.out; omega) pl w5 RU.fg (HT.out _ RU.bel).1 (HT.out _ RU.bel).2.1
      rw [HE.out.1] at cE
      refine cE.mono ?_
      clear cE
      rintro e w6 ⟨v, rfl, hrow, hb⟩
      dsimp only at *
      obtain ⟨a13, c13, rfl, hBy, hcc⟩ := own_sl hrow HE.out.2.2.1
      rw [HE.out.2.2.2.2.1] at hBy hrow ⊢
      have G2 : Aside (Below wp.heap.size wp w6 ∧ Bytes w6 a7 N L ∧ Bytes w6 a9 M L' ∧ w6.ownsRow wp.heap.size 5 1 (.slice a11 N c11) N (CELLS L) ∧ (∀ g, (Value.slice a11 N c11).ownBlock = some g → wp.heap.size ≤ g ∧ g < w5.heap.size) ∧ w6.ownsRow wp.heap.size 5 1 (.slice a13 N c13) N (CELLS L) ∧ (∀ g, (Value.slice a13 N c13).ownBlock = some g → w5.heap.size ≤ g ∧ g < w6.heap.size) ∧ (w5.heap.size ≤ w6.heap.size)) := ⟨G1.out.1.trans (hb.mono G1.out.1.size), G1.out.2.1.below hb, G1.out.2.2.1.below hb, own_below (G1.out.2.2.2.1) hb, G1.out.2.2.2.2, own_mono hrow (G1.out.1).size, fun g e => by have h1 := hrow.lt g e; exact ⟨h1.1, h1.2⟩, hb.size⟩
      clear hrow hb hBy hcc RU G1
      have RU := A.out.step (G2.out.1)
      have y0 : w6.cell? ⟨g8, 0, none⟩ = some (.int .u64 (F : Int)) := RU.h8.cell 0
      have y1 : w6.cell? ⟨g8, 1, none⟩ = some (.int .u64 (Z : Int)) := RU.h8.cell 1
      have y2 : w6.cell? ⟨g8, 2, none⟩ = some (.slice (some ⟨rx, 0, none⟩) xn cx) := RU.h8.cell 2
      go_wp2_with fail
      clear y0 y1 y2
      have cE := encodeprefix_ok F Z HA.out.2.2.1 HA.out.2.2.2.1 (some ⟨rx, 0, none⟩) xn cx (by have := HA.out; omega) xl w6 RU.fx (HT.out _ RU.bel).1 (HT.out _ RU.bel).2.1
      rw [HE.out.2.1] at cE
      refine cE.mono ?_
      clear cE
      rintro e w7 ⟨v, rfl, hrow, hb⟩
      dsimp only at *
      obtain ⟨a15, c15, rfl, hBy, hcc⟩ := own_sl hrow HE.out.2.2.2.1
      rw [HE.out.2.2.2.2.2.1] at hBy hrow ⊢
      have G3 : Aside (Below wp.heap.size wp w7 ∧ Bytes w7 a7 N L ∧ Bytes w7 a9 M L' ∧ w7.ownsRow wp.heap.size 5 1 (.slice a11 N c11) N (CELLS L) ∧ (∀ g, (Value.slice a11 N c11).ownBlock = some g → wp.heap.size ≤ g ∧ g < w5.heap.size) ∧ w7.ownsRow wp.heap.size 5 1 (.slice a13 N c13) N (CELLS L) ∧ (∀ g, (Value.slice a13 N c13).ownBlock = some g → w5.heap.size ≤ g ∧ g < w6.heap.size) ∧ w7.ownsRow wp.heap.size 5 1 (.slice a15 M c15) M (CELLS L') ∧ (∀ g, (Value.slice a15 M c15).ownBlock = some g → w6.heap.size ≤ g ∧ g < w7.heap.size) ∧ (w5.heap.size ≤ w6.heap.size ∧ w6.heap.size ≤ w7.heap.size)) := ⟨G2.out.1.trans (hb.mono G2.out.1.size), G2.out.2.1.below hb, G2.out.2.2.1.below hb, own_below (G2.out.2.2.2.1) hb, G2.out.2.2.2.2.1, own_below (G2.out.2.2.2.2.2.1) hb, G2.out.2.2.2.2.2.2.1, own_mono hrow (G2.out.1).size, fun g e => by have h1 := hrow.lt g e; exact ⟨h1.1, h1.2⟩, ⟨G2.out.2.2.2.2.2.2.2, hb.size⟩⟩
      clear hrow hb hBy hcc RU G2
      have RU := A.out.step (G3.out.1)
      have y0 : w7.cell? ⟨g8, 0, none⟩ = some (.int .u64 (F : Int)) := RU.h8.cell 0
      have y1 : w7.cell? ⟨g8, 1, none⟩ = some (.int .u64 (Z : Int)) := RU.h8.cell 1
      have y2 : w7.cell? ⟨g8, 2, none⟩ = some (.slice (some ⟨rx, 0, none⟩) xn cx) := RU.h8.cell 2
      go_wp2_with fail
      clear y0 y1 y2
      have cE := encodeprefix_ok F Z HA.out.2.2.1 HA.out.2.2.2.1 (some ⟨rx, 0, none⟩) xn cx (by have := HA.out; omega) xl w7 RU.fx (HT.out _ RU.bel).1 (HT.out _ RU.bel).2.1
      rw [HE.out.2.1] at cE
      refine cE.mono ?_
      clear cE
      rintro e w8 ⟨v, rfl, hrow, hb⟩
      dsimp only at *
      obtain ⟨a17, c17, rfl, hBy, hcc⟩ := own_sl hrow HE.out.2.2.2.1
      rw [HE.out.2.2.2.2.2.1] at hBy hrow ⊢
      have G4 : Aside (Below wp.heap.size wp w8 ∧ Bytes w8 a7 N L ∧ Bytes w8 a9 M L' ∧ w8.ownsRow wp.heap.size 5 1 (.slice a11 N c11) N (CELLS L) ∧ (∀ g, (Value.slice a11 N c11).ownBlock = some g → wp.heap.size ≤ g ∧ g < w5.heap.size) ∧ w8.ownsRow wp.heap.size 5 1 (.slice a13 N c13) N (CELLS L) ∧ (∀ g, (Value.slice a13 N c13).ownBlock = some g → w5.heap.size ≤ g ∧ g < w6.heap.size) ∧ w8.ownsRow wp.heap.size 5 1 (.slice a15 M c15) M (CELLS L') ∧ (∀ g, (Value.slice a15 M c15).ownBlock = some g → w6.heap.size ≤ g ∧ g < w7.heap.size) ∧ w8.ownsRow wp.heap.size 5 1 (.slice a17 M c17) M (CELLS L') ∧ (∀ g, (Value.slice a17 M c17).ownBlock = some g → w7.heap.size ≤ g ∧ g < w8.heap.size) ∧ (w5.heap.size ≤ w6.heap.size ∧ w6.heap.size ≤ w7.heap.size ∧ w7.heap.size ≤ w8.heap.size) ∧ w8.heap.size ≤ w8.heap.size) := ⟨G3.out.1.trans (hb.mono G3.out.1.size), G3.out.2.1.below hb, G3.out.2.2.1.below hb, own_below (G3.out.2.2.2.1) hb, G3.out.2.2.2.2.1, own_below (G3.out.2.2.2.2.2.1) hb, G3.out.2.2.2.2.2.2.1, own_below (G3.out.2.2.2.2.2.2.2.1) hb, G3.out.2.2.2.2.2.2.2.2.1, own_mono hrow (G3.out.1).size, fun g e => by have h1 := hrow.lt g e; exact ⟨h1.1, h1.2⟩, ⟨G3.out.2.2.2.2.2.2.2.2.2.1, G3.out.2.2.2.2.2.2.2.2.2.2, hb.size⟩, Nat.le_refl _⟩
      clear hrow hb hBy hcc RU G3
      go_wp2_with fail
      refine (bytes_ok a11 a7 N N c11 c7 L L w8 (own_bytes_any (G4.out.2.2.2.1) HE.out.2.2.1).1 (G4.out.2.1) (by have := HE.out; omega)).mono ?_
      rintro e w9 ⟨rfl, hb⟩
      have hdt : decide (L = L) = true := by simp
      rw [hdt]
      have G5 : Aside (Below wp.heap.size wp w9 ∧ Bytes w9 a7 N L ∧ Bytes w9 a9 M L' ∧ w9.ownsRow wp.heap.size 5 1 (.slice a11 N c11) N (CELLS L) ∧ (∀ g, (Value.slice a11 N c11).ownBlock = some g → wp.heap.size ≤ g ∧ g < w5.heap.size) ∧ w9.ownsRow wp.heap.size 5 1 (.slice a13 N c13) N (CELLS L) ∧ (∀ g, (Value.slice a13 N c13).ownBlock = some g → w5.heap.size ≤ g ∧ g < w6.heap.size) ∧ w9.ownsRow wp.heap.size 5 1 (.slice a15 M c15) M (CELLS L') ∧ (∀ g, (Value.slice a15 M c15).ownBlock = some g → w6.heap.size ≤ g ∧ g < w7.heap.size) ∧ w9.ownsRow wp.heap.size 5 1 (.slice a17 M c17) M (CELLS L') ∧ (∀ g, (Value.slice a17 M c17).ownBlock = some g → w7.heap.size ≤ g ∧ g < w8.heap.size) ∧ (w5.heap.size ≤ w6.heap.size ∧ w6.heap.size ≤ w7.heap.size ∧ w7.heap.size ≤ w8.heap.size) ∧ w8.heap.size ≤ w9.heap.size) := ⟨G4.out.1.trans (hb.mono G4.out.1.size), G4.out.2.1.below hb, G4.out.2.2.1.below hb, own_below (G4.out.2.2.2.1) hb, G4.out.2.2.2.2.1, own_below (G4.out.2.2.2.2.2.1) hb, G4.out.2.2.2.2.2.2.1, own_below (G4.out.2.2.2.2.2.2.2.1) hb, G4.out.2.2.2.2.2.2.2.2.1, own_below (G4.out.2.2.2.2.2.2.2.2.2.1) hb, G4.out.2.2.2.2.2.2.2.2.2.2.1, G4.out.2.2.2.2.2.2.2.2.2.2.2.1, Nat.le_trans (G4.out.2.2.2.2.2.2.2.2.2.2.2.2) hb.size⟩
      clear hb hdt G4
      go_wp2_with fail
      refine (bytes_ok a13 a7 N N c13 c7 L L w9 (own_bytes_any (G5.out.2.2.2.2.2.1) HE.out.2.2.1).1 (G5.out.2.1) (by have := HE.out; omega)).mono ?_
      rintro e w10 ⟨rfl, hb⟩
      have hdt : decide (L = L) = true := by simp
      rw [hdt]
      have G6 : Aside (Below wp.heap.size wp w10 ∧ Bytes w10 a7 N L ∧ Bytes w10 a9 M L' ∧ w10.ownsRow wp.heap.size 5 1 (.slice a11 N c11) N (CELLS L) ∧ (∀ g, (Value.slice a11 N c11).ownBlock = some g → wp.heap.size ≤ g ∧ g < w5.heap.size) ∧ w10.ownsRow wp.heap.size 5 1 (.slice a13 N c13) N (CELLS L) ∧ (∀ g, (Value.slice a13 N c13).ownBlock = some g → w5.heap.size ≤ g ∧ g < w6.heap.size) ∧ w10.ownsRow wp.heap.size 5 1 (.slice a15 M c15) M (CELLS L') ∧ (∀ g, (Value.slice a15 M c15).ownBlock = some g → w6.heap.size ≤ g ∧ g < w7.heap.size) ∧ w10.ownsRow wp.heap.size 5 1 (.slice a17 M c17) M (CELLS L') ∧ (∀ g, (Value.slice a17 M c17).ownBlock = some g → w7.heap.size ≤ g ∧ g < w8.heap.size) ∧ (w5.heap.size ≤ w6.heap.size ∧ w6.heap.size ≤ w7.heap.size ∧ w7.heap.size ≤ w8.heap.size) ∧ w8.heap.size ≤ w10.heap.size) := ⟨G5.out.1.trans (hb.mono G5.out.1.size), G5.out.2.1.below hb, G5.out.2.2.1.below hb, own_below (G5.out.2.2.2.1) hb, G5.out.2.2.2.2.1, own_below (G5.out.2.2.2.2.2.1) hb, G5.out.2.2.2.2.2.2.1, own_below (G5.out.2.2.2.2.2.2.2.1) hb, G5.out.2.2.2.2.2.2.2.2.1, own_below (G5.out.2.2.2.2.2.2.2.2.2.1) hb, G5.out.2.2.2.2.2.2.2.2.2.2.1, G5.out.2.2.2.2.2.2.2.2.2.2.2.1, Nat.le_trans (G5.out.2.2.2.2.2.2.2.2.2.2.2.2) hb.size⟩
      clear hb hdt G5
      go_wp2_with fail
      refine (bytes_ok a15 a9 M M c15 c9 L' L' w10 (own_bytes_any (G6.out.2.2.2.2.2.2.2.1) HE.out.2.2.2.1).1 (G6.out.2.2.1) (by have := HE.out; omega)).mono ?_
      rintro e w11 ⟨rfl, hb⟩
      have hdt : decide (L' = L') = true := by simp
      rw [hdt]
      have G7 : Aside (Below wp.heap.size wp w11 ∧ Bytes w11 a7 N L ∧ Bytes w11 a9 M L' ∧ w11.ownsRow wp.heap.size 5 1 (.slice a11 N c11) N (CELLS L) ∧ (∀ g, (Value.slice a11 N c11).ownBlock = some g → wp.heap.size ≤ g ∧ g < w5.heap.size) ∧ w11.ownsRow wp.heap.size 5 1 (.slice a13 N c13) N (CELLS L) ∧ (∀ g, (Value.slice a13 N c13).ownBlock = some g → w5.heap.size ≤ g ∧ g < w6.heap.size) ∧ w11.ownsRow wp.heap.size 5 1 (.slice a15 M c15) M (CELLS L') ∧ (∀ g, (Value.slice a15 M c15).ownBlock = some g → w6.heap.size ≤ g ∧ g < w7.heap.size) ∧ w11.ownsRow wp.heap.size 5 1 (.slice a17 M c17) M (CELLS L') ∧ (∀ g, (Value.slice a17 M c17).ownBlock = some g → w7.heap.size ≤ g ∧ g < w8.heap.size) ∧ (w5.heap.size ≤ w6.heap.size ∧ w6.heap.size ≤ w7.heap.size ∧ w7.heap.size ≤ w8.heap.size) ∧ w8.heap.size ≤ w11.heap.size) := ⟨G6.out.1.trans (hb.mono G6.out.1.size), G6.out.2.1.below hb, G6.out.2.2.1.below hb, own_below (G6.out.2.2.2.1) hb, G6.out.2.2.2.2.1, own_below (G6.out.2.2.2.2.2.1) hb, G6.out.2.2.2.2.2.2.1, own_below (G6.out.2.2.2.2.2.2.2.1) hb, G6.out.2.2.2.2.2.2.2.2.1, own_below (G6.out.2.2.2.2.2.2.2.2.2.1) hb, G6.out.2.2.2.2.2.2.2.2.2.2.1, G6.out.2.2.2.2.2.2.2.2.2.2.2.1, Nat.le_trans (G6.out.2.2.2.2.2.2.2.2.2.2.2.2) hb.size⟩
      clear hb hdt G6
      go_wp2_with fail
      refine (bytes_ok a17 a9 M M c17 c9 L' L' w11 (own_bytes_any (G7.out.2.2.2.2.2.2.2.2.2.1) HE.out.2.2.2.1).1 (G7.out.2.2.1) (by have := HE.out; omega)).mono ?_
      rintro e w12 ⟨rfl, hb⟩
      have hdt : decide (L' = L') = true := by simp
      rw [hdt]
      have G8 : Aside (Below wp.heap.size wp w12 ∧ Bytes w12 a7 N L ∧ Bytes w12 a9 M L' ∧ w12.ownsRow wp.heap.size 5 1 (.slice a11 N c11) N (CELLS L) ∧ (∀ g, (Value.slice a11 N c11).ownBlock = some g → wp.heap.size ≤ g ∧ g < w5.heap.size) ∧ w12.ownsRow wp.heap.size 5 1 (.slice a13 N c13) N (CELLS L) ∧ (∀ g, (Value.slice a13 N c13).ownBlock = some g → w5.heap.size ≤ g ∧ g < w6.heap.size) ∧ w12.ownsRow wp.heap.size 5 1 (.slice a15 M c15) M (CELLS L') ∧ (∀ g, (Value.slice a15 M c15).ownBlock = some g → w6.heap.size ≤ g ∧ g < w7.heap.size) ∧ w12.ownsRow wp.heap.size 5 1 (.slice a17 M c17) M (CELLS L') ∧ (∀ g, (Value.slice a17 M c17).ownBlock = some g → w7.heap.size ≤ g ∧ g < w8.heap.size) ∧ (w5.heap.size ≤ w6.heap.size ∧ w6.heap.size ≤ w7.heap.size ∧ w7.heap.size ≤ w8.heap.size) ∧ w8.heap.size ≤ w12.heap.size) := ⟨G7.out.1.trans (hb.mono G7.out.1.size), G7.out.2.1.below hb, G7.out.2.2.1.below hb, own_below (G7.out.2.2.2.1) hb, G7.out.2.2.2.2.1, own_below (G7.out.2.2.2.2.2.1) hb, G7.out.2.2.2.2.2.2.1, own_below (G7.out.2.2.2.2.2.2.2.1) hb, G7.out.2.2.2.2.2.2.2.2.1, own_below (G7.out.2.2.2.2.2.2.2.2.2.1) hb, G7.out.2.2.2.2.2.2.2.2.2.2.1, G7.out.2.2.2.2.2.2.2.2.2.2.2.1, Nat.le_trans (G7.out.2.2.2.2.2.2.2.2.2.2.2.2) hb.size⟩
      clear hb hdt G7
      go_upto_region 15 with fail
      obtain ⟨gf, hgf⟩ : ∃ gf, gf = w12.heap.size := ⟨_, rfl⟩
      have hb : Below w12.heap.size w12 ((w12.alloc (.cells #[.slice a11 N c11, .slice a13 N c13, .slice a15 M c15, .slice a17 M c17] 28)).alloc (.cells #[.slice none 0 0, .slice none 0 0, .slice none 0 0, .slice none 0 0] 48)) := ((Below.refl _ _).alloc (Nat.le_refl _) _).alloc (by simp) _
      have J0 : Aside (Below wp.heap.size wp ((w12.alloc (.cells #[.slice a11 N c11, .slice a13 N c13, .slice a15 M c15, .slice a17 M c17] 28)).alloc (.cells #[.slice none 0 0, .slice none 0 0, .slice none 0 0, .slice none 0 0] 48)) ∧ FAM 4 5 1 ((w12.alloc (.cells #[.slice a11 N c11, .slice a13 N c13, .slice a15 M c15, .slice a17 M c17] 28)).alloc (.cells #[.slice none 0 0, .slice none 0 0, .slice none 0 0, .slice none 0 0] 48)) wp.heap.size (fun k => k = gf ∨ k = gf + 1) (V4 (.slice a11 N c11) (.slice a13 N c13) (.slice a15 M c15) (.slice a17 M c17)) (V4 N N M M) (V4 (CELLS L) (CELLS L) (CELLS L') (CELLS L')) ∧ Has ((w12.alloc (.cells #[.slice a11 N c11, .slice a13 N c13, .slice a15 M c15, .slice a17 M c17] 28)).alloc (.cells #[.slice none 0 0, .slice none 0 0, .slice none 0 0, .slice none 0 0] 48)) gf (ARR4 (V4 (.slice a11 N c11) (.slice a13 N c13) (.slice a15 M c15) (.slice a17 M c17))) 28 ∧ Has ((w12.alloc (.cells #[.slice a11 N c11, .slice a13 N c13, .slice a15 M c15, .slice a17 M c17] 28)).alloc (.cells #[.slice none 0 0, .slice none 0 0, .slice none 0 0, .slice none 0 0] 48)) (gf + 1) (ARR4 (fun _ => .slice none 0 0)) 48 ∧ wp.heap.size ≤ gf) := by
        refine ⟨(G8.out.1).trans (hb.mono (G8.out.1).size), (FAM.behind (G8.out.2.2.2.1) (G8.out.2.2.2.2.2.1) (G8.out.2.2.2.2.2.2.2.1) (G8.out.2.2.2.2.2.2.2.2.2.1) (G8.out.2.2.2.2.1) (G8.out.2.2.2.2.2.2.1) (G8.out.2.2.2.2.2.2.2.2.1) (G8.out.2.2.2.2.2.2.2.2.2.2.1) (G8.out.2.2.2.2.2.2.2.2.2.2.2.1) (fun k hk => ?_)).below hb, ?_, ?_, ?_⟩
        · have h1 := G8.out.2.2.2.2.2.2.2.2.2.2.2.2
          omega
        · rw [hgf]
          exact (Has.new w12 _ _).alloc _
        · exact Has.at _ _ _ (by rw [hgf]; simp)
        · rw [hgf]
          exact (G8.out.1).size
      rw [← hgf]
      clear hgf hb G8
      generalize (w12.alloc (.cells #[.slice a11 N c11, .slice a13 N c13, .slice a15 M c15, .slice a17 M c17] 28)).alloc (.cells #[.slice none 0 0, .slice none 0 0, .slice none 0 0, .slice none 0 0] 48) = W13 at *
      obtain ⟨V, NN, X0, J⟩ : ∃ V NN X0, Aside (Below wp.heap.size wp W13 ∧ FAM 4 5 1 W13 wp.heap.size (fun k => k = gf ∨ k = gf + 1) V NN X0 ∧ Has W13 gf (ARR4 V) 28 ∧ Has W13 (gf + 1) (ARR4 (fun _ => .slice none 0 0)) 48 ∧ wp.heap.size ≤ gf ∧ ∀ x, x < 4 → NN x ≤ 10000) := ⟨_, _, _, J0.out.1, J0.out.2.1, J0.out.2.2.1, J0.out.2.2.2.1, J0.out.2.2.2.2, four_cases HE.out.2.2.2.2.2.2.1 HE.out.2.2.2.2.2.2.1 HE.out.2.2.2.2.2.2.2 HE.out.2.2.2.2.2.2.2⟩
      clear J0
      have SLC : Aside (∀ x, x < 4 → ∃ a c, V x = .slice a (NN x) c) := fun x hx => by
        rcases (J.out.2.1.row x hx).2 with ⟨e, h0⟩ | ⟨g, cap, cur, e, _⟩
        · exact ⟨none, 0, by rw [e, h0]⟩
        · exact ⟨_, _, e⟩
      have NB : Aside ((∀ x, x < 4 → NN x ≤ 10000) ∧ wp.heap.size ≤ gf) := ⟨J.out.2.2.2.2.2, J.out.2.2.2.2.1⟩
      go_wp2_with fail
      go_loopg [21] 4 (fun q s21 wx => ∃ m : Nat, s21 = .int .i64 (m : Int) ∧ Aside (m + q = 4 ∧ Below wp.heap.size wp wx ∧ FAM 4 5 1 wx wp.heap.size (fun k => k = gf ∨ k = gf + 1) V NN (XM X0 NN m) ∧ Has wx gf (ARR4 V) 28 ∧ Has wx (gf + 1) (ARR4 (fun _ => .slice none 0 0)) 48))
      case atStart => exact ⟨0, rfl, by omega, J.out.1, J.out.2.1.same (fun _ _ => rfl) (fun _ _ => rfl) (fun x _ => by unfold XM; rw [if_neg (by omega)]), J.out.2.2.1, J.out.2.2.2.1⟩
      case round =>
        obtain ⟨m, rfl, A1⟩ := hrel
        clear J
        cases gk with
        | succ q =>
          obtain ⟨q1, q2, q3, q4, q5⟩ := A1.out
          have hm : m < 4 := by omega
          have hlt : (m : Int) < 4 := by omega
          obtain ⟨am, cm, hVm⟩ := SLC.out m hm
          have hX : XM X0 NN m m = X0 m := by unfold XM; rw [if_neg (by omega)]
          have hnm := NB.out.1 m hm
          have hrow := q3.row m hm
          rw [hVm, hX] at hrow
          obtain ⟨n, hn⟩ : ∃ n, NN m = n := ⟨_, rfl⟩
          rw [hn] at hVm hrow hnm
          have hlen : (X0 m).length = n := by have := hrow.1; omega
          have hcf : wr.cell? ⟨gf, m, none⟩ = some (.slice am n cm) := by rw [q4.cell, ARR4_at V m hm, hVm]
          have hgfn : (Value.slice am n cm).ownBlock ≠ some gf := fun e => by rw [← hVm] at e; exact q3.off m hm gf e (.inl rfl)
          have B1 : Aside (m + 1 + q = 4 ∧ Below wp.heap.size wp wr ∧ FAM 4 5 1 wr wp.heap.size (fun k => k = gf ∨ k = gf + 1) V NN (XM X0 NN m) ∧ Has wr gf (ARR4 V) 28 ∧ Has wr (gf + 1) (ARR4 (fun _ => .slice none 0 0)) 48 ∧ m < 4 ∧ V m = .slice am n cm ∧ NN m = n ∧ n ≤ 10000 ∧ (X0 m).length = n ∧ (Value.slice am n cm).ownBlock ≠ some gf ∧ wr.ownsRow wp.heap.size 5 1 (.slice am n cm) n (X0 m)) := ⟨by omega, q2, q3, q4, q5, hm, hVm, hn, hnm, hlen, hgfn, hrow⟩
          clear q1 q2 q3 q4 q5 hm hVm hX hnm hn hlen hgfn hrow A1
          go_wp2_with fail
          clear hcf hlt
          generalize wr = wo at *
          go_loopg [22] n (fun p s22 wx => ∃ j : Nat, s22 = .int .i64 (j : Int) ∧ Aside (j + p = n ∧ wx.ownsRow wp.heap.size 5 1 (.slice am n cm) n (OVER (X0 m) (.int .u8 (MKB m)) j) ∧ wo.grownBy wx (Value.slice am n cm).ownBlock))
          case atStart => exact ⟨0, rfl, by omega, by rw [OVER_zero]; exact B1.out.2.2.2.2.2.2.2.2.2.2.2, grown_refl _ _⟩
          case round =>
            obtain ⟨j, rfl, A2⟩ := hrel
            obtain ⟨b1, b2, b3, b4', b5, b6, b7, b8, b9, b10, b11, b12⟩ := B1.out
            have hcf : wr.cell? ⟨gf, m, none⟩ = some (.slice am n cm) := by rw [(b4'.grown A2.out.2.2 b11).cell, ARR4_at V m b6, b7]
            have hm4 : (m : Int) < 4 := by omega
            have hmp : (0 : Int) ≤ (m : Int) := by omega
            cases gk with
            | zero =>
              obtain rfl : j = n := by have := A2.out.1; omega
              have hlt : ¬ (j : Int) < (j : Int) := by omega
              have R : Aside (m + 1 + q = 4 ∧ Below wp.heap.size wp wr ∧ FAM 4 5 1 wr wp.heap.size (fun k => k = gf ∨ k = gf + 1) V NN (XM X0 NN (m + 1)) ∧ Has wr gf (ARR4 V) 28 ∧ Has wr (gf + 1) (ARR4 (fun _ => .slice none 0 0)) 48) := by
                obtain ⟨_, h1, h2⟩ := A2.out
                have e : OVER (X0 m) (.int .u8 (MKB m)) j = RPB j m := by
                  have := OVER_all (X0 m) (.int .u8 (MKB m))
                  rw [b10] at this
                  rw [this, RPB_eq]
                rw [e] at h1
                rw [← b7] at h2
                obtain ⟨f1, f2⟩ := b3.over (x := m) (ys := RPB j m) b6 (fun k hk => by rcases hk with rfl | rfl; exact b4'.lt; exact b5.lt) (by rw [b7, b8]; exact h1) h2
                refine ⟨b1, b2.grown h2 b2.size (fun k e => ((b3.row m b6).lt k e).1), f1.same (fun _ _ => rfl) (fun _ _ => rfl) (fun x _ => by rw [← XM_next, b8]), (f2 gf (.inl rfl)).trans b4', (f2 (gf + 1) (.inr rfl)).trans b5⟩
              have E1 : Aside (wrap64 ((m : Int) + 1) = ((m + 1 : Nat) : Int)) := by show wrap64 ((m : Int) + 1) = ((m + 1 : Nat) : Int); unfold wrap64; omega
              clear b1 b2 b3 b4' b5 b6 b7 b8 b9 b10 b11 b12 A2 B1
              have e1 := E1.out
              go_wp2
              go_roundg q
              case measure => exact Nat.lt_succ_self _
              case rel => exact ⟨m + 1, by first | rfl | (rw [E1.out]), R.out⟩
            | succ p =>
              obtain ⟨a1, a2, a3⟩ := A2.out
              have hlt : (j : Int) < (n : Int) := by omega
              obtain ⟨g, rfl⟩ : ∃ g, am = some ⟨g, 0, none⟩ := by
                rcases a2.2 with ⟨_, h0⟩ | ⟨g, cap, cur, e, _⟩
                · omega
                · cases e
                  exact ⟨g, rfl⟩
              have hc := a2.cellAt j (by omega)
              obtain ⟨x, hx⟩ : ∃ x, (OVER (X0 m) (.int .u8 (MKB m)) j)[j]? = some x := ⟨_, List.getElem?_eq_getElem (by have := a2.1; omega)⟩
              rw [hx] at hc
              have hfz := a2.frozenAt j
              have hst := (a2.stored j (.int .u8 (MKB m))).1
              have hnx := OVER_next (u := .int .u8 (MKB m)) (show j < (X0 m).length by omega)
              have R : Aside (j + 1 + p = n ∧ (wr.setCell ⟨g, j, none⟩ (.int .u8 (MKB m))).ownsRow wp.heap.size 5 1 (.slice (some ⟨g, 0, none⟩) n cm) n (OVER (X0 m) (.int .u8 (MKB m)) (j + 1)) ∧ wo.grownBy (wr.setCell ⟨g, j, none⟩ (.int .u8 (MKB m))) (Value.slice (some ⟨g, 0, none⟩) n cm).ownBlock) := ⟨by omega, by rw [← hnx]; exact hst, grown_trans a3 (grown_set wr g j _) (.inl rfl)⟩
              have E1 : Aside (wrap64 ((j : Int) + 1) = ((j + 1 : Nat) : Int)) := by show wrap64 ((j : Int) + 1) = ((j + 1 : Nat) : Int); unfold wrap64; omega
              clear a1 a2 a3 hx hst hnx b1 b2 b3 b4' b5 b6 b7 b8 b9 b10 b11 b12 A2 B1
              have e1 := E1.out
              go_wp2
              go_roundg p
              case measure => exact Nat.lt_succ_self _
              case rel => exact ⟨j + 1, by first | rfl | (rw [E1.out]), R.out⟩
        | zero =>
          obtain rfl : m = 4 := by have := A1.out.1; omega
          have hlt : ¬ (((4 : Nat) : Int)) < 4 := by omega
          have J : Aside (Below wp.heap.size wp wr ∧ FAM 4 5 1 wr wp.heap.size (fun k => k = gf ∨ k = gf + 1) V NN (XM X0 NN 4) ∧ Has wr gf (ARR4 V) 28 ∧ Has wr (gf + 1) (ARR4 (fun _ => .slice none 0 0)) 48) := ⟨A1.out.2.1, A1.out.2.2.1, A1.out.2.2.2.1, A1.out.2.2.2.2⟩
          clear A1
          go_wp2_with fail
          generalize wr = W14 at *
          go_loopg [23] 4 (fun q s23 wx => ∃ m : Nat, s23 = .int .i64 (m : Int) ∧ Aside (m + q = 4 ∧ Below wp.heap.size wp wx ∧ ∃ V' : Nat → Value, FAM 4 5 1 wx wp.heap.size (fun k => k = gf ∨ k = gf + 1) (VM V V' m) (NM NN m) (XN NN m) ∧ Has wx gf (ARR4 V) 28 ∧ Has wx (gf + 1) (ARR4 (VM (fun _ => .slice none 0 0) V' m)) 48))
          case atStart =>
            refine ⟨0, rfl, by omega, J.out.1, fun _ => .slice none 0 0, J.out.2.1.same (fun x _ => by unfold VM; rw [if_neg (by omega)]) (fun x _ => by unfold NM; rw [if_neg (by omega)]) (fun x hx => by unfold XM XN NM; rw [if_pos hx, if_neg (by omega)]), J.out.2.2.1, ?_⟩
            have := J.out.2.2.2
            rw [ARR4_ext (g := VM (fun _ => .slice none 0 0) (fun _ => .slice none 0 0) 0) (fun x _ => by unfold VM; rw [if_neg (by omega)])] at this
            exact this
          case round =>
            obtain ⟨m, rfl, A1⟩ := hrel
            clear J hlt
            obtain ⟨q1, q2, V', q3, q4, q5⟩ := A1.out
            clear A1
            cases gk with
            | succ q =>
              have hm : m < 4 := by omega
              have hlt : (m : Int) < 4 := by omega
              have hmp : (0 : Int) ≤ (m : Int) := by omega
              obtain ⟨am, cm, hVm⟩ := SLC.out m hm
              have hnm := NB.out.1 m hm
              have hrow := q3.row m hm
              have hVV : VM V V' m m = V m := by unfold VM; rw [if_neg (by omega)]
              have hNN : NM NN m m = NN m := by unfold NM; rw [if_neg (by omega)]
              have hXX : XN NN m m = RPB (NN m) m := by unfold XN; rw [hNN]
              rw [hVV, hVm, hNN, hXX] at hrow
              obtain ⟨n, hn⟩ : ∃ n, NN m = n := ⟨_, rfl⟩
              rw [hn] at hVm hrow hnm hNN hXX
              have hcf : wr.cell? ⟨gf, m, none⟩ = some (.slice am n cm) := by rw [q4.cell, ARR4_at V m hm, hVm]
              have hgl : wr.cell? ⟨gf + 1, m, none⟩ = some (.slice none 0 0) := by rw [q5.cell, ARR4_at _ m hm]; unfold VM; rw [if_neg (by omega)]
              have B1 : Aside (m + 1 + q = 4 ∧ Below wp.heap.size wp wr ∧ FAM 4 5 1 wr wp.heap.size (fun k => k = gf ∨ k = gf + 1) (VM V V' m) (NM NN m) (XN NN m) ∧ Has wr gf (ARR4 V) 28 ∧ Has wr (gf + 1) (ARR4 (VM (fun _ => .slice none 0 0) V' m)) 48 ∧ m < 4 ∧ VM V V' m m = .slice am n cm ∧ NN m = n ∧ NM NN m m = n ∧ n ≤ 10000 ∧ wr.ownsRow wp.heap.size 5 1 (.slice am n cm) n (RPB n m) ∧ wp.heap.size ≤ wr.heap.size) := ⟨by omega, q2, q3, q4, q5, hm, by rw [hVV, hVm], hn, hNN, hnm, hrow, q2.size⟩
              have E1 : Aside (wrap64 ((m : Int) + 1) = ((m + 1 : Nat) : Int)) := by show wrap64 ((m : Int) + 1) = ((m + 1 : Nat) : Int); unfold wrap64; omega
              clear q1 q2 q3 q4 q5 hm hVm hnm hn hrow hVV hNN hXX
              go_wp2_with (at_builtin; first
                | (refine app_byte _ rfl (.tmp 153) (.tmp 157) rfl wp.heap.size (.slice am n cm) n (RPB n m) rfl (B1.out.2.2.2.2.2.2.2.2.2.2.1.alloc _) wr.heap.size 1 (MKB m) rfl (by rw [World.cell?_alloc_at _ _ _ _ rfl]; rfl) (by have := B1.out; omega) (by have := B1.out.2.2.2.2.2.2.2.2.2.2.2; simp; omega) ?_; intro g1 k1 w1 hown1 hgrow1 hat1 hg1
                   have S1 : Aside (w1.ownsRow wp.heap.size 5 1 (.slice (some ⟨g1, 0, none⟩) (n + 1) k1) (n + 1) (RPB (n + 1) m) ∧ wr.grownBy w1 (Value.slice am n cm).ownBlock ∧ ((Value.slice am n cm).ownBlock = some g1 ∨ wr.heap.size ≤ g1) ∧ wp.heap.size ≤ w1.heap.size ∧ wr.heap.size ≤ w1.heap.size) := ⟨by rw [← RPB_snoc]; exact hown1, grown_trans (grown_alloc _ _ _) hgrow1 (.inl rfl), hat1.imp id (fun e => by rw [e]; simp), by have h1 := grown_size hgrow1; have h2 := B1.out.2.2.2.2.2.2.2.2.2.2.2; simp at h1; omega, by have h1 := grown_size hgrow1; simp at h1; omega⟩
                   clear hown1 hgrow1 hat1 hg1)
                | (refine app_byte _ rfl (.tmp 158) (.tmp 162) rfl wp.heap.size (.slice (some ⟨g1, 0, none⟩) (n + 1) k1) (n + 1) (RPB (n + 1) m) rfl (S1.out.1.alloc _) w1.heap.size 1 (MKB m) rfl (by rw [World.cell?_alloc_at _ _ _ _ rfl]; rfl) (by have := B1.out; omega) (by have := S1.out.2.2.2.1; simp; omega) ?_; intro g2 k2 w2 hown2 hgrow2 hat2 hg2
                   have S2 : Aside (w2.ownsRow wp.heap.size 5 1 (.slice (some ⟨g2, 0, none⟩) (n + 1 + 1) k2) (n + 1 + 1) (RPB (n + 1 + 1) m) ∧ wr.grownBy w2 (Value.slice am n cm).ownBlock ∧ ((Value.slice am n cm).ownBlock = some g2 ∨ wr.heap.size ≤ g2)) := by
                     obtain ⟨s1, s2, s3, s4, s5⟩ := S1.out
                     refine ⟨by rw [← RPB_snoc]; exact hown2, grown_trans (grown_trans s2 (grown_alloc _ _ _) (.inl rfl)) hgrow2 ?_, ?_⟩
                     · rcases s3 with s3 | s3
                       · exact .inl s3.symm
                       · exact .inr fun g e => by cases e; exact s3
                     · rcases hat2 with e | e
                       · cases e
                         exact s3
                       · exact .inr (by rw [e]; simp; omega)
                   have T2 : Aside (FAM 4 5 1 w2 wp.heap.size (fun k => k = gf ∨ k = gf + 1) (VM V (UPD V' m (.slice (some ⟨g2, 0, none⟩) (n + 1 + 1) k2)) (m + 1)) (NM NN (m + 1)) (XN NN (m + 1)) ∧ Below wp.heap.size wp w2 ∧ Has w2 gf (ARR4 V) 28 ∧ Has w2 (gf + 1) (ARR4 (VM (fun _ => .slice none 0 0) V' m)) 48) := by
                     obtain ⟨s1, s2, s3⟩ := S2.out
                     obtain ⟨b1, b2, b3, b4', b5, b6, b7, b8, b9, b10, b11, b12⟩ := B1.out
                     rw [← b7] at s2 s3
                     obtain ⟨f1, f2⟩ := b3.turn (x := m) b6 (fun k hk => by rcases hk with rfl | rfl; exact b4'.lt; exact b5.lt) s1 s2 s3
                     refine ⟨f1.same (fun x _ => VM_next x) (fun x _ => by rw [← NM_next, b8]) (fun x _ => by rw [← XN_next, b8]), b2.grown s2 b2.size (fun k e => ((b3.row m b6).lt k e).1), (f2 gf (.inl rfl)).trans b4', (f2 (gf + 1) (.inr rfl)).trans b5⟩
                   have hgl2 : w2.cell? ⟨gf + 1, m, none⟩ = some (.slice none 0 0) := by rw [T2.out.2.2.2.cell, ARR4_at _ m B1.out.2.2.2.2.2.1]; unfold VM; rw [if_neg (by omega)]
                   have hgz2 := T2.out.2.2.2.frozen m
                   clear hown2 hgrow2 hat2 hg2))
              have R : Aside (m + 1 + q = 4 ∧ Below wp.heap.size wp (w2.setCell ⟨gf + 1, m, none⟩ (.slice (some ⟨g2, 0, none⟩) (n + 1 + 1) k2)) ∧ ∃ V' : Nat → Value, FAM 4 5 1 (w2.setCell ⟨gf + 1, m, none⟩ (.slice (some ⟨g2, 0, none⟩) (n + 1 + 1) k2)) wp.heap.size (fun k => k = gf ∨ k = gf + 1) (VM V V' (m + 1)) (NM NN (m + 1)) (XN NN (m + 1)) ∧ Has (w2.setCell ⟨gf + 1, m, none⟩ (.slice (some ⟨g2, 0, none⟩) (n + 1 + 1) k2)) gf (ARR4 V) 28 ∧ Has (w2.setCell ⟨gf + 1, m, none⟩ (.slice (some ⟨g2, 0, none⟩) (n + 1 + 1) k2)) (gf + 1) (ARR4 (VM (fun _ => .slice none 0 0) V' (m + 1))) 48) := by
                obtain ⟨t1, t2, t3, t4⟩ := T2.out
                have hset := t4.set m (.slice (some ⟨g2, 0, none⟩) (n + 1 + 1) k2)
                rw [VM_set B1.out.2.2.2.2.2.1] at hset
                refine ⟨B1.out.1, t2.setCell (p := ⟨gf + 1, m, none⟩) (by have := NB.out.2; show wp.heap.size ≤ gf + 1; omega) _, _, t1.heap (fun k _ hk => Below.heap_setCell _ _ _ k (fun e => hk (.inr e))), t3.other (a := ⟨gf + 1, m, none⟩) (by show gf ≠ gf + 1; omega) _, hset⟩
              clear S1 S2 T2 B1 hcf hgl hgl2 hgz2
              have e1 := E1.out
              go_wp2
              go_roundg q
              case measure => exact Nat.lt_succ_self _
              case rel => exact ⟨m + 1, by first | rfl | (rw [E1.out]), R.out⟩
            | zero =>
              obtain rfl : m = 4 := by omega
              have hlt : ¬ (((4 : Nat) : Int)) < 4 := by omega
              have J : Aside (Below wp.heap.size wp wr ∧ Has wr (gf + 1) (ARR4 (VM (fun _ => .slice none 0 0) V' 4)) 48 ∧ FAM 4 5 1 wr wp.heap.size (fun k => k = gf ∨ k = gf + 1) (VM V V' 4) (NM NN 4) (XN NN 4)) := ⟨q2, q5, q3⟩
              clear q1 q2 q3 q4 q5
              go_wp2_with fail
              generalize wr = W15 at *
              go_loopg [24] 4 (fun q s24 wx => ∃ m : Nat, s24 = .int .i64 (m : Int) ∧ Aside (m + q = 4) ∧ wx = W15)
              case atStart => exact ⟨0, rfl, by show 0 + 4 = 4; omega, rfl⟩
              case round =>
                obtain ⟨m, rfl, A1, rfl⟩ := hrel
                clear hlt
                cases gk with
                | succ q =>
                  have hm : m < 4 := by have := A1.out; omega
                  have hlt : (m : Int) < 4 := by omega
                  have hmp : (0 : Int) ≤ (m : Int) := by omega
                  have hrow := J.out.2.2.row m hm
                  have hNN : NM NN 4 m = NN m + 1 + 1 := by unfold NM; rw [if_pos hm]
                  have hXX : XN NN 4 m = RPB (NN m + 1 + 1) m := by unfold XN; rw [hNN]
                  have hVV : VM V V' 4 m = V' m := by unfold VM; rw [if_pos hm]
                  rw [hVV, hNN, hXX] at hrow
                  have hnm := NB.out.1 m hm
                  obtain ⟨n, hn⟩ : ∃ n, NN m + 1 + 1 = n := ⟨_, rfl⟩
                  rw [hn] at hrow
                  obtain ⟨g, cm, hVm⟩ : ∃ g c, V' m = .slice (some ⟨g, 0, none⟩) n c := by
                    rcases hrow.2 with ⟨_, h0⟩ | ⟨g, cap, cur, e, _⟩
                    · omega
                    · exact ⟨g, cap, e⟩
                  rw [hVm] at hrow
                  have hgl : wr.cell? ⟨gf + 1, m, none⟩ = some (.slice (some ⟨g, 0, none⟩) n cm) := by rw [J.out.2.1.cell, ARR4_at _ m hm]; unfold VM; rw [if_pos hm, hVm]
                  have B1 : Aside (m + 1 + q = 4 ∧ n ≤ 10002 ∧ ∀ j, j < n → wr.cell? ⟨g, j, none⟩ = some (.int .u8 (201 + (m : Int)))) := ⟨by have := A1.out; omega, by omega, fun j hj => by rw [hrow.cellAt j (by omega), RPB_at hj]; rfl⟩
                  have E1 : Aside (wrap64 ((m : Int) + 1) = ((m + 1 : Nat) : Int)) := by show wrap64 ((m : Int) + 1) = ((m + 1 : Nat) : Int); unfold wrap64; omega
                  clear hm hrow hNN hXX hVV hnm hn hVm A1
                  go_wp2_with fail
                  generalize wr = wo at *
                  go_loopg [25] n (fun p s25 wx => ∃ j : Nat, s25 = .int .i64 (j : Int) ∧ Aside (j + p = n) ∧ wx = wo)
                  case atStart => exact ⟨0, rfl, by show 0 + n = n; omega, rfl⟩
                  case round =>
                    obtain ⟨j, rfl, A2, rfl⟩ := hrel
                    cases gk with
                    | zero =>
                      obtain rfl : j = n := by have := A2.out; omega
                      have hlt2 : ¬ (j : Int) < (j : Int) := by omega
                      have R : Aside (m + 1 + q = 4) := B1.out.1
                      clear A2 B1
                      have e1 := E1.out
                      go_wp2
                      go_roundg q
                      case measure => exact Nat.lt_succ_self _
                      case rel => exact ⟨m + 1, by first | rfl | (rw [E1.out]), R, rfl⟩
                    | succ p =>
                      have hj : j + 1 + p = n := by have := A2.out; omega
                      have hlt2 : (j : Int) < (n : Int) := by omega
                      have hc := B1.out.2.2 j (by omega)
                      have R : Aside (j + 1 + p = n) := hj
                      have E2 : Aside (wrap64 ((j : Int) + 1) = ((j + 1 : Nat) : Int)) := by have := B1.out.2.1; show wrap64 ((j : Int) + 1) = ((j + 1 : Nat) : Int); unfold wrap64; omega
                      clear hj A2 B1 E1
                      have e1 := E2.out
                      go_wp2
                      go_roundg p
                      case measure => exact Nat.lt_succ_self _
                      case rel => exact ⟨j + 1, by first | rfl | (rw [E2.out]), R, rfl⟩
                | zero =>
                  obtain rfl : m = 4 := by have := A1.out; omega
                  have hlt : ¬ (((4 : Nat) : Int)) < 4 := by omega
                  have RU : Aside (RND w wr B (B + 1) g7 g8 S I pa pn pc F Z xa xn xc rg cg rx cx pl xl) := A.out.step J.out.1
                  clear A1 J NB SLC HE A
                  have y1 : wr.cell? ⟨g7, 2, none⟩ = some (.slice (some ⟨rg, 0, none⟩) pn cg) := RU.out.h7.cell 2
                  have y2 : wr.cell? ⟨B, 2, none⟩ = some (.slice pa pn pc) := RU.out.h3.cell 2
                  go_wp2_with fail
                  clear y1 y2
                  refine (samehashes_ok (some ⟨rg, 0, none⟩) pa pn pn cg pc pl pl wr RU.out.fg (HT.out _ RU.out.bel).2.2.1 (by have := HA.out; omega)).mono ?_
                  rintro e v1 ⟨rfl, hb⟩
                  have hdt : decide (pl = pl) = true := by simp
                  rw [hdt]
                  have RV : Aside (RND w v1 B (B + 1) g7 g8 S I pa pn pc F Z xa xn xc rg cg rx cx pl xl) := RU.out.step hb
                  clear hb hdt RU
                  have y1 : v1.cell? ⟨g7, 2, none⟩ = some (.slice (some ⟨rg, 0, none⟩) pn cg) := RV.out.h7.cell 2
                  have y2 : v1.cell? ⟨g8, 2, none⟩ = some (.slice (some ⟨rx, 0, none⟩) xn cx) := RV.out.h8.cell 2
                  have y3 : v1.cell? ⟨B + 1, 2, none⟩ = some (.slice xa xn xc) := RV.out.h4.cell 2
                  go_wp2_with fail
                  refine (marked_ok rg pn cg (by have := HA.out; omega) RV.out.mg.2.2 v1 RV.out.mg.1).mono ?_
                  rintro e v2 ⟨rfl, rfl⟩
                  go_wp2_with fail
                  clear y1 y2 y3
                  refine (samehashes_ok (some ⟨rx, 0, none⟩) xa xn xn cx xc xl xl v1 RV.out.fx (HT.out _ RV.out.bel).2.2.2 (by have := HA.out; omega)).mono ?_
                  rintro e v2 ⟨rfl, hb⟩
                  have hdt : decide (xl = xl) = true := by simp
                  rw [hdt]
                  have RX : Aside (RND w v2 B (B + 1) g7 g8 S I pa pn pc F Z xa xn xc rg cg rx cx pl xl) := RV.out.step hb
                  clear hb hdt RV
                  have y2 : v2.cell? ⟨g8, 2, none⟩ = some (.slice (some ⟨rx, 0, none⟩) xn cx) := RX.out.h8.cell 2
                  go_wp2_with fail
                  refine (marked_ok rx xn cx (by have := HA.out; omega) RX.out.mx.2.2 v2 RX.out.mx.1).mono ?_
                  rintro e v3 ⟨rfl, rfl⟩
                  clear y2
                  go_wp2_with fail
                  refine (proofawake_ok v2 (HT.out _ RX.out.bel).1 (HT.out _ RX.out.bel).2.1).mono ?_
                  rintro e v3 ⟨rfl, hb⟩
                  have K7 : Aside (Below w.heap.size w v3) := RX.out.bel.trans (hb.mono RX.out.bel.size)
                  clear hb RX HT HA
                  go_wp2
                  go_ret
                  exact ⟨rfl, K7.out⟩
theorem proofWrites_long (S I : Nat) (pa : Option Addr) (pn pc F Z : Nat) (xa : Option Addr) (xn xc : Nat) (w : World) (h : 300 < pn ∨ 300 < xn) :
    Calls Tryd.prog 5 #[.agg (PV S I pa pn pc), .agg (PV F Z xa xn xc)] w fun e w' => e = .returned (.bool true) ∧ Below w.heap.size w w' := by
  have HB : Aside (Below w.heap.size w ((w.alloc (.cells (PV S I pa pn pc) 25)).alloc (.cells (PV F Z xa xn xc) 27))) := ((Below.refl _ _).alloc (Nat.le_refl _) _).alloc (by simp) _
  by_cases h1 : 300 < pn
  · have k1 : (300 : Int) < (pn : Int) := by omega
    clear h h1
    go_enter Tryd.func5, Tryd.ntmps5
    go_wp2_with fail
    go_ret
    exact ⟨rfl, HB.out⟩
  · have k1 : ¬ (300 : Int) < (pn : Int) := by omega
    have k2 : (300 : Int) < (xn : Int) := by omega
    clear h h1
    go_enter Tryd.func5, Tryd.ntmps5
    go_wp2_with fail
    go_ret
    exact ⟨rfl, HB.out⟩
theorem proofWrites_walk (S I : Nat) (pa : Option Addr) (pn pc : Nat) (pl : List Int) (F Z : Nat) (xa : Option Addr) (xn xc : Nat) (xl : List Int) (w : World)
    (hS : S < 2 ^ 64) (hI : I < 2 ^ 64) (hP : Flat w pa pn pl) (hpc : pa = none → pc = 0) (_ : pn ≤ pc) (hF : F < 2 ^ 64) (hZ : Z < 2 ^ 64) (hX : Flat w xa xn xl) (hxc : xa = none → xc = 0) (_ : xn ≤ xc) (hT : Tabled w) (h0 : 0 < w.heap.size) :
    Calls Tryd.prog 5 #[.agg (PV S I pa pn pc), .agg (PV F Z xa xn xc)] w fun e w' => e = .returned (.bool true) ∧ Below w.heap.size w w' := by
  by_cases h : 300 < pn ∨ 300 < xn
  · exact proofWrites_long S I pa pn pc F Z xa xn xc w h
  · exact proofWrites_core S I hS hI pa pn pc hpc pl F Z hF hZ xa xn xc hxc xl w hP hX hT h0 (by omega) (by omega)
end Go.Proofs.YtfjmbfppilfepaaDoor
