/- Texts of PartOne, one behind the other: PartOneWalk, PosAwake, PosDoor, HashDoor, MmrDoor. -/
import Derived.Test.YtnplhejopmoopaaDoorRows
import Derived.ProofKit
import Derived.LaidMore
import Derived.OpenShut
import Derived.Stop.Joined
import Derived.Test.YtnplhejopmoopaaDoorPartOneP29
import Derived.Test.YtnplhejopmoopaaDoorPartOneP30
/- The law PartOne returns true. -/
namespace Go.Proofs.YtnplhejopmoopaaDoor
open Go.RowKit
set_option maxRecDepth 100000

set_option maxHeartbeats 4000000 in
theorem pone_skip (d : Int) (a : Option Addr) (n c : Nat) (i : Int) (O : Nat → Nat) (w : World) (h : (200 : Int) < (n : Int) ∨ i < 0 ∨ (n : Int) ≤ i) : Calls Tryd.prog 5 #[.int .i64 d, .slice a n c, .int .i64 i, .agg (HX.UARR .u8 32 O)] w fun e w' => e = .returned (.bool true) ∧ Below w.heap.size w w' := by
  obtain ⟨w0, hw0⟩ : ∃ w0, w.alloc (.cells (HX.UARR .u8 32 O) 27) = w0 := ⟨_, rfl⟩
  have hb : Below w.heap.size w w0 := by rw [← hw0]; exact (Below.refl _ _).alloc (Nat.le_refl _) _
  have hO : HX.Has w0 w.heap.size (HX.UARR .u8 32 O) 27 := by rw [← hw0]; exact Has.new _ _ _
  have hsu := HX.UARR_size .u8 32 O
  have HB : Aside (Below w.heap.size w w0) := hb
  have HO : Aside (∀ W, Below w0.heap.size w0 W → W.rangeAt w.heap.size 0 (HX.ULIST .u8 32 O)) := fun W h => HX.Has.whole (show HX.Has W w.heap.size (HX.UARR .u8 32 O) 27 from Has.keep hO h)
  clear hb hO
  by_cases h1 : (200 : Int) < (n : Int)
  · clear h
    go_enter Tryd.func5, Tryd.ntmps5
    go_upto_region 1 with fail
    refine pone1a w0 a n c w.heap.size O i h1 (fun W => Below w0.heap.size w0 W) (Below.refl _ _).drew HO.out (fun _ _ _ _ _ h => h) (fun W hW => ?_)
    have HW : Aside (Below w0.heap.size w0 W) := hW
    clear hW hw0
    go_wp2_with fail
    go_ret
    exact ⟨rfl, HB.out.trans (HW.out.mono HB.out.size)⟩
  · by_cases h2 : i < 0
    · clear h
      go_enter Tryd.func5, Tryd.ntmps5
      go_upto_region 1 with fail
      refine pone1b w0 a n c w.heap.size O i h1 h2 (fun W => Below w0.heap.size w0 W) (Below.refl _ _).drew HO.out (fun _ _ _ _ _ h => h) (fun W hW => ?_)
      have HW : Aside (Below w0.heap.size w0 W) := hW
      clear hW hw0
      go_wp2_with fail
      go_ret
      exact ⟨rfl, HB.out.trans (HW.out.mono HB.out.size)⟩
    · obtain ⟨k, rfl⟩ : ∃ k : Nat, i = (k : Int) := ⟨i.toNat, by omega⟩
      have h3 : (n : Int) ≤ (k : Int) := by omega
      clear h
      go_enter Tryd.func5, Tryd.ntmps5
      go_upto_region 1 with fail
      refine pone1c w0 a n c w.heap.size O k h1 h2 h3 (fun W => Below w0.heap.size w0 W) (Below.refl _ _).drew HO.out (fun _ _ _ _ _ h => h) (fun W hW => ?_)
      have HW : Aside (Below w0.heap.size w0 W) := hW
      clear hW hw0
      go_wp2_with fail
      go_ret
      exact ⟨rfl, HB.out.trans (HW.out.mono HB.out.size)⟩
set_option maxHeartbeats 8000000 in
theorem pone_core (d : Int) (lb lo n c i : Nat) (hs : Nat → Nat → Nat) (O : Nat → Nat) (w : World) (hn : ¬ (200 : Int) < (n : Int)) (hin : i < n) (hH : HX.HASHES w (some ⟨lb, lo, none⟩) n hs) (h8 : ∀ i, i < n → ∀ j, hs i j < 256) (hO8 : ∀ j, O j < 256) (hT : Tabled w) (hX : HX.Tabled w) : Calls Tryd.prog 5 #[.int .i64 d, .slice (some ⟨lb, lo, none⟩) n c, .int .i64 (i : Int), .agg (HX.UARR .u8 32 O)] w fun e w' => e = .returned (.bool true) ∧ Below w.heap.size w w' := by
  obtain ⟨w0, hw0⟩ : ∃ w0, w.alloc (.cells (HX.UARR .u8 32 O) 27) = w0 := ⟨_, rfl⟩
  have hb : Below w.heap.size w w0 := by rw [← hw0]; exact (Below.refl _ _).alloc (Nat.le_refl _) _
  have hO : HX.Has w0 w.heap.size (HX.UARR .u8 32 O) 27 := by rw [← hw0]; exact Has.new _ _ _
  have hsu := HX.UARR_size .u8 32 O
  obtain ⟨lb', lo', e1, l1, r1⟩ := hH (by omega)
  cases e1
  have HW : Aside (∀ W, Below w0.heap.size w0 W → Below w.heap.size w W ∧ Tabled W ∧ HX.Tabled W ∧ HX.HASHES W (some ⟨lb, lo, none⟩) n hs ∧ W.rangeAt lb (lo + i * 32) (HX.ULIST .u8 32 (hs i)) ∧ HX.Has W w.heap.size (HX.UARR .u8 32 O) 27) := fun W h => by
    have hbw := hb.trans (h.mono hb.size)
    exact ⟨hbw, hT.below (by have := hX.2.2; omega) hbw, hX.below hbw, hH.below hbw, HX.range_below (r1 i hin) hbw l1, Has.keep hO h⟩
  have HA : Aside (n ≤ 200 ∧ i < n ∧ (∀ i, i < n → ∀ j, hs i j < 256) ∧ ∀ j, O j < 256) := ⟨by omega, hin, h8, hO8⟩
  have g2 : ¬ (i : Int) < 0 := by omega
  have g3 : ¬ (n : Int) ≤ (i : Int) := by omega
  have g4 : (i : Int) < (n : Int) := by omega
  have hu : IntKind.u64.wrap (i : Int) = (i : Int) := by simp [IntKind.wrap, IntKind.signed, IntKind.bits]; omega
  have HU : Aside (IntKind.u64.wrap (i : Int) = (i : Int)) := hu
  obtain ⟨sb, hsb⟩ : ∃ sb, ((List.range 32).all fun x => hs i x == O x) = sb := ⟨_, rfl⟩
  have qx : ∀ w, (Op.equalIn 10000 27 (.agg (HX.UARR .u8 32 (hs i))) (.agg (HX.UARR .u8 32 O))).run Tryd.prog w = .ok sb w := fun w => by rw [HX.equal_hash, hsb]
  clear hb hO hH h8 hO8 hT hX r1 l1 hin hu hsb
  go_enter Tryd.func5, Tryd.ntmps5
  go_upto_region 1 with fail
  refine pone1d w0 lb lo n c w.heap.size (hs i) O i sb hn g2 g3 g4 qx (fun W => Below w0.heap.size w0 W) (Below.refl _ _).drew (fun W h => ⟨(HW.out W h).2.2.2.2.1, HX.Has.whole (HW.out W h).2.2.2.2.2⟩) (fun _ _ _ _ _ h => h) (fun W hWb => ?_)
  have B0 : Aside (Below w0.heap.size w0 W ∧ w0.heap.size ≤ W.heap.size) := ⟨hWb, hWb.size⟩
  obtain ⟨bo, hbo⟩ : ∃ bo, w.heap.size = bo := ⟨_, rfl⟩
  rw [hbo] at HW ⊢
  have HBO : Aside (w.heap.size = bo) := hbo
  clear hWb hw0 qx hbo
  cases sb with
  | true =>
    have HB := (HW.out W B0.out.1).1
    rw [← HBO.out] at HB
    clear HW B0
    go_wp2_with fail
    go_ret
    exact ⟨rfl, HB⟩
  | false =>
    go_upto_region 3 with fail
    go_upto_region 4 with (at_builtin; refine HX.app_hashesf _ rfl (.tmp 35) (.tmp 36) rfl W.heap.size (.slice (some ⟨W.heap.size, 0, none⟩) 0 0) 0 [] rfl (own_empty21 W) (some ⟨lb, lo, none⟩) n c hs rfl ((HW.out W B0.out.1).2.2.2.1.below ((Below.refl _ _).alloc (Nat.le_refl _) _)) (fun e => by cases e) (fun e => by cases e) (by have := HA.out.1; omega) (by simp) ?_; intro ba bc w1 hown hgrow)
    have hb1 : Below W.heap.size W w1 := ((Below.refl W.heap.size W).alloc (Nat.le_refl _) (.cells #[] 27)).grown hgrow (by simp) (fun k e => by
      have e2 : W.heap.size = k := by simpa [Value.ownBlock] using e
      omega)
    have B1 : Aside (Below w0.heap.size w0 w1 ∧ w0.heap.size ≤ w1.heap.size ∧ W.heap.size ≤ w1.heap.size ∧ w0.heap.size ≤ W.heap.size) := ⟨B0.out.1.trans (hb1.mono B0.out.2), Nat.le_trans B0.out.2 hb1.size, hb1.size, B0.out.2⟩
    have hOw := (HW.out w1 B1.out.1).2.2.2.2.2
    rw [Nat.zero_add, List.nil_append] at hown
    obtain ⟨ad, cc, e1, hap⟩ := HX.own_shapes hown
    obtain ⟨gb, rfl⟩ := hap (by have := HA.out.2.1; omega)
    cases e1
    have hlo := (hown.lt gb rfl).1
    have hth : w1.there gb (i * 32) (HX.UARR .u8 32 O).size := fun x hx => by
      have hx : x < 32 := by rw [HX.UARR_size] at hx; exact hx
      have hi := HA.out.2.1
      refine ⟨?_, hown.frozenAt _⟩
      rw [hown.cellAt (i * 32 + x) (by omega), HX.HLF_at _ (by omega)]
      rfl
    have hst := HX.own_over (HX.UARR .u8 32 O).toList _ (i * 32) w1 hown
    rw [HL_put hs O n i] at hst
    have hO1 : Below W.heap.size W (w1.setCells gb (i * 32) (HX.UARR .u8 32 O).toList) := hb1.grown hst.2 hb1.size (fun k e => by cases e; exact hlo)
    obtain ⟨w2, hw2⟩ : ∃ w2, w1.setCells gb (i * 32) (HX.UARR .u8 32 O).toList = w2 := ⟨_, rfl⟩
    rw [hw2] at hst hO1
    obtain ⟨av, cv, e1, hHv⟩ := HX.own_hashes hst.1 (HX.FSTS_length _ _)
    cases e1
    have hHv2 := hashes_same hHv (g := PUTF hs i O) (fun k hk => HX.FSTS_get _ hk)
    have B2 : Aside (Below w0.heap.size w0 w2 ∧ w0.heap.size ≤ w2.heap.size ∧ HX.HASHES w2 (some ⟨gb, 0, none⟩) n (PUTF hs i O)) := ⟨B0.out.1.trans (hO1.mono B0.out.2), Nat.le_trans B1.out.2.2.2 hO1.size, hHv2⟩
    clear hb1 hown hgrow hap hst hO1 hHv hHv2 hlo B1
    go_upto_region 5 with (first
      | (refine wpList_load_row rfl 27 (.tmp 7) rfl bo rfl 27 (HX.UARR .u8 32 O) (0, 0) _ hOw Tryd.underlying27 rfl (HX.info_HASH _) ?_)
      | (refine wpList_store_mid rfl 27 (.tmp 41) (.tmp 40) rfl gb (i * 32) (HX.UARR .u8 32 O) rfl rfl hth (HX.info_HASH _) (HX.UARR_one _ _ _) ?_; rw [hw2]))
    clear hth hw2 hOw
    have c1 := HX.of21_ok d (some ⟨lb, lo, none⟩) n c hs w2 (by have := HA.out.1; omega) (HW.out w2 B2.out.1).2.2.2.1 HA.out.2.2.1 (HW.out w2 B2.out.1).2.2.1
    go_wp2_with fail
    refine c1.mono ?_
    rintro e w3 ⟨ga, C, rfl, f1, b1, -⟩
    clear c1
    have A1 : Aside (HX.FOREST w3 w2.heap.size ga d 2 n C hs ∧ Below w2.heap.size w2 w3) := ⟨f1, b1⟩
    have B3 : Aside (Below w0.heap.size w0 w3 ∧ w0.heap.size ≤ w3.heap.size) := ⟨B2.out.1.trans (b1.mono B2.out.2.1), Nat.le_trans B2.out.2.1 b1.size⟩
    have c2' := HX.of21_ok d (some ⟨gb, 0, none⟩) n bc (PUTF hs i O) w3 (by have := HA.out.1; omega) (B2.out.2.2.below b1) (fun k hk j => by
      unfold PUTF
      split
      · exact HA.out.2.2.2 j
      · exact HA.out.2.2.1 k hk j) (HW.out w3 B3.out.1).2.2.1
    clear f1 b1
    go_wp2_with fail
    refine c2'.mono ?_
    rintro e w4 ⟨gt, D, rfl, f2, b2, hf⟩
    clear c2'
    have A2 : Aside (TWOP w2 w4 w3.heap.size ga gt d n n C D hs (PUTF hs i O) ∧ Below w0.heap.size w0 w4 ∧ w0.heap.size ≤ w4.heap.size) := ⟨TWOP.made A1.out.1 A1.out.2 f2 b2 hf, B3.out.1.trans (b2.mono B3.out.2), Nat.le_trans B3.out.2 b2.size⟩
    clear f2 b2 hf A1
    generalize w3.heap.size = Bb at *
    have cs := HX.size_of A2.out.1.fa
    obtain ⟨k, X, Y, q, E, T, hA1, -, hPR, -, -⟩ := tans_all A2.out.1.fa A2.out.1.fb
    have cf := tfirst_ok A2.out.1.fa A2.out.1.fb (HW.out w4 A2.out.2.1).2.1
    have RR : Aside (((E = 0 ∧ k = i ∧ X = hs i ∧ Y = O) ∨ E = 210) ∧ ∀ e, TANS hs (PUTF hs i O) (PFST (fun _ => 0) (fun _ => 0) (TSAME n C D) n) e → e = .returned (.tuple #[.agg (PTG k X Y q), .int .i64 E])) := ⟨one_part hPR, hA1⟩
    clear hA1 hPR
    obtain ⟨ZP, eZ, hzp, hbp, hZ66, hZ1⟩ := zero_part
    have SZ : Aside (PTG 0 (fun _ => 0) (fun _ => 0) 0 = ZP ∧ ZP.size = 66 ∧ ZP.all (·.oneCell') = true) := ⟨eZ, hZ66, hZ1⟩
    clear eZ hZ1
    go_wp2_with fail
    refine cs.mono ?_
    rintro e w4' ⟨rfl, rfl⟩
    clear cs
    go_wp2_with fail
    refine cf.mono ?_
    rintro e w5 ⟨he, hb5⟩
    obtain rfl := RR.out.2 _ he
    clear cf he
    obtain ⟨w6, hst, h12, hb6⟩ := part_put w5 ZP (PTG k X Y q) SZ.out.2.1 (PTG_size _ _ _ _) (PTG_one _ _ _ _)
    have hsz := PTG_size k X Y q
    have hb46 : Below w4.heap.size w4 w6 := hb5.trans (hb6.mono hb5.size)
    have A6 : Aside (TWOP w2 w6 Bb ga gt d n n C D hs (PUTF hs i O) ∧ Below w0.heap.size w0 w6 ∧ w0.heap.size ≤ w6.heap.size ∧ Has w6 w5.heap.size (PTG k X Y q) 29) := ⟨A2.out.1.keep hb46, A2.out.2.1.trans (hb46.mono A2.out.2.2), Nat.le_trans A2.out.2.2 hb46.size, h12⟩
    clear hb5 hb6 hb46 h12
    rcases RR.out.1 with ⟨rfl, rfl, rfl, rfl⟩ | rfl
    · obtain ⟨P1, hP1⟩ : ∃ P1, PTG k (hs k) Y q = P1 := ⟨_, rfl⟩
      have HP : Aside (PTG k (hs k) Y q = P1) := hP1
      rw [hP1] at hst hsz ⊢
      clear hP1
      go_upto_region 10 with fail
      clear hst
      obtain ⟨bp, hbp'⟩ : ∃ bp, w5.heap.size = bp := ⟨_, rfl⟩
      rw [hbp'] at A6 ⊢
      clear hbp'
      refine pone10 w6 lb lo n c bo k bp (hs k) Y g4 HU.out (HX.equal_same _) (HX.equal_same _) (fun W => Below w6.heap.size w6 W) (Below.refl _ _).drew (fun W h => ?_) (fun W h => ?_) (fun _ _ _ _ _ h => h) (fun W h => ?_)
      · have hW := HW.out W (A6.out.2.1.trans (h.mono A6.out.2.2.1))
        obtain ⟨y0, y1, y2, _⟩ := part_list _ _ _ _ (A6.out.2.2.2.keep h)
        exact ⟨y0, y1, y2, hW.2.2.2.2.1, HX.Has.whole hW.2.2.2.2.2⟩
      · have hW := HW.out W (A6.out.2.1.trans (h.mono A6.out.2.2.1))
        exact (awake21_ok W hW.2.1 hW.2.2.1).mono fun e w' r => ⟨r.1, h.trans (r.2.mono h.size)⟩
      · have HB := (HW.out W (A6.out.2.1.trans (h.mono A6.out.2.2.1))).1
        rw [← HBO.out] at HB
        clear HW A6 h RR
        go_wp2_with fail
        go_ret
        exact ⟨rfl, HB⟩
    · have hroot := root_same A6.out.1.fa A6.out.1.fb (tans_peaks A6.out.1.fa A6.out.1.fb RR.out.2 (by decide))
      have cr := HX.root_of A6.out.1.fa (HW.out w6 A6.out.2.1).2.1 (HW.out w6 A6.out.2.1).2.2.1
      have CR : Aside (∀ W, Below w6.heap.size w6 W → (Calls Tryd.prog 17 #[.pointer (some ⟨gt, 0, none⟩)] W fun e w' => e = .returned (.agg (HX.UARR .u8 32 (HX.ROOTOF d hs n))) ∧ Below W.heap.size W w') ∧ Below bo w W ∧ (Calls Tryd.prog 11 #[] W fun e w' => e = .returned (.bool true) ∧ Below W.heap.size W w')) := fun W h => by
        have hW := HW.out W (A6.out.2.1.trans (h.mono A6.out.2.2.1))
        have T := A6.out.1.keep h
        rw [hroot]
        refine ⟨HX.root_of T.fb hW.2.1 hW.2.2.1, hW.1, ?_⟩
        exact (awake21_ok W hW.2.1 hW.2.2.1).mono fun e w' r => ⟨r.1, r.2.mono (by exact Nat.le_refl _)⟩
      generalize HX.ROOTOF d hs n = RT at *
      have qR := fun w => HX.equal_same RT w
      clear hroot RR HW
      generalize PTG k X Y q = P1 at *
      go_wp2_with fail
      refine cr.mono ?_
      rintro e v1 ⟨rfl, h1⟩
      clear cr hst
      have HV : Aside (Below w6.heap.size w6 v1) := h1
      have cr2 := (CR.out v1 h1).1
      clear h1
      go_wp2_with fail
      refine cr2.mono ?_
      rintro e v2 ⟨rfl, h2⟩
      clear cr2
      have hv2 : Below w6.heap.size w6 v2 := HV.out.trans (h2.mono HV.out.size)
      have ca := (CR.out v2 hv2).2.2
      have HB := (CR.out v2 hv2).2.1
      rw [← HBO.out] at HB
      have HBB : Aside (Below w.heap.size w v2) := HB
      clear h2 hv2 CR A6 HB HV
      go_wp2_with fail
      refine ca.mono ?_
      rintro e v3 ⟨rfl, h3⟩
      clear ca qR
      go_wp2_with fail
      go_ret
      exact ⟨rfl, HBB.out.trans (h3.mono HBB.out.size)⟩
theorem partOne_walk (d : Int) (a : Option Addr) (n c : Nat) (hs : Nat → Nat → Nat) (i : Int) (O : Nat → Nat) (w : World) (hH : HX.HASHES w a n hs) (h8 : ∀ i, i < n → ∀ j, hs i j < 256) (hO8 : ∀ j, O j < 256) (hT : Tabled w) (hX : HX.Tabled w) : Calls Tryd.prog 5 #[.int .i64 d, .slice a n c, .int .i64 i, .agg (HX.UARR .u8 32 O)] w fun e w' => e = .returned (.bool true) ∧ Below w.heap.size w w' := by
  by_cases h : (200 : Int) < (n : Int) ∨ i < 0 ∨ (n : Int) ≤ i
  · exact pone_skip d a n c i O w h
  · obtain ⟨k, rfl⟩ : ∃ k : Nat, i = (k : Int) := ⟨i.toNat, by omega⟩
    obtain ⟨lb, lo, rfl, _⟩ := hH (by omega)
    exact pone_core d lb lo n c k hs O w (by omega) (by omega) hH h8 hO8 hT hX
end Go.Proofs.YtnplhejopmoopaaDoor

/- awake answers true: the forest of seven leaves. -/
namespace Go.Proofs.YtnplhejopmoopaaDoor
open Go.RowKit

end Go.Proofs.YtnplhejopmoopaaDoor

/- What the card's row gives the walks of layer 3: spots that came in; the table of math/bits. -/
namespace Go.Proofs.YtnplhejopmoopaaDoor
open Go.ChangeShapes Go.WideShapes Go.ChangeAt Go.WideMaps Go.WideElems Go.RowKit
set_option maxRecDepth 100000

theorem own : ownKnob Tryd.prog.godebug = none := by kernel_rfl
theorem laidOut : laidOutB Tryd.prog = true := by kernel_rfl
theorem gTab : Tryd.prog.globalNamed "math/bits.deBruijn64tab" = some 0 := by kernel_rfl
theorem tTab : (Tryd.prog.globals[0]?).map (·.type) = some 127 := by kernel_rfl
theorem tabData {H : Type} : (Rows.laid_math_bits_deBruijn64tab : DataW H) = .agg (TAB.map fun n => .lit (.int .u8 (n : Nat))) := rfl
end Go.Proofs.YtnplhejopmoopaaDoor

/- What the card's row gives the walks: arrays and slices of bytes that came in; the two tables. -/
namespace Go.Proofs.YtnplhejopmoopaaDoor.HX
set_option maxRecDepth 100000
open Go.ChangeShapes Go.WideShapes Go.ChangeAt Go.WideMaps Go.WideElems Go.RowKit

theorem own : ownKnob Tryd.prog.godebug = none := by kernel_rfl
theorem laidOut : laidOutB Tryd.prog = true := by kernel_rfl
theorem gRounds : Tryd.prog.globalNamed "massif/hash.rounds" = some 2 := by kernel_rfl
theorem gBegin : Tryd.prog.globalNamed "massif/hash.begin" = some 1 := by kernel_rfl
theorem tRounds : (Tryd.prog.globals[2]?).map (·.type) = some 147 := by kernel_rfl
theorem tBegin : (Tryd.prog.globals[1]?).map (·.type) = some 145 := by kernel_rfl
theorem roundsData {H : Type} : (Rows.laid_massif_hash_rounds : DataW H) = .agg (KLIST.map fun n => .lit (.int .u32 (n : Nat))) := rfl
theorem beginData {H : Type} : (Rows.laid_massif_hash_begin : DataW H) = .agg (BEGIN.map fun n => .lit (.int .u32 (n : Nat))) := rfl

theorem table_at {H : Type} {enc : TypeId × Value → H} {W : World} {base fuel n : Nat} {sp : Nat → Bool} {held : Bool} {t : TypeId} {cs : List Value} {ps : List MemPlace} (L : List Nat) (hL : L.length = n) (ht : Tryd.prog.underlying t = some (.array n 144))
    (hd : DataW.trod enc Tryd.prog W base sp held fuel t cs = some (.agg (L.map fun n => .lit (.int .u32 (n : Nat))), ps)) (i : Nat) (hi : i < n) : cs[i]? = some (.int .u32 (L.getD i 0 : Nat)) := by
  obtain ⟨xs, m1, rfl, hx1, hlen, hn, hel⟩ := DataW.trod_array ht hd
  have c5 : Tryd.prog.cellsOf 144 = 1 := by kernel_rfl
  simp only [Prod.mk.injEq, DataW.agg.injEq] at hx1
  have hx := hx1.1
  have h0 := hel i hi
  have hi' : i < xs.length := by omega
  rw [List.getElem?_eq_getElem hi', c5, Nat.mul_one] at h0
  obtain ⟨k, e1, e2, _⟩ := DataW.trod_int Tryd.underlying144 h0
  have hk : (k : Int) = ((L.getD i 0 : Nat) : Int) := by
    have hz := congrArg (fun l => l[i]?) hx
    have hT : i < L.length := by omega
    simp only [List.getElem?_map, List.getElem?_eq_getElem hi', List.getElem?_eq_getElem hT, Option.map_some, e2] at hz
    simp at hz
    rw [List.getD_eq_getElem?_getD, List.getElem?_eq_getElem hT]
    simpa using hz.symm
  rw [← hk]
  have := congrArg (fun l => l[0]?) e1
  simpa using this
end Go.Proofs.YtnplhejopmoopaaDoor.HX

/- What a card's row gives the walks of chapter 6: the three tables, a slice of hashes that came in. -/
namespace Go.Proofs.YtnplhejopmoopaaDoor.HX
open Go.ChangeShapes Go.WideShapes Go.ChangeAt Go.WideMaps Go.WideElems Go.RowKit
set_option maxRecDepth 100000

theorem of_laid3 {W : World} (h : laidMetH Tryd.prog [("math/bits.deBruijn64tab", Rows.laid_math_bits_deBruijn64tab), ("massif/hash.begin", Rows.laid_massif_hash_begin), ("massif/hash.rounds", Rows.laid_massif_hash_rounds)] W) : Go.Proofs.YtnplhejopmoopaaDoor.Tabled W ∧ Tabled W ∧ 2 < W.heap.size := by
  rw [MakeChecks.laidMetH_plain _ _ _ (by kernel_rfl)] at h
  obtain ⟨ps, ⟨g0, t0, cs0, f0, p0, q0, hg0, ht0, hv0, hd0, ⟨g1, t1, cs1, f1, p1, q1, hg1, ht1, hv1, hd1, ⟨g2, t2, cs2, f2, p2, q2, hg2, ht2, hv2, hd2, _, _⟩, _⟩, _⟩, _, _⟩ := h
  obtain rfl := Option.some.inj (gTab.symm.trans hg0)
  obtain rfl := Option.some.inj (tTab.symm.trans ht0)
  obtain rfl := Option.some.inj (gBegin.symm.trans hg1)
  obtain rfl := Option.some.inj (tBegin.symm.trans ht1)
  obtain rfl := Option.some.inj (gRounds.symm.trans hg2)
  obtain rfl := Option.some.inj (tRounds.symm.trans ht2)
  rw [beginData] at hd1
  rw [roundsData] at hd2
  have A : ∀ i, i < 8 → W.cell? ⟨1, i, none⟩ = some (.int .u32 (BEGIN.getD i 0 : Nat)) := fun i hi => (World.var?_cell hg1 hv1 i).trans (Array.getElem?_toList.symm.trans (table_at BEGIN rfl Tryd.underlying145 hd1 i hi))
  have B : ∀ i, i < 64 → W.cell? ⟨2, i, none⟩ = some (.int .u32 (KC i : Nat)) := fun i hi => (World.var?_cell hg2 hv2 i).trans (Array.getElem?_toList.symm.trans (table_at KLIST rfl Tryd.underlying147 hd2 i hi))
  obtain ⟨xs, m1, rfl, hx1, hlen, hn, hel⟩ := DataW.trod_array Tryd.underlying127 hd0
  have c5 : Tryd.prog.cellsOf 5 = 1 := by kernel_rfl
  simp only [Prod.mk.injEq] at hx1
  have hx := hx1.1
  rw [tabData] at hx
  simp only [DataW.agg.injEq] at hx
  have T : Go.Proofs.YtnplhejopmoopaaDoor.Tabled W := fun i hi => by
    have h0 := hel i hi
    have hi' : i < xs.length := by omega
    rw [List.getElem?_eq_getElem hi', c5, Nat.mul_one] at h0
    obtain ⟨k, e1, e2, _⟩ := DataW.trod_int Tryd.underlying5 h0
    have hk : (k : Int) = ((TAB.getD i 0 : Nat) : Int) := by
      have hz := congrArg (fun l => l[i]?) hx
      have hT : i < TAB.length := hi
      simp only [List.getElem?_map, List.getElem?_eq_getElem hi', List.getElem?_eq_getElem hT, Option.map_some, e2] at hz
      simp at hz
      rw [List.getD_eq_getElem?_getD, List.getElem?_eq_getElem hT]
      simpa using hz.symm
    have hv := World.var?_cell hg0 hv0 i
    rw [hv, ← hk]
    have := congrArg (fun l => l[0]?) e1
    simp at this
    simpa using this
  have z0 : 0 < W.heap.size := World.block_lt_of_cell? W _ (T 0 (by decide))
  have z1 : 1 < W.heap.size := World.block_lt_of_cell? W _ (A 0 (by decide))
  have z2 : 2 < W.heap.size := World.block_lt_of_cell? W _ (B 0 (by decide))
  exact ⟨T, ⟨B, A, by omega⟩, by omega⟩
/-- one hash, by its cells. -/
theorem open_hash {H : Type} {enc : TypeId × Value → H} {W : World} {fuel : Nat} {cs : List Value} {x : DataW H × List MemPlace} (hf : DataW.trod enc Tryd.prog W 0 (fun _ => true) true fuel 27 cs = some x) : ∃ h : Nat → Nat, (∀ i, h i < 256) ∧ cs = ULIST .u8 32 h := by
  obtain ⟨xs, m, rfl, _, hl, hn, hel⟩ := DataW.trod_array Tryd.underlying27 hf
  have c5 : Tryd.prog.cellsOf 5 = 1 := by kernel_rfl
  have c32 : Tryd.prog.cellsOf 27 = 32 := by kernel_rfl
  rw [c32] at hl
  have hx : ∀ i, i < 32 → ∃ k : Nat, cs[i]? = some (.int .u8 (k : Int)) ∧ k < 256 := fun i hi => by
    have h0 := hel i hi
    rw [List.getElem?_eq_getElem (by omega), c5, Nat.mul_one] at h0
    obtain ⟨k, e1, _, e3⟩ := DataW.trod_int Tryd.underlying5 h0
    have hb := bounds_u8 e3
    refine ⟨k.toNat, ?_, by omega⟩
    have := congrArg (fun l => l[0]?) e1
    rw [Int.toNat_of_nonneg hb.1]
    simpa using this
  have F : ∃ f : Nat → Nat, (∀ i, f i < 256) ∧ ∀ i, i < 32 → cs[i]? = some (.int .u8 ((f i : Nat) : Int)) := by
    refine ⟨fun i => if hi : i < 32 then (hx i hi).choose else 0, fun i => ?_, fun i hi => ?_⟩
    · by_cases hi : i < 32
      · simp only [hi, dif_pos]; exact (hx i hi).choose_spec.2
      · simp only [hi, dif_neg, not_false_iff]; decide
    · simp only [hi, dif_pos]; exact (hx i hi).choose_spec.1
  obtain ⟨f, hf1, hf2⟩ := F
  refine ⟨f, hf1, ?_⟩
  apply List.ext_getElem?
  intro i
  by_cases hi : i < 32
  · rw [hf2 i hi, ULIST_get _ _ _ _ hi]
  · rw [List.getElem?_eq_none (by omega), List.getElem?_eq_none (by rw [ULIST_length]; omega)]
/-- a slice of hashes that came in. -/
theorem open_hashes {H : Type} {enc : TypeId × Value → H} {W : World} {a : Option Addr} {k c : Nat} {d : DataW H} {ps : List MemPlace} (hd : DataW.Trod enc Tryd.prog W 0 (fun _ => true) true 44 (.slice a k c) d ps) :
    ∃ hs : Nat → Nat → Nat, (∀ i, i < k → ∀ j, hs i j < 256) ∧ HASHES W a k hs := by
  obtain ⟨fuel, hf⟩ := hd
  rcases DataW.trod_slice Tryd.underlying44 hf with ⟨h0, _⟩ | ⟨ad, len, cap, elems, rest, n, _, h0, hx, _, hl, hm, hlen, hel, _, _⟩
  · simp [Value.cells] at h0
    obtain ⟨rfl, rfl, rfl⟩ := h0
    exact ⟨fun _ _ => 0, fun i hi => by omega, fun h => by omega⟩
  · simp [Value.cells] at h0
    obtain ⟨rfl, rfl, rfl⟩ := h0
    have c32 : Tryd.prog.cellsOf 27 = 32 := by kernel_rfl
    have each : ∀ i, i < k → ∃ h : Nat → Nat, (∀ j, h j < 256) ∧ ∀ j, j < 32 → W.cell? ((ad.add (i * 32)).add j) = some (.int .u8 ((h j : Nat) : Int)) := fun i hi => by
      have h := hel i hi
      rw [List.getElem?_eq_getElem (by omega), c32, Option.bind_eq_some_iff] at h
      obtain ⟨cs, hcs, ht⟩ := h
      obtain ⟨f, h1, rfl⟩ := open_hash ht
      have hs := (World.cells?_some hcs).2.2
      refine ⟨f, h1, fun j hj => ?_⟩
      have s := hs j hj
      rw [s]
      exact ULIST_get .u8 32 f j hj
    have F : ∃ f : Nat → Nat → Nat, ∀ i, i < k → (∀ j, f i j < 256) ∧ ∀ j, j < 32 → W.cell? ((ad.add (i * 32)).add j) = some (.int .u8 ((f i j : Nat) : Int)) := by
      refine ⟨fun i => if hi : i < k then (each i hi).choose else fun _ => 0, fun i hi => ?_⟩
      simp only [hi, dif_pos]
      exact (each i hi).choose_spec
    obtain ⟨f, hf2⟩ := F
    refine ⟨f, fun i hi => (hf2 i hi).1, fun h0k => ?_⟩
    obtain ⟨b, off, spot⟩ := ad
    have hc := (hf2 0 h0k).2 0 (by decide)
    have hspot : spot = none := by simpa [Addr.add] using World.cell?_spot hc
    subst hspot
    refine ⟨b, off, rfl, ?_, fun i hi j v hv => ?_⟩
    · have := World.block_lt_of_cell? W _ hc
      simpa [Addr.add] using this
    · have hj : j < 32 := by have := (List.getElem?_eq_some_iff.1 hv).1; rw [ULIST_length] at this; exact this
      have h1 := (hf2 i hi).2 j hj
      rw [addr_add, addr_add] at h1
      rw [ULIST_get _ _ _ _ hj] at hv
      rw [h1, ← hv]
end Go.Proofs.YtnplhejopmoopaaDoor.HX
