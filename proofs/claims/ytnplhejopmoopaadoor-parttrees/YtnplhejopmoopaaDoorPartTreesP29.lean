/- Texts of PartTrees, one behind the other: PartTreesWalk, PosAwake, PosDoor, HashDoor, MmrDoor. -/
import Derived.Test.YtnplhejopmoopaaDoorRows
import Derived.ProofKit
import Derived.LaidMore
import Derived.OpenShut
import Derived.Stop.Joined
import Derived.Test.YtnplhejopmoopaaDoorPartTreesP27
import Derived.Test.YtnplhejopmoopaaDoorPartTreesP28
/- The law PartTrees returns true. -/
namespace Go.Proofs.YtnplhejopmoopaaDoor
open Go.RowKit
set_option maxRecDepth 100000

theorem ptrees_long (d : Int) (a : Option Addr) (n c : Nat) (b : Option Addr) (m c2 : Nat) (w : World) (hn : (200 : Int) < (n : Int)) : Calls Tryd.prog 4 #[.int .i64 d, .slice a n c, .slice b m c2] w fun e w' => e = .returned (.bool true) ∧ Below w.heap.size w w' := by
  go_enter Tryd.func4, Tryd.ntmps4
  go_wp2
  go_ret
  exact ⟨rfl, Below.refl _ _⟩
theorem ptrees_apart (d : Int) (a : Option Addr) (n c : Nat) (b : Option Addr) (m c2 : Nat) (w : World) (hn : ¬ (200 : Int) < (n : Int)) (hm : ¬ n = m) : Calls Tryd.prog 4 #[.int .i64 d, .slice a n c, .slice b m c2] w fun e w' => e = .returned (.bool true) ∧ Below w.heap.size w w' := by
  have h1 : ((n : Int) == (m : Int)) = false := beq_eq_false_iff_ne.2 (by omega)
  go_enter Tryd.func4, Tryd.ntmps4
  go_wp2
  go_ret
  exact ⟨rfl, Below.refl _ _⟩
set_option maxHeartbeats 8000000 in
theorem ptrees_core (d : Int) (a : Option Addr) (n c : Nat) (b : Option Addr) (c2 : Nat) (hs ms : Nat → Nat → Nat) (w : World) (hn : ¬ (200 : Int) < (n : Int)) (hH : HX.HASHES w a n hs) (hM : HX.HASHES w b n ms) (h8 : ∀ i, i < n → ∀ j, hs i j < 256) (h9 : ∀ i, i < n → ∀ j, ms i j < 256) (hT : Tabled w) (hX : HX.Tabled w) : Calls Tryd.prog 4 #[.int .i64 d, .slice a n c, .slice b n c2] w fun e w' => e = .returned (.bool true) ∧ Below w.heap.size w w' := by
  have hnn : ((n : Int) == (n : Int)) = true := beq_self_eq_true _
  have c1 := HX.of21_ok d a n c hs w (by omega) hH h8 hX
  have HT : Aside (∀ W, Below w.heap.size w W → Tabled W ∧ HX.Tabled W) := fun W h => ⟨hT.below (by have := hX.2.2; omega) h, hX.below h⟩
  have HR : Aside (0 < n → ∃ lb lo mb mo, a = some ⟨lb, lo, none⟩ ∧ b = some ⟨mb, mo, none⟩ ∧ ∀ W, Below w.heap.size w W → ∀ j, j < n → W.rangeAt lb (lo + j * 32) (HX.ULIST .u8 32 (hs j)) ∧ W.rangeAt mb (mo + j * 32) (HX.ULIST .u8 32 (ms j))) := fun hk => by
    obtain ⟨lb, lo, e1, l1, r1⟩ := hH hk
    obtain ⟨mb, mo, e2, l2, r2⟩ := hM hk
    exact ⟨lb, lo, mb, mo, e1, e2, fun W h j hj => ⟨HX.range_below (r1 j hj) h l1, HX.range_below (r2 j hj) h l2⟩⟩
  have HA : Aside (n ≤ 200 ∧ HX.HASHES w b n ms ∧ ∀ i, i < n → ∀ j, ms i j < 256) := ⟨by omega, hM, h9⟩
  have hz := HX.zeroHash
  clear hH hM h8 h9 hT hX
  go_enter Tryd.func4, Tryd.ntmps4
  go_wp2_with fail
  refine c1.mono ?_
  rintro e w1 ⟨ga, C, rfl, f1, b1, -⟩
  clear c1
  have A1 : Aside (HX.FOREST w1 w.heap.size ga d 2 n C hs ∧ Below w.heap.size w w1) := ⟨f1, b1⟩
  have c2' := HX.of21_ok d b n c2 ms w1 (by have := HA.out.1; omega) (HA.out.2.1.below b1) HA.out.2.2 (HT.out w1 b1).2
  clear f1 b1
  go_wp2_with fail
  refine c2'.mono ?_
  rintro e w2 ⟨gb, D, rfl, f2, b2, hf⟩
  clear c2'
  have A2 : Aside (TWOP w w2 w1.heap.size ga gb d n n C D hs ms) := TWOP.made A1.out.1 A1.out.2 f2 b2 hf
  clear f2 b2 hf A1
  generalize w1.heap.size = Bb at *
  have cs := HX.size_of A2.out.fa
  go_wp2_with fail
  refine cs.mono ?_
  rintro e w3 ⟨rfl, rfl⟩
  clear cs
  obtain ⟨k, X, Y, q, E, T, hA1, hA2, hPR, hCV, hTn⟩ := tans_all A2.out.fa A2.out.fb
  have RR : Aside (PRESU hs ms n k X Y q E T ∧ PCOV (TSAME n C D) n T ∧ T ≤ n) := ⟨hPR, hCV, hTn⟩
  have R2 : Aside (∀ e, TANS ms hs (PFST (fun _ => 0) (fun _ => 0) (TSAME n D C) n) e → e = .returned (.tuple #[.agg (PTG k Y X q), .int .i64 E])) := hA2
  have cf := A2.out.first (HT.out w2 A2.out.bel).1
  have R1 : Aside (∀ e, TANS hs ms (PFST (fun _ => 0) (fun _ => 0) (TSAME n C D) n) e → e = .returned (.tuple #[.agg (PTG k X Y q), .int .i64 E])) := hA1
  clear hA1 hA2 hPR hCV hTn
  obtain ⟨ZP, eZ, hzp, hbp, hZ66, hZ1⟩ := zero_part
  have SZ : Aside (PTG 0 (fun _ => 0) (fun _ => 0) 0 = ZP ∧ ZP.size = 66 ∧ ZP.all (·.oneCell') = true) := ⟨eZ, hZ66, hZ1⟩
  clear eZ hZ1
  have HE : Aside (E = 0 ∨ E = 210) := by
    rcases RR.out.1 with h | h
    · exact .inl h.1
    · exact .inr h.1
  go_wp2_with fail
  refine cf.mono ?_
  rintro e w4 ⟨he, T4⟩
  obtain rfl := R1.out _ he
  clear cf he
  obtain ⟨P1, hP1⟩ : ∃ P1, PTG k X Y q = P1 := ⟨_, rfl⟩
  obtain ⟨w5, hst, h10, hb5⟩ := part_put w4 ZP (PTG k X Y q) SZ.out.2.1 (PTG_size _ _ _ _) (PTG_one _ _ _ _)
  have hsz := PTG_size k X Y q
  have HP : Aside (PTG k X Y q = P1 ∧ P1.size = 66) := ⟨hP1, by rw [← hP1]; exact hsz⟩
  have T5 : Aside (TWOP w w5 Bb ga gb d n n C D hs ms ∧ Has w5 w4.heap.size P1 29 ∧ w.heap.size ≤ w4.heap.size) := ⟨T4.keep hb5, by rw [← hP1]; exact h10, T4.bel.size⟩
  rw [hP1] at hst hsz ⊢
  clear T4 hb5 h10 hP1 A2 R1
  go_upto_region 8 with fail
  clear hst
  obtain ⟨bp, hbp'⟩ : ∃ bp, w4.heap.size = bp := ⟨_, rfl⟩
  rw [hbp'] at T5 ⊢
  clear hbp'
  generalize w5 = wa at *
  go_cut [63] from 58 to 63 (fun s63 W => s63 = .bool false ∧ Aside (W = wa))
  case first =>
    rcases HE.out with rfl | rfl
    · go_wp2_with fail
      go_meet
      case rel => exact ⟨rfl, rfl⟩
    · go_wp2_with fail
      go_meet
      case rel => exact ⟨rfl, rfl⟩
  case rest =>
    obtain ⟨rfl, hwc⟩ := hcut
    obtain rfl := hwc.out
    go_upto_if 66 with fail
    clear hwc
    go_cut [12] from 67 to 115 (fun s12 W => s12 = .int .u64 (T : Int) ∧ Aside (TWOP w W Bb ga gb d n n C D hs ms ∧ Has W bp P1 29))
    case first =>
      rcases RR.out.1 with ⟨rfl, rfl, hk, rfl, rfl, hne, hq0, hqm⟩ | ⟨rfl, rfl, rfl, rfl, rfl, rfl⟩
      · obtain ⟨lb, lo, mb, mo, rfl, rfl, HRR⟩ := HR.out (by omega)
        have hPl := T5.out.2.1
        rw [← HP.out.1] at hPl
        have x0 := (part_list _ _ _ _ hPl).1
        have HS : Aside (∀ W, Below wc.heap.size wc W → W.rangeAt bp 1 (HX.ULIST .u8 32 (hs T)) ∧ W.rangeAt bp 33 (HX.ULIST .u8 32 (ms T)) ∧ W.cell? ⟨bp, 65, none⟩ = some (.int .i64 (q : Int)) ∧ W.rangeAt lb (lo + T * 32) (HX.ULIST .u8 32 (hs T)) ∧ W.rangeAt mb (mo + T * 32) (HX.ULIST .u8 32 (ms T))) := fun W hb => by
          obtain ⟨_, r1, r2, r3⟩ := part_list _ _ _ _ (hPl.keep hb)
          have r4 := HRR W (T5.out.1.bel.trans (hb.mono T5.out.1.bel.size)) T hk
          exact ⟨r1, r2, r3, r4.1, r4.2⟩
        have cm : Aside (∀ W, Below wc.heap.size wc W → Calls Tryd.prog 9 #[.int .u64 (n : Int)] W fun e w' => e = .returned (.int .i64 ((MOSTP n : Nat) : Int)) ∧ Below wc.heap.size wc w') := fun W hb => (most_ok n (by have := HA.out.1; omega) W).mono fun e w' h => ⟨h.1, h.2 ▸ hb⟩
        have qx : ∀ w, (Op.equalIn 10000 27 (.agg (HX.UARR .u8 32 (hs T))) (.agg (HX.UARR .u8 32 (ms T)))).run Tryd.prog w = .ok false w := fun w => by rw [HX.equal_hash, hne]
        have F1 : Aside (((T : Int) < (n : Int)) ∧ ¬ (n : Int) ≤ (T : Int) ∧ ¬ (q : Int) < 1 ∧ ¬ ((MOSTP n : Nat) : Int) < (q : Int)) := ⟨by omega, by omega, by omega, by omega⟩
        clear hne hq0 hqm hk HRR hPl
        generalize MOSTP n = mm at *
        go_upto_region 13 with fail
        refine ptrees13 wc lb lo mb mo n c c2 T bp q mm (hs T) (ms T) F1.out.1 F1.out.2.1 F1.out.2.2.1 F1.out.2.2.2 qx (HX.equal_same _) (HX.equal_same _) (fun W => Below wc.heap.size wc W) (Below.refl _ _).drew HS.out cm.out (fun _ _ _ _ _ h => h) (fun W hb => ?_)
        have Z : Aside (TWOP w W Bb ga gb d n n C D hs ms ∧ Has W bp P1 29) := ⟨T5.out.1.keep hb, T5.out.2.1.keep hb⟩
        clear hb HS cm qx F1 x0
        go_wp2_with fail
        go_meet
        case rel => exact ⟨rfl, Z.out⟩
      · have hZP : P1 = ZP := HP.out.1.symm.trans SZ.out.1
        subst hZP
        have hr := T5.out.2.1.part
        have kq : ∀ w, (Op.equalIn 10000 29 (.agg P1) (.agg P1)).run Tryd.prog w = .ok true w := fun w => by rw [← HP.out.1]; exact equal_part _ _ _ _ w
        have hi : (Tryd.prog.info? 29).map (·.size) = some P1.toList.length := by rw [Array.length_toList, hsz]; exact info_part
        go_wp2_with (refine load_mid_if21 (by rfl) 29 (.tmp 10) rfl bp 0 rfl P1.toList _ hr Tryd.underlying29 rfl hi ?_; rw [Array.toArray_toList])
        go_meet
        case rel => exact ⟨rfl, T5.out.1, T5.out.2.1⟩
    case rest =>
      obtain ⟨rfl, hcc⟩ := hcut
      clear T5
      go_wp2_with fail
      go_loopg [13] T (fun r s13 wx => ∃ i : Nat, s13 = .int .u64 (i : Int) ∧ Aside (i + r = T ∧ TWOP w wx Bb ga gb d n n C D hs ms ∧ Has wx bp P1 29))
      case atStart => exact ⟨0, rfl, by omega, hcc.out⟩
      case round =>
        obtain ⟨i, rfl, I⟩ := hrel
        clear hcc
        cases gk with
        | zero =>
          obtain rfl : i = T := by have := I.out.1; omega
          have hlt : ¬ (i : Int) < (i : Int) := by omega
          have I2 : Aside (TWOP w wr Bb ga gb d n n C D hs ms ∧ Has wr bp P1 29) := I.out.2
          have cf := tfirst_ok I2.out.1.fb I2.out.1.fa (HT.out wr I2.out.1.bel).1
          clear I HR HE RR
          go_wp2_with fail
          refine cf.mono ?_
          rintro e v1 ⟨he, hv1⟩
          obtain rfl := R2.out _ he
          clear cf he
          obtain ⟨v2, hst, h21, hv2⟩ := part_put v1 ZP (PTG k Y X q) SZ.out.2.1 (PTG_size _ _ _ _) (PTG_one _ _ _ _)
          have hsz2 := PTG_size k Y X q
          have hb2 : Below wr.heap.size wr v2 := hv1.trans (hv2.mono hv1.size)
          have I3 : Aside (TWOP w v2 Bb ga gb d n n C D hs ms) := I2.out.1.keep hb2
          have hPl := I2.out.2.keep hb2
          rw [← HP.out.1] at hPl
          obtain ⟨x0, x1, x2, x3⟩ := part_list _ _ _ _ hPl
          obtain ⟨y0, y1, y2, y3⟩ := part_list _ _ _ _ h21
          have qX := fun w => HX.equal_same X w
          have qY := fun w => HX.equal_same Y w
          have cg : Calls Tryd.prog 7 #[.iface 45 (.pointer (some ⟨ga, 0, none⟩)), .iface 45 (.pointer (some ⟨ga, 0, none⟩)), .int .u64 (n : Int)] v2 fun e w' => e = .returned (.tuple #[.agg ZP, .int .i64 210]) ∧ TWOP w w' Bb ga gb d n n C D hs ms := (tfirst_ok I3.out.fa I3.out.fa (HT.out v2 I3.out.bel).1).mono fun e w' h => ⟨by rw [h.1.none (PFST_self (tsame_self n C) n), SZ.out.1], I3.out.keep h.2⟩
          clear hv1 hv2 hb2 h21 hPl I2
          generalize PTG k Y X q = P2 at *
          go_upto_region 32 with fail
          clear hst
          obtain ⟨bq, hbq⟩ : ∃ bq, v1.heap.size = bq := ⟨_, rfl⟩
          rw [hbq] at y0 y1 y2 y3 ⊢
          clear hbq
          have hl : ∀ F, (Tryd.prog.info? 27).map (·.size) = some (HX.ULIST .u8 32 F).length := fun F => by rw [HX.ULIST_length]; exact HX.info_hash
          go_wp2_with (first
            | (refine load_mid_if21 (by rfl) 27 (.tmp 188) rfl bq 1 rfl (HX.ULIST .u8 32 Y) _ y1 Tryd.underlying27 rfl (hl Y) ?_; rw [← HX.UARR_list])
            | (refine load_mid_if21 (by rfl) 27 (.tmp 190) rfl bp 33 rfl (HX.ULIST .u8 32 Y) _ x2 Tryd.underlying27 rfl (hl Y) ?_; rw [← HX.UARR_list])
            | (refine load_mid_if21 (by rfl) 27 (.tmp 195) rfl bq 33 rfl (HX.ULIST .u8 32 X) _ y2 Tryd.underlying27 rfl (hl X) ?_; rw [← HX.UARR_list])
            | (refine load_mid_if21 (by rfl) 27 (.tmp 197) rfl bp 1 rfl (HX.ULIST .u8 32 X) _ x1 Tryd.underlying27 rfl (hl X) ?_; rw [← HX.UARR_list]))
          refine cg.mono ?_
          rintro e v3 ⟨rfl, T3⟩
          clear cg x0 x1 x2 x3 y0 y1 y2 y3 qX qY hl I3
          obtain ⟨v4, hst, -, hv4⟩ := part_put v3 ZP ZP SZ.out.2.1 SZ.out.2.1 SZ.out.2.2
          have T4 := T3.keep hv4
          have ca := awake21_ok v4 (HT.out v4 T4.bel).1 (HT.out v4 T4.bel).2
          have HB : Aside (Below w.heap.size w v4) := T4.bel
          clear T3 T4 hv4
          go_wp2_with fail
          refine ca.mono ?_
          rintro e v5 ⟨rfl, hv5⟩
          clear ca hst
          go_wp2_with fail
          go_ret
          exact ⟨rfl, HB.out.trans (hv5.mono HB.out.size)⟩
        | succ r =>
          have hiT : i < T := by have := I.out.1; omega
          have hin : i < n := by have := RR.out.2.2; omega
          have hlt : (i : Int) < (T : Int) := by omega
          have hln : (i : Int) < (n : Int) := by omega
          obtain ⟨lb, lo, mb, mo, rfl, rfl, HRR⟩ := HR.out (by omega)
          have HRA : Aside (∀ W, Below w.heap.size w W → ∀ j, j < n → W.rangeAt lb (lo + j * 32) (HX.ULIST .u8 32 (hs j)) ∧ W.rangeAt mb (mo + j * 32) (HX.ULIST .u8 32 (ms j))) := HRR
          have HI : Aside (i < T ∧ i < n ∧ i + 1 + r = T ∧ i < 200) := ⟨hiT, hin, by have := I.out.1; omega, by have := HA.out.1; omega⟩
          have hi1 : Aside (IntKind.u64.wrap ((i : Int) + 1) = ((i + 1 : Nat) : Int)) := by have := HI.out.2.2.2; show IntKind.u64.wrap ((i : Int) + 1) = ((i + 1 : Nat) : Int); simp [IntKind.wrap, IntKind.signed, IntKind.bits]; omega
          obtain ⟨sb, hsb⟩ : ∃ sb, ((List.range 32).all fun x => hs i x == ms i x) = sb := ⟨_, rfl⟩
          have HSB : Aside (((List.range 32).all fun x => hs i x == ms i x) = sb) := hsb
          have qx : ∀ w, (Op.equalIn 10000 27 (.agg (HX.UARR .u8 32 (hs i))) (.agg (HX.UARR .u8 32 (ms i)))).run Tryd.prog w = .ok sb w := fun w => by rw [HX.equal_hash, hsb]
          clear HRR hiT hin HR hsb
          go_upto_region 20 with fail
          refine ptrees20 wr lb lo mb mo n c c2 i (hs i) (ms i) sb hln qx (fun W => Below wr.heap.size wr W) (Below.refl _ _).drew (fun W hb => HRA.out W (I.out.2.1.bel.trans (hb.mono I.out.2.1.bel.size)) i HI.out.2.1) (fun _ _ _ _ _ h => h) (fun W hb => ?_)
          have I2 : Aside (TWOP w W Bb ga gb d n n C D hs ms ∧ Has W bp P1 29) := ⟨I.out.2.1.keep hb, I.out.2.2.keep hb⟩
          clear hb qx I HRA
          cases sb with
          | true =>
            go_wp2_with fail
            go_roundg r
            case measure => exact Nat.lt_succ_self _
            case rel => exact ⟨i + 1, by first | rfl | (rw [hi1.out]), HI.out.2.2.1, I2.out⟩
          | false =>
            obtain ⟨H, hH1, hH2, hH3⟩ := cov_least RR.out.2.1 HI.out.1
            have HH : Aside ((i / 2 ^ H + 1) * 2 ^ H ≤ n ∧ TSAME n C D (PLC H (i / 2 ^ H)) = true ∧ ∀ h, h < H → (i / 2 ^ h + 1) * 2 ^ h ≤ n ∧ TSAME n C D (PLC h (i / 2 ^ h)) = false) := ⟨hH1, hH2, hH3⟩
            have cl := leaf_ok i (by have := HI.out.2.2.2; omega) W
            clear hH1 hH2 hH3
            go_wp2_with fail
            refine cl.mono ?_
            rintro e W0 ⟨rfl, rfl⟩
            clear cl
            have e0 : NODES i = PLC 0 (i / 2 ^ 0) := by rw [PLC_leaf, Nat.pow_zero, Nat.div_one]
            rw [e0]
            clear e0
            go_wp2_with fail
            generalize wr = wo at *
            go_loopg [14, 15, 16] (H + 1) (fun g s14 s15 s16 wx => ∃ (h : Nat) (mt : Bool), s14 = .int .u64 ((PLC h (i / 2 ^ h) : Nat) : Int) ∧ s15 = .bool true ∧ s16 = .bool mt ∧ Aside (h + g = H + 1 ∧ mt = decide (g = 0) ∧ TWOP w wx Bb ga gb d n n C D hs ms ∧ Has wx bp P1 29))
            case atStart => exact ⟨0, false, by rw [Nat.pow_zero, Nat.div_one], rfl, rfl, by omega, by simp, I2.out⟩
            case round =>
              obtain ⟨h, mt, rfl, rfl, rfl, J⟩ := hrel
              clear I2
              cases gk with
              | zero =>
                obtain rfl : mt = true := by rw [J.out.2.1]; rfl
                have J2 : Aside (TWOP w wr Bb ga gb d n n C D hs ms ∧ Has wr bp P1 29) := J.out.2.2
                clear J HH
                go_wp2_with fail
                go_roundg r
                case measure => exact Nat.lt_succ_self _
                case rel => exact ⟨i + 1, by first | rfl | (rw [hi1.out]), HI.out.2.2.1, J2.out⟩
              | succ g =>
                obtain rfl : mt = false := by rw [J.out.2.1]; simp
                have hhH : h ≤ H := by have := J.out.1; omega
                have hin : (i / 2 ^ h + 1) * 2 ^ h ≤ n ∧ TSAME n C D (PLC h (i / 2 ^ h)) = decide (g = 0) := by
                  have hj := J.out.1
                  rcases Nat.lt_or_ge h H with h1 | h1
                  · have := HH.out.2.2 h h1
                    exact ⟨this.1, by rw [this.2, decide_eq_false (by omega)]⟩
                  · obtain rfl : h = H := by omega
                    exact ⟨HH.out.1, by rw [HH.out.2.1, decide_eq_true (by omega)]⟩
                have hN : Node h (i / 2 ^ h) := inn_node hin.1 (by have := HA.out.1; omega)
                have hh62 : h < 62 := by
                  rcases Nat.lt_or_ge h 62 with h1 | h1
                  · exact h1
                  · have h2 := Nat.pow_le_pow_right (n := 2) (by decide) h1
                    have h3 : 2 ^ h ≤ (i / 2 ^ h + 1) * 2 ^ h := Nat.le_mul_of_pos_left _ (Nat.succ_pos _)
                    have := HA.out.1
                    omega
                have cp0 := fun W => parent_ok h (i / 2 ^ h) hN hh62 W
                have eup : i / 2 ^ h / 2 = i / 2 ^ (h + 1) := by rw [Nat.div_div_eq_div_mul, ← Nat.pow_succ]
                have CP : Aside (∀ W, Calls Tryd.prog 16 #[.int .u64 ((PLC h (i / 2 ^ h) : Nat) : Int)] W fun e w' => e = .returned (.tuple #[.int .u64 ((PLC (h + 1) (i / 2 ^ (h + 1)) : Nat) : Int), .bool true]) ∧ Below W.heap.size W w') := by rw [eup] at cp0; exact cp0
                have hlt2 := inn_lt hin.1
                have hnn2 : NODES n ≤ 2 * n := by unfold NODES; omega
                have CN : Aside (∀ W, TWOP w W Bb ga gb d n n C D hs ms → (Calls Tryd.prog 15 #[.pointer (some ⟨ga, 0, none⟩), .int .u64 ((PLC h (i / 2 ^ h) : Nat) : Int)] W fun e w' => e = .returned (.tuple #[.agg (HX.UARR .u8 32 (HX.GOTH C 2 (NODES n) (PLC h (i / 2 ^ h)))), .int .i64 0]) ∧ Below W.heap.size W w') ∧ (Calls Tryd.prog 15 #[.pointer (some ⟨gb, 0, none⟩), .int .u64 ((PLC h (i / 2 ^ h) : Nat) : Int)] W fun e w' => e = .returned (.tuple #[.agg (HX.UARR .u8 32 (HX.GOTH D 2 (NODES n) (PLC h (i / 2 ^ h)))), .int .i64 0]) ∧ Below W.heap.size W w')) := fun W hW => by
                  have h1 := HX.treenode_ok hW.fa.store (PLC h (i / 2 ^ h)) (by have := HA.out.1; omega)
                  have h2 := HX.treenode_ok hW.fb.store (PLC h (i / 2 ^ h)) (by have := HA.out.1; omega)
                  rw [(goth_at hW.fa hin.1).2] at h1
                  rw [(goth_at hW.fb hin.1).2] at h2
                  exact ⟨h1, h2⟩
                obtain ⟨sc, hsc⟩ : ∃ sc, decide (g = 0) = sc := ⟨_, rfl⟩
                have qx : ∀ w, (Op.equalIn 10000 27 (.agg (HX.UARR .u8 32 (HX.GOTH C 2 (NODES n) (PLC h (i / 2 ^ h))))) (.agg (HX.UARR .u8 32 (HX.GOTH D 2 (NODES n) (PLC h (i / 2 ^ h)))))).run Tryd.prog w = .ok sc w := fun w => by rw [HX.equal_hash, ← hsc, ← hin.2]; rfl
                have J2 : Aside (h + 1 + g = H + 1 ∧ sc = decide (g = 0) ∧ TWOP w wr Bb ga gb d n n C D hs ms ∧ Has wr bp P1 29) := ⟨by have := J.out.1; omega, hsc.symm, J.out.2.2⟩
                clear J hhH hin hN hh62 cp0 eup hlt2 hnn2 hsc
                generalize HX.GOTH C 2 (NODES n) (PLC h (i / 2 ^ h)) = XA at *
                generalize HX.GOTH D 2 (NODES n) (PLC h (i / 2 ^ h)) = XB at *
                obtain ⟨pn, hpn⟩ : ∃ pn, PLC (h + 1) (i / 2 ^ (h + 1)) = pn := ⟨_, rfl⟩
                have HPN : Aside (PLC (h + 1) (i / 2 ^ (h + 1)) = pn) := hpn
                rw [hpn] at CP
                clear hpn
                generalize PLC h (i / 2 ^ h) = pp at *
                have ca := (CN.out wr J2.out.2.2.1).1
                go_wp2_with fail
                refine ca.mono ?_
                rintro e v1 ⟨rfl, hv1⟩
                clear ca
                have hst := run_storeCells_new (P := Tryd.prog) v1 27 (HX.UARR .u8 32 fun _ => 0) (HX.UARR .u8 32 XA) (HX.info_HASH _) (by rw [HX.UARR_size, HX.UARR_size]) (HX.UARR_one _ _ _)
                have hsu := HX.UARR_size .u8 32 XA
                obtain ⟨v2, hv2⟩ : ∃ v2, v1.alloc (.cells (HX.UARR .u8 32 XA) 27) = v2 := ⟨_, rfl⟩
                have hXA : Has v2 v1.heap.size (HX.UARR .u8 32 XA) 27 := by rw [← hv2]; exact Has.new _ _ _
                have hb2 : Below wr.heap.size wr v2 := by rw [← hv2]; exact hv1.alloc hv1.size _
                rw [hv2] at hst
                have J3 : Aside (h + 1 + g = H + 1 ∧ sc = decide (g = 0) ∧ TWOP w v2 Bb ga gb d n n C D hs ms ∧ Has v2 bp P1 29 ∧ Has v2 v1.heap.size (HX.UARR .u8 32 XA) 27) := ⟨J2.out.1, J2.out.2.1, J2.out.2.2.1.keep hb2, J2.out.2.2.2.keep hb2, hXA⟩
                have cb := (CN.out v2 J3.out.2.2.1).2
                clear hb2 J2 hXA hv1 hv2 CN
                go_wp2_with fail
                refine cb.mono ?_
                rintro e v3 ⟨rfl, hv3⟩
                clear cb hst hsu
                obtain ⟨ba, hba⟩ : ∃ ba, v1.heap.size = ba := ⟨_, rfl⟩
                rw [hba] at J3 ⊢
                clear hba
                have hst := run_storeCells_new (P := Tryd.prog) v3 27 (HX.UARR .u8 32 fun _ => 0) (HX.UARR .u8 32 XB) (HX.info_HASH _) (by rw [HX.UARR_size, HX.UARR_size]) (HX.UARR_one _ _ _)
                have hsu := HX.UARR_size .u8 32 XB
                obtain ⟨v4, hv4⟩ : ∃ v4, v3.alloc (.cells (HX.UARR .u8 32 XB) 27) = v4 := ⟨_, rfl⟩
                have hXB : HX.Has v4 v3.heap.size (HX.UARR .u8 32 XB) 27 := by rw [← hv4]; exact Has.new _ _ _
                have hb4 : Below v2.heap.size v2 v4 := by rw [← hv4]; exact hv3.alloc hv3.size _
                rw [hv4] at hst
                have hXA : HX.Has v4 ba (HX.UARR .u8 32 XA) 27 := J3.out.2.2.2.2.keep hb4
                have J4 : Aside (h + 1 + g = H + 1 ∧ sc = decide (g = 0) ∧ TWOP w v4 Bb ga gb d n n C D hs ms ∧ Has v4 bp P1 29) := ⟨J3.out.1, J3.out.2.1, J3.out.2.2.1.keep hb4, J3.out.2.2.2.1.keep hb4⟩
                have cp := CP.out v4
                clear hb4 J3 hv3 hv4 CP
                go_wp2_with (first
                  | (refine wpList_load_row rfl 27 (.tmp 17) rfl ba rfl 27 (HX.UARR .u8 32 XA) (0, 0) _ hXA Tryd.underlying27 rfl (HX.info_HASH _) ?_)
                  | (refine wpList_load_row rfl 27 (.tmp 19) rfl v3.heap.size rfl 27 (HX.UARR .u8 32 XB) (0, 0) _ hXB Tryd.underlying27 rfl (HX.info_HASH _) ?_))
                refine cp.mono ?_
                rintro e v5 ⟨rfl, hv5⟩
                have J5 : Aside (h + 1 + g = H + 1 ∧ sc = decide (g = 0) ∧ TWOP w v5 Bb ga gb d n n C D hs ms ∧ Has v5 bp P1 29) := ⟨J4.out.1, J4.out.2.1, J4.out.2.2.1.keep hv5, J4.out.2.2.2.keep hv5⟩
                clear cp J4 hv5 hst hsu hXA hXB qx
                go_wp2_with fail
                go_roundg g
                case measure => exact Nat.lt_succ_self _
                case rel => exact ⟨h + 1, sc, by rw [HPN.out], rfl, rfl, J5.out⟩
theorem partTrees_walk (d : Int) (a : Option Addr) (n c : Nat) (b : Option Addr) (m c2 : Nat) (hs ms : Nat → Nat → Nat) (w : World) (hH : HX.HASHES w a n hs) (h8 : ∀ i, i < n → ∀ j, hs i j < 256) (hM : HX.HASHES w b m ms) (h9 : ∀ i, i < m → ∀ j, ms i j < 256) (hT : Tabled w) (hX : HX.Tabled w) : Calls Tryd.prog 4 #[.int .i64 d, .slice a n c, .slice b m c2] w fun e w' => e = .returned (.bool true) ∧ Below w.heap.size w w' := by
  by_cases h1 : (200 : Int) < (n : Int)
  · exact ptrees_long d a n c b m c2 w h1
  · by_cases h2 : n = m
    · subst h2
      exact ptrees_core d a n c b c2 hs ms w h1 hH hM h8 h9 hT hX
    · exact ptrees_apart d a n c b m c2 w h1 h2
end Go.Proofs.YtnplhejopmoopaaDoor

/- awake answers true: the forest of seven leaves. -/
namespace Go.Proofs.YtnplhejopmoopaaDoor
open Go.RowKit

end Go.Proofs.YtnplhejopmoopaaDoor

/- What the card's row gives the walks of layer 3: spots that came in; the table of math/bits. -/
namespace Go.Proofs.YtnplhejopmoopaaDoor
open Go.ChangeShapes Go.WideShapes Go.ChangeAt Go.WideMaps Go.WideElems Go.RowKit
set_option maxRecDepth 100000

theorem own : ownKnob Tryd.prog.godebug = none := by kernel_rfl
theorem laidOut : laidOutB Tryd.prog = true := by kernel_rfl
theorem gTab : Tryd.prog.globalNamed "math/bits.deBruijn64tab" = some 0 := by kernel_rfl
theorem tTab : (Tryd.prog.globals[0]?).map (·.type) = some 127 := by kernel_rfl
theorem tabData {H : Type} : (Rows.laid_math_bits_deBruijn64tab : DataW H) = .agg (TAB.map fun n => .lit (.int .u8 (n : Nat))) := rfl
end Go.Proofs.YtnplhejopmoopaaDoor

/- What the card's row gives the walks: arrays and slices of bytes that came in; the two tables. -/
namespace Go.Proofs.YtnplhejopmoopaaDoor.HX
set_option maxRecDepth 100000
open Go.ChangeShapes Go.WideShapes Go.ChangeAt Go.WideMaps Go.WideElems Go.RowKit

theorem own : ownKnob Tryd.prog.godebug = none := by kernel_rfl
theorem laidOut : laidOutB Tryd.prog = true := by kernel_rfl
theorem gRounds : Tryd.prog.globalNamed "massif/hash.rounds" = some 2 := by kernel_rfl
theorem gBegin : Tryd.prog.globalNamed "massif/hash.begin" = some 1 := by kernel_rfl
theorem tRounds : (Tryd.prog.globals[2]?).map (·.type) = some 147 := by kernel_rfl
theorem tBegin : (Tryd.prog.globals[1]?).map (·.type) = some 145 := by kernel_rfl
theorem roundsData {H : Type} : (Rows.laid_massif_hash_rounds : DataW H) = .agg (KLIST.map fun n => .lit (.int .u32 (n : Nat))) := rfl
theorem beginData {H : Type} : (Rows.laid_massif_hash_begin : DataW H) = .agg (BEGIN.map fun n => .lit (.int .u32 (n : Nat))) := rfl

theorem table_at {H : Type} {enc : TypeId × Value → H} {W : World} {base fuel n : Nat} {sp : Nat → Bool} {held : Bool} {t : TypeId} {cs : List Value} {ps : List MemPlace} (L : List Nat) (hL : L.length = n) (ht : Tryd.prog.underlying t = some (.array n 144))
    (hd : DataW.trod enc Tryd.prog W base sp held fuel t cs = some (.agg (L.map fun n => .lit (.int .u32 (n : Nat))), ps)) (i : Nat) (hi : i < n) : cs[i]? = some (.int .u32 (L.getD i 0 : Nat)) := by
  obtain ⟨xs, m1, rfl, hx1, hlen, hn, hel⟩ := DataW.trod_array ht hd
  have c5 : Tryd.prog.cellsOf 144 = 1 := by kernel_rfl
  simp only [Prod.mk.injEq, DataW.agg.injEq] at hx1
  have hx := hx1.1
  have h0 := hel i hi
  have hi' : i < xs.length := by omega
  rw [List.getElem?_eq_getElem hi', c5, Nat.mul_one] at h0
  obtain ⟨k, e1, e2, _⟩ := DataW.trod_int Tryd.underlying144 h0
  have hk : (k : Int) = ((L.getD i 0 : Nat) : Int) := by
    have hz := congrArg (fun l => l[i]?) hx
    have hT : i < L.length := by omega
    simp only [List.getElem?_map, List.getElem?_eq_getElem hi', List.getElem?_eq_getElem hT, Option.map_some, e2] at hz
    simp at hz
    rw [List.getD_eq_getElem?_getD, List.getElem?_eq_getElem hT]
    simpa using hz.symm
  rw [← hk]
  have := congrArg (fun l => l[0]?) e1
  simpa using this
end Go.Proofs.YtnplhejopmoopaaDoor.HX

/- What a card's row gives the walks of chapter 6: the three tables, a slice of hashes that came in. -/
namespace Go.Proofs.YtnplhejopmoopaaDoor.HX
open Go.ChangeShapes Go.WideShapes Go.ChangeAt Go.WideMaps Go.WideElems Go.RowKit
set_option maxRecDepth 100000

theorem of_laid3 {W : World} (h : laidMetH Tryd.prog [("math/bits.deBruijn64tab", Rows.laid_math_bits_deBruijn64tab), ("massif/hash.begin", Rows.laid_massif_hash_begin), ("massif/hash.rounds", Rows.laid_massif_hash_rounds)] W) : Go.Proofs.YtnplhejopmoopaaDoor.Tabled W ∧ Tabled W ∧ 2 < W.heap.size := by
  rw [MakeChecks.laidMetH_plain _ _ _ (by kernel_rfl)] at h
  obtain ⟨ps, ⟨g0, t0, cs0, f0, p0, q0, hg0, ht0, hv0, hd0, ⟨g1, t1, cs1, f1, p1, q1, hg1, ht1, hv1, hd1, ⟨g2, t2, cs2, f2, p2, q2, hg2, ht2, hv2, hd2, _, _⟩, _⟩, _⟩, _, _⟩ := h
  obtain rfl := Option.some.inj (gTab.symm.trans hg0)
  obtain rfl := Option.some.inj (tTab.symm.trans ht0)
  obtain rfl := Option.some.inj (gBegin.symm.trans hg1)
  obtain rfl := Option.some.inj (tBegin.symm.trans ht1)
  obtain rfl := Option.some.inj (gRounds.symm.trans hg2)
  obtain rfl := Option.some.inj (tRounds.symm.trans ht2)
  rw [beginData] at hd1
  rw [roundsData] at hd2
  have A : ∀ i, i < 8 → W.cell? ⟨1, i, none⟩ = some (.int .u32 (BEGIN.getD i 0 : Nat)) := fun i hi => (World.var?_cell hg1 hv1 i).trans (Array.getElem?_toList.symm.trans (table_at BEGIN rfl Tryd.underlying145 hd1 i hi))
  have B : ∀ i, i < 64 → W.cell? ⟨2, i, none⟩ = some (.int .u32 (KC i : Nat)) := fun i hi => (World.var?_cell hg2 hv2 i).trans (Array.getElem?_toList.symm.trans (table_at KLIST rfl Tryd.underlying147 hd2 i hi))
  obtain ⟨xs, m1, rfl, hx1, hlen, hn, hel⟩ := DataW.trod_array Tryd.underlying127 hd0
  have c5 : Tryd.prog.cellsOf 5 = 1 := by kernel_rfl
  simp only [Prod.mk.injEq] at hx1
  have hx := hx1.1
  rw [tabData] at hx
  simp only [DataW.agg.injEq] at hx
  have T : Go.Proofs.YtnplhejopmoopaaDoor.Tabled W := fun i hi => by
    have h0 := hel i hi
    have hi' : i < xs.length := by omega
    rw [List.getElem?_eq_getElem hi', c5, Nat.mul_one] at h0
    obtain ⟨k, e1, e2, _⟩ := DataW.trod_int Tryd.underlying5 h0
    have hk : (k : Int) = ((TAB.getD i 0 : Nat) : Int) := by
      have hz := congrArg (fun l => l[i]?) hx
      have hT : i < TAB.length := hi
      simp only [List.getElem?_map, List.getElem?_eq_getElem hi', List.getElem?_eq_getElem hT, Option.map_some, e2] at hz
      simp at hz
      rw [List.getD_eq_getElem?_getD, List.getElem?_eq_getElem hT]
      simpa using hz.symm
    have hv := World.var?_cell hg0 hv0 i
    rw [hv, ← hk]
    have := congrArg (fun l => l[0]?) e1
    simp at this
    simpa using this
  have z0 : 0 < W.heap.size := World.block_lt_of_cell? W _ (T 0 (by decide))
  have z1 : 1 < W.heap.size := World.block_lt_of_cell? W _ (A 0 (by decide))
  have z2 : 2 < W.heap.size := World.block_lt_of_cell? W _ (B 0 (by decide))
  exact ⟨T, ⟨B, A, by omega⟩, by omega⟩
/-- one hash, by its cells. -/
theorem open_hash {H : Type} {enc : TypeId × Value → H} {W : World} {fuel : Nat} {cs : List Value} {x : DataW H × List MemPlace} (hf : DataW.trod enc Tryd.prog W 0 (fun _ => true) true fuel 27 cs = some x) : ∃ h : Nat → Nat, (∀ i, h i < 256) ∧ cs = ULIST .u8 32 h := by
  obtain ⟨xs, m, rfl, _, hl, hn, hel⟩ := DataW.trod_array Tryd.underlying27 hf
  have c5 : Tryd.prog.cellsOf 5 = 1 := by kernel_rfl
  have c32 : Tryd.prog.cellsOf 27 = 32 := by kernel_rfl
  rw [c32] at hl
  have hx : ∀ i, i < 32 → ∃ k : Nat, cs[i]? = some (.int .u8 (k : Int)) ∧ k < 256 := fun i hi => by
    have h0 := hel i hi
    rw [List.getElem?_eq_getElem (by omega), c5, Nat.mul_one] at h0
    obtain ⟨k, e1, _, e3⟩ := DataW.trod_int Tryd.underlying5 h0
    have hb := bounds_u8 e3
    refine ⟨k.toNat, ?_, by omega⟩
    have := congrArg (fun l => l[0]?) e1
    rw [Int.toNat_of_nonneg hb.1]
    simpa using this
  have F : ∃ f : Nat → Nat, (∀ i, f i < 256) ∧ ∀ i, i < 32 → cs[i]? = some (.int .u8 ((f i : Nat) : Int)) := by
    refine ⟨fun i => if hi : i < 32 then (hx i hi).choose else 0, fun i => ?_, fun i hi => ?_⟩
    · by_cases hi : i < 32
      · simp only [hi, dif_pos]; exact (hx i hi).choose_spec.2
      · simp only [hi, dif_neg, not_false_iff]; decide
    · simp only [hi, dif_pos]; exact (hx i hi).choose_spec.1
  obtain ⟨f, hf1, hf2⟩ := F
  refine ⟨f, hf1, ?_⟩
  apply List.ext_getElem?
  intro i
  by_cases hi : i < 32
  · rw [hf2 i hi, ULIST_get _ _ _ _ hi]
  · rw [List.getElem?_eq_none (by omega), List.getElem?_eq_none (by rw [ULIST_length]; omega)]
/-- a slice of hashes that came in. -/
theorem open_hashes {H : Type} {enc : TypeId × Value → H} {W : World} {a : Option Addr} {k c : Nat} {d : DataW H} {ps : List MemPlace} (hd : DataW.Trod enc Tryd.prog W 0 (fun _ => true) true 44 (.slice a k c) d ps) :
    ∃ hs : Nat → Nat → Nat, (∀ i, i < k → ∀ j, hs i j < 256) ∧ HASHES W a k hs := by
  obtain ⟨fuel, hf⟩ := hd
  rcases DataW.trod_slice Tryd.underlying44 hf with ⟨h0, _⟩ | ⟨ad, len, cap, elems, rest, n, _, h0, hx, _, hl, hm, hlen, hel, _, _⟩
  · simp [Value.cells] at h0
    obtain ⟨rfl, rfl, rfl⟩ := h0
    exact ⟨fun _ _ => 0, fun i hi => by omega, fun h => by omega⟩
  · simp [Value.cells] at h0
    obtain ⟨rfl, rfl, rfl⟩ := h0
    have c32 : Tryd.prog.cellsOf 27 = 32 := by kernel_rfl
    have each : ∀ i, i < k → ∃ h : Nat → Nat, (∀ j, h j < 256) ∧ ∀ j, j < 32 → W.cell? ((ad.add (i * 32)).add j) = some (.int .u8 ((h j : Nat) : Int)) := fun i hi => by
      have h := hel i hi
      rw [List.getElem?_eq_getElem (by omega), c32, Option.bind_eq_some_iff] at h
      obtain ⟨cs, hcs, ht⟩ := h
      obtain ⟨f, h1, rfl⟩ := open_hash ht
      have hs := (World.cells?_some hcs).2.2
      refine ⟨f, h1, fun j hj => ?_⟩
      have s := hs j hj
      rw [s]
      exact ULIST_get .u8 32 f j hj
    have F : ∃ f : Nat → Nat → Nat, ∀ i, i < k → (∀ j, f i j < 256) ∧ ∀ j, j < 32 → W.cell? ((ad.add (i * 32)).add j) = some (.int .u8 ((f i j : Nat) : Int)) := by
      refine ⟨fun i => if hi : i < k then (each i hi).choose else fun _ => 0, fun i hi => ?_⟩
      simp only [hi, dif_pos]
      exact (each i hi).choose_spec
    obtain ⟨f, hf2⟩ := F
    refine ⟨f, fun i hi => (hf2 i hi).1, fun h0k => ?_⟩
    obtain ⟨b, off, spot⟩ := ad
    have hc := (hf2 0 h0k).2 0 (by decide)
    have hspot : spot = none := by simpa [Addr.add] using World.cell?_spot hc
    subst hspot
    refine ⟨b, off, rfl, ?_, fun i hi j v hv => ?_⟩
    · have := World.block_lt_of_cell? W _ hc
      simpa [Addr.add] using this
    · have hj : j < 32 := by have := (List.getElem?_eq_some_iff.1 hv).1; rw [ULIST_length] at this; exact this
      have h1 := (hf2 i hi).2 j hj
      rw [addr_add, addr_add] at h1
      rw [ULIST_get _ _ _ _ hj] at hv
      rw [h1, ← hv]
end Go.Proofs.YtnplhejopmoopaaDoor.HX
