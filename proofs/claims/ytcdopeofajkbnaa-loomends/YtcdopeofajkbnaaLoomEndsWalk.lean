/- The walk of the law LoomEnds. -/
import Derived.Test.YtcdopeofajkbnaaLoomAnswers
import Derived.Test.YtcdopeofajkbnaaLoomDoor
namespace Go.Proofs.Ytcdopeofajkbnaa
open Go.RowKit
set_option maxRecDepth 100000

/-- a law's run by picks, behind t moves. -/
structure RUN (w0 : World) (g n jobs room : Nat) (t : Nat) (bb : Bool) (s : LM) (w : World) : Prop where
  hold : HOLD w0 g s w
  W : s.W = n
  jobs : s.jobs = jobs
  room : s.room = room
  made : s.made = t
  canc : s.canc = bb
  nq : bb = false → NQ s
theorem rem_range (x : Int) (L : Nat) (h : 0 < L) : -(L : Int) < x.tmod (L : Int) ∧ x.tmod (L : Int) < (L : Int) := by
  have h1 := Int.natAbs_tmod x (L : Int)
  have h2 : x.natAbs % (L : Int).natAbs < L := by rw [Int.natAbs_natCast]; exact Nat.mod_lt _ h
  omega
theorem ends_out (a b c : Int) (p : Option Addr) (n cp : Nat) (d : Int) (h : ¬ (1 ≤ a ∧ a ≤ 64 ∧ 0 ≤ b ∧ b ≤ 400 ∧ 0 ≤ c ∧ c ≤ 65536)) (w : World) : Calls Try.prog 6 #[.int .i64 a, .int .i64 b, .int .i64 c, .slice p n cp, .int .i64 d] w fun e w' => e = .returned (.bool true) ∧ Below w.heap.size w w' := by
  have cs := sane_no a b c h w
  clear h
  go_enter Try.func6, Try.ntmps6
  go_wp2_with fail
  refine cs.mono ?_
  rintro e w1 ⟨rfl, rfl⟩
  clear cs
  go_wp2
  go_ret
  exact ⟨rfl, Below.refl _ _⟩
theorem ends_long (a b c : Int) (p : Option Addr) (n cp : Nat) (d : Int) (h1 : 1 ≤ a) (h2 : a ≤ 64) (h3 : 0 ≤ b) (h4 : b ≤ 400) (h5 : 0 ≤ c) (h6 : c ≤ 65536) (hn : 400 < n) (w : World) : Calls Try.prog 6 #[.int .i64 a, .int .i64 b, .int .i64 c, .slice p n cp, .int .i64 d] w fun e w' => e = .returned (.bool true) ∧ Below w.heap.size w w' := by
  have cs := sane_yes a b c h1 h2 h3 h4 h5 h6 w
  have hn' : (400 : Int) < (n : Int) := by omega
  clear h1 h2 h3 h4 h5 h6 hn
  go_enter Try.func6, Try.ntmps6
  go_wp2_with fail
  refine cs.mono ?_
  rintro e w1 ⟨rfl, rfl⟩
  clear cs
  go_wp2
  go_ret
  exact ⟨rfl, Below.refl _ _⟩
theorem info_bool : (Try.prog.info? 4).map (fun i => (i.zero, i.size, i.bytes)) = some (some (.bool false), 1, 1) := by kernel_rfl
theorem make_bools (n : Nat) (hn : n ≤ 100000) (w : World) : ∃ c : Array Value, (Instr.makeSlice 40 (.int .i64 (n : Int)) (.int .i64 (n : Int))).run Try.prog w = .ok (.slice (some ⟨w.heap.size, 0, none⟩) n n) (w.alloc (.cells c 4)) ∧ ∀ j, j < n → c[j]? = some (.bool false) := by
  obtain ⟨i, hi, hz, hs1, hby⟩ := info_parts info_bool
  have h := run_make (P := Try.prog) w 40 4 i _ Try.underlying40 hi hz .i64 .i64 n n (by omega) (by omega) (by rw [hby]; omega) (by omega)
  rw [Int.toNat_natCast] at h
  refine ⟨_, h, ?_⟩
  intro j hj
  rw [hs1]
  have hc : (Value.bool false).cells = #[.bool false] := rfl
  rw [hc]
  simp [madeCells, hj, Nat.mod_one]
/-- which numbers were met. -/
structure METB (w : World) (b n : Nat) (l : List Nat) : Prop where
  at_ : ∀ j, j < n → w.cell? ⟨b, j, none⟩ = some (.bool (decide (j ∈ l)))
  row : ∃ c, Has w b c 4
theorem METB.put {w : World} {b n : Nat} {l : List Nat} (h : METB w b n l) (v : Nat) (hv : v < n) : METB (w.setCell ⟨b, v, none⟩ (.bool true)) b n (l ++ [v]) := by
  obtain ⟨c, hc⟩ := h.row
  refine ⟨fun j hj => ?_, ⟨_, hc.set _ _⟩⟩
  by_cases e : j = v
  · subst e
    have hs := h.at_ j hj
    rw [hc.cell] at hs
    rw [(hc.set _ _).cell]
    have hlt : j < c.size := by
      rcases Nat.lt_or_ge j c.size with h' | h'
      · exact h'
      · rw [Array.getElem?_eq_none h'] at hs
        cases hs
    simp [hlt]
  · rw [set_off (fun x => e x.symm), h.at_ j hj]
    simp [e]
set_option maxHeartbeats 8000000 in
theorem ends_in (n jobs room : Nat) (P : List Int) (p : Option Addr) (np cp : Nat) (d : Int) (h1 : 1 ≤ n) (h2 : n ≤ 64) (h3 : jobs ≤ 400) (h4 : room ≤ 65536) (hP : P.length = np) (hnp : np ≤ 400) (w : World) (hL : INTL w p P) : Calls Try.prog 6 #[.int .i64 (n : Int), .int .i64 (jobs : Int), .int .i64 (room : Int), .slice p np cp, .int .i64 d] w fun e w' => e = .returned (.bool true) ∧ Below w.heap.size w w' := by
  have cs := sane_yes (n : Int) (jobs : Int) (room : Int) (by omega) (by omega) (by omega) (by omega) (by omega) (by omega) w
  have cn := h_new n jobs room h1 h2 (by omega) h4 w
  have cb := most_ok n jobs room h1 h2 (by omega) h4
  have hnp' : ¬ (400 : Int) < (np : Int) := by omega
  have HK : Aside (1 ≤ n ∧ n ≤ 64 ∧ jobs ≤ 400 ∧ P.length = np ∧ np ≤ 400 ∧ INTL w p P) := ⟨h1, h2, h3, hP, hnp, hL⟩
  clear h1 h2 h3 h4 hP hL
  go_enter Try.func6, Try.ntmps6
  go_wp2_with fail
  refine cs.mono ?_
  rintro e w1 ⟨rfl, rfl⟩
  clear cs
  go_wp2_with fail
  refine cn.mono ?_
  rintro e w1 ⟨g, rfl, hh⟩
  clear cn
  have H1 : Aside (RUN w g n jobs room 0 false (NEWL n jobs room) w1) := ⟨hh, rfl, rfl, rfl, rfl, rfl, fun _ => nq_new n jobs room⟩
  clear hh
  go_wp2_with fail
  refine (cb w1).mono ?_
  rintro e w2 ⟨rfl, rfl⟩
  clear cb
  obtain ⟨BD, hBD⟩ : ∃ BD, MOST n jobs room = BD := ⟨_, rfl⟩
  have HBD : Aside (MOST n jobs room = BD ∧ BD ≤ 2000) := ⟨hBD, by have := HK.out; rw [← hBD]; unfold MOST; split <;> omega⟩
  rw [hBD]
  clear hBD hnp hnp'
  rename (np : Int) ≤ 400 => hx0
  clear hx0
  go_upto_block 0 with fail
  go_cut [13, 15] from 21 to 209 (fun s13 s15 W => ∃ (t : Nat) (bb : Bool), s13 = .int .i64 (t : Int) ∧ s15 = .bool bb ∧ Aside (∃ s, RUN w g n jobs room t bb s W ∧ MVS s = []))
  case first =>
    go_wp2_with fail
    go_loopg [13, 15] (BD + 1) (fun k s13 s15 wx => ∃ (t : Nat) (bb : Bool), s13 = .int .i64 (t : Int) ∧ s15 = .bool bb ∧ Aside (t + k = BD + 1 ∧ (bb = true → d < (t : Int)) ∧ ∃ s, RUN w g n jobs room t bb s wx))
    case atStart => exact ⟨0, false, rfl, rfl, by omega, (fun e => by cases e), _, H1.out⟩
    case round =>
      obtain ⟨t, bb, rfl, rfl, A⟩ := hrel
      obtain ⟨a1, a3, s, a2⟩ := A.out
      have HA : Aside (t + gk = BD + 1 ∧ (bb = true → d < (t : Int)) ∧ RUN w g n jobs room t bb s wr) := ⟨a1, a3, a2⟩
      clear a1 a2 a3 A H1
      go_upto_if 50 with fail
      go_cut [15] from 48 to 133 (fun s15 W => ∃ b2, s15 = .bool b2 ∧ Aside ((b2 = true → d < ((t + 1 : Nat) : Int)) ∧ ∃ s2, RUN w g n jobs room t b2 s2 W))
      case first =>
        by_cases hd : (t : Int) = d
        · have hb : bb = false := by
            cases bb with
            | false => rfl
            | true => have := HA.out.2.1 rfl; omega
          subst hb
          have hd2 : ((t : Int) == d) = true := by simp [hd]
          have cc := h_cancel HA.out.2.2.hold HA.out.2.2.canc
          have HD : Aside (d < ((t + 1 : Nat) : Int)) := by show d < _; omega
          rw [hd2]
          clear hd hd2
          go_wp2_with fail
          refine cc.mono ?_
          rintro e w3 ⟨rfl, h3⟩
          clear cc
          have R : Aside (RUN w g n jobs room t true (CANC s) w3) := ⟨h3, HA.out.2.2.W, HA.out.2.2.jobs, HA.out.2.2.room, HA.out.2.2.made, rfl, fun e => by cases e⟩
          clear h3
          go_wp2
          go_meet
          case rel => exact ⟨true, rfl, fun _ => HD.out, _, R.out⟩
        · have hd2 : ((t : Int) == d) = false := by simp [hd]
          rw [hd2]
          clear hd hd2
          go_wp2
          go_meet
          case rel => exact ⟨bb, rfl, fun e => by have := HA.out.2.1 e; omega, s, HA.out.2.2⟩
      case rest =>
        obtain ⟨b2, rfl, hc⟩ := hcut
        obtain ⟨c1, s2, c2⟩ := hc.out
        have HB : Aside (t + gk = BD + 1 ∧ (b2 = true → d < ((t + 1 : Nat) : Int)) ∧ RUN w g n jobs room t b2 s2 wc) := ⟨HA.out.1, c1, c2⟩
        clear hc c1 c2 HA
        have cm := h_moves HB.out.2.2.hold
        go_wp2_with fail
        refine cm.mono ?_
        rintro e w3 ⟨a, c, rfl, hml, h3⟩
        clear cm
        have H3 : Aside (MLIE w3 a (MVS s2) ∧ HOLD w g s2 w3) := ⟨hml, h3⟩
        have cg := h_gone h3
        clear hml h3
        have hn64 := HK.out.2.1
        have hGW : MVS s2 = [] ↔ GONE s2 = n + 2 := by
          rw [← HB.out.2.2.W]
          exact ⟨fun e => none_gone HB.out.2.2.hold.inv (fun e2 => HB.out.2.2.nq (by rw [← HB.out.2.2.canc]; exact e2)) HB.out.2.2.hold.few.1 e, fun e => gone_none e⟩
        by_cases hE : MVS s2 = []
        · have hg := hGW.1 hE
          rw [hg] at cg
          rw [hE]
          have HE : Aside (MVS s2 = []) := hE
          clear hGW hg hE
          have hgc : ((n + 2 : Nat) : Int) = (n : Int) + 2 := rfl
          rw [hgc] at cg
          go_wp2_with fail
          refine cg.mono ?_
          rintro e w4 ⟨rfl, h4⟩
          clear cg
          have H4 : Aside (RUN w g n jobs room t b2 s2 w4 ∧ MVS s2 = []) := ⟨⟨h4, HB.out.2.2.W, HB.out.2.2.jobs, HB.out.2.2.room, HB.out.2.2.made, HB.out.2.2.canc, HB.out.2.2.nq⟩, HE.out⟩
          clear h4
          go_wp2
          go_meet
          case rel => exact ⟨t, b2, rfl, rfl, s2, H4.out⟩
        · have hg : ¬ GONE s2 = n + 2 := fun e => hE (hGW.2 e)
          have HE : Aside (0 < (MVS s2).length ∧ (MVS s2).length ≤ 260) := by
            refine ⟨List.length_pos_iff.2 hE, ?_⟩
            have := MVS_length s2
            rw [HB.out.2.2.W] at this
            have := HK.out
            omega
          have hg1 : ((GONE s2 : Int) == (n : Int) + 2) = false := by simp; omega
          have hg2 : ¬ (GONE s2 : Int) = (n : Int) + 2 := by omega
          obtain ⟨l, hl⟩ : ∃ l, MVS s2 = l := ⟨_, rfl⟩
          have HL : Aside (MVS s2 = l) := hl
          obtain ⟨L, hLL⟩ : ∃ L, l.length = L := ⟨_, rfl⟩
          have HLL : Aside (l.length = L ∧ 0 < L ∧ L ≤ 260) := ⟨hLL, by rw [← hLL, ← hl]; exact HE.out.1, by rw [← hLL, ← hl]; exact HE.out.2⟩
          rw [hl] at H3
          rw [hl, hLL]
          have hL0 : ¬ (L : Int) = 0 := by have := HLL.out; omega
          have hL1 : ((L : Int) == 0) = false := by simp; have := HLL.out; omega
          clear hGW hg hE hl hLL HE
          go_wp2_with fail
          refine cg.mono ?_
          rintro e w4 ⟨rfl, h4⟩
          clear cg
          have H4 : Aside (HOLD w g s2 w4) := h4
          clear h4
          go_upto_if 71 with fail
          go_cut [17] from 48 to 133 (fun s17 W => ∃ kk : Nat, s17 = .int .i64 (kk : Int) ∧ Aside (kk < L ∧ W = w4))
          case first =>
            by_cases ht : t < np
            · have ht1 : (t : Int) < (np : Int) := by omega
              obtain ⟨x, hx⟩ : ∃ x, P[t]? = some x := ⟨_, List.getElem?_eq_getElem (by have := HK.out; omega)⟩
              obtain ⟨b, o, rfl, hb, hcell⟩ := HK.out.2.2.2.2.2 (by have := HK.out; omega)
              have y0 := (H4.out.below.cell (p := ⟨b, o + t, none⟩) hb).trans (hcell t x hx)
              have hr := rem_range x L HLL.out.2.1
              have hL260 := HLL.out.2.2
              clear hx hb hcell ht
              go_upto_region 19 with fail
              generalize x.tmod (L : Int) = r at *
              obtain ⟨hr1, hr2⟩ := hr
              by_cases hr0 : r < 0
              · obtain ⟨q, hq⟩ : ∃ q : Nat, -r = (q : Int) := ⟨(-r).toNat, by omega⟩
                have HQ : Aside (q < L ∧ -r = (q : Int)) := ⟨by omega, hq⟩
                clear hq
                go_wp2
                go_meet
                case rel => exact ⟨q, by rw [← HQ.out.2], HQ.out.1, rfl⟩
              · obtain ⟨q, rfl⟩ : ∃ q : Nat, r = (q : Int) := ⟨r.toNat, by omega⟩
                have HQ : Aside (q < L) := by show q < L; omega
                go_wp2
                go_meet
                case rel => exact ⟨q, rfl, HQ.out, rfl⟩
            · have ht1 : ¬ (t : Int) < (np : Int) := by omega
              clear ht
              go_wp2
              go_meet
              case rel => exact ⟨0, rfl, HLL.out.2.1, rfl⟩
          case rest =>
            obtain ⟨kk, rfl, hc⟩ := hcut
            obtain ⟨hkL, rfl⟩ := hc.out
            obtain ⟨m, hm⟩ : ∃ m, l[kk]? = some m := ⟨_, List.getElem?_eq_getElem (by have := HLL.out; omega)⟩
            have cv := h_move H4.out kk m (by rw [HL.out]; exact hm)
            have HM : Aside (m ∈ MVS s2) := by show m ∈ MVS s2; rw [HL.out]; exact List.mem_of_getElem? hm
            clear hkL hm hc hL0 hL1 hg1 hg2
            go_wp2_with fail
            refine cv.mono ?_
            rintro e w5 ⟨rfl, h5⟩
            clear cv
            have hs := do_same s2 m
            have hb2 := HB.out.2.2
            have hR : RUN w g n jobs room (t + 1) b2 (DO s2 m) w5 := ⟨h5, hs.1.trans hb2.W, hs.2.1.trans hb2.jobs, hs.2.2.1.trans hb2.room, by rw [hs.2.2.2.2, hb2.made], hs.2.2.2.1.trans hb2.canc, fun e => nq_do hb2.hold.inv (hb2.nq e) HM.out (nocanc (by rw [hb2.canc]; exact e) HM.out)⟩
            have HR : Aside (RUN w g n jobs room (t + 1) b2 (DO s2 m) w5) := hR
            obtain ⟨s3, hs3⟩ : ∃ s3, DO s2 m = s3 := ⟨_, rfl⟩
            rw [hs3] at HR h5
            clear hR hs hb2 hs3
            have htw := HR.out.hold.inv.topw
            rw [HR.out.W, HR.out.jobs] at htw
            have hgj : GAUGE s3 ≤ jobs := by omega
            have hgn : GAUGE s3 ≤ n := by omega
            have hmost := made_most HR.out.hold.inv
            rw [HR.out.made, HR.out.W, HR.out.jobs, HR.out.room] at hmost
            have HBB : Aside (t + 1 ≤ BD) := by rw [← HBD.out.1]; exact hmost
            clear hmost
            obtain ⟨G, hG⟩ : ∃ G, GAUGE s3 = G := ⟨_, rfl⟩
            obtain ⟨TT, hTT⟩ : ∃ TT, s3.top = TT := ⟨_, rfl⟩
            rw [hG] at hgj hgn htw
            rw [hTT] at htw
            have HG : Aside (GAUGE s3 = G ∧ s3.top = TT) := ⟨hG, hTT⟩
            have k1 : ¬ (n : Int) < (G : Int) := by omega
            have k2 : ¬ (jobs : Int) < (G : Int) := by omega
            have k3 : ¬ (G : Int) < 0 := by omega
            have k4 : ¬ (TT : Int) < (G : Int) := by omega
            have k5 : ¬ (n : Int) < (TT : Int) := by omega
            have k6 : ¬ (jobs : Int) < (TT : Int) := by omega
            clear hgj hgn htw hG hTT
            have cG : ∀ w', HOLD w g s3 w' → Calls Try.prog 26 #[.pointer (some ⟨g, 0, none⟩)] w' fun e w'' => e = .returned (.int .i64 (G : Int)) ∧ HOLD w g s3 w'' := fun w' hw' => by have := h_gauge hw'; rw [HG.out.1] at this; exact this
            have cT : ∀ w', HOLD w g s3 w' → Calls Try.prog 27 #[.pointer (some ⟨g, 0, none⟩)] w' fun e w'' => e = .returned (.int .i64 (TT : Int)) ∧ HOLD w g s3 w'' := fun w' hw' => by have := h_top hw'; rw [HG.out.2] at this; exact this
            go_wp2_with fail
            refine (cG _ h5).mono ?_
            rintro e w6 ⟨rfl, h6⟩
            go_wp2_with fail
            refine (cG _ h6).mono ?_
            rintro e w7 ⟨rfl, h7⟩
            go_wp2_with fail
            refine (cG _ h7).mono ?_
            rintro e w8 ⟨rfl, h8⟩
            go_wp2_with fail
            refine (cT _ h8).mono ?_
            rintro e w9 ⟨rfl, h9⟩
            go_wp2_with fail
            refine (cG _ h9).mono ?_
            rintro e w10 ⟨rfl, h10⟩
            go_wp2_with fail
            refine (cT _ h10).mono ?_
            rintro e w11 ⟨rfl, h11⟩
            go_wp2_with fail
            refine (cT _ h11).mono ?_
            rintro e w12 ⟨rfl, h12⟩
            clear cG cT h5 h6 h7 h8 h9 h10 h11
            have H12 : Aside (RUN w g n jobs room (t + 1) b2 s3 w12) := ⟨h12, HR.out.W, HR.out.jobs, HR.out.room, HR.out.made, HR.out.canc, HR.out.nq⟩
            have cM := h_made h12
            rw [HR.out.made, show ((t + 1 : Nat) : Int) = (t : Int) + 1 from rfl] at cM
            have hbd : ¬ (BD : Int) < (t : Int) + 1 := by have := HBB.out; omega
            have hbt : t ≤ 2000 := by have := HBB.out; have := HBD.out.2; omega
            clear h12 k1 k2 k3 k4 k5
            go_wp2_with fail
            refine cM.mono ?_
            rintro e w13 ⟨rfl, h13⟩
            clear cM
            have H13 : Aside (RUN w g n jobs room (t + 1) b2 s3 w13) := ⟨h13, HR.out.W, HR.out.jobs, HR.out.room, HR.out.made, HR.out.canc, HR.out.nq⟩
            clear h13
            cases gk with
            | zero => exact absurd HB.out.1 (by have := HBB.out; omega)
            | succ gk =>
              go_wp2
              go_roundg gk
              case measure => omega
              case rel => exact ⟨t + 1, b2, rfl, rfl, by have := HB.out.1; omega, HB.out.2.1, s3, H13.out⟩
  case rest =>
    obtain ⟨t, bb, rfl, rfl, hc⟩ := hcut
    obtain ⟨s, hR, hE⟩ := hc.out
    have hgone : GONE s = s.W + 2 := none_gone hR.hold.inv (fun e => hR.nq (by rw [← hR.canc]; exact e)) hR.hold.few.1 hE
    have hcol := ((gone_all s).1 hgone).2.1
    have HO : Aside (OUTC s = if s.ans.length = jobs then 1 else 2) := by
      show OUTC s = _
      unfold OUTC
      rw [if_pos hcol, hR.jobs]
    have HQ : Aside (bb = false → t = BD ∧ s.ans.length = jobs) := fun e => by
      have := made_end hR.hold.inv (hR.nq e) hR.hold.few.1 hgone
      rw [hR.made, hR.W, hR.jobs, hR.room] at this
      exact ⟨by rw [← HBD.out.1]; exact this.1, this.2⟩
    have HR : Aside (HOLD w g s wc ∧ s.jobs = jobs) := ⟨hR.hold, hR.jobs⟩
    clear hc hR hE hgone hcol H1
    go_upto_region 26 with fail
    go_cut [145] from 21 to 209 (fun s145 W => s145 = .bool false ∧ Aside (HOLD w g s W))
    case first =>
      cases bb with
      | true =>
        go_wp2
        go_meet
        case rel => exact ⟨rfl, HR.out.1⟩
      | false =>
        obtain ⟨rfl, hal⟩ := HQ.out rfl
        have co := h_outcome HR.out.1
        rw [HO.out, if_pos hal] at co
        clear hal
        go_wp2_with fail
        refine co.mono ?_
        rintro e w3 ⟨rfl, h3⟩
        clear co
        have H3 : Aside (HOLD w g s w3) := h3
        clear h3
        go_wp2
        go_meet
        case rel => exact ⟨rfl, H3.out⟩
    case rest =>
      obtain ⟨rfl, hc⟩ := hcut
      have HC : Aside (HOLD w g s wc) := hc.out
      clear hc
      have ca := h_answers HC.out
      obtain ⟨nl, hnl⟩ : ∃ nl, s.ans.length = nl := ⟨_, rfl⟩
      rw [hnl] at ca HO HQ
      have HNL : Aside (s.ans.length = nl) := hnl
      have HAN : Aside (s.ans.Nodup ∧ (∀ v ∈ s.ans, v < jobs) ∧ nl ≤ jobs) := by
        have hi := HC.out.inv
        have hf := hi.fed
        rw [HR.out.2] at hf
        have hct := hi.count
        exact ⟨hi.nodup, fun v hv => by have := hi.old v hv; omega, by omega⟩
      clear hnl
      go_wp2_with fail
      refine ca.mono ?_
      rintro e w4 ⟨a, c, rfl, ho, h4⟩
      clear ca
      have H4 : Aside (w4.ownsRow wc.heap.size 3 1 (.slice a nl c) nl (ICELLS s.ans) ∧ HOLD w g s w4) := ⟨ho, h4⟩
      clear ho h4
      obtain ⟨cc, hmk, hz⟩ := make_bools jobs (by have := HK.out; omega) w4
      obtain ⟨w5, hw5⟩ : ∃ w5, w4.alloc (.cells cc 4) = w5 := ⟨_, rfl⟩
      obtain ⟨bm, hbm⟩ : ∃ bm, w4.heap.size = bm := ⟨_, rfl⟩
      have H5 : Aside (Below bm w4 w5 ∧ METB w5 bm jobs [] ∧ w4.heap.size = bm) := by
        rw [← hw5, ← hbm]
        refine ⟨(Below.refl _ _).alloc (Nat.le_refl _) _, ⟨fun j hj => ?_, ⟨cc, Has.new _ _ _⟩⟩, rfl⟩
        rw [(Has.new w4 cc 4).cell, hz j hj]
        rfl
      rw [hw5, hbm] at hmk
      clear hw5 hz hbm
      have hj400 := HK.out.2.2.1
      have hnlj := HAN.out.2.2
      go_wp2
      go_loopg [20] nl (fun k s20 wx => ∃ i : Nat, i + k = nl ∧ s20 = .int .i64 (i : Int) ∧ Aside (Below bm w4 wx ∧ METB wx bm jobs (s.ans.take i)))
      case atStart => exact ⟨0, by omega, rfl, H5.out.1, H5.out.2.1⟩
      case round =>
        obtain ⟨i, hi, rfl, A⟩ := hrel
        cases gk with
        | zero =>
          obtain rfl : i = nl := by omega
          have h6 : HOLD w g s wr := H4.out.2.on (by rw [H5.out.2.2]; exact A.out.1)
          have co := h_outcome h6
          clear A h6 hi H5 hmk
          by_cases hal : i = jobs
          · rw [HO.out, if_pos hal] at co
            have hal1 : ((i : Int) == (jobs : Int)) = true := by simp [hal]
            clear hal
            go_wp2_with fail
            refine co.mono ?_
            rintro e w7 ⟨rfl, h7⟩
            clear co
            have H7 : Aside (Below w.heap.size w w7) := h7.below
            clear h7
            go_wp2_with fail
            refine (awake13_ok w7).mono ?_
            rintro e w8 ⟨rfl, hb8⟩
            have H8 : Aside (Below w.heap.size w w8) := H7.out.trans (hb8.mono H7.out.size)
            clear hb8
            go_wp2
            go_ret
            exact ⟨rfl, H8.out⟩
          · rw [HO.out, if_neg hal] at co
            have hbt : bb = true := by
              cases bb with
              | true => rfl
              | false => exact absurd (HQ.out rfl).2 hal
            subst hbt
            have hlt : (i : Int) < (jobs : Int) := by omega
            have HO2 : Aside (OUTC s = 2) := by rw [HO.out, if_neg hal]; exact rfl
            clear hal
            go_wp2_with fail
            refine co.mono ?_
            rintro e w7 ⟨rfl, h7⟩
            clear co
            have co2 := h_outcome h7
            rw [HO2.out] at co2
            clear h7
            go_wp2_with fail
            refine co2.mono ?_
            rintro e w8 ⟨rfl, h8⟩
            clear co2
            have H8 : Aside (Below w.heap.size w w8) := h8.below
            clear h8
            go_wp2_with fail
            refine (awake13_ok w8).mono ?_
            rintro e w9 ⟨rfl, hb9⟩
            have H9 : Aside (Below w.heap.size w w9) := H8.out.trans (hb9.mono H8.out.size)
            clear hb9
            go_wp2
            go_ret
            exact ⟨rfl, H9.out⟩
        | succ k =>
          have hlt : (i : Int) < (nl : Int) := by omega
          have hil : i < s.ans.length := by have := HNL.out; omega
          obtain ⟨v, hv⟩ : ∃ v, s.ans[i]? = some v := ⟨_, List.getElem?_eq_getElem hil⟩
          have hvm := List.mem_of_getElem? hv
          have hvj := HAN.out.2.1 v hvm
          have hnot : v ∉ s.ans.take i := by
            intro hm
            obtain ⟨j, hj, he⟩ := List.mem_iff_getElem.1 hm
            rw [List.length_take] at hj
            rw [List.getElem_take] at he
            have := (List.getElem?_eq_some_iff.1 hv).2
            have hij := List.pairwise_iff_getElem.1 HAN.out.1 j i (by omega) hil (by omega)
            exact hij (by rw [he, this])
          have hown := H4.out.1
          rcases hown.2 with ⟨e, h0⟩ | ⟨ga, c', cur, e, hb, hg, r⟩
          · omega
          · cases e
            have y0 : w4.cell? ⟨ga, i, none⟩ = some (.int .i64 (v : Int)) := by
              rw [hown.cellAt i (by omega)]
              unfold ICELLS
              rw [List.getElem?_map, hv]
              rfl
            have hga : ga < w4.heap.size := (Array.getElem?_eq_some_iff.1 hg).1
            have y1 := (A.out.1.cell (p := ⟨ga, i, none⟩) (by show ga < bm; rw [← H5.out.2.2]; exact hga)).trans y0
            have y2 := A.out.2.at_ v hvj
            rw [decide_eq_false hnot] at y2
            have z2 : wr.frozen? ⟨bm, v, none⟩ = false := by obtain ⟨c2, hc2⟩ := A.out.2.row; exact hc2.frozen v
            have HT : Aside (s.ans.take (i + 1) = s.ans.take i ++ [v]) := by
              show _ = _
              rw [List.take_add_one, hv]
              rfl
            have HV : Aside (v < jobs ∧ i + (k + 1) = nl) := ⟨hvj, hi⟩
            have k1 : ¬ (v : Int) < 0 := by omega
            have k2 : ¬ (jobs : Int) ≤ (v : Int) := by omega
            clear hil hv hvm hnot hown hb hg r y0 hga hmk
            go_wp2
            go_roundg k
            case measure => omega
            case rel => exact ⟨i + 1, by have := HV.out.2; omega, rfl, A.out.1.setCell (p := ⟨bm, v, none⟩) (Nat.le_refl _) _, by rw [HT.out]; exact A.out.2.put v HV.out.1⟩
theorem loomEnds_walk (a b c : Int) (P : List Int) (p : Option Addr) (np cp : Nat) (d : Int) (w : World) (_ : (Lit.int .i64 a).wf = true) (_ : (Lit.int .i64 b).wf = true) (_ : (Lit.int .i64 c).wf = true) (hP : P.length = np) (hI : INTL w p P) (_ : ∀ x ∈ P, (Lit.int .i64 x).wf = true) (_ : np ≤ cp) (_ : p = none → cp = 0) (_ : (Lit.int .i64 d).wf = true) : Calls Try.prog 6 #[.int .i64 a, .int .i64 b, .int .i64 c, .slice p np cp, .int .i64 d] w fun e w' => e = .returned (.bool true) ∧ Below w.heap.size w w' := by
  by_cases h : 1 ≤ a ∧ a ≤ 64 ∧ 0 ≤ b ∧ b ≤ 400 ∧ 0 ≤ c ∧ c ≤ 65536
  · by_cases hn : 400 < np
    · exact ends_long a b c p np cp d h.1 h.2.1 h.2.2.1 h.2.2.2.1 h.2.2.2.2.1 h.2.2.2.2.2 hn w
    · have e1 : ((a.toNat : Nat) : Int) = a := Int.toNat_of_nonneg (by omega)
      have e2 : ((b.toNat : Nat) : Int) = b := Int.toNat_of_nonneg (by omega)
      have e3 : ((c.toNat : Nat) : Int) = c := Int.toNat_of_nonneg (by omega)
      rw [← e1, ← e2, ← e3]
      exact ends_in a.toNat b.toNat c.toNat P p np cp d (by omega) (by omega) (by omega) (by omega) hP (by omega) w hI
  · exact ends_out a b c p np cp d h w
end Go.Proofs.Ytcdopeofajkbnaa
