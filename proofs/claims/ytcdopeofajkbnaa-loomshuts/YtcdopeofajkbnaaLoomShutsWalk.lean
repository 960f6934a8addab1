/- The walk of the law LoomShuts. -/
import Derived.Test.YtcdopeofajkbnaaLoomAnswers
import Derived.Test.YtcdopeofajkbnaaLoomDoor
import Derived.Test.YtcdopeofajkbnaaLoomRun
namespace Go.Proofs.Ytcdopeofajkbnaa
open Go.RowKit
set_option maxRecDepth 100000

theorem shuts_out (a b c : Int) (p : Option Addr) (n cp : Nat) (d : Int) (h : ¬ (1 ≤ a ∧ a ≤ 64 ∧ 0 ≤ b ∧ b ≤ 400 ∧ 0 ≤ c ∧ c ≤ 65536)) (w : World) : Calls Try.prog 8 #[.int .i64 a, .int .i64 b, .int .i64 c, .slice p n cp, .int .i64 d] w fun e w' => e = .returned (.bool true) ∧ Below w.heap.size w w' := by
  have cs := sane_no a b c h w
  clear h
  go_enter Try.func8, Try.ntmps8
  go_wp2_with fail
  refine cs.mono ?_
  rintro e w1 ⟨rfl, rfl⟩
  clear cs
  go_wp2
  go_ret
  exact ⟨rfl, Below.refl _ _⟩
theorem shuts_long (a b c : Int) (p : Option Addr) (n cp : Nat) (d : Int) (h1 : 1 ≤ a) (h2 : a ≤ 64) (h3 : 0 ≤ b) (h4 : b ≤ 400) (h5 : 0 ≤ c) (h6 : c ≤ 65536) (hn : 400 < n) (w : World) : Calls Try.prog 8 #[.int .i64 a, .int .i64 b, .int .i64 c, .slice p n cp, .int .i64 d] w fun e w' => e = .returned (.bool true) ∧ Below w.heap.size w w' := by
  have cs := sane_yes a b c h1 h2 h3 h4 h5 h6 w
  have hn' : (400 : Int) < (n : Int) := by omega
  clear h1 h2 h3 h4 h5 h6 hn
  go_enter Try.func8, Try.ntmps8
  go_wp2_with fail
  refine cs.mono ?_
  rintro e w1 ⟨rfl, rfl⟩
  clear cs
  go_wp2
  go_ret
  exact ⟨rfl, Below.refl _ _⟩
/-- what the law keeps count of. -/
def SHN (s : LM) (sh : Bool) (pu gi he : Nat) : Prop := sh = decide (s.fd = 1) ∧ pu = s.first + s.held ∧ gi = s.first ∧ he = s.held
/-- what each move turns of it. -/
theorem shn_put {s : LM} {sh : Bool} {pu gi he : Nat} (h : SHN s sh pu gi he) (h2 : 2 ≤ s.fd) (j : Nat) : sh = false ∧ SHN (DO s (1, 0, j)) false (pu + 1) gi (he + 1) := by
  obtain ⟨rfl, rfl, rfl, rfl⟩ := h
  exact ⟨decide_eq_false (by omega), (decide_eq_false (NEXTF_ne _ _)).symm, by show s.first + s.held + 1 = s.first + (s.held + 1); omega, rfl, rfl⟩
theorem shn_give0 {s : LM} {sh : Bool} {pu gi he : Nat} (h : SHN s sh pu gi he) (hr : s.room = 0) (h2 : 2 ≤ s.fd) (i j : Nat) : sh = false ∧ SHN (DO s (2, (i : Int), j)) false (pu + 1) (gi + 1) he := by
  obtain ⟨rfl, rfl, rfl, rfl⟩ := h
  have eD : DO1 s (2, (i : Int), j) = GIVES (PUTS s) i j := by
    show GIVES (if s.room = 0 then PUTS s else s) (i : Int).toNat j = _
    rw [if_pos hr, Int.toNat_natCast]
  unfold DO
  rw [eD]
  exact ⟨decide_eq_false (by omega), (decide_eq_false (NEXTF_ne _ _)).symm, by show s.first + s.held + 1 = s.first + 1 + (s.held + 1 - 1); omega, rfl, by show s.held = s.held + 1 - 1; omega⟩
theorem shn_give {s : LM} {sh : Bool} {pu gi he : Nat} (h : SHN s sh pu gi he) (hr : s.room ≠ 0) (h0 : 0 < s.held) (i j : Nat) : SHN (DO s (2, (i : Int), j)) sh pu (gi + 1) (he - 1) := by
  obtain ⟨rfl, rfl, rfl, rfl⟩ := h
  have eD : DO1 s (2, (i : Int), j) = GIVES s i j := by
    show GIVES (if s.room = 0 then PUTS s else s) (i : Int).toNat j = _
    rw [if_neg hr, Int.toNat_natCast]
  unfold DO
  rw [eD]
  exact ⟨rfl, by show s.first + s.held = s.first + 1 + (s.held - 1); omega, rfl, rfl⟩
theorem shn_shut {s : LM} {sh : Bool} {pu gi he : Nat} (h : SHN s sh pu gi he) : SHN (DO s (3, 0, 0)) true pu gi he := by
  obtain ⟨rfl, rfl, rfl, rfl⟩ := h
  exact ⟨rfl, rfl, rfl, rfl⟩
theorem shn_feeder {s : LM} {sh : Bool} {pu gi he : Nat} (h : SHN s sh pu gi he) : SHN (DO s (6, -2, 0)) true pu gi he := by
  obtain ⟨rfl, rfl, rfl, rfl⟩ := h
  exact ⟨rfl, rfl, rfl, rfl⟩
theorem shn_collector {s : LM} {sh : Bool} {pu gi he : Nat} (h : SHN s sh pu gi he) : SHN (DO s (6, -1, 0)) sh pu gi he := h
theorem shn_answer {s : LM} {sh : Bool} {pu gi he : Nat} (h : SHN s sh pu gi he) (x : Int) (j : Nat) : SHN (DO s (5, x, j)) sh pu gi he := h
theorem shn_leave {s : LM} {sh : Bool} {pu gi he : Nat} (h : SHN s sh pu gi he) (k i : Nat) (hk : k = 4 ∨ k = 6) : SHN (DO s (k, (i : Int), 0)) sh pu gi he := by
  have eD : DO1 s (k, (i : Int), 0) = { s with ws := UPD s.ws i 1 } := by
    have e : DO1 s (k, (i : Int), 0) = LEAVES s (i : Int) := by
      rcases hk with rfl | rfl <;> rfl
    rw [e]
    unfold LEAVES
    rw [if_neg (by omega), if_neg (by omega), Int.toNat_natCast]
  unfold DO
  rw [eD]
  exact h
theorem h_cancel_any {w0 w : World} {g : Nat} {s : LM} (h : HOLD w0 g s w) : Calls Try.prog 16 #[.pointer (some ⟨g, 0, none⟩)] w fun e w' => ∃ z, e = .returned (.int .i64 z) ∧ HOLD w0 g (CANC s) w' := by
  cases hc : s.canc with
  | false =>
    refine (h_cancel h hc).mono ?_
    rintro e w' ⟨rfl, h'⟩
    exact ⟨_, rfl, h'⟩
  | true =>
    refine (h_cancel_not h hc).mono ?_
    rintro e w' ⟨rfl, h'⟩
    have e : CANC s = s := by
      cases s
      simp only at hc
      subst hc
      rfl
    exact ⟨_, rfl, by rw [e]; exact h'⟩
/-- the run of this law, behind t moves. -/
structure RUNS (w0 : World) (g n jobs room t : Nat) (sh : Bool) (pu gi he : Nat) (s : LM) (w : World) : Prop where
  hold : HOLD w0 g s w
  W : s.W = n
  jobs : s.jobs = jobs
  room : s.room = room
  made : s.made = t
  kept : SHN s sh pu gi he
set_option maxHeartbeats 8000000 in
theorem shuts_in (n jobs room : Nat) (P : List Int) (p : Option Addr) (np cp : Nat) (d : Int) (h1 : 1 ≤ n) (h2 : n ≤ 64) (h3 : jobs ≤ 400) (h4 : room ≤ 65536) (hP : P.length = np) (hnp : np ≤ 400) (w : World) (hL : INTL w p P) : Calls Try.prog 8 #[.int .i64 (n : Int), .int .i64 (jobs : Int), .int .i64 (room : Int), .slice p np cp, .int .i64 d] w fun e w' => e = .returned (.bool true) ∧ Below w.heap.size w w' := by
  have cs := sane_yes (n : Int) (jobs : Int) (room : Int) (by omega) (by omega) (by omega) (by omega) (by omega) (by omega) w
  have cn := h_new n jobs room h1 h2 (by omega) h4 w
  have hnp' : ¬ (400 : Int) < (np : Int) := by omega
  have HK : Aside (1 ≤ n ∧ n ≤ 64 ∧ jobs ≤ 400 ∧ P.length = np ∧ np ≤ 400 ∧ INTL w p P) := ⟨h1, h2, h3, hP, hnp, hL⟩
  clear h1 h2 h3 h4 hP hL
  go_enter Try.func8, Try.ntmps8
  go_wp2_with fail
  refine cs.mono ?_
  rintro e w1 ⟨rfl, rfl⟩
  clear cs
  go_wp2_with fail
  refine cn.mono ?_
  rintro e w1 ⟨g, rfl, hh⟩
  clear cn
  have H1 : Aside (RUNS w g n jobs room 0 false 0 0 0 (NEWL n jobs room) w1) := ⟨hh, rfl, rfl, rfl, rfl, (decide_eq_false (NEXTF_ne _ _)).symm, rfl, rfl, rfl⟩
  clear hh
  obtain ⟨BD, hBD⟩ : ∃ BD, MOST n jobs room = BD := ⟨_, rfl⟩
  have HBD : Aside (MOST n jobs room = BD ∧ BD ≤ 1265) := ⟨hBD, by have := HK.out; rw [← hBD]; unfold MOST; split <;> omega⟩
  clear hBD hnp hnp'
  rename (np : Int) ≤ 400 => hx0
  clear hx0
  go_wp2
  go_loopg [13, 14, 15, 16, 17] (BD + 1) (fun k s13 s14 s15 s16 s17 wx => ∃ (t : Nat) (sh : Bool) (pu gi he : Nat), s17 = .int .i64 (t : Int) ∧ s13 = .bool sh ∧ s14 = .int .i64 (pu : Int) ∧ s15 = .int .i64 (gi : Int) ∧ s16 = .int .i64 (he : Int) ∧ Aside (t + k = BD + 1 ∧ ∃ s, RUNS w g n jobs room t sh pu gi he s wx))
  case atStart => exact ⟨0, false, 0, 0, 0, rfl, rfl, rfl, rfl, rfl, by omega, _, H1.out⟩
  case round =>
    obtain ⟨t, sh, pu, gi, he, rfl, rfl, rfl, rfl, rfl, A⟩ := hrel
    obtain ⟨a1, s, a2⟩ := A.out
    have hmost := made_most a2.hold.inv
    rw [a2.made, a2.W, a2.jobs, a2.room] at hmost
    have HA : Aside (t + gk = BD + 1 ∧ RUNS w g n jobs room t sh pu gi he s wr ∧ t ≤ BD) := ⟨a1, a2, by rw [← HBD.out.1]; exact hmost⟩
    have ht1300 : (t : Int) ≤ 1300 := by have := HA.out.2.2; have := HBD.out.2; omega
    clear a1 a2 A H1 hmost
    go_upto_if 50 with fail
    go_cut [] from 44 to 152 (fun W => Aside (∃ s2, RUNS w g n jobs room t sh pu gi he s2 W))
    case first =>
      by_cases hd : (t : Int) = d
      · have hd2 : ((t : Int) == d) = true := by simp [hd]
        have cc := h_cancel_any HA.out.2.1.hold
        rw [hd2]
        clear hd hd2
        go_wp2_with fail
        refine cc.mono ?_
        rintro e w3 ⟨z, rfl, h3⟩
        clear cc
        have hr := HA.out.2.1
        have R : Aside (RUNS w g n jobs room t sh pu gi he (CANC s) w3) := ⟨h3, hr.W, hr.jobs, hr.room, hr.made, hr.kept⟩
        clear h3 hr
        go_wp2
        go_meet
        case rel => exact ⟨_, R.out⟩
      · have hd2 : ((t : Int) == d) = false := by simp [hd]
        rw [hd2]
        clear hd hd2
        go_wp2
        go_meet
        case rel => exact ⟨s, HA.out.2.1⟩
    case rest =>
      obtain ⟨s2, c2⟩ := hcut.out
      have HB : Aside (t + gk = BD + 1 ∧ t ≤ BD ∧ RUNS w g n jobs room t sh pu gi he s2 wc) := ⟨HA.out.1, HA.out.2.2, c2⟩
      clear hcut c2 HA
      have cm := h_moves HB.out.2.2.hold
      go_wp2_with fail
      refine cm.mono ?_
      rintro e w3 ⟨a, c, rfl, hml, h3⟩
      clear cm
      have H3 : Aside (MLIE w3 a (MVS s2) ∧ HOLD w g s2 w3) := ⟨hml, h3⟩
      clear hml h3
      by_cases hE : MVS s2 = []
      · rw [hE]
        have H4 : Aside (Below w.heap.size w w3) := H3.out.2.below
        clear hE
        go_wp2_with fail
        refine (awake13_ok w3).mono ?_
        rintro e w4 ⟨rfl, hb4⟩
        have H5 : Aside (Below w.heap.size w w4) := H4.out.trans (hb4.mono H4.out.size)
        clear hb4
        go_wp2
        go_ret
        exact ⟨rfl, H5.out⟩
      · have HE : Aside (0 < (MVS s2).length ∧ (MVS s2).length ≤ 260) := by
          refine ⟨List.length_pos_iff.2 hE, ?_⟩
          have := MVS_length s2
          rw [HB.out.2.2.W] at this
          have := HK.out
          omega
        obtain ⟨l, hl⟩ : ∃ l, MVS s2 = l := ⟨_, rfl⟩
        have HL : Aside (MVS s2 = l) := hl
        obtain ⟨L, hLL⟩ : ∃ L, l.length = L := ⟨_, rfl⟩
        have HLL : Aside (l.length = L ∧ 0 < L ∧ L ≤ 260) := ⟨hLL, by rw [← hLL, ← hl]; exact HE.out.1, by rw [← hLL, ← hl]; exact HE.out.2⟩
        rw [hl] at H3
        rw [hl, hLL]
        have hL0 : ¬ (L : Int) = 0 := by have := HLL.out; omega
        have hL1 : ((L : Int) == 0) = false := by simp; have := HLL.out; omega
        clear hE hl hLL HE
        go_upto_if 62 with fail
        go_cut [19] from 44 to 152 (fun s19 W => ∃ kk : Nat, s19 = .int .i64 (kk : Int) ∧ Aside (kk < L ∧ W = w3))
        case first =>
          by_cases ht : t < np
          · have ht1 : (t : Int) < (np : Int) := by omega
            obtain ⟨x, hx⟩ : ∃ x, P[t]? = some x := ⟨_, List.getElem?_eq_getElem (by have := HK.out; omega)⟩
            obtain ⟨b, o, rfl, hb, hcell⟩ := HK.out.2.2.2.2.2 (by have := HK.out; omega)
            have y0 := (H3.out.2.below.cell (p := ⟨b, o + t, none⟩) hb).trans (hcell t x hx)
            have hr := rem_range x L HLL.out.2.1
            have hL260 := HLL.out.2.2
            clear hx hb hcell ht
            go_upto_region 18 with fail
            generalize x.tmod (L : Int) = r at *
            obtain ⟨hr1, hr2⟩ := hr
            by_cases hr0 : r < 0
            · obtain ⟨q, hq⟩ : ∃ q : Nat, -r = (q : Int) := ⟨(-r).toNat, by omega⟩
              have HQ : Aside (q < L ∧ -r = (q : Int)) := ⟨by omega, hq⟩
              clear hq
              go_wp2
              go_meet
              case rel => exact ⟨q, by rw [← HQ.out.2], HQ.out.1, rfl⟩
            · obtain ⟨q, rfl⟩ : ∃ q : Nat, r = (q : Int) := ⟨r.toNat, by omega⟩
              have HQ : Aside (q < L) := by show q < L; omega
              go_wp2
              go_meet
              case rel => exact ⟨q, rfl, HQ.out, rfl⟩
          · have ht1 : ¬ (t : Int) < (np : Int) := by omega
            clear ht
            go_wp2
            go_meet
            case rel => exact ⟨0, rfl, HLL.out.2.1, rfl⟩
        case rest =>
          obtain ⟨kk, rfl, hc⟩ := hcut
          obtain ⟨hkL, rfl⟩ := hc.out
          obtain ⟨m, hm⟩ : ∃ m, l[kk]? = some m := ⟨_, List.getElem?_eq_getElem (by have := HLL.out; omega)⟩
          obtain ⟨b, rfl, y0, y1, y2, _⟩ := H3.out.1 kk m hm
          have hkk1 : (kk : Int) < (L : Int) := by omega
          have hkk2 : ¬ (kk : Int) < 0 := by omega
          obtain ⟨k0, x0, j0⟩ := m
          have hmm : (k0, x0, j0) ∈ MVS s2 := by rw [HL.out]; exact List.mem_of_getElem? hm
          have HM : Aside ((MVS s2)[kk]? = some (k0, x0, j0)) := by show (MVS s2)[kk]? = _; rw [HL.out]; exact hm
          have HMM : Aside ((k0, x0, j0) ∈ MVS s2) := hmm
          dsimp only at y0 y1 y2
          clear hc hkL hm hmm hL0 hL1
          go_upto_block 2 with fail
          obtain ⟨w5, hw5⟩ : ∃ w5, wc.alloc (.cells #[.int .i64 (k0 : Int), .int .i64 x0, .int .i64 (j0 : Int)] 48) = w5 := ⟨_, rfl⟩
          have H5 : Aside (HOLD w g s2 w5 ∧ Has w5 wc.heap.size #[.int .i64 (k0 : Int), .int .i64 x0, .int .i64 (j0 : Int)] 48) := by
            rw [← hw5]
            exact ⟨H3.out.2.on ((Below.refl _ _).alloc (Nat.le_refl _) _), Has.new _ _ _⟩
          obtain ⟨b5, hb5⟩ : ∃ b5, wc.heap.size = b5 := ⟨_, rfl⟩
          rw [hw5, hb5]
          rw [hb5] at H5
          clear hw5 hb5
          go_cut [13, 14, 15, 16] from 44 to 152 (fun s13 s14 s15 s16 W => ∃ (sh' : Bool) (pu' gi' he' : Nat), s13 = .bool sh' ∧ s14 = .int .i64 (pu' : Int) ∧ s15 = .int .i64 (gi' : Int) ∧ s16 = .int .i64 (he' : Int) ∧ Aside (SHN (DO s2 (k0, x0, j0)) sh' pu' gi' he' ∧ W = w5))
          case first =>
            have z0 : w5.cell? ⟨b5, 0, none⟩ = some (.int .i64 (k0 : Int)) := H5.out.2.cell 0
            have z1 : w5.cell? ⟨b5, 1, none⟩ = some (.int .i64 x0) := H5.out.2.cell 1
            have z2 : w5.cell? ⟨b5, 2, none⟩ = some (.int .i64 (j0 : Int)) := H5.out.2.cell 2
            have hk := HB.out.2.2.kept
            have hi := HB.out.2.2.hold.inv
            have hrm := HB.out.2.2.room
            have hjb := HB.out.2.2.jobs
            have hfed := hi.fed
            have hj400 := HK.out.2.2.1
            have hpu := hk.2.1
            have hgi := hk.2.2.1
            have hhe := hk.2.2.2
            clear y0 y1 y2
            rcases mem_MVS HMM.out with ⟨e, q2, q3⟩ | ⟨i, q1, q2, q3, q4, e⟩ | ⟨i, q1, q2, q3, q4, e⟩ | ⟨e, q2⟩ | ⟨i, q1, q2, q3, q4, e⟩ | ⟨i, q1, q2, q3, e⟩ | ⟨q1, q2, e⟩ | ⟨q1, q2, e⟩ | ⟨i, q1, q2, q3, e⟩
            · simp only [Prod.mk.injEq] at e
              obtain ⟨rfl, rfl, hj⟩ := e
              obtain ⟨hs, hx⟩ := shn_put hk q2 j0
              subst hs
              have HX : Aside (SHN (DO s2 (1, 0, j0)) false (pu + 1) gi (he + 1)) := hx
              have hjp : j0 = pu := by have := hi.next q2; omega
              have hb1 : pu ≤ 400 := by omega
              have hb2 : he ≤ 400 := by omega
              have hb3 : ¬ (room : Int) ≤ (he : Int) := by omega
              rw [hjp] at z2
              clear hx hj hjp hk hi hfed hpu hgi hhe q2 q3 hrm hjb HMM HM
              go_wp2
              go_meet
              case rel => exact ⟨false, pu + 1, gi, he + 1, rfl, rfl, rfl, rfl, HX.out, rfl⟩
            · simp only [Prod.mk.injEq] at e
              obtain ⟨rfl, rfl, hj⟩ := e
              obtain ⟨hs, hx⟩ := shn_give0 hk q3 q4 i j0
              subst hs
              have HX : Aside (SHN (DO s2 (2, (i : Int), j0)) false (pu + 1) (gi + 1) he) := hx
              have hz := hi.zero q3
              have hjp : j0 = gi := by have := hi.next q4; omega
              have hb1 : pu ≤ 400 := by omega
              have hb2 : gi ≤ 400 := by omega
              have hr0 : room = 0 := by omega
              rw [hjp] at z2
              have hr1 : ((room : Int) == 0) = true := by rw [hr0]; rfl
              have hr2 : ¬ (0 : Int) < (room : Int) := by omega
              clear hx hj hjp hk hi hfed hpu hgi hhe q1 q2 q3 q4 hrm hjb HMM HM hr0 hz
              go_wp2
              go_meet
              case rel => exact ⟨false, pu + 1, gi + 1, he, rfl, rfl, rfl, rfl, HX.out, rfl⟩
            · simp only [Prod.mk.injEq] at e
              obtain ⟨rfl, rfl, hj⟩ := e
              have HX : Aside (SHN (DO s2 (2, (i : Int), j0)) sh pu (gi + 1) (he - 1)) := shn_give hk q3 q4 i j0
              have hjp : j0 = gi := by omega
              have hb2 : gi ≤ 400 := by omega
              obtain ⟨h', hh'⟩ : ∃ h', he = h' + 1 := ⟨he - 1, by omega⟩
              have hb3 : h' ≤ 400 := by omega
              rw [hjp] at z2
              have hr1 : ((room : Int) == 0) = false := by simp; omega
              have hr3 : ¬ (room : Int) = 0 := by omega
              have hr2 : (0 : Int) < (room : Int) := by omega
              subst hh'
              rw [Nat.add_sub_cancel] at HX
              have hb4 : ¬ ((h' + 1 : Nat) : Int) < 1 := by omega
              have hb5 : ((h' + 1 : Nat) : Int) - 1 = (h' : Int) := by omega
              have hb6 : wrap64 (((h' + 1 : Nat) : Int) - 1) = (h' : Int) := by unfold wrap64; omega
              clear hj hjp hk hi hfed hpu hgi hhe q1 q2 q3 q4 hrm hjb HMM HM
              go_wp2
              go_meet
              case rel => exact ⟨sh, pu, gi + 1, h', rfl, rfl, rfl, by first | rfl | rw [hb6] | rw [hb5], HX.out, rfl⟩
            · simp only [Prod.mk.injEq] at e
              obtain ⟨rfl, rfl, rfl⟩ := e
              have HX : Aside (SHN (DO s2 (3, 0, 0)) true pu gi he) := shn_shut hk
              have hs : sh = false := by rw [hk.1]; exact decide_eq_false (by omega)
              subst hs
              have hpj : pu = jobs := by have := hi.nomore q2; omega
              subst hpj
              clear hk hi hfed hpu hgi hhe q2 hrm hjb HMM HM
              go_wp2
              go_meet
              case rel => exact ⟨true, pu, gi, he, rfl, rfl, rfl, rfl, HX.out, rfl⟩
            · simp only [Prod.mk.injEq] at e
              obtain ⟨rfl, rfl, rfl⟩ := e
              have HX : Aside (SHN (DO s2 (4, (i : Int), 0)) sh pu gi he) := shn_leave hk 4 i (.inl rfl)
              have hs : sh = true := by rw [hk.1]; exact decide_eq_true q3
              subst hs
              have hh0 : he = 0 := by omega
              subst hh0
              clear hk hi hfed hpu hgi hhe q1 q2 q3 q4 hrm hjb HMM HM
              go_wp2
              go_meet
              case rel => exact ⟨true, pu, gi, 0, rfl, rfl, rfl, rfl, HX.out, rfl⟩
            · simp only [Prod.mk.injEq] at e
              obtain ⟨rfl, rfl, hj⟩ := e
              have HX : Aside (SHN (DO s2 (5, (i : Int), j0)) sh pu gi he) := shn_answer hk _ _
              clear hj hk hi hfed hpu hgi hhe q1 q2 q3 hrm hjb HMM HM
              go_wp2
              go_meet
              case rel => exact ⟨sh, pu, gi, he, rfl, rfl, rfl, rfl, HX.out, rfl⟩
            · simp only [Prod.mk.injEq] at e
              obtain ⟨rfl, rfl, rfl⟩ := e
              have HX : Aside (SHN (DO s2 (6, -2, 0)) true pu gi he) := shn_feeder hk
              have hs : sh = false := by rw [hk.1]; exact decide_eq_false q2
              subst hs
              clear hk hi hfed hpu hgi hhe q1 q2 hrm hjb HMM HM
              go_wp2
              go_meet
              case rel => exact ⟨true, pu, gi, he, rfl, rfl, rfl, rfl, HX.out, rfl⟩
            · simp only [Prod.mk.injEq] at e
              obtain ⟨rfl, rfl, rfl⟩ := e
              have HX : Aside (SHN (DO s2 (6, -1, 0)) sh pu gi he) := shn_collector hk
              clear hk hi hfed hpu hgi hhe q1 q2 hrm hjb HMM HM
              go_wp2
              go_meet
              case rel => exact ⟨sh, pu, gi, he, rfl, rfl, rfl, rfl, HX.out, rfl⟩
            · simp only [Prod.mk.injEq] at e
              obtain ⟨rfl, rfl, rfl⟩ := e
              have HX : Aside (SHN (DO s2 (6, (i : Int), 0)) sh pu gi he) := shn_leave hk 6 i (.inr rfl)
              have hx2 : ¬ (i : Int) = -2 := by omega
              have hx3 : ((i : Int) == -2) = false := by rw [beq_eq_false_iff_ne]; omega
              clear hk hi hfed hpu hgi hhe q1 q2 q3 hrm hjb HMM HM
              go_wp2
              go_meet
              case rel => exact ⟨sh, pu, gi, he, rfl, rfl, rfl, rfl, HX.out, rfl⟩
          case rest =>
            obtain ⟨sh', pu', gi', he', rfl, rfl, rfl, rfl, hc⟩ := hcut
            obtain ⟨hk, rfl⟩ := hc.out
            have cv := h_move H5.out.1 kk _ HM.out
            have HS : Aside (SHN (DO s2 (k0, x0, j0)) sh' pu' gi' he') := hk
            clear hc hk y0 y1 y2
            go_wp2_with fail
            refine cv.mono ?_
            rintro e w6 ⟨rfl, h6⟩
            clear cv
            have hs := do_same s2 (k0, x0, j0)
            have hb2 := HB.out.2.2
            have HR : Aside (RUNS w g n jobs room (t + 1) sh' pu' gi' he' (DO s2 (k0, x0, j0)) w6) := ⟨h6, hs.1.trans hb2.W, hs.2.1.trans hb2.jobs, hs.2.2.1.trans hb2.room, by rw [hs.2.2.2.2, hb2.made], HS.out⟩
            clear h6 hs hb2
            cases gk with
            | zero => exact absurd HB.out.1 (by have := HB.out.2.1; omega)
            | succ gk =>
              go_wp2
              go_roundg gk
              case measure => omega
              case rel => exact ⟨t + 1, sh', pu', gi', he', rfl, rfl, rfl, rfl, rfl, by have := HB.out.1; omega, _, HR.out⟩
theorem loomShuts_walk (a b c : Int) (P : List Int) (p : Option Addr) (np cp : Nat) (d : Int) (w : World) (_ : (Lit.int .i64 a).wf = true) (_ : (Lit.int .i64 b).wf = true) (_ : (Lit.int .i64 c).wf = true) (hP : P.length = np) (hI : INTL w p P) (_ : ∀ x ∈ P, (Lit.int .i64 x).wf = true) (_ : np ≤ cp) (_ : p = none → cp = 0) (_ : (Lit.int .i64 d).wf = true) : Calls Try.prog 8 #[.int .i64 a, .int .i64 b, .int .i64 c, .slice p np cp, .int .i64 d] w fun e w' => e = .returned (.bool true) ∧ Below w.heap.size w w' := by
  by_cases h : 1 ≤ a ∧ a ≤ 64 ∧ 0 ≤ b ∧ b ≤ 400 ∧ 0 ≤ c ∧ c ≤ 65536
  · by_cases hn : 400 < np
    · exact shuts_long a b c p np cp d h.1 h.2.1 h.2.2.1 h.2.2.2.1 h.2.2.2.2.1 h.2.2.2.2.2 hn w
    · have e1 : ((a.toNat : Nat) : Int) = a := Int.toNat_of_nonneg (by omega)
      have e2 : ((b.toNat : Nat) : Int) = b := Int.toNat_of_nonneg (by omega)
      have e3 : ((c.toNat : Nat) : Int) = c := Int.toNat_of_nonneg (by omega)
      rw [← e1, ← e2, ← e3]
      exact shuts_in a.toNat b.toNat c.toNat P p np cp d (by omega) (by omega) (by omega) (by omega) hP (by omega) w hI
  · exact shuts_out a b c p np cp d h w
end Go.Proofs.Ytcdopeofajkbnaa
