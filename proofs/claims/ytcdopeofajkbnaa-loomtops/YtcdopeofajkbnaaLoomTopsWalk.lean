/- The walk of the law LoomTops. -/
import Derived.Test.YtcdopeofajkbnaaLoomHold
import Derived.Test.YtcdopeofajkbnaaLoomTopsPlain
import Derived.Test.YtcdopeofajkbnaaLoomList
namespace Go.Proofs.Ytcdopeofajkbnaa
open Go.RowKit
set_option maxRecDepth 100000

theorem tops_out (a b c : Int) (h : ¬ (1 ≤ a ∧ a ≤ 64 ∧ 0 ≤ b ∧ b ≤ 400 ∧ 0 ≤ c ∧ c ≤ 65536)) (w : World) : Calls Try.prog 7 #[.int .i64 a, .int .i64 b, .int .i64 c] w fun e w' => e = .returned (.bool true) ∧ Below w.heap.size w w' := by
  have cs := sane_no a b c h w
  clear h
  go_enter Try.func7, Try.ntmps7
  go_wp2_with fail
  refine cs.mono ?_
  rintro e w1 ⟨rfl, rfl⟩
  clear cs
  go_wp2
  go_ret
  exact ⟨rfl, Below.refl _ _⟩
set_option maxHeartbeats 4000000 in
theorem tops_in (n jobs room : Nat) (h1 : 1 ≤ n) (h2 : n ≤ 64) (h3 : jobs ≤ 400) (h4 : room ≤ 65536) (K : Nat) (hK : (jobs < n ∧ K = jobs) ∨ (n ≤ jobs ∧ K = n)) (w : World) : Calls Try.prog 7 #[.int .i64 (n : Int), .int .i64 (jobs : Int), .int .i64 (room : Int)] w fun e w' => e = .returned (.bool true) ∧ Below w.heap.size w w' := by
  have cs := sane_yes (n : Int) (jobs : Int) (room : Int) (by omega) (by omega) (by omega) (by omega) (by omega) (by omega) w
  have cn := h_new n jobs room h1 h2 (by omega) h4 w
  have HK : Aside (K ≤ n ∧ K ≤ jobs ∧ n ≤ 64) := ⟨by omega, by omega, h2⟩
  clear h1 h2 h3 h4
  go_enter Try.func7, Try.ntmps7
  go_wp2_with fail
  refine cs.mono ?_
  rintro e w1 ⟨rfl, rfl⟩
  clear cs
  go_wp2_with fail
  refine cn.mono ?_
  rintro e w1 ⟨g, rfl, hh⟩
  clear cn
  have H1 : Aside (HOLD w g (NEWL n jobs room) w1) := hh
  clear hh
  go_upto_if 35 with fail
  go_cut [9] from 14 to 101 (fun s9 W => s9 = .int .i64 (K : Int) ∧ Aside (HOLD w g (NEWL n jobs room) W))
  case first =>
    rcases hK with ⟨hq, rfl⟩ | ⟨hq, rfl⟩
    · have hd : (K : Int) < (n : Int) := by omega
      clear hq
      go_wp2
      go_meet
      case rel => exact ⟨rfl, H1⟩
    · have hd : ¬ (jobs : Int) < (K : Int) := by omega
      clear hq
      go_wp2
      go_meet
      case rel => exact ⟨rfl, H1⟩
  case rest =>
    obtain ⟨rfl, hc⟩ := hcut
    have H2 : Aside (HOLD w g (NEWL n jobs room) wc) := hc
    clear hc H1 hK
    go_wp2
    go_loopg [10] (2 * K + 1) (fun k s10 wx => ∃ (nn : Nat), s10 = .int .i64 (nn : Int) ∧ Aside (nn + k ≤ 2 * K + 1 ∧ ∃ s G, HOLD w g s wx ∧ TP s G ∧ s.W = n ∧ s.jobs = jobs ∧ G ≤ K ∧ k = 2 * (K - G) + (1 - s.held)))
    case atStart => exact ⟨0, rfl, by omega, _, 0, H2.out, tp_new n jobs room, rfl, rfl, Nat.zero_le _, by show 2 * K + 1 = 2 * (K - 0) + (1 - 0); omega⟩
    case round =>
      obtain ⟨nn, rfl, A⟩ := hrel
      obtain ⟨a1, s, G, a2, a3, a4, a5, a6, a7⟩ := A.out
      have cg := h_gauge a2
      rw [a3.gauge] at cg
      have HA : Aside (nn + gk ≤ 2 * K + 1 ∧ TP s G ∧ s.W = n ∧ s.jobs = jobs ∧ G ≤ K ∧ gk = 2 * (K - G) + (1 - s.held)) := ⟨a1, a3, a4, a5, a6, a7⟩
      have hn1 : (nn : Int) < 1200 := by have := HK.out; omega
      clear a1 a2 a3 a4 a5 a7 A H2
      by_cases hG : G = K
      · subst hG
        clear a6
        go_wp2_with fail
        refine cg.mono ?_
        rintro e w3 ⟨rfl, h3⟩
        clear cg
        have ce := h_gauge h3
        rw [HA.out.2.1.gauge] at ce
        go_wp2_with fail
        refine ce.mono ?_
        rintro e w4 ⟨rfl, h4⟩
        clear ce h3
        have cf := h_top h4
        rw [HA.out.2.1.top] at cf
        go_wp2_with fail
        refine cf.mono ?_
        rintro e w5 ⟨rfl, h5⟩
        clear cf h4
        have H5 : Aside (Below w.heap.size w w5) := h5.below
        clear h5
        go_wp2_with fail
        refine (awake13_ok w5).mono ?_
        rintro e w6 ⟨rfl, hb6⟩
        have H6 : Aside (Below w.heap.size w w6) := H5.out.trans (hb6.mono H5.out.size)
        clear hb6
        go_wp2
        go_ret
        exact ⟨rfl, H6.out⟩
      · have hlt : (G : Int) < (K : Int) := by omega
        have hgo := HA.out
        clear a6
        go_wp2_with fail
        refine cg.mono ?_
        rintro e w3 ⟨rfl, h3⟩
        clear cg
        have hgoes := tp_goes h3.inv HA.out.2.1 (by rw [HA.out.2.2.1]; have := HK.out; omega) (by rw [HA.out.2.2.2.1]; have := HK.out; omega)
        have HG : Aside ((∃ (i : Nat) (m : MV), (MVS s)[i]? = some m ∧ m.1 = 2) ∨ (s.held = 0 ∧ 2 ≤ s.fd ∧ (MVS s)[0]? = some (1, 0, s.fd - 2))) := hgoes
        have cm := h_moves h3
        clear h3 hgoes hG hgo
        go_wp2_with fail
        refine cm.mono ?_
        rintro e w4 ⟨a, c, rfl, hml, h4⟩
        clear cm
        have H4 : Aside (MLIE w4 a (MVS s) ∧ HOLD w g s w4) := ⟨hml, h4⟩
        clear hml h4
        obtain ⟨l, hl⟩ : ∃ l, MVS s = l := ⟨_, rfl⟩
        have HL : Aside (MVS s = l) := hl
        rw [hl] at H4 HG
        rw [hl]
        clear hl
        have HS : Aside (l.length ≤ 4 * 64 + 4) := by
          have := MVS_length s
          rw [HL.out, HA.out.2.2.1] at this
          have := HK.out
          show _ ≤ _
          omega
        obtain ⟨N, hN⟩ : ∃ N, l.length = N := ⟨_, rfl⟩
        rw [hN]
        have HNN : Aside (l.length = N ∧ N ≤ 260) := ⟨hN, by rw [← hN]; exact HS.out⟩
        clear hN HS
        go_upto_block 2 with fail
        go_cut [12] from 37 to 87 (fun s12 W => ∃ kk : Nat, s12 = .int .i64 (kk : Int) ∧ Aside (HOLD w g s W ∧ ∃ m, l[kk]? = some m ∧ (m.1 = 2 ∨ (s.held = 0 ∧ m = (1, 0, s.fd - 2)))))
        case first =>
          go_wp2_with fail
          go_loopg [12, 13] N (fun k s12 s13 wx => ∃ (i : Nat) (z : Int), i + k = N ∧ s13 = .int .i64 (i : Int) ∧ s12 = .int .i64 z ∧ Aside (z = KF l i ∧ wx = w4 ∧ ∀ j m, j < i → l[j]? = some m → m.1 ≠ 2))
          case atStart => exact ⟨0, -1, by omega, rfl, rfl, rfl, rfl, fun j m hj => by omega⟩
          case round =>
            obtain ⟨i, z, hi, rfl, rfl, B⟩ := hrel
            obtain ⟨b1, rfl, b3⟩ := B.out
            have HB : Aside (z = KF l i ∧ ∀ j m, j < i → l[j]? = some m → m.1 ≠ 2) := ⟨b1, b3⟩
            clear b1 b3 B
            cases gk with
            | zero =>
              obtain rfl : i = N := by omega
              have HZ : Aside (∃ kk : Nat, z = (kk : Int) ∧ ∃ m, l[kk]? = some m ∧ (m.1 = 2 ∨ (s.held = 0 ∧ m = (1, 0, s.fd - 2)))) := by
                rcases HG.out with ⟨j, m, hj, hm⟩ | ⟨h0, h1, h2⟩
                · have := (List.getElem?_eq_some_iff.1 hj).1
                  exact absurd hm (HB.out.2 j m (by have := HNN.out.1; omega) hj)
                · refine ⟨0, ?_, _, h2, .inr ⟨h0, rfl⟩⟩
                  have h3 := (List.getElem?_eq_some_iff.1 h2).1
                  rw [HB.out.1]
                  refine KF_zero ?_ i (by have := HNN.out.1; omega)
                  rw [List.getD_eq_getElem?_getD, h2]
                  rfl
              obtain ⟨kk, rfl, m, hm, hk⟩ := HZ.out
              have HR : Aside (HOLD w g s wr ∧ ∃ m, l[kk]? = some m ∧ (m.1 = 2 ∨ (s.held = 0 ∧ m = (1, 0, s.fd - 2)))) := ⟨H4.out.2, m, hm, hk⟩
              clear hm hk HZ hi
              go_wp2
              go_meet
              case rel => exact ⟨kk, rfl, HR⟩
            | succ k =>
              have hlt2 : (i : Int) < (N : Int) := by omega
              have hil : i < l.length := by have := HNN.out.1; omega
              obtain ⟨m, hm⟩ : ∃ m, l[i]? = some m := ⟨_, List.getElem?_eq_getElem hil⟩
              obtain ⟨b, rfl, y0, _⟩ := H4.out.1 i m hm
              have hgd : (l.getD i (0, 0, 0)).1 = m.1 := by rw [List.getD_eq_getElem?_getD, hm]; rfl
              have hN64 := HNN.out.2
              by_cases hk2 : m.1 = 2
              · rw [hk2] at y0
                have HR : Aside (HOLD w g s wr ∧ ∃ m, l[i]? = some m ∧ (m.1 = 2 ∨ (s.held = 0 ∧ m = (1, 0, s.fd - 2)))) := ⟨H4.out.2, m, hm, .inl hk2⟩
                clear hgd hm hil hk2
                go_wp2
                go_meet
                case rel => exact ⟨i, rfl, HR⟩
              · have hk3 : ((m.1 : Int) == 2) = false := by simp; omega
                have hk4 : ¬ (m.1 : Int) = 2 := by omega
                have HP : Aside (∀ j m, j < i + 1 → l[j]? = some m → m.1 ≠ 2) := fun j m' hj hm' => by
                  by_cases e : j = i
                  · subst e
                    rw [hm] at hm'
                    cases hm'
                    exact hk2
                  · exact HB.out.2 j m' (by omega) hm'
                have HKF : Aside (KF l (i + 1) = if z < 0 ∧ m.1 = 1 then (i : Int) else z) := by
                  show (if KF l i < 0 ∧ (l.getD i (0, 0, 0)).1 = 1 then (i : Int) else KF l i) = _
                  rw [hgd, ← HB.out.1]
                have HI : Aside (i + (k + 1) = N) := hi
                clear hgd hm hil hk2 HB hi
                by_cases hz : z < 0
                · by_cases hk1 : m.1 = 1
                  · rw [if_pos ⟨hz, hk1⟩] at HKF
                    rw [hk1] at y0 hk3 hk4
                    clear hk1
                    go_wp2
                    go_roundg k
                    case measure => omega
                    case rel => exact ⟨i + 1, (i : Int), by have := HI.out; omega, rfl, rfl, HKF.out.symm, rfl, HP.out⟩
                  · rw [if_neg (fun e => hk1 e.2)] at HKF
                    have hk5 : ((m.1 : Int) == 1) = false := by simp; omega
                    have hk6 : ¬ (m.1 : Int) = 1 := by omega
                    generalize (m.1 : Int) = M1 at *
                    clear hk1
                    go_wp2
                    go_roundg k
                    case measure => omega
                    case rel => exact ⟨i + 1, z, by have := HI.out; omega, rfl, rfl, HKF.out.symm, rfl, HP.out⟩
                · rw [if_neg (fun e => hz e.1)] at HKF
                  generalize (m.1 : Int) = M1 at *
                  go_wp2
                  go_roundg k
                  case measure => omega
                  case rel => exact ⟨i + 1, z, by have := HI.out; omega, rfl, rfl, HKF.out.symm, rfl, HP.out⟩
        case rest =>
          obtain ⟨kk, rfl, hc⟩ := hcut
          have HC : Aside (HOLD w g s wc ∧ ∃ m, l[kk]? = some m ∧ (m.1 = 2 ∨ (s.held = 0 ∧ m = (1, 0, s.fd - 2)))) := hc
          clear hc H4 HG
          obtain ⟨hh, m, hm, hk⟩ := HC.out
          have cv := h_move hh kk m (by rw [HL.out]; exact hm)
          have HM : Aside (m ∈ MVS s ∧ INV s ∧ (m.1 = 2 ∨ (s.held = 0 ∧ m = (1, 0, s.fd - 2)))) := ⟨by rw [HL.out]; exact List.mem_of_getElem? hm, hh.inv, hk⟩
          have hkk : ¬ (kk : Int) < 0 := by omega
          clear hh hm hk HC
          go_wp2_with fail
          refine cv.mono ?_
          rintro e w5 ⟨rfl, h5⟩
          have H5 : Aside (HOLD w g (DO s m) w5) := h5
          clear h5 cv
          obtain ⟨nx, hnx⟩ : ∃ nx, 2 * (K - (if m.1 = 2 then G + 1 else G)) + (1 - (DO s m).held) = nx := ⟨_, rfl⟩
          have HN : Aside (nx < gk ∧ TP (DO s m) (if m.1 = 2 then G + 1 else G)) := by
            have hd := HA.out
            have hz := hd.2.1.held
            rcases HM.out.2.2 with hm2 | ⟨hz0, hm1⟩
            · have := tp_give HM.out.2.1 hd.2.1 HM.out.1 hm2
              rw [if_pos hm2] at hnx ⊢
              exact ⟨by omega, this.1⟩
            · have := tp_put hd.2.1 hz0
              rw [← hm1] at this
              have e : m.1 ≠ 2 := by rw [hm1]; simp
              rw [if_neg e] at hnx ⊢
              have hd1 : (DO s m).held = s.held + 1 := by rw [hm1]; rfl
              exact ⟨by omega, this⟩
          have HB : Aside (nx = 2 * (K - (if m.1 = 2 then G + 1 else G)) + (1 - (DO s m).held)) := hnx.symm
          clear hnx
          go_wp2
          go_roundg nx
          case measure => exact HN.out.1
          case rel =>
            have hd := HA.out
            have hs := do_same s m
            refine ⟨nn + 1, by rfl, ?_, DO s m, _, H5.out, HN.out.2, hs.1.trans hd.2.2.1, hs.2.1.trans hd.2.2.2.1, ?_, HB.out⟩
            · have := HN.out.1
              omega
            · split <;> omega
theorem loomTops_walk (a b c : Int) (_ : (Lit.int .i64 a).wf = true) (_ : (Lit.int .i64 b).wf = true) (_ : (Lit.int .i64 c).wf = true) (w : World) : Calls Try.prog 7 #[.int .i64 a, .int .i64 b, .int .i64 c] w fun e w' => e = .returned (.bool true) ∧ Below w.heap.size w w' := by
  by_cases h : 1 ≤ a ∧ a ≤ 64 ∧ 0 ≤ b ∧ b ≤ 400 ∧ 0 ≤ c ∧ c ≤ 65536
  · have e1 : ((a.toNat : Nat) : Int) = a := Int.toNat_of_nonneg (by omega)
    have e2 : ((b.toNat : Nat) : Int) = b := Int.toNat_of_nonneg (by omega)
    have e3 : ((c.toNat : Nat) : Int) = c := Int.toNat_of_nonneg (by omega)
    rw [← e1, ← e2, ← e3]
    refine tops_in a.toNat b.toNat c.toNat (by omega) (by omega) (by omega) (by omega) (if b.toNat < a.toNat then b.toNat else a.toNat) ?_ w
    split
    · exact .inl ⟨by assumption, rfl⟩
    · exact .inr ⟨by omega, rfl⟩
  · exact tops_out a b c h w
end Go.Proofs.Ytcdopeofajkbnaa
