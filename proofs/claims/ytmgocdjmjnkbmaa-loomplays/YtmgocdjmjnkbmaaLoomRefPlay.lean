/- The document's Play: the whole of it. -/
import Derived.Test.YtmgocdjmjnkbmaaLoomPlayPlain
import Derived.Test.YtmgocdjmjnkbmaaLoomRefCalls
namespace Go.Proofs.Ytmgocdjmjnkbmaa
open Go.RowKit
set_option maxRecDepth 100000

/-- what the document's Play leaves. -/
def RPLAYED (w : World) (B r bw cw : Nat) (vq vg : Value) (P : List Int) (c : Int) (s : LM) (e : Ending) (w' : World) : Prop := ∃ t' s' vq' vg' R', e = .returned (.int .i64 ((t' : Nat) : Int)) ∧ PLD P c 0 s t' s' ∧ RAFTER w B r bw cw vq vg vq' vg' R' w' ∧ REL s' R' ∧ INV s' ∧ s'.W = s.W ∧ s'.jobs = s.jobs
/-- ahead of the move t. -/
structure RST (w : World) (B r bw cw : Nat) (vq vg : Value) (P : List Int) (c : Int) (s0 : LM) (t : Nat) (s : LM) (vq1 vg1 : Value) (R : RR) (wx : World) : Prop where
  after : RAFTER w B r bw cw vq vg vq1 vg1 R wx
  rel : REL s R
  inv : INV s
  W : s.W = s0.W
  jobs : s.jobs = s0.jobs
  pld : ∀ t' s', PLD P c t s t' s' → PLD P c 0 s0 t' s'
  made : t ≤ s.made
theorem rel_canc {s : LM} {R : RR} (hr : REL s R) : REL (CANC s) { R with canc := true } := ⟨hr.jobs, hr.room, hr.next, hr.fg, hr.qs, hr.sh, hr.W, hr.ws, hr.dn, hr.got, hr.out, rfl, hr.count, hr.top⟩
set_option maxHeartbeats 4000000 in
theorem rplay_ok {w : World} {B r bw cw : Nat} {vq vg : Value} {R : RR} {s : LM} (h : RLOOM w B r bw cw vq vg R) (hr : REL s R) (hi : INV s) (hW : s.W ≤ 64) (hj : s.jobs ≤ 65536) (P : List Int) (p : Option Addr) (np cp : Nat) (c : Int) (hP : P.length = np) (hI : INTL w p P) (hf : 0 < P.length → ∀ b o, p = some ⟨b, o, none⟩ → ¬ RFOOT r bw vq vg b) : Calls Try.prog 9 #[.pointer (some ⟨r, 0, none⟩), .slice p np cp, .int .i64 c] w (RPLAYED w B r bw cw vq vg P c s) := by
  have HA : Aside (RLOOM w B r bw cw vq vg R ∧ REL s R ∧ INV s ∧ s.W ≤ 64 ∧ s.jobs ≤ 65536) := ⟨h, hr, hi, hW, hj⟩
  have HP : Aside (P.length = np ∧ INTL w p P ∧ (0 < P.length → ∀ b o, p = some ⟨b, o, none⟩ → ¬ RFOOT r bw vq vg b)) := ⟨hP, hI, hf⟩
  clear h hr hi hW hj hP hI hf
  go_enter Try.func9, Try.ntmps9
  go_wp2
  go_loopg [7] 200000 (fun k s7 wx => ∃ (t : Nat) (u : LM) (vq1 vg1 : Value) (R1 : RR), k + u.made = 200000 + s.made ∧ s7 = .int .i64 (t : Int) ∧ Aside (RST w B r bw cw vq vg P c s t u vq1 vg1 R1 wx))
  case atStart => exact ⟨0, s, vq, vg, R, rfl, rfl, ⟨⟨HA.out.1, RSTEP.refl _ _ _ _ _⟩, HA.out.2.1, HA.out.2.2.1, rfl, rfl, fun _ _ h => h, Nat.zero_le _⟩⟩
  case round =>
    obtain ⟨t, u, vq1, vg1, R1, hk, rfl, H⟩ := hrel
    have HK : Aside (gk + u.made = 200000 + s.made) := hk
    clear hk
    have HU : Aside (u.W ≤ 64 ∧ u.jobs ≤ 65536) := ⟨by rw [H.out.W]; exact HA.out.2.2.2.1, by rw [H.out.jobs]; exact HA.out.2.2.2.2⟩
    have hm : u.made ≤ 196673 := inv_made H.out.inv HU.out.1 HU.out.2
    have ht : t ≤ 196673 := Nat.le_trans H.out.made hm
    have HM : Aside (u.made ≤ 196673) := hm
    obtain ⟨kk, rfl⟩ : ∃ kk, gk = kk + 1 := ⟨gk - 1, by have := HK.out; omega⟩
    clear hm HM
    go_upto_if 12 with fail
    go_cut [13] from 10 to 46 (fun s13 W => ∃ R2, Aside (RAFTER w B r bw cw vq vg vq1 vg1 R2 W ∧ REL (CAT c t u) R2))
    case first =>
      by_cases hc : (t : Int) = c
      · have HC : Aside (CAT c t u = CANC u) := if_pos hc
        have hc2 : ((t : Int) == c) = true := by simp [hc]
        have x := H.out.after.1.row.cell 10
        have z := H.out.after.1.row.frozen 10
        have HX : Aside (RAFTER wr B r bw cw vq1 vg1 vq1 vg1 { R1 with canc := true } (wr.setCell ⟨r, 10, none⟩ (.bool true))) := H.out.after.1.set1 10 _ rfl rfl rfl rfl rfl rfl
        clear hc
        go_wp2
        go_meet
        case rel => exact ⟨_, ⟨⟨HX.out.1, H.out.after.2.trans HX.out.2⟩, by rw [HC.out]; exact rel_canc H.out.rel⟩⟩
      · have HS : Aside (CAT c t u = u) := if_neg hc
        have hc2 : ((t : Int) == c) = false := by simp [hc]
        clear hc
        go_wp2
        go_meet
        case rel => exact ⟨R1, ⟨H.out.after, by rw [HS.out]; exact H.out.rel⟩⟩
    case rest =>
      obtain ⟨R2, HC⟩ := hcut
      have HI : Aside (INV (CAT c t u) ∧ (CAT c t u).W = s.W ∧ (CAT c t u).jobs = s.jobs ∧ (CAT c t u).made = u.made) := ⟨inv_cat H.out.inv c t, (cat_same u c t).1.trans H.out.W, (cat_same u c t).2.1.trans H.out.jobs, (cat_same u c t).2.2.2⟩
      have cl := rmoves_ok HC.out.1.1 HC.out.2 HI.out.1 (by rw [HI.out.2.1]; exact HA.out.2.2.2.1)
      go_wp2_with fail
      refine cl.mono ?_
      rintro e w1 ⟨v1, rfl, hm1, hb1⟩
      obtain ⟨a1, k1, rfl, _⟩ := own_slice hm1
      have M1 : Aside (w1.ownsRow wc.heap.size 42 3 (.slice a1 (MVS (CAT c t u)).length k1) (MVS (CAT c t u)).length (MCELLS (MVS (CAT c t u)))) := hm1
      have HS : Aside (RAFTER w B r bw cw vq vg vq1 vg1 R2 w1) := HC.out.1.below hb1
      clear hm1 hb1 cl
      obtain ⟨L, hL⟩ : ∃ L, (MVS (CAT c t u)).length = L := ⟨_, rfl⟩
      have HL : Aside ((MVS (CAT c t u)).length = L) := hL
      rw [hL] at M1 ⊢
      have hL2 : L ≤ 260 := by have := MVS_length (CAT c t u); have := HI.out.2.1; have := HA.out.2.2.2.1; omega
      clear hL
      by_cases h0 : L = 0
      · have HE : Aside (MVS (CAT c t u) = []) := List.eq_nil_of_length_eq_zero (HL.out.trans h0)
        subst h0
        go_wp2
        go_ret
        exact ⟨t, CAT c t u, vq1, vg1, R2, rfl, H.out.pld _ _ (PLD.stop t u HE.out), HS.out, HC.out.2, HI.out.1, HI.out.2.1, HI.out.2.2.1⟩
      · have h0' : ((L : Int) == 0) = false := by simp [h0]
        have h0'' : 0 < L := by omega
        have h0z : ¬ (L : Int) = 0 := by omega
        clear h0
        go_upto_if 25 with fail
        go_cut [9] from 10 to 46 (fun s9 W => s9 = .int .i64 ((PICK P t L : Nat) : Int) ∧ W = w1)
        case first =>
          by_cases htp : t < np
          · obtain ⟨x, hx⟩ : ∃ x, P[t]? = some x := ⟨_, List.getElem?_eq_getElem (by have := HP.out.1; omega)⟩
            obtain ⟨b, o, rfl, y⟩ := (HP.out.2.1.rstep (fun h0 k hk o e => HS.out.2.block k hk (HP.out.2.2 h0 k o e)) HS.out.2.size).at hx
            have hr := rem_range x L h0''
            have HX : Aside (PICK P t L = REM x L) := PICK_some L hx
            have htp' : (t : Int) < (np : Int) := by omega
            clear hx
            by_cases hr0 : x.tmod (L : Int) < 0
            · have HY : Aside (((REM x L : Nat) : Int) = x.tmod (L : Int) + (L : Int)) := REM_neg h0'' hr0
              go_upto_region 9 with fail
              go_step
              go_wp2
              go_meet
              case rel => exact ⟨by rw [HX.out, HY.out], rfl⟩
            · have HY : Aside (((REM x L : Nat) : Int) = x.tmod (L : Int)) := REM_pos hr0
              go_wp2
              go_meet
              case rel => exact ⟨by rw [HX.out, HY.out], rfl⟩
          · have HX : Aside (PICK P t L = 0) := PICK_none L (by have := HP.out.1; omega)
            have htp' : ¬ (t : Int) < (np : Int) := by omega
            go_wp2
            go_meet
            case rel => exact ⟨by rw [HX.out]; rfl, rfl⟩
        case rest =>
          obtain ⟨rfl, rfl⟩ := hcut
          have hpl := PICK_lt P t L h0''
          obtain ⟨m, hm⟩ : ∃ m, (MVS (CAT c t u))[PICK P t L]? = some m := ⟨_, List.getElem?_eq_getElem (by rw [HL.out]; exact hpl)⟩
          have HM : Aside ((MVS (CAT c t u))[PICK P t (MVS (CAT c t u)).length]? = some m ∧ m ∈ MVS (CAT c t u)) := ⟨by rw [HL.out]; exact hm, List.mem_of_getElem? hm⟩
          have hown := M1.out
          obtain ⟨b1, rfl, _, _, y0, y1, y2⟩ := own_moves hown HL.out (PICK P t L) m hm
          have cd := rmake_ok HS.out.1 HC.out.2 HI.out.1 (HI.out.1.small (by rw [HI.out.2.1]; exact HA.out.2.2.2.1) (by rw [HI.out.2.2.1]; exact HA.out.2.2.2.2)) (by rw [HI.out.2.2.1]; exact HA.out.2.2.2.2) m HM.out.2
          have hmv : MVAL m.1 m.2.1 m.2.2 = #[.int .i64 (m.1 : Int), .int .i64 m.2.1, .int .i64 (m.2.2 : Int)] := rfl
          rw [hmv] at cd
          have hpl' : ((PICK P t L : Nat) : Int) < (L : Int) := by omega
          generalize PICK P t L = q at *
          generalize (m.1 : Int) = N1 at *
          generalize m.2.1 = N2 at *
          generalize (m.2.2 : Int) = N3 at *
          clear hm hmv hown
          go_wp2_with fail
          refine cd.mono ?_
          rintro e w2 ⟨rfl, vq2, vg2, R3, ha, hr3⟩
          clear cd y0 y1 y2
          go_wp2
          go_roundg kk
          case measure => omega
          case rel =>
            have hd := do_same (CAT c t u) m
            exact ⟨t + 1, DO (CAT c t u) m, vq2, vg2, R3, by have := HK.out; rw [hd.2.2.2.2, HI.out.2.2.2]; omega, by simp, ⟨⟨ha.1, HS.out.2.trans ha.2⟩, hr3, inv_do HI.out.1 HM.out.2, hd.1.trans HI.out.2.1, hd.2.1.trans HI.out.2.2.1, fun t' s' h => H.out.pld t' s' (PLD.step t u m t' s' HM.out.1 h), by rw [hd.2.2.2.2, HI.out.2.2.2]; have := H.out.made; omega⟩⟩
end Go.Proofs.Ytmgocdjmjnkbmaa
