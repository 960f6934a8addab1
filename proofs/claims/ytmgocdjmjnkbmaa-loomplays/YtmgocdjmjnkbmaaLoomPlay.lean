/- loom.Play: the whole of it. -/
import Derived.Test.YtmgocdjmjnkbmaaLoomPlayPlain
namespace Go.Proofs.Ytmgocdjmjnkbmaa
open Go.RowKit
set_option maxRecDepth 100000

/-- what Play leaves. -/
def PLAYED (w : World) (B g gw : Nat) (va : Value) (P : List Int) (c : Int) (s : LM) (e : Ending) (w' : World) : Prop := ∃ t' s' va', e = .returned (.int .i64 ((t' : Nat) : Int)) ∧ PLD P c 0 s t' s' ∧ AFTER w B g gw va va' s' w' ∧ INV s' ∧ s'.W = s.W ∧ s'.jobs = s.jobs ∧ t' ≤ 196673
/-- ahead of the move t. -/
structure PST (w : World) (B g gw : Nat) (va : Value) (P : List Int) (c : Int) (s0 : LM) (t : Nat) (s : LM) (va1 v : Value) (wx : World) : Prop where
  after : AFTER w B g gw va va1 s wx
  inv : INV s
  W : s.W = s0.W
  jobs : s.jobs = s0.jobs
  pld : ∀ t' s', PLD P c t s t' s' → PLD P c 0 s0 t' s'
  own : ∃ n xs, wx.ownsRow w.heap.size 42 3 v n xs
  apart : ∀ k, v.ownBlock = some k → ¬ FOOT g gw va1 k
  made : t ≤ s.made
/-- the same behind the cancel, if there was one. -/
structure PSC (w : World) (B g gw : Nat) (va : Value) (P : List Int) (c : Int) (s0 : LM) (t : Nat) (s : LM) (va1 v : Value) (wx : World) : Prop where
  after : AFTER w B g gw va va1 (CAT c t s) wx
  own : ∃ n xs, wx.ownsRow w.heap.size 42 3 v n xs
theorem PST.cat {w wx w' : World} {B g gw : Nat} {va va1 v : Value} {P : List Int} {c : Int} {s0 s : LM} {t : Nat} (h : PST w B g gw va P c s0 t s va1 v wx) (ha : AFTER wx B g gw va1 va1 (CAT c t s) w') : PSC w B g gw va P c s0 t s va1 v w' := by
  obtain ⟨n, xs, ho⟩ := h.own
  exact ⟨⟨ha.1, h.after.2.trans ha.2⟩, n, xs, own_turn ho (fun k e => ha.2.block k (own_lt ho e).2 (h.apart k e))⟩
theorem PST.same {w wx : World} {B g gw : Nat} {va va1 v : Value} {P : List Int} {c : Int} {s0 s : LM} {t : Nat} (h : PST w B g gw va P c s0 t s va1 v wx) (hs : CAT c t s = s) : PSC w B g gw va P c s0 t s va1 v wx := ⟨by rw [hs]; exact h.after, h.own⟩
set_option maxHeartbeats 4000000 in
theorem play_ok {w : World} {B g gw : Nat} {va : Value} {s : LM} (h : LOOM w B g gw va s) (hi : INV s) (hW : s.W ≤ 64) (hj : s.jobs ≤ 65536) (P : List Int) (p : Option Addr) (np cp : Nat) (c : Int) (hP : P.length = np) (hI : INTL w p P) (hw : ∀ x ∈ P, (Lit.int .i64 x).wf = true) (hf : 0 < P.length → ∀ b o, p = some ⟨b, o, none⟩ → ¬ FOOT g gw va b) : Calls Try.prog 8 #[.pointer (some ⟨g, 0, none⟩), .slice p np cp, .int .i64 c] w (PLAYED w B g gw va P c s) := by
  have HA : Aside (LOOM w B g gw va s ∧ INV s ∧ s.W ≤ 64 ∧ s.jobs ≤ 65536) := ⟨h, hi, hW, hj⟩
  have HP : Aside (P.length = np ∧ INTL w p P ∧ (∀ x ∈ P, (Lit.int .i64 x).wf = true) ∧ (0 < P.length → ∀ b o, p = some ⟨b, o, none⟩ → ¬ FOOT g gw va b)) := ⟨hP, hI, hw, hf⟩
  clear h hi hW hj hP hI hw hf
  go_enter Try.func8, Try.ntmps8
  go_wp2
  go_loopg [7, 8] 200000 (fun k s7 s8 wx => ∃ (t : Nat) (u : LM) (va1 : Value), k + u.made = 200000 + s.made ∧ s8 = .int .i64 (t : Int) ∧ Aside (PST w B g gw va P c s t u va1 s7 wx))
  case atStart => exact ⟨0, s, va, rfl, rfl, ⟨⟨HA.out.1, STEP.refl _ _ _ _⟩, HA.out.2.1, rfl, rfl, fun _ _ h => h, ⟨0, [], World.ownsRow_nil _ _ _ _⟩, (fun k e => by cases e), Nat.zero_le _⟩⟩
  case round =>
    obtain ⟨t, u, va1, hk, rfl, H⟩ := hrel
    have HK : Aside (gk + u.made = 200000 + s.made) := hk
    clear hk
    have hm : u.made ≤ 196673 := inv_made H.out.inv (by rw [H.out.W]; exact HA.out.2.2.1) (by rw [H.out.jobs]; exact HA.out.2.2.2)
    have ht : t ≤ 196673 := Nat.le_trans H.out.made hm
    obtain ⟨kk, rfl⟩ : ∃ kk, gk = kk + 1 := ⟨gk - 1, by have := HK.out; omega⟩
    clear hm
    go_upto_if 14 with fail
    go_cut [16] from 10 to 41 (fun s16 W => Aside (PSC w B g gw va P c s t u va1 u7 W))
    case first =>
      by_cases hc : (t : Int) = c
      · have HC : Aside (CAT c t u = CANC u) := if_pos hc
        have hc2 : ((t : Int) == c) = true := by simp [hc]
        by_cases hcc : u.canc = true
        · have HS : Aside (CAT c t u = u) := by
            rw [HC.out]
            show { u with canc := true } = u
            rw [← hcc]
          have cc := cancel_not H.out.after.1 hcc
          clear hc hcc HC
          go_wp2_with fail
          refine cc.mono ?_
          rintro e w1 ⟨rfl, rfl⟩
          clear cc
          go_wp2
          go_meet
          case rel => exact H.out.same HS.out
        · have cc := cancel_ok H.out.after.1 (by cases h : u.canc <;> simp_all)
          clear hc hcc
          go_wp2_with fail
          refine cc.mono ?_
          rintro e w1 ⟨rfl, ha⟩
          have HX : Aside (PSC w B g gw va P c s t u va1 u7 w1) := H.out.cat (by rw [HC.out]; exact ha)
          clear cc ha
          go_wp2
          go_meet
          case rel => exact HX
      · have HS : Aside (CAT c t u = u) := if_neg hc
        have hc2 : ((t : Int) == c) = false := by simp [hc]
        clear hc
        go_wp2
        go_meet
        case rel => exact H.out.same HS.out
    case rest =>
      have HC : Aside (PSC w B g gw va P c s t u va1 u7 wc) := hcut
      clear hcut
      obtain ⟨n, xs, ho⟩ := HC.out.own
      obtain ⟨a, k, rfl, hnil⟩ := own_slice ho
      have hsl : ∀ w2 : World, (Instr.slice 39 (.slice a n k) none (some (.int .i64 0)) none).run Try.prog w2 = .ok (.slice a 0 k) w2 := by
        intro w2
        rcases ho.2 with ⟨e, _⟩ | ⟨b, cap, cur, e, _, _, hnk, _⟩
        · cases e
          simp [go_sem]
        · cases e
          simp [go_sem, Addr.add]
      have hv : ∀ j, (Value.slice a 0 k).ownBlock = some j → w.heap.size ≤ j ∧ j < wc.heap.size := fun j e => own_lt (own_zero ho) e
      have cl := list_ok HC.out.after.1 (by rw [(cat_same u c t).1, H.out.W]; exact HA.out.2.2.1) w.heap.size (.slice a 0 k) HC.out.after.2.size (own_zero ho) (fun j e => H.out.apart j (by cases a <;> exact e))
      have HV : Aside (∀ j, (Value.slice a 0 k).ownBlock = some j → w.heap.size ≤ j) := fun j e => (hv j e).1
      clear ho hnil hv
      go_wp2_with fail
      refine cl.mono ?_
      rintro e w1 ⟨v1, rfl, hm1⟩
      obtain ⟨a1, k1, rfl, _⟩ := own_slice hm1.own
      have M1 : Aside (MADE wc w1 w.heap.size (.slice a 0 k) (.slice a1 (MVS (CAT c t u)).length k1) B g gw va1 (CAT c t u) (MVS (CAT c t u))) := hm1
      clear hm1 cl hsl
      have HS : Aside (STEP g gw va va1 w w1) := HC.out.after.2.grew M1.out.grew HV.out
      have HI : Aside (INV (CAT c t u) ∧ (CAT c t u).W = s.W ∧ (CAT c t u).jobs = s.jobs ∧ (CAT c t u).made = u.made) := ⟨inv_cat H.out.inv c t, (cat_same u c t).1.trans H.out.W, (cat_same u c t).2.1.trans H.out.jobs, (cat_same u c t).2.2.2⟩
      obtain ⟨L, hL⟩ : ∃ L, (MVS (CAT c t u)).length = L := ⟨_, rfl⟩
      have HL : Aside ((MVS (CAT c t u)).length = L) := hL
      rw [hL] at M1 ⊢
      have hL2 : L ≤ 260 := by have := MVS_length (CAT c t u); have := HI.out.2.1; have := HA.out.2.2.1; omega
      clear hL
      by_cases h0 : L = 0
      · have HE : Aside (MVS (CAT c t u) = []) := List.eq_nil_of_length_eq_zero (HL.out.trans h0)
        subst h0
        go_wp2
        go_ret
        exact ⟨t, CAT c t u, va1, rfl, H.out.pld _ _ (PLD.stop t u HE.out), ⟨M1.out.loom, HS.out⟩, HI.out.1, HI.out.2.1, HI.out.2.2.1, ht⟩
      · have h0' : ((L : Int) == 0) = false := by simp [h0]
        have h0'' : 0 < L := by omega
        clear h0
        go_upto_if 28 with fail
        go_cut [9] from 10 to 41 (fun s9 W => s9 = .int .i64 ((PICK P t L : Nat) : Int) ∧ W = w1)
        case first =>
          by_cases htp : t < np
          · obtain ⟨x, hx⟩ : ∃ x, P[t]? = some x := ⟨_, List.getElem?_eq_getElem (by have := HP.out.1; omega)⟩
            obtain ⟨b, o, rfl, y⟩ := (HP.out.2.1.step HS.out HP.out.2.2.2).at hx
            have cr := remainder_ok x L h0'' (by omega) w1
            have HX : Aside (PICK P t L = REM x L) := PICK_some L hx
            have htp' : (t : Int) < (np : Int) := by omega
            clear hx
            go_wp2_with fail
            refine cr.mono ?_
            rintro e w2 ⟨rfl, rfl⟩
            clear cr y
            go_wp2
            go_meet
            case rel => exact ⟨by rw [HX.out], rfl⟩
          · have HX : Aside (PICK P t L = 0) := PICK_none L (by have := HP.out.1; omega)
            have htp' : ¬ (t : Int) < (np : Int) := by omega
            go_wp2
            go_meet
            case rel => exact ⟨by rw [HX.out]; rfl, rfl⟩
        case rest =>
          obtain ⟨rfl, rfl⟩ := hcut
          have hpl := PICK_lt P t L h0''
          obtain ⟨m, hm⟩ : ∃ m, (MVS (CAT c t u))[PICK P t L]? = some m := ⟨_, List.getElem?_eq_getElem (by rw [HL.out]; exact hpl)⟩
          have HM : Aside ((MVS (CAT c t u))[PICK P t (MVS (CAT c t u)).length]? = some m ∧ m ∈ MVS (CAT c t u)) := ⟨by rw [HL.out]; exact hm, List.mem_of_getElem? hm⟩
          have hown := M1.out.own
          rw [HL.out] at hown
          obtain ⟨b1, rfl, _, _, y0, y1, y2⟩ := own_moves hown HL.out (PICK P t L) m hm
          have cd := do_ok M1.out.loom (HI.out.1.small (by rw [HI.out.2.1]; exact HA.out.2.2.1) (by rw [HI.out.2.2.1]; exact HA.out.2.2.2)) m HM.out.2
          have hmv : MVAL m.1 m.2.1 m.2.2 = #[.int .i64 (m.1 : Int), .int .i64 m.2.1, .int .i64 (m.2.2 : Int)] := rfl
          rw [hmv] at cd
          have hpl' : ((PICK P t L : Nat) : Int) < (L : Int) := by omega
          generalize PICK P t L = q at *
          generalize (m.1 : Int) = N1 at *
          generalize m.2.1 = N2 at *
          generalize (m.2.2 : Int) = N3 at *
          clear hm hmv hown
          go_wp2_with fail
          refine cd.mono ?_
          rintro e w2 ⟨rfl, va2, ha⟩
          clear cd y0 y1 y2
          go_wp2
          go_roundg kk
          case measure => omega
          case rel =>
            have hd := do_same (CAT c t u) m
            have hown := M1.out.own
            rw [HL.out] at hown
            refine ⟨t + 1, DO (CAT c t u) m, va2, by have := HK.out; rw [hd.2.2.2.2, HI.out.2.2.2]; omega, by simp, ⟨⟨ha.1, HS.out.trans ha.2⟩, inv_do HI.out.1 HM.out.2, hd.1.trans HI.out.2.1, hd.2.1.trans HI.out.2.2.1, fun t' s' h => H.out.pld t' s' (PLD.step t u m t' s' HM.out.1 h), ⟨L, _, own_turn hown (fun j e => ha.2.block j (own_lt hown e).2 (M1.out.apart j e))⟩, fun j e hj => ?_, by rw [hd.2.2.2.2, HI.out.2.2.2]; have := H.out.made; omega⟩⟩
            rcases ha.2.new j hj with x | x
            · exact M1.out.apart j e x
            · have := (own_lt hown e).2
              omega
end Go.Proofs.Ytmgocdjmjnkbmaa
