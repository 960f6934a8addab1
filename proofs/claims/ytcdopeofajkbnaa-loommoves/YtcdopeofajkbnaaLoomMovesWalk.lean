/- The walk of the law LoomMoves. -/
import Derived.Test.YtcdopeofajkbnaaLoomAlike
import Derived.Test.YtcdopeofajkbnaaLoomDoor
import Derived.Test.YtcdopeofajkbnaaLoomRun
namespace Go.Proofs.Ytcdopeofajkbnaa
open Go.RowKit
set_option maxRecDepth 100000

theorem moves_long (a b c : Int) (p : Option Addr) (n cp : Nat) (hn : 400 < n) (w : World) : Calls Try.prog 3 #[.int .i64 a, .int .i64 b, .int .i64 c, .slice p n cp] w fun e w' => e = .returned (.bool true) ∧ Below w.heap.size w w' := by
  have hn' : (400 : Int) < (n : Int) := by omega
  clear hn
  go_enter Try.func3, Try.ntmps3
  go_wp2
  go_ret
  exact ⟨rfl, Below.refl _ _⟩
theorem moves_out (a b c : Int) (p : Option Addr) (n cp : Nat) (h : REF a b c) (hn : n ≤ 400) (w : World) : Calls Try.prog 3 #[.int .i64 a, .int .i64 b, .int .i64 c, .slice p n cp] w fun e w' => e = .returned (.bool true) ∧ Below w.heap.size w w' := by
  have hn' : ¬ (400 : Int) < (n : Int) := by omega
  have c1 := most_not a b c h w
  have c2 := rmost_not a b c h w
  have HR : Aside (REF a b c) := h
  clear hn h
  go_enter Try.func3, Try.ntmps3
  go_wp2_with fail
  refine c1.mono ?_
  rintro e w1 ⟨rfl, rfl⟩
  clear c1
  go_wp2_with fail
  refine c2.mono ?_
  rintro e w1 ⟨rfl, b1⟩
  have HB : Aside (Below w.heap.size w w1) := b1
  have c3 := two_not a b c HR.out w1
  clear c2 b1
  go_wp2_with fail
  refine c3.mono ?_
  rintro e w2 ⟨rfl, rfl⟩
  have c4 := awake13_ok w1
  clear c3
  go_wp2_with fail
  refine c4.mono ?_
  rintro e w2 ⟨rfl, b2⟩
  have HE : Aside (Below w.heap.size w w2) := HB.out.trans (b2.mono HB.out.size)
  clear c4 b2
  go_wp2
  go_ret
  exact ⟨rfl, HE.out⟩
theorem gone_newl (n jobs room : Nat) (hj : jobs ≠ 0) : GONE (NEWL n jobs room) = 0 := by
  have h1 : LEFTS (NEWL n jobs room) = 0 := CNT_zero _ (fun i _ => rfl)
  unfold GONE
  rw [h1]
  have h2 : (NEWL n jobs room).fd ≠ 1 := NEXTF_ne _ _
  have h3 : (NEWL n jobs room).col ≠ 1 := by
    show (if jobs = 0 then 1 else 0) ≠ 1
    rw [if_neg hj]
    decide
  unfold FL
  rw [if_neg h2, if_neg h3]
set_option maxHeartbeats 16000000 in
theorem moves_in (n jobs room : Nat) (P : List Int) (p : Option Addr) (np cp : Nat) (h1 : 1 ≤ n) (h2 : n ≤ 64) (h3 : jobs ≤ 65536) (h4 : room ≤ 65536) (hP : P.length = np) (hn : np ≤ 400) (w : World) (hI : INTL w p P) (hw : ∀ x ∈ P, (Lit.int .i64 x).wf = true) : Calls Try.prog 3 #[.int .i64 (n : Int), .int .i64 (jobs : Int), .int .i64 (room : Int), .slice p np cp] w fun e w' => e = .returned (.bool true) ∧ Below w.heap.size w w' := by
  have hn' : ¬ (400 : Int) < (np : Int) := by omega
  have c1 := most_ok n jobs room h1 h2 h3 h4 w
  have c2 := rmost_ok n jobs room h1 h2 h3 h4 w
  have HK : Aside (1 ≤ n ∧ n ≤ 64 ∧ jobs ≤ 65536 ∧ room ≤ 65536) := ⟨h1, h2, h3, h4⟩
  have HP : Aside (P.length = np ∧ np ≤ 400 ∧ INTL w p P ∧ ∀ x ∈ P, (Lit.int .i64 x).wf = true) := ⟨hP, hn, hI, hw⟩
  obtain ⟨M, hM⟩ : ∃ M : Int, ((MOST n jobs room : Nat) : Int) = M := ⟨_, rfl⟩
  rw [hM] at c1 c2
  clear h1 h2 h3 h4 hP hn hI hw hM
  go_enter Try.func3, Try.ntmps3
  go_wp2_with fail
  refine c1.mono ?_
  rintro e w1 ⟨rfl, rfl⟩
  clear c1
  go_wp2_with fail
  refine c2.mono ?_
  rintro e w1 ⟨rfl, b1⟩
  have HB0 : Aside (Below w.heap.size w w1) := b1
  have c3 := two_ok n jobs room HK.out.1 HK.out.2.1 HK.out.2.2.1 HK.out.2.2.2 w1
  clear c2 b1
  go_wp2_with fail
  refine c3.mono ?_
  rintro e w2 ⟨g, r, rfl, hB⟩
  have HN : Aside (BOTH w1 g r (NEWL n jobs room) (NEWL n jobs room) w2) := hB
  clear c3 hB
  by_cases hj : 2000 < jobs
  · have hj' : (2000 : Int) < (jobs : Int) := by omega
    obtain ⟨gw, va, bw, cw, vq, vg, R, q1, q2, q3, q4⟩ := HN.out.two
    have c4 := gonecount_ok q1 HN.out.few.2
    rw [gone_newl n jobs room (by omega)] at c4
    have HL : Aside (LOOM w2 w1.heap.size g gw va (NEWL n jobs room) ∧ RLOOM w2 w1.heap.size r bw cw vq vg R ∧ REL (NEWL n jobs room) R) := ⟨q1, q2, q3⟩
    clear q1 q2 q3 q4 hj
    go_wp2_with fail
    refine c4.mono ?_
    rintro e w3 ⟨rfl, b3⟩
    have c5 := moves_ok (HL.out.1.below b3) HN.out.few.2
    have HB3 : Aside (Below w2.heap.size w2 w3) := b3
    clear c4 b3
    go_wp2_with fail
    refine c5.mono ?_
    rintro e w4 ⟨v4, rfl, o4, b4⟩
    obtain ⟨a4, k4, rfl, _⟩ := own_slice o4
    have HB4 : Aside (Below w2.heap.size w2 w4) := HB3.out.trans (b4.mono HB3.out.size)
    have c6 := rmoves_ok (HL.out.2.1.below HB4.out) HL.out.2.2 HN.out.inv HN.out.few.2
    obtain ⟨ML, hML⟩ : ∃ ML, (MVS (NEWL n jobs room)).length = ML := ⟨_, rfl⟩
    have HML : Aside ((MVS (NEWL n jobs room)).length = ML) := hML
    rw [hML]
    clear c5 o4 b4 hML
    go_wp2_with fail
    refine c6.mono ?_
    rintro e w5 ⟨v5, rfl, o5, b5⟩
    rw [HML.out] at o5
    obtain ⟨a5, k5, rfl, _⟩ := own_slice o5
    have HB5 : Aside (Below w2.heap.size w2 w5) := HB4.out.trans (b5.mono HB4.out.size)
    have c7 := awake13_ok w5
    clear c6 o5 b5
    go_wp2_with fail
    refine c7.mono ?_
    rintro e w6 ⟨rfl, b6⟩
    have HE : Aside (Below w.heap.size w w6) := by
      have x1 := HB5.out.trans (b6.mono HB5.out.size)
      have x2 := HN.out.below.trans (x1.mono HN.out.below.size)
      exact HB0.out.trans (x2.mono HB0.out.size)
    clear c7 b6
    go_wp2
    go_ret
    exact ⟨rfl, HE.out⟩
  · have hj' : ¬ (2000 : Int) < (jobs : Int) := by omega
    clear hj
    go_wp2_with fail
    go_loopg [12] np (fun k s12 wx => ∃ i : Nat, i + k = np ∧ s12 = .int .i64 (i : Int) ∧ Aside (∃ s, BOTH w1 g r s s wx))
    case atStart => exact ⟨0, by omega, rfl, _, HN.out⟩
    case round =>
      obtain ⟨i, hi, rfl, A⟩ := hrel
      obtain ⟨s, A⟩ := A
      have HS : Aside (BOTH w1 g r s s wr) := A
      clear A
      cases gk with
      | zero =>
        obtain rfl : i = np := by omega
        clear hi
        have ca := alike_ok HS.out
        go_wp2_with fail
        refine ca.mono ?_
        rintro e wz ⟨rfl, bz⟩
        have HZ : Aside (BOTH w1 g r s s wz) := HS.out.on bz
        have c7 := awake13_ok wz
        clear ca bz
        go_wp2_with fail
        refine c7.mono ?_
        rintro e w6 ⟨rfl, b6⟩
        have HE : Aside (Below w.heap.size w w6) := by
          have x2 := HZ.out.below.trans (b6.mono HZ.out.below.size)
          exact HB0.out.trans (x2.mono HB0.out.size)
        clear c7 b6
        go_wp2
        go_ret
        exact ⟨rfl, HE.out⟩
      | succ gk =>
        have hin : (i : Int) < (np : Int) := by omega
        have hi400 : i < 400 := by have := HP.out.2.1; omega
        have hbel : Below w.heap.size w wr := HB0.out.trans (HS.out.below.mono HB0.out.size)
        obtain ⟨x, hx⟩ : ∃ x, P[i]? = some x := ⟨_, List.getElem?_eq_getElem (by rw [HP.out.1]; omega)⟩
        obtain ⟨b, o, rfl, _, hc⟩ := (HP.out.2.2.1.below hbel) (by rw [HP.out.1]; omega)
        have y := hc i x hx
        have hwf : (Lit.int .i64 x).wf = true := HP.out.2.2.2 x (List.mem_of_getElem? hx)
        have HW : Aside ((Lit.int .i64 x).wf = true) := hwf
        have HI : Aside (i + 1 + gk = np) := by show _ = _; omega
        clear hbel hx hc hwf hi
        by_cases hx0 : x < 0
        · cases hcc : s.canc with
          | false =>
            have HC : Aside (s.canc = false) := hcc
            clear hcc
            have cl := b_lcancel HS.out HC.out
            go_wp2_with fail
            refine cl.mono ?_
            rintro e wl ⟨rfl, bl⟩
            have cr := b_rcancel bl HC.out
            have HK0 : Aside True := trivial
            clear cl bl
            go_wp2_with fail
            refine cr.mono ?_
            rintro e wq ⟨rfl, br⟩
            have HB : Aside (BOTH w1 g r (CANC s) (CANC s) wq) := br
            clear cr br
            have ca := alike_ok HB.out
            go_wp2_with fail
            refine ca.mono ?_
            rintro e wz ⟨rfl, bz⟩
            have HZ : Aside (BOTH w1 g r _ _ wz) := HB.out.on bz
            clear ca bz HB
            go_wp2
            go_roundg gk
            case measure => omega
            case rel => exact ⟨i + 1, HI.out, rfl, _, HZ.out⟩
          | true =>
            have HC : Aside (s.canc = true) := hcc
            clear hcc
            have cl := b_lcancel_not HS.out HC.out
            go_wp2_with fail
            refine cl.mono ?_
            rintro e wl ⟨rfl, bl⟩
            have cr := b_rcancel_not bl HC.out
            have HK0 : Aside True := trivial
            clear cl bl
            go_wp2_with fail
            refine cr.mono ?_
            rintro e wq ⟨rfl, br⟩
            have HB : Aside (BOTH w1 g r s s wq) := br
            clear cr br
            have ca := alike_ok HB.out
            go_wp2_with fail
            refine ca.mono ?_
            rintro e wz ⟨rfl, bz⟩
            have HZ : Aside (BOTH w1 g r _ _ wz) := HB.out.on bz
            clear ca bz HB
            go_wp2
            go_roundg gk
            case measure => omega
            case rel => exact ⟨i + 1, HI.out, rfl, _, HZ.out⟩
        · have hx1 : 0 ≤ x := by omega
          obtain ⟨gw, va, bw, cw, vq, vg, R, q1, q2, q3, q4⟩ := HS.out.two
          have cm := rmoves_ok q2 q3 HS.out.inv HS.out.few.2
          obtain ⟨ML, hML⟩ : ∃ ML, (MVS s).length = ML := ⟨_, rfl⟩
          have HML : Aside ((MVS s).length = ML) := hML
          have hml : ML ≤ 1000 := by have := MVS_length s; have := HS.out.few.2; omega
          clear q1 q2 q3 q4 hML
          go_wp2_with fail
          refine cm.mono ?_
          rintro e w3 ⟨v3, rfl, o3, b3⟩
          rw [HML.out] at o3
          obtain ⟨a3, k3, rfl, _⟩ := own_slice o3
          have HS3 : Aside (BOTH w1 g r s s w3) := HS.out.on b3
          clear cm o3 b3 HS
          have HS := HS3
          clear HS3
          by_cases hmod : 0 < ML ∧ 3 ≤ x
          · have hm1 : (0 : Int) < (ML : Int) := by omega
            have hm2 : (3 : Int) ≤ x := hmod.2
            have hm3 : ¬ ((ML : Int) + 1) = 0 := by omega
            have hm4 : ((ML : Int) + 1 == 0) = false := by rw [beq_eq_false_iff_ne]; omega
            have hm5 : ¬ ((ML : Int) + 1) = -1 := by omega
            have hK := Int.emod_nonneg x hm3
            clear hmod
            go_upto_region 20 with fail
            generalize x % ((ML : Int) + 1) = K at *
            obtain ⟨kk, rfl⟩ : ∃ kk : Nat, K = (kk : Int) := ⟨K.toNat, by omega⟩
            clear hm3 hm4 hm5 hK
            by_cases hkl : kk < (MVS s).length
            · obtain ⟨m, hm⟩ : ∃ m, (MVS s)[kk]? = some m := ⟨_, List.getElem?_eq_getElem hkl⟩
              have HM : Aside ((MVS s)[kk]? = some m ∧ True) := ⟨hm, trivial⟩
              clear hm hkl
              have cl := b_lmove HS.out kk m HM.out.1
              go_wp2_with fail
              refine cl.mono ?_
              rintro e wl ⟨rfl, bl⟩
              have cr := b_rmove bl kk m HM.out.1
              have HK0 : Aside True := trivial
              clear cl bl
              go_wp2_with fail
              refine cr.mono ?_
              rintro e wq ⟨rfl, br⟩
              have HB : Aside (BOTH w1 g r (DO s m) (DO s m) wq) := br
              clear cr br
              have ca := alike_ok HB.out
              go_wp2_with fail
              refine ca.mono ?_
              rintro e wz ⟨rfl, bz⟩
              have HZ : Aside (BOTH w1 g r _ _ wz) := HB.out.on bz
              clear ca bz HB
              go_wp2
              go_roundg gk
              case measure => omega
              case rel => exact ⟨i + 1, HI.out, rfl, _, HZ.out⟩
            · have HM : Aside (((MVS s).length : Int) ≤ (kk : Int)) := by show _ ≤ _; omega
              clear hkl
              have cl := b_lmove_not HS.out (kk : Int) (.inr HM.out)
              go_wp2_with fail
              refine cl.mono ?_
              rintro e wl ⟨rfl, bl⟩
              have cr := b_rmove_not bl (kk : Int) (.inr HM.out)
              have HK0 : Aside True := trivial
              clear cl bl
              go_wp2_with fail
              refine cr.mono ?_
              rintro e wq ⟨rfl, br⟩
              have HB : Aside (BOTH w1 g r s s wq) := br
              clear cr br
              have ca := alike_ok HB.out
              go_wp2_with fail
              refine ca.mono ?_
              rintro e wz ⟨rfl, bz⟩
              have HZ : Aside (BOTH w1 g r _ _ wz) := HB.out.on bz
              clear ca bz HB
              go_wp2
              go_roundg gk
              case measure => omega
              case rel => exact ⟨i + 1, HI.out, rfl, _, HZ.out⟩
          · obtain ⟨kk, rfl⟩ : ∃ kk : Nat, x = (kk : Int) := ⟨x.toNat, by omega⟩
            by_cases hm0 : 0 < ML
            · have hm1 : (0 : Int) < (ML : Int) := by omega
              have hm2 : ¬ (3 : Int) ≤ (kk : Int) := by omega
              clear hmod hm0
              by_cases hkl : kk < (MVS s).length
              · obtain ⟨m, hm⟩ : ∃ m, (MVS s)[kk]? = some m := ⟨_, List.getElem?_eq_getElem hkl⟩
                have HM : Aside ((MVS s)[kk]? = some m ∧ True) := ⟨hm, trivial⟩
                clear hm hkl
                have cl := b_lmove HS.out kk m HM.out.1
                go_wp2_with fail
                refine cl.mono ?_
                rintro e wl ⟨rfl, bl⟩
                have cr := b_rmove bl kk m HM.out.1
                have HK0 : Aside True := trivial
                clear cl bl
                go_wp2_with fail
                refine cr.mono ?_
                rintro e wq ⟨rfl, br⟩
                have HB : Aside (BOTH w1 g r (DO s m) (DO s m) wq) := br
                clear cr br
                have ca := alike_ok HB.out
                go_wp2_with fail
                refine ca.mono ?_
                rintro e wz ⟨rfl, bz⟩
                have HZ : Aside (BOTH w1 g r _ _ wz) := HB.out.on bz
                clear ca bz HB
                go_wp2
                go_roundg gk
                case measure => omega
                case rel => exact ⟨i + 1, HI.out, rfl, _, HZ.out⟩
              · have HM : Aside (((MVS s).length : Int) ≤ (kk : Int)) := by show _ ≤ _; omega
                clear hkl
                have cl := b_lmove_not HS.out (kk : Int) (.inr HM.out)
                go_wp2_with fail
                refine cl.mono ?_
                rintro e wl ⟨rfl, bl⟩
                have cr := b_rmove_not bl (kk : Int) (.inr HM.out)
                have HK0 : Aside True := trivial
                clear cl bl
                go_wp2_with fail
                refine cr.mono ?_
                rintro e wq ⟨rfl, br⟩
                have HB : Aside (BOTH w1 g r s s wq) := br
                clear cr br
                have ca := alike_ok HB.out
                go_wp2_with fail
                refine ca.mono ?_
                rintro e wz ⟨rfl, bz⟩
                have HZ : Aside (BOTH w1 g r _ _ wz) := HB.out.on bz
                clear ca bz HB
                go_wp2
                go_roundg gk
                case measure => omega
                case rel => exact ⟨i + 1, HI.out, rfl, _, HZ.out⟩
            · obtain rfl : ML = 0 := by omega
              clear hmod hm0
              by_cases hkl : kk < (MVS s).length
              · obtain ⟨m, hm⟩ : ∃ m, (MVS s)[kk]? = some m := ⟨_, List.getElem?_eq_getElem hkl⟩
                have HM : Aside ((MVS s)[kk]? = some m ∧ True) := ⟨hm, trivial⟩
                clear hm hkl
                have cl := b_lmove HS.out kk m HM.out.1
                go_wp2_with fail
                refine cl.mono ?_
                rintro e wl ⟨rfl, bl⟩
                have cr := b_rmove bl kk m HM.out.1
                have HK0 : Aside True := trivial
                clear cl bl
                go_wp2_with fail
                refine cr.mono ?_
                rintro e wq ⟨rfl, br⟩
                have HB : Aside (BOTH w1 g r (DO s m) (DO s m) wq) := br
                clear cr br
                have ca := alike_ok HB.out
                go_wp2_with fail
                refine ca.mono ?_
                rintro e wz ⟨rfl, bz⟩
                have HZ : Aside (BOTH w1 g r _ _ wz) := HB.out.on bz
                clear ca bz HB
                go_wp2
                go_roundg gk
                case measure => omega
                case rel => exact ⟨i + 1, HI.out, rfl, _, HZ.out⟩
              · have HM : Aside (((MVS s).length : Int) ≤ (kk : Int)) := by show _ ≤ _; omega
                clear hkl
                have cl := b_lmove_not HS.out (kk : Int) (.inr HM.out)
                go_wp2_with fail
                refine cl.mono ?_
                rintro e wl ⟨rfl, bl⟩
                have cr := b_rmove_not bl (kk : Int) (.inr HM.out)
                have HK0 : Aside True := trivial
                clear cl bl
                go_wp2_with fail
                refine cr.mono ?_
                rintro e wq ⟨rfl, br⟩
                have HB : Aside (BOTH w1 g r s s wq) := br
                clear cr br
                have ca := alike_ok HB.out
                go_wp2_with fail
                refine ca.mono ?_
                rintro e wz ⟨rfl, bz⟩
                have HZ : Aside (BOTH w1 g r _ _ wz) := HB.out.on bz
                clear ca bz HB
                go_wp2
                go_roundg gk
                case measure => omega
                case rel => exact ⟨i + 1, HI.out, rfl, _, HZ.out⟩
theorem loomMoves_walk (a b c : Int) (P : List Int) (p : Option Addr) (np cp : Nat) (w : World) (_ : (Lit.int .i64 a).wf = true) (_ : (Lit.int .i64 b).wf = true) (_ : (Lit.int .i64 c).wf = true) (hP : P.length = np) (hI : INTL w p P) (hw : ∀ x ∈ P, (Lit.int .i64 x).wf = true) (_ : np ≤ cp) (_ : p = none → cp = 0) : Calls Try.prog 3 #[.int .i64 a, .int .i64 b, .int .i64 c, .slice p np cp] w fun e w' => e = .returned (.bool true) ∧ Below w.heap.size w w' := by
  by_cases hn : 400 < np
  · exact moves_long a b c p np cp hn w
  · by_cases h : REF a b c
    · exact moves_out a b c p np cp h (by omega) w
    · have h' : 1 ≤ a ∧ a ≤ 64 ∧ 0 ≤ b ∧ b ≤ 65536 ∧ 0 ≤ c ∧ c ≤ 65536 := by unfold REF at h; omega
      have e1 : ((a.toNat : Nat) : Int) = a := Int.toNat_of_nonneg (by omega)
      have e2 : ((b.toNat : Nat) : Int) = b := Int.toNat_of_nonneg (by omega)
      have e3 : ((c.toNat : Nat) : Int) = c := Int.toNat_of_nonneg (by omega)
      rw [← e1, ← e2, ← e3]
      exact moves_in a.toNat b.toNat c.toNat P p np cp (by omega) (by omega) (by omega) (by omega) hP (by omega) w hI hw
end Go.Proofs.Ytcdopeofajkbnaa
