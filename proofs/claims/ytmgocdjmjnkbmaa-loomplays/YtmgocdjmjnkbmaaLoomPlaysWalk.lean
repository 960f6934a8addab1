/- The walk of the law LoomPlays. -/
import Derived.Test.YtmgocdjmjnkbmaaLoomNumbers
import Derived.Test.YtmgocdjmjnkbmaaLoomPlaysRegions
namespace Go.Proofs.Ytmgocdjmjnkbmaa
open Go.RowKit
set_option maxRecDepth 100000

theorem plays_long (a b c : Int) (q : Option Addr) (nq cq : Nat) (p : Option Addr) (np cp : Nat) (d : Int) (h : 400 < nq ∨ 400 < np ∨ 400 < b) (w : World) : Calls Try.prog 3 #[.int .i64 a, .int .i64 b, .int .i64 c, .slice q nq cq, .slice p np cp, .int .i64 d] w fun e w' => e = .returned (.bool true) ∧ Below w.heap.size w w' := by
  by_cases h1 : (400 : Int) < (nq : Int)
  · clear h
    go_enter Try.func3, Try.ntmps3
    go_wp2
    go_ret
    exact ⟨rfl, Below.refl _ _⟩
  · by_cases h2 : (400 : Int) < (np : Int)
    · clear h
      go_enter Try.func3, Try.ntmps3
      go_wp2
      go_ret
      exact ⟨rfl, Below.refl _ _⟩
    · have h3 : 400 < b := by omega
      clear h
      go_enter Try.func3, Try.ntmps3
      go_wp2
      go_ret
      exact ⟨rfl, Below.refl _ _⟩
theorem plays_out (a b c : Int) (q : Option Addr) (nq cq : Nat) (p : Option Addr) (np cp : Nat) (d : Int) (h : REF a b c) (hq : nq ≤ 400) (hp : np ≤ 400) (hb : b ≤ 400) (w : World) : Calls Try.prog 3 #[.int .i64 a, .int .i64 b, .int .i64 c, .slice q nq cq, .slice p np cp, .int .i64 d] w fun e w' => e = .returned (.bool true) ∧ Below w.heap.size w w' := by
  have h1 : ¬ (400 : Int) < (nq : Int) := by omega
  have h2 : ¬ (400 : Int) < (np : Int) := by omega
  have h3 : ¬ (400 : Int) < b := by omega
  have c1 := two_not a b c h w
  have c2 := awake13_ok w
  clear h hq hp hb
  go_enter Try.func3, Try.ntmps3
  go_wp2_with fail
  refine c1.mono ?_
  rintro e w1 ⟨rfl, rfl⟩
  clear c1
  go_wp2_with fail
  refine c2.mono ?_
  rintro e w2 ⟨rfl, b2⟩
  clear c2
  go_wp2
  go_ret
  exact ⟨rfl, b2⟩
set_option maxHeartbeats 8000000 in
theorem plays_in (n jobs room : Nat) (Q : List Int) (q : Option Addr) (nq cq : Nat) (P : List Int) (p : Option Addr) (np cp : Nat) (d : Int) (h1 : 1 ≤ n) (h2 : n ≤ 64) (h3 : jobs ≤ 400) (h4 : room ≤ 65536) (hQ : Q.length = nq) (hnq : nq ≤ 400) (hP : P.length = np) (hn : np ≤ 400) (w : World) (hJ : INTL w q Q) (hI : INTL w p P) (hw : ∀ x ∈ P, (Lit.int .i64 x).wf = true) (hc : p = none → cp = 0) : Calls Try.prog 3 #[.int .i64 (n : Int), .int .i64 (jobs : Int), .int .i64 (room : Int), .slice q nq cq, .slice p np cp, .int .i64 d] w fun e w' => e = .returned (.bool true) ∧ Below w.heap.size w w' := by
  have k1 : ¬ (400 : Int) < (nq : Int) := by omega
  have k2 : ¬ (400 : Int) < (np : Int) := by omega
  have k3 : ¬ (400 : Int) < (jobs : Int) := by omega
  have c1 := two_ok n jobs room h1 h2 (by omega) h4 w
  have HP : Aside (P.length = np ∧ np ≤ 400 ∧ INTL w p P ∧ (∀ x ∈ P, (Lit.int .i64 x).wf = true) ∧ (p = none → cp = 0)) := ⟨hP, hn, hI, hw, hc⟩
  have HQ : Aside (Q.length = nq ∧ nq ≤ 400 ∧ INTL w q Q) := ⟨hQ, hnq, hJ⟩
  clear h1 h2 h3 h4 hP hn hI hw hc hQ hnq hJ
  go_enter Try.func3, Try.ntmps3
  go_wp2_with fail
  refine c1.mono ?_
  rintro e w1 ⟨g, r, rfl, hB⟩
  have HN : Aside (BOTH w g r (NEWL n jobs room) (NEWL n jobs room) w1) := hB
  clear c1 hB
  go_wp2_with fail
  go_loopg [16] nq (fun k s16 wx => ∃ i : Nat, i + k = nq ∧ s16 = .int .i64 (i : Int) ∧ Aside (∃ s, BOTH w g r s s wx))
  case atStart => exact ⟨0, by omega, rfl, _, HN.out⟩
  case round =>
    obtain ⟨i, hi, rfl, A⟩ := hrel
    obtain ⟨s, A⟩ := A
    have HD : Aside (BOTH w g r s s wr) := A
    clear A HN
    cases gk with
    | zero =>
      obtain rfl : i = nq := by omega
      clear hi
      have hnp : np ≤ 400 := HP.out.2.1
      go_wp2_with (first
        | (at_builtin; refine app_zs _ rfl (.tmp 62) (.tmp 63) rfl wr.heap.size (.slice (some ⟨wr.heap.size, 0, none⟩) 0 0) 0 [] rfl (own_noint wr _ (Nat.le_refl _)) p np cp P rfl (HP.out.2.2.1.below (HD.out.below.trans (((Below.refl wr.heap.size wr).alloc (Nat.le_refl _) _).mono HD.out.below.size))) HP.out.1 HP.out.2.2.2.2 (by omega) (by simp) ?_; rw [Nat.zero_add, List.nil_append]; intro a1 c1 w1 hown1 hgrow1
           have R1 : Aside (w1.ownsRow wr.heap.size 3 1 (.slice a1 np c1) np (ZCELLS P) ∧ Below wr.heap.size wr w1) := ⟨hown1, ((Below.refl _ wr).alloc (Nat.le_refl _) _).grown hgrow1 (by simp) (fun k e => by cases e; exact Nat.le_refl _)⟩
           clear hown1 hgrow1)
        | (at_builtin; refine app_mark _ rfl (.tmp 64) (.tmp 65) rfl wr.heap.size (.slice a1 np c1) np (ZCELLS P) rfl (R1.out.1.alloc _) w1.heap.size 1 171 rfl ((Has.new _ _ _).cell 0) (by omega) (by have := R1.out.2.size; simp; omega) ?_; intro b c2 w2 hown2 hgrow2 hg2
           obtain ⟨f1, f2, f3, f4, f5⟩ := own_marked HP.out.1 hown2
           have hcap : (np : Int) ≤ (c2 : Int) := by omega
           have hcap2 : (np : Int) + 1 ≤ (c2 : Int) := by omega
           have R2 : Aside (MARKED w2 b P ∧ wr.heap.size ≤ b ∧ Below wr.heap.size wr w2) := ⟨⟨f4, by rw [HP.out.1]; exact f3, f5⟩, f1, (R1.out.2.alloc R1.out.2.size _).grown hgrow2 (by have := R1.out.2.size; simp; omega) (fun k e => (R1.out.1.lt k e).1)⟩
           clear hown2 hgrow2 hg2 f1 f2 f3 f4 f5))
      obtain ⟨ob, hob⟩ : ∃ ob, w2.heap[b]? = some ob := ⟨_, Array.getElem?_eq_getElem R2.out.1.1⟩
      have K2 : Aside (KP w g r b ob s s w2) := kp_of HD.out R2.out.2.2 R2.out.2.1 hob
      have HM : Aside (∀ (s t : LM) (W : World), KP w g r b ob s t W → MARKED W b P ∧ INTL W p P) := fun s t W h => ⟨R2.out.1.of (h.obj.trans hob.symm), HP.out.2.2.1.below h.below⟩
      have HF : Aside (0 < P.length → ∀ b' o', p = some ⟨b', o', none⟩ → b' = b ∨ b' < w.heap.size) := fun h0 b' o' e => by
        obtain ⟨b2, o2, e2, h2, _⟩ := HP.out.2.2.1 h0
        rw [e2] at e
        cases e
        exact .inr h2
      have cp1 := k_lplay K2.out P (some ⟨b, 0, none⟩) np c2 d HP.out.1 (HM.out _ _ _ K2.out).1.intl HP.out.2.2.2.1 (fun _ b' o' e => by cases e; exact .inl rfl)
      clear hob
      refine cp1.mono ?_
      rintro e w3 ⟨t3, s3, rfl, hl3, q3⟩
      have K3 : Aside (KP w g r b ob s3 s w3) := q3
      have H3 : Aside (PLD P d 0 s t3 s3) := hl3
      have cp2 := k_rplay K3.out P p np cp d HP.out.1 (HM.out _ _ _ K3.out).2 HF.out
      clear cp1 q3 hl3
      go_wp2_with fail
      refine cp2.mono ?_
      rintro e w4 ⟨t4, s4, rfl, hl4, q4⟩
      obtain ⟨rfl, rfl⟩ := H3.out.one hl4
      have K4 : Aside (KP w g r b ob s3 s3 w4) := q4
      have cs := sameints_ok (some ⟨b, 0, none⟩) p c2 cp np P HP.out.1 (by omega) w4 (HM.out _ _ _ K4.out).1.intl (HM.out _ _ _ K4.out).2
      clear cp2 q4 hl4 K3 H3
      go_wp2_with fail
      refine cs.mono ?_
      rintro e w5 ⟨rfl, b5⟩
      have K5 : Aside (KP w g r b ob s3 s3 w5) := K4.out.on b5
      have y := (HM.out _ _ _ K5.out).1.2.1
      rw [HP.out.1] at y
      have ca := alike_ok K5.out.both
      clear cs b5 K4
      go_wp2_with fail
      refine ca.mono ?_
      rintro e w6 ⟨rfl, b6⟩
      have K6 : Aside (KP w g r b ob s3 s3 w6) := K5.out.on b6
      have cp3 := k_lplay K6.out P (some ⟨b, 0, none⟩) np c2 d HP.out.1 (HM.out _ _ _ K6.out).1.intl HP.out.2.2.2.1 (fun _ b' o' e => by cases e; exact .inl rfl)
      clear ca b6 K5 y
      go_wp2_with fail
      refine cp3.mono ?_
      rintro e w7 ⟨t7, s7, rfl, hl7, q7⟩
      have K7 : Aside (KP w g r b ob s7 s3 w7) := q7
      have H7 : Aside (PLD P d 0 s3 t7 s7) := hl7
      have cp4 := k_rplay K7.out P p np cp d HP.out.1 (HM.out _ _ _ K7.out).2 HF.out
      clear cp3 q7 hl7
      go_wp2_with fail
      refine cp4.mono ?_
      rintro e w8 ⟨t8, s8, rfl, hl8, q8⟩
      obtain ⟨rfl, rfl⟩ := H7.out.one hl8
      have K8 : Aside (BOTH w g r s7 s7 w8) := q8.both
      have cl := b_lc K8.out
      clear cp4 q8 hl8 K7 H7
      go_wp2_with fail
      refine cl.mono ?_
      rintro e w9 ⟨rfl, h9⟩
      have cr := b_rc h9
      clear cl h9
      obtain ⟨z, hz⟩ : ∃ z, CE13 s7 = z := ⟨_, rfl⟩
      rw [hz] at cr ⊢
      clear hz
      go_wp2_with fail
      refine cr.mono ?_
      rintro e w10 ⟨rfl, h10⟩
      have K10 : Aside (BOTH w g r (CANC s7) (CANC s7) w10) := h10
      have ca := alike_ok h10
      clear cr h10
      go_wp2_with fail
      refine ca.mono ?_
      rintro e w11 ⟨rfl, b11⟩
      have K11 : Aside (BOTH w g r (CANC s7) (CANC s7) w11) := K10.out.on b11
      have cw := awake13_ok w11
      clear ca b11
      go_wp2_with fail
      refine cw.mono ?_
      rintro e w12 ⟨rfl, b12⟩
      have HE : Aside (Below w.heap.size w w12) := K11.out.below.trans (b12.mono K11.out.below.size)
      clear cw b12
      go_wp2
      go_ret
      exact ⟨rfl, HE.out⟩
    | succ gk =>
      have hin : (i : Int) < (nq : Int) := by omega
      have hi400 : i < 400 := by have := HQ.out.2.1; omega
      obtain ⟨x, hx⟩ : ∃ x, Q[i]? = some x := ⟨_, List.getElem?_eq_getElem (by rw [HQ.out.1]; omega)⟩
      obtain ⟨b, o, rfl, hbl, hcl⟩ := HQ.out.2.2 (by rw [HQ.out.1]; omega)
      have HX : Aside (b < w.heap.size ∧ w.cell? ⟨b, o + i, none⟩ = some (.int .i64 x)) := ⟨hbl, hcl i x hx⟩
      have HI : Aside (i + 1 + gk = nq) := by show _ = _; omega
      clear hx hcl hbl hi
      go_upto_region 11 with fail
      refine plays11 _ g r b o nq cq i x (ER13 s x) hin (fun W => BOTH w g r s s W) (fun W => BOTH w g r (MV13 s x) s W) (fun W => BOTH w g r (MV13 s x) (MV13 s x) W) (HD.out.on ((Below.refl _ _).drew)) (fun W hp => (hp.below.cell (p := ⟨b, o + i, none⟩) HX.out.1).trans HX.out.2) (fun W hp => (hp.below.cell (p := ⟨b, o + i, none⟩) HX.out.1).trans HX.out.2) (fun W hp => (hp.below.cell (p := ⟨b, o + i, none⟩) HX.out.1).trans HX.out.2) (fun W hp => b_lmv hp x) (fun W hp => b_rmv hp x) (fun _ _ _ _ _ h => h) ?_
      intro wz hz
      have HZ : Aside (BOTH w g r (MV13 s x) (MV13 s x) wz) := hz
      clear hz HD
      go_wp2
      go_roundg gk
      case measure => omega
      case rel => exact ⟨i + 1, HI.out, rfl, _, HZ.out⟩
theorem loomPlays_walk (a b c : Int) (Q : List Int) (q : Option Addr) (nq cq : Nat) (P : List Int) (p : Option Addr) (np cp : Nat) (d : Int) (w : World) (_ : (Lit.int .i64 a).wf = true) (_ : (Lit.int .i64 b).wf = true) (_ : (Lit.int .i64 c).wf = true) (hQ : Q.length = nq) (hJ : INTL w q Q) (_ : ∀ x ∈ Q, (Lit.int .i64 x).wf = true) (_ : nq ≤ cq) (_ : q = none → cq = 0) (hP : P.length = np) (hI : INTL w p P) (hw : ∀ x ∈ P, (Lit.int .i64 x).wf = true) (_ : np ≤ cp) (hc : p = none → cp = 0) (_ : (Lit.int .i64 d).wf = true) : Calls Try.prog 3 #[.int .i64 a, .int .i64 b, .int .i64 c, .slice q nq cq, .slice p np cp, .int .i64 d] w fun e w' => e = .returned (.bool true) ∧ Below w.heap.size w w' := by
  by_cases h : 400 < nq ∨ 400 < np ∨ 400 < b
  · exact plays_long a b c q nq cq p np cp d h w
  · by_cases hr : REF a b c
    · exact plays_out a b c q nq cq p np cp d hr (by omega) (by omega) (by omega) w
    · unfold REF at hr
      have e1 : ((a.toNat : Nat) : Int) = a := Int.toNat_of_nonneg (by omega)
      have e2 : ((b.toNat : Nat) : Int) = b := Int.toNat_of_nonneg (by omega)
      have e3 : ((c.toNat : Nat) : Int) = c := Int.toNat_of_nonneg (by omega)
      have := plays_in a.toNat b.toNat c.toNat Q q nq cq P p np cp d (by omega) (by omega) (by omega) (by omega) hQ (by omega) hP (by omega) w hJ hI hw hc
      rw [e1, e2, e3] at this
      exact this
end Go.Proofs.Ytmgocdjmjnkbmaa
