/- The walk of the law LoomApart. -/
import Derived.Test.YtcdopeofajkbnaaLoomPairs
import Derived.Test.YtcdopeofajkbnaaLoomApartRegions
import Derived.Test.YtcdopeofajkbnaaLoomDoorBools
namespace Go.Proofs.Ytcdopeofajkbnaa
open Go.RowKit
set_option maxRecDepth 100000

theorem apart_long (a b c : Int) (p : Option Addr) (np cp : Nat) (q : Option Addr) (nq cq : Nat) (h : 400 < np ∨ 400 < b) (w : World) : Calls Try.prog 5 #[.int .i64 a, .int .i64 b, .int .i64 c, .slice p np cp, .slice q nq cq] w fun e w' => e = .returned (.bool true) ∧ Below w.heap.size w w' := by
  by_cases hn : 400 < np
  · have hn' : (400 : Int) < (np : Int) := by omega
    clear hn h
    go_enter Try.func5, Try.ntmps5
    go_wp2
    go_ret
    exact ⟨rfl, Below.refl _ _⟩
  · have hn' : ¬ (400 : Int) < (np : Int) := by omega
    have hb : 400 < b := by omega
    clear hn h
    go_enter Try.func5, Try.ntmps5
    go_wp2
    go_ret
    exact ⟨rfl, Below.refl _ _⟩
theorem apart_out (a b c : Int) (p : Option Addr) (np cp : Nat) (q : Option Addr) (nq cq : Nat) (h : REF a b c) (hn : np ≤ 400) (hb : b ≤ 400) (w : World) : Calls Try.prog 5 #[.int .i64 a, .int .i64 b, .int .i64 c, .slice p np cp, .slice q nq cq] w fun e w' => e = .returned (.bool true) ∧ Below w.heap.size w w' := by
  have hn' : ¬ (400 : Int) < (np : Int) := by omega
  have hb' : ¬ 400 < b := by omega
  have c1 := two_not a b c h w
  by_cases h1 : REF a b 1
  · have c2 := two_not a b 1 h1 w
    have c3 := awake13_ok w
    clear hn h h1 hb
    go_enter Try.func5, Try.ntmps5
    go_wp2_with fail
    refine c1.mono ?_
    rintro e w1 ⟨rfl, rfl⟩
    clear c1
    go_wp2_with fail
    refine c2.mono ?_
    rintro e w1 ⟨rfl, rfl⟩
    clear c2
    go_wp2_with fail
    refine c3.mono ?_
    rintro e w1 ⟨rfl, b1⟩
    have HB : Aside (Below w.heap.size w w1) := b1
    clear c3 b1
    go_wp2
    go_ret
    exact ⟨rfl, HB.out⟩
  · have h' : 1 ≤ a ∧ a ≤ 64 ∧ 0 ≤ b ∧ b ≤ 65536 := by unfold REF at h1; omega
    have e1 : ((a.toNat : Nat) : Int) = a := Int.toNat_of_nonneg (by omega)
    have e2 : ((b.toNat : Nat) : Int) = b := Int.toNat_of_nonneg (by omega)
    have c2 := two_ok a.toNat b.toNat 1 (by omega) (by omega) (by omega) (by omega) w
    rw [e1, e2] at c2
    clear hn h h1 hb h' e1 e2
    go_enter Try.func5, Try.ntmps5
    go_wp2_with fail
    refine c1.mono ?_
    rintro e w1 ⟨rfl, rfl⟩
    clear c1
    go_wp2_with fail
    refine c2.mono ?_
    rintro e w1 ⟨g, r, rfl, hB⟩
    have HN : Aside (Below w.heap.size w w1) := hB.below
    have c3 := awake13_ok w1
    clear c2 hB
    go_wp2_with fail
    refine c3.mono ?_
    rintro e w2 ⟨rfl, b2⟩
    have HB : Aside (Below w.heap.size w w2) := HN.out.trans (b2.mono HN.out.size)
    clear c3 b2
    go_wp2
    go_ret
    exact ⟨rfl, HB.out⟩
set_option maxHeartbeats 8000000 in
theorem apart_in (n jobs room : Nat) (P : List Int) (p : Option Addr) (np cp : Nat) (L : Nat → Bool) (q : Option Addr) (nq cq : Nat) (h1 : 1 ≤ n) (h2 : n ≤ 64) (h3 : jobs ≤ 400) (h4 : room ≤ 65536) (hP : P.length = np) (hn : np ≤ 400) (w : World) (hI : INTL w p P) (hL : BOOLL w q nq L) : Calls Try.prog 5 #[.int .i64 (n : Int), .int .i64 (jobs : Int), .int .i64 (room : Int), .slice p np cp, .slice q nq cq] w fun e w' => e = .returned (.bool true) ∧ Below w.heap.size w w' := by
  have hn' : ¬ (400 : Int) < (np : Int) := by omega
  have hb' : ¬ (400 : Int) < (jobs : Int) := by omega
  have c1 := two_ok n jobs room h1 h2 (by omega) h4 w
  have HK : Aside (1 ≤ n ∧ n ≤ 64 ∧ jobs ≤ 65536) := ⟨h1, h2, by omega⟩
  have HP : Aside (P.length = np ∧ np ≤ 400 ∧ INTL w p P ∧ BOOLL w q nq L) := ⟨hP, hn, hI, hL⟩
  clear h1 h2 h3 h4 hP hn hI hL
  go_enter Try.func5, Try.ntmps5
  go_wp2_with fail
  refine c1.mono ?_
  rintro e w1 ⟨g, r, rfl, hB⟩
  have H1 : Aside (BOTH w g r (NEWL n jobs room) (NEWL n jobs room) w1) := hB
  have c2 := two_ok n jobs 1 HK.out.1 HK.out.2.1 HK.out.2.2 (by omega) w1
  clear c1 hB
  go_wp2_with fail
  refine c2.mono ?_
  rintro e w2 ⟨g', r', rfl, hB⟩
  have HN : Aside (DUO w g r g' r' (NEWL n jobs room) (NEWL n jobs room) (NEWL n jobs 1) (NEWL n jobs 1) w2) := duo_of H1.out hB
  clear c2 hB
  go_wp2_with fail
  go_loopg [17] np (fun k s17 wx => ∃ i : Nat, i + k = np ∧ s17 = .int .i64 (i : Int) ∧ Aside (∃ s s', DUO w g r g' r' s s s' s' wx))
  case atStart => exact ⟨0, by omega, rfl, _, _, HN.out⟩
  case round =>
    obtain ⟨i, hi, rfl, A⟩ := hrel
    obtain ⟨s, s', A⟩ := A
    have HD : Aside (DUO w g r g' r' s s s' s' wr) := A
    clear A
    cases gk with
    | zero =>
      obtain rfl : i = np := by omega
      clear hi
      have ca := alike_ok HD.out.both
      go_wp2_with fail
      refine ca.mono ?_
      rintro e wz ⟨rfl, bz⟩
      have HZ : Aside (DUO w g r g' r' s s s' s' wz) := HD.out.on bz
      have cb := alike_ok HZ.out.swap.both
      clear ca bz
      go_wp2_with fail
      refine cb.mono ?_
      rintro e wy ⟨rfl, by'⟩
      have HY : Aside (DUO w g r g' r' s s s' s' wy) := HZ.out.on by'
      have c7 := awake13_ok wy
      clear cb by'
      go_wp2_with fail
      refine c7.mono ?_
      rintro e w6 ⟨rfl, b6⟩
      have HE : Aside (Below w.heap.size w w6) := HY.out.below.trans (b6.mono HY.out.below.size)
      clear c7 b6
      go_wp2
      go_ret
      exact ⟨rfl, HE.out⟩
    | succ gk =>
      have hin : (i : Int) < (np : Int) := by omega
      have hi400 : i < 400 := by have := HP.out.2.1; omega
      obtain ⟨x, hx⟩ : ∃ x, P[i]? = some x := ⟨_, List.getElem?_eq_getElem (by rw [HP.out.1]; omega)⟩
      obtain ⟨b, o, rfl, hbl, hc⟩ := HP.out.2.2.1 (by rw [HP.out.1]; omega)
      have HX : Aside (b < w.heap.size ∧ w.cell? ⟨b, o + i, none⟩ = some (.int .i64 x)) := ⟨hbl, hc i x hx⟩
      have HI : Aside (i + 1 + gk = np) := by show _ = _; omega
      clear hx hc hbl hi
      by_cases hq : i < nq
      · have hq' : (i : Int) < (nq : Int) := by omega
        obtain ⟨b2, o2, rfl, hb2, hc2⟩ := HP.out.2.2.2 (by omega)
        have y2 := (HD.out.below.cell (p := ⟨b2, o2 + i, none⟩) hb2).trans (hc2 i hq)
        clear hb2 hc2 hq
        cases hl : L i with
        | true =>
          rw [hl] at y2
          clear hl
          go_upto_region 13 with fail
          refine apart13 _ g' r' b o np cp i x (ER13 s' x) hin (fun W => DUO w g r g' r' s s s' s' W) (fun W => DUO w g r g' r' s s (MV13 s' x) s' W) (fun W => DUO w g r g' r' s s (MV13 s' x) (MV13 s' x) W) (HD.out.on ((Below.refl _ _).drew)) (fun W hp => (hp.below.cell (p := ⟨b, o + i, none⟩) HX.out.1).trans HX.out.2) (fun W hp => (hp.below.cell (p := ⟨b, o + i, none⟩) HX.out.1).trans HX.out.2) (fun W hp => (hp.below.cell (p := ⟨b, o + i, none⟩) HX.out.1).trans HX.out.2) (fun W hp => (d_lmove hp.swap x).mono (by rintro e w' ⟨rfl, h⟩; exact ⟨rfl, h.swap⟩)) (fun W hp => (d_rmove hp.swap x).mono (by rintro e w' ⟨rfl, h⟩; exact ⟨rfl, h.swap⟩)) (fun _ _ _ _ _ h => h) ?_
          intro wz hz
          have HZ : Aside (DUO w g r g' r' s s (MV13 s' x) (MV13 s' x) wz) := hz
          clear hz HD
          go_wp2
          go_roundg gk
          case measure => omega
          case rel => exact ⟨i + 1, HI.out, rfl, _, _, HZ.out⟩
        | false =>
          rw [hl] at y2
          clear hl
          go_upto_region 15 with fail
          refine apart15 _ g r b o np cp i x (ER13 s x) hin (fun W => DUO w g r g' r' s s s' s' W) (fun W => DUO w g r g' r' (MV13 s x) s s' s' W) (fun W => DUO w g r g' r' (MV13 s x) (MV13 s x) s' s' W) (HD.out.on ((Below.refl _ _).drew)) (fun W hp => (hp.below.cell (p := ⟨b, o + i, none⟩) HX.out.1).trans HX.out.2) (fun W hp => (hp.below.cell (p := ⟨b, o + i, none⟩) HX.out.1).trans HX.out.2) (fun W hp => (hp.below.cell (p := ⟨b, o + i, none⟩) HX.out.1).trans HX.out.2) (fun W hp => d_lmove hp x) (fun W hp => d_rmove hp x) (fun _ _ _ _ _ h => h) ?_
          intro wz hz
          have HZ : Aside (DUO w g r g' r' (MV13 s x) (MV13 s x) s' s' wz) := hz
          clear hz HD
          go_wp2
          go_roundg gk
          case measure => omega
          case rel => exact ⟨i + 1, HI.out, rfl, _, _, HZ.out⟩
      · have hq' : ¬ (i : Int) < (nq : Int) := by omega
        clear hq
        go_upto_region 15 with fail
        refine apart15 _ g r b o np cp i x (ER13 s x) hin (fun W => DUO w g r g' r' s s s' s' W) (fun W => DUO w g r g' r' (MV13 s x) s s' s' W) (fun W => DUO w g r g' r' (MV13 s x) (MV13 s x) s' s' W) (HD.out.on ((Below.refl _ _).drew)) (fun W hp => (hp.below.cell (p := ⟨b, o + i, none⟩) HX.out.1).trans HX.out.2) (fun W hp => (hp.below.cell (p := ⟨b, o + i, none⟩) HX.out.1).trans HX.out.2) (fun W hp => (hp.below.cell (p := ⟨b, o + i, none⟩) HX.out.1).trans HX.out.2) (fun W hp => d_lmove hp x) (fun W hp => d_rmove hp x) (fun _ _ _ _ _ h => h) ?_
        intro wz hz
        have HZ : Aside (DUO w g r g' r' (MV13 s x) (MV13 s x) s' s' wz) := hz
        clear hz HD
        go_wp2
        go_roundg gk
        case measure => omega
        case rel => exact ⟨i + 1, HI.out, rfl, _, _, HZ.out⟩
theorem loomApart_walk (a b c : Int) (P : List Int) (p : Option Addr) (np cp : Nat) (L : Nat → Bool) (q : Option Addr) (nq cq : Nat) (w : World) (_ : (Lit.int .i64 a).wf = true) (_ : (Lit.int .i64 b).wf = true) (_ : (Lit.int .i64 c).wf = true) (hP : P.length = np) (hI : INTL w p P) (_ : ∀ x ∈ P, (Lit.int .i64 x).wf = true) (_ : np ≤ cp) (_ : p = none → cp = 0) (hL : BOOLL w q nq L) (_ : nq ≤ cq) : Calls Try.prog 5 #[.int .i64 a, .int .i64 b, .int .i64 c, .slice p np cp, .slice q nq cq] w fun e w' => e = .returned (.bool true) ∧ Below w.heap.size w w' := by
  by_cases hn : 400 < np ∨ 400 < b
  · exact apart_long a b c p np cp q nq cq hn w
  · by_cases h : REF a b c
    · exact apart_out a b c p np cp q nq cq h (by omega) (by omega) w
    · have h' : 1 ≤ a ∧ a ≤ 64 ∧ 0 ≤ b ∧ b ≤ 65536 ∧ 0 ≤ c ∧ c ≤ 65536 := by unfold REF at h; omega
      have e1 : ((a.toNat : Nat) : Int) = a := Int.toNat_of_nonneg (by omega)
      have e2 : ((b.toNat : Nat) : Int) = b := Int.toNat_of_nonneg (by omega)
      have e3 : ((c.toNat : Nat) : Int) = c := Int.toNat_of_nonneg (by omega)
      rw [← e1, ← e2, ← e3]
      exact apart_in a.toNat b.toNat c.toNat P p np cp L q nq cq (by omega) (by omega) (by omega) (by omega) hP (by omega) w hI hL
end Go.Proofs.Ytcdopeofajkbnaa
