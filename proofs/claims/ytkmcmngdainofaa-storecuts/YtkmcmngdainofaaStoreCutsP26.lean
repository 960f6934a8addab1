/- Texts of StoreCuts, one behind the other: StoreCutWalk, StoreAwake. -/
import Derived.Test.YtkmcmngdainofaaStoreCutsP25
/- Store.Cut, walked. -/
namespace Go.Proofs.Ytkmcmngdainofaa
open Go.RowKit Go.Maps
set_option maxRecDepth 100000

theorem LCT_most (P : Nat → Bool) : ∀ n, LCT P n ≤ n
  | 0 => Nat.le_refl _
  | n + 1 => by
    rw [LCT]
    have := LCT_most P n
    split <;> omega
theorem keys_lie {w : World} {B fi cnt c : Nat} {a : Option Addr} (h : w.ownsRow B 51 1 (.slice a cnt c) cnt (KYS fi cnt)) (h0 : 0 < cnt) : ∃ kb, a = some ⟨kb, 0, none⟩ ∧ B ≤ kb ∧ kb < w.heap.size ∧ ∀ i, i < cnt → w.cell? ⟨kb, i, none⟩ = some (.int .u64 ((fi + i : Nat) : Int)) := by
  rcases h.2 with ⟨e, h1⟩ | ⟨g, cap, cur, e, _⟩
  · omega
  · cases e
    refine ⟨g, rfl, (h.lt g rfl).1, (h.lt g rfl).2, fun i hi => ?_⟩
    rw [h.cellAt i (by omega)]
    simp [KYS, hi]
/-- what Cut answers, and leaves. -/
def CUTD (w : World) (B g log N n : Nat) (C : CHUNKS) (P : Nat → Nat) (e : Ending) (w' : World) : Prop :=
  ((∃ p, p < 2 ^ 64 ∧ P p ≠ 0 ∧ n ≤ p) ∧ e = .returned (.int .i64 51) ∧ Below w.heap.size w w') ∨ ((∀ p, p < 2 ^ 64 → P p ≠ 0 → p < n) ∧ e = .returned (.int .i64 0) ∧ CUTOK w B g log n N C w')
set_option maxHeartbeats 8000000 in
theorem cut_ok {w : World} {B g log len N np n : Nat} {C : CHUNKS} {P : Nat → Nat} (hS : STORE w B g log len len N C) (hP : PINS w B g np C P) (hBg : B ≤ g) (hall : ∀ p, p < len → (AT C log p).isSome = true) (hF : FULL C) (hlen : len ≤ 1000) (hN : N ≤ 1000) (hn : n ≤ len) : Calls Try.prog 14 #[.pointer (some ⟨g, 0, none⟩), .int .u64 (n : Int)] w (CUTD w B g log N n C P) := by
  have hk : 0 < len → ∀ k, k ≤ (len - 1) / 2 ^ log → (C k).isSome = true := fun h0 k hk => by
    have hp := Nat.two_pow_pos log
    have h1 : k * 2 ^ log ≤ len - 1 := Nat.le_trans (Nat.mul_le_mul_right _ hk) (Nat.div_mul_le_self _ _)
    have h2 := hall (k * 2 ^ log) (by omega)
    unfold AT at h2
    rw [Nat.mul_div_cancel k hp] at h2
    cases hc : C k with
    | none => rw [hc] at h2; cases h2
    | some x => rfl
  have H : Aside (STORE w B g log len len N C ∧ B ≤ g ∧ (∀ p, p < len → (AT C log p).isSome = true) ∧ FULL C ∧ len ≤ 1000 ∧ n ≤ len ∧ N ≤ 1000 ∧ (0 < len → ∀ k, k ≤ (len - 1) / 2 ^ log → (C k).isSome = true)) := ⟨hS, hBg, hall, hF, hlen, hn, hN, hk⟩
  obtain ⟨mv, m1, m2, m3⟩ := hP.map
  obtain ⟨bn, hbn⟩ : ∃ bn, w.heap.size = bn := ⟨_, rfl⟩
  obtain ⟨w0, hw0⟩ : ∃ w0, w.alloc (.cells #[.int .u64 (n : Int)] 29) = w0 := ⟨_, rfl⟩
  have hb0 : Below w.heap.size w w0 := by rw [← hw0]; exact (Below.refl _ _).alloc (Nat.le_refl _) _
  have kn : Has w0 bn #[.int .u64 (n : Int)] 29 := by rw [← hw0, ← hbn]; exact Has.new _ _ _
  have HBL : Aside (w.heap.size ≤ bn) := by show w.heap.size ≤ bn; omega
  have K0 : Aside (Below w.heap.size w w0 ∧ Has w0 bn #[.int .u64 (n : Int)] 29) := ⟨hb0, kn⟩
  have h4 := (hb0.cell (p := ⟨g, 4, none⟩) hS.lt).trans m1
  have hdec : decide (len < n) = false := decide_eq_false (by omega)
  clear hS hBg hall hF hlen hn hN hk
  go_enter Try.func14, Try.ntmps14
  go_upto_region 1 with fail
  clear hw0 hbn
  refine cut1 w0 g bn n len false hdec (fun W => Below w0.heap.size w0 W) (Below.refl _ _).drew (fun W h => ⟨(kn.keep h).cell 0, ((H.out.1.below hb0).below h).c1⟩) (fun _ _ _ _ _ h => h) ?_
  intro w1 hb1
  dsimp only
  have h41 := (hb1.cell (p := ⟨g, 4, none⟩) (Nat.lt_of_lt_of_le H.out.1.lt hb0.size)).trans h4
  clear h4 kn hb0 hdec
  cases mv with
  | none =>
    have HP0 : Aside (∀ p, p < 2 ^ 64 → P p ≠ 0 → p < n) := fun p _ hp => absurd (m2 rfl p) hp
    have hrg := run_range_nilMap (P := Try.prog) w1 45 29 3 Try.underlying45
    have hnx : ∀ ty, (Instr.next (.pointer (some ⟨w1.heap.size, 0, none⟩)) false ty).run Try.prog (w1.alloc (.mapIter none 0 #[] 0)) = _ := fun ty => run_next_nilMap w1 ty 0 0 #[]
    have HW : Aside (Below w0.heap.size w0 (w1.alloc (.mapIter none 0 #[] 0))) := hb1.alloc hb1.size _
    clear m1 m2 m3 hP hb1
    go_wp2
    refine wp_loop_rounds 1 ?_
    rw [rounds_succ]
    go_upto_region 8 with fail
    clear hrg hnx h41
    generalize w1.alloc (.mapIter none 0 #[] 0) = w2 at *
    -- the chunks from n's on
    have hB0 : Below w0.heap.size w0 w2 := HW.out
    have hBW : Below w.heap.size w w2 := K0.out.1.trans (hB0.mono K0.out.1.size)
    have bnW : w2.cell? ⟨bn, 0, none⟩ = some (.int .u64 (n : Int)) := (K0.out.2.keep hB0).cell 0
    have hSW := H.out.1.below hBW
    by_cases hnl : len ≤ n
    · have cs := since_none hSW n hnl
      have HNE : Aside (n = len) := by have := H.out.2.2.2.2.2.1; show n = len; omega
      clear hnl
      go_wp2_with fail
      refine cs.mono ?_
      rintro e V ⟨sa, sc, rfl, -, hbV⟩
      clear cs bnW
      have hbV0 : Below w0.heap.size w0 V := hB0.trans (hbV.mono hB0.size)
      have hbV2 : Below w.heap.size w V := hBW.trans (hbV.mono hBW.size)
      have sV := H.out.1.below hbV2
      have x0 : V.cell? ⟨bn, 0, none⟩ = some (.int .u64 (n : Int)) := (K0.out.2.keep hbV0).cell 0
      have x1 := sV.c1
      have f1 := sV.live 1 (by decide)
      have E : Aside (CUTOK w B g log n N C (V.setCell ⟨g, 1, none⟩ (.int .u64 (n : Int)))) := by
        obtain ⟨q1, q2⟩ := sV.relen n (by have := H.out.1.short; have := HNE.out; omega) (by rw [HNE.out]; exact sV.top)
        refine ⟨C, len, q1, by rw [HNE.out]; exact ALV.full H.out.2.2.1, (STEP.below H.out.1 hbV2).trans q2, fun p => ?_, (OTO.of_below hbV2).trans (OTO.cell _ _ _)⟩
        by_cases hp : p < n
        · rw [if_pos hp]
        · rw [if_neg hp, H.out.1.far (by have := HNE.out; omega)]
      clear hbV hbV0 hB0 hbV2 sV hSW hBW
      go_wp2
      refine wp_loop_rounds 1 ?_
      rw [rounds_succ]
      go_wp2
      go_ret
      exact .inr ⟨HP0.out, rfl, E.out⟩
    · have hfl : n / 2 ^ log ≤ (len - 1) / 2 ^ log := Nat.div_le_div_right (by omega)
      have cs := since_ok hSW n (by omega) H.out.2.2.2.2.1 H.out.2.2.2.2.2.2.1 (H.out.2.2.2.2.2.2.2 (by omega))
      obtain ⟨fi, hfi⟩ : ∃ fi, n / 2 ^ log = fi := ⟨_, rfl⟩
      obtain ⟨la, hla⟩ : ∃ la, (len - 1) / 2 ^ log = la := ⟨_, rfl⟩
      obtain ⟨cnt, hcnt⟩ : ∃ cnt, la - fi + 1 = cnt := ⟨_, rfl⟩
      rw [hfi, hla, hcnt] at cs
      rw [hfi, hla] at hfl
      go_wp2_with fail
      refine cs.mono ?_
      rintro e V ⟨sa, sc, rfl, okk, hbV⟩
      clear cs bnW
      have hbV0 : Below w0.heap.size w0 V := hB0.trans (hbV.mono hB0.size)
      have hbV2 : Below w.heap.size w V := hBW.trans (hbV.mono hBW.size)
      have hc1000 : cnt ≤ 1001 := by
        have h1 := H.out.2.2.2.2.1
        have h2 : (len - 1) / 2 ^ log ≤ len - 1 := Nat.div_le_self _ _
        omega
      obtain ⟨kb, rfl, hkb1, hkb2, hkc⟩ : ∃ kb, sa = some ⟨kb, 0, none⟩ ∧ w2.heap.size ≤ kb ∧ kb < V.heap.size ∧ ∀ i, i < cnt → V.cell? ⟨kb, i, none⟩ = some (.int .u64 ((fi + i : Nat) : Int)) := keys_lie okk (by omega)
      have I0 : Aside (CUTI V V B g log len n N fi bn 0 (.slice (some ⟨kb, 0, none⟩) cnt sc) C) := by
        have sV := H.out.1.below hbV2
        have fl : ∀ x, w.heap.size ≤ x → ¬ FOOT V g C x := fun x hx hf => by
          have := H.out.1.foot_lt (H.out.1.foot_below hbV2 hf)
          omega
        have hgl := H.out.1.lt
        have hbnl : w.heap.size ≤ bn := HBL.out
        have hbW := hBW.size
        refine ⟨C, len, sV, ALV.full H.out.2.2.1, STEP.below sV (Below.refl _ _), fun p => by rw [if_neg (fun x => by omega)], fun _ _ => rfl, (K0.out.2.keep hbV0).cell 0, fl bn hbnl, by omega, World.block_lt_of_cell? _ _ ((K0.out.2.keep hbV0).cell 0), fun k e => ?_, OTO.refl _⟩
        have : kb = k := by simpa [Value.ownBlock] using e
        subst this
        exact ⟨fl kb (by omega), by omega, hkb2, rfl⟩
      have HV : Aside (Below w.heap.size w V ∧ kb < V.heap.size ∧ (∀ i, i < cnt → V.cell? ⟨kb, i, none⟩ = some (.int .u64 ((fi + i : Nat) : Int))) ∧ n / 2 ^ log = fi ∧ (len - 1) / 2 ^ log = la ∧ la - fi + 1 = cnt ∧ fi ≤ la ∧ cnt ≤ 1001) := ⟨hbV2, hkb2, hkc, hfi, hla, hcnt, hfl, hc1000⟩
      have HV0 : Aside (0 < len) := by show 0 < len; omega
      clear okk hbV hbV0 hB0 hbV2 hkb1 hkb2 hkc hfi hla hcnt hfl hc1000 hSW hBW hnl
      go_upto_region 9 with fail
      go_loopg [30] cnt (fun r s30 wx => ∃ i : Nat, s30 = .int .i64 (i : Int) ∧ Aside (i + r = cnt ∧ CUTI V wx B g log len n N fi bn i (.slice (some ⟨kb, 0, none⟩) cnt sc) C))
      case atStart => exact ⟨0, rfl, by omega, I0.out⟩
      case round =>
        obtain ⟨i, rfl, A⟩ := hrel
        clear I0
        cases gk with
        | zero =>
          obtain rfl : i = cnt := by have := A.out.1; omega
          have hlt : ¬ (i : Int) < (i : Int) := by omega
          obtain ⟨h1, h2, h3, h4, h5, h6, h7, h8⟩ := HV.out
          have hA : CUTI V wr B g log len n N fi bn (la - fi + 1) (.slice (some ⟨kb, 0, none⟩) i sc) C := by rw [h6]; exact A.out.2
          have x0 : wr.cell? ⟨bn, 0, none⟩ = some (.int .u64 (n : Int)) := by obtain ⟨_, _, _, _, _, _, _, h, _⟩ := A.out.2; exact h
          obtain ⟨f1, ⟨v1, x1⟩, hC⟩ := hA.last (H.out.1.below h1) H.out.2.2.2.2.2.1 h4 h5 h7
          have E : Aside (CUTOK w B g log n N C (wr.setCell ⟨g, 1, none⟩ (.int .u64 (n : Int)))) := by
            obtain ⟨C', al, q1, q2, q3, q4, q5⟩ := hC
            exact ⟨C', al, q1, q2, (STEP.below H.out.1 h1).trans q3, q4, (OTO.of_below h1).trans q5⟩
          clear h1 h2 h3 h4 h5 h6 h7 h8 hA hC A
          go_wp2
          go_ret
          exact .inr ⟨HP0.out, rfl, E.out⟩
        | succ r =>
          have hin : i < cnt := by have := A.out.1; omega
          have hlt : (i : Int) < (cnt : Int) := by omega
          have hi0 : ¬ (i : Int) < 0 := by omega
          obtain ⟨h1, h2, h3, h4, h5, h6, h7, h8⟩ := HV.out
          obtain ⟨Ci, al, s1, s2, s3, s4, s5, s6, s7, s8, s9, s10, s11⟩ := A.out.2
          have xk : wr.cell? ⟨kb, i, none⟩ = some (.int .u64 ((fi + i : Nat) : Int)) := (World.cell?_of_block (a := ⟨kb, i, none⟩) (s10 kb rfl).2.2.2).trans (h3 i hin)
          have hsome := H.out.2.2.2.2.2.2.2 HV0.out (fi + i) (by rw [h5]; omega)
          obtain ⟨gc, rs, hK⟩ : ∃ gc rs, Ci (fi + i) = some (gc, rs) := by
            rw [s5 _ (Nat.le_refl _)]
            cases hc : C (fi + i) with
            | none => rw [hc] at hsome; cases hsome
            | some x => exact ⟨x.1, x.2, rfl⟩
          have hrs : rs ≠ [] := s3.full H.out.2.2.2.1 _ gc rs hK
          have hal := s2.sump s1 hK
          have hle : al ≤ len := by rw [show al = LIVES Ci log len from s2]; exact LCT_most _ _
          obtain ⟨kk, hkk⟩ : ∃ kk, fi + i = kk := ⟨_, rfl⟩
          have hb6 : Below wr.heap.size wr (wr.alloc (.cells #[.int .u64 (kk : Int)] 51)) := (Below.refl _ _).alloc (Nat.le_refl _) _
          obtain ⟨gr, cap, hbx⟩ := ((s1.below hb6).chunk _ gc rs hK).2.1.slice hrs
          have hbng : bn ≠ gr := fun e => s7 (s1.foot_below hb6 (.inr ⟨_, gc, rs, hK, .inr (.inl ⟨_, hbx.cell 0, by rw [e]; rfl⟩)⟩))
          have ct := sthin_ok (s1.below hb6) (fi + i) gc gr cap bn n rs hK hbx hal (by have := H.out.1.short; omega) (by have := H.out.2.2.2.2.2.1; have := H.out.1.short; omega) (by have := H.out.2.1; have := s1.lt; simp; omega) ((hb6.cell (p := ⟨bn, 0, none⟩) s9).trans s6) hbng
          have HN : Aside (∀ W', STHIN (wr.alloc (.cells #[.int .u64 (kk : Int)] 51)) B g log len al N (fi + i) n Ci rs W' → CUTI V W' B g log len n N fi bn (i + 1) (.slice (some ⟨kb, 0, none⟩) cnt sc) C) := fun W' hW' => by
            refine CUTI.next (s1.below hb6) s2 (s3.trans (STEP.below s1 hb6)) s4 s5 ((hb6.cell (p := ⟨bn, 0, none⟩) s9).trans s6) (fun hf => s7 (s1.foot_below hb6 hf)) s8 (Nat.lt_of_lt_of_le s9 hb6.size) (fun k e => ?_) (s11.trans (OTO.of_below hb6)) hK hW'
            obtain ⟨k1, k2, k3, k4⟩ := s10 k e
            exact ⟨fun hf => k1 (s1.foot_below hb6 hf), k2, Nat.lt_of_lt_of_le k3 hb6.size, (hb6.block k k3).trans k4⟩
          have HI1 : Aside (i + 1 + r = cnt) := by have := A.out.1; show i + 1 + r = cnt; omega
          have ei : wrap64 ((i : Int) + 1) = ((i + 1 : Nat) : Int) := by unfold wrap64; omega
          have HKK : Aside (fi + i = kk) := hkk
          rw [hkk] at xk ct
          have k7 : Has (wr.alloc (.cells #[.int .u64 (kk : Int)] 51)) wr.heap.size #[.int .u64 (kk : Int)] 51 := Has.new _ _ _
          obtain ⟨w6, hw6⟩ : ∃ w6, wr.alloc (.cells #[.int .u64 (kk : Int)] 51) = w6 := ⟨_, rfl⟩
          rw [hw6] at ct HN k7
          clear h1 h2 h3 h4 h5 h6 h7 h8 s1 s2 s3 s4 s5 s6 s7 s8 s9 s10 s11 hsome hK hrs hal hle hb6 hbx hbng hkk A hin
          go_upto_region 11 with fail
          clear hw6 xk
          go_wp2_with (first
            | (refine wpList_load_row rfl 51 (.tmp 7) rfl wr.heap.size rfl 51 #[.int .u64 (kk : Int)] (0, 0) _ k7 Try.underlying51 rfl (by kernel_rfl) ?_)
            | fail)
          refine ct.mono ?_
          rintro e w7 ⟨⟨v, rfl⟩, hth⟩
          have A7 := HN.out w7 (by rw [HKK.out]; exact hth)
          have HA7 : Aside (CUTI V w7 B g log len n N fi bn (i + 1) (.slice (some ⟨kb, 0, none⟩) cnt sc) C) := A7
          clear ct hth A7 HN k7
          go_wp2_with fail
          go_roundg r
          case measure => exact Nat.lt_succ_self _
          case rel => exact ⟨i + 1, by first | rfl | (rw [ei]), HI1.out, HA7.out⟩
  | some b =>
    obtain ⟨hBb, hfb, m, hm, D, d1, d2⟩ := m3 b rfl
    have dW : w1.ownsMap Try.prog 29 (plainElem Try.prog 3) b m D := by
      obtain ⟨es, clock, h3, r⟩ := d1
      have hbl : b < w.heap.size := (Array.getElem?_eq_some_iff.1 h3).1
      have hw1 : Below w.heap.size w w1 := K0.out.1.trans (hb1.mono K0.out.1.size)
      exact ⟨es, clock, (hw1.block b hbl).trans h3, r⟩
    have HD : Aside (∀ p, p < 2 ^ 64 → (Maps.has D (PK p) = true ↔ P p ≠ 0)) := fun p hp => (d2 p hp).1
    have HB1 : Aside (Below w0.heap.size w0 w1) := hb1
    clear m1 m2 m3 hP hb1 hBb hfb hm d1 d2
    go_wp2_with (first
      | (at_range; refine wpList_range_own _ rfl _ 45 rfl 29 3 lawPin Try.underlying45 _ b m _ rfl dW ?_; intro w2 hrg0 hg0 hs0)
      | go_in)
    go_frame
    have HR0 : Aside (w2.ranges Try.prog 29 (plainElem Try.prog 3) b w1.heap.size m D (Maps.has D) (Maps.size D) ∧ Below w0.heap.size w0 w2) := ⟨hrg0, HB1.out.grown hg0 HB1.out.size (fun k e => by cases e)⟩
    clear hrg0 hg0 hs0 dW h41
    go_loopw [5] (fun _ wr => ∃ (left : Lit → Bool) (cnt : Nat), Aside (wr.ranges Try.prog 29 (plainElem Try.prog 3) b w1.heap.size m D left cnt ∧ Below w0.heap.size w0 wr ∧ ∀ p, p < 2 ^ 64 → P p ≠ 0 → n ≤ p → left (PK p) = true))
      (fun _ wr => wr.rangeLeft b w1.heap.size)
    case atStart => exact ⟨_, _, HR0.out.1, HR0.out.2, fun p hp hP _ => (HD.out p hp).2 hP⟩
    case round =>
      obtain ⟨left, cntp, AL⟩ := hrel
      have hrg := AL.out.1
      go_wp2_with (first
        | (at_next; refine wpList_next_ranges_ii _ rfl _ rfl 29 3 .u64 .i64 lawPin Try.underlying29 Try.underlying3 b w1.heap.size m _ _ _ rfl hrg ?_ ?_)
        | go_in)
      · intro _ hl0
        have HP0 : Aside (∀ p, p < 2 ^ 64 → P p ≠ 0 → p < n) := fun p hp hP => by
          rcases Nat.lt_or_ge p n with c | c
          · exact c
          · have := AL.out.2.2 p hp hP c
            rw [hl0] at this
            cases this
        have HW : Aside (Below w0.heap.size w0 wr) := AL.out.2.1
        clear hl0 hrg AL HR0 HB1
        generalize wr = w3 at *
        go_upto_region 8 with fail
        -- the chunks from n's on
        have hB0 : Below w0.heap.size w0 w3 := HW.out
        have hBW : Below w.heap.size w w3 := K0.out.1.trans (hB0.mono K0.out.1.size)
        have bnW : w3.cell? ⟨bn, 0, none⟩ = some (.int .u64 (n : Int)) := (K0.out.2.keep hB0).cell 0
        have hSW := H.out.1.below hBW
        by_cases hnl : len ≤ n
        · have cs := since_none hSW n hnl
          have HNE : Aside (n = len) := by have := H.out.2.2.2.2.2.1; show n = len; omega
          clear hnl
          go_wp2_with fail
          refine cs.mono ?_
          rintro e V ⟨sa, sc, rfl, -, hbV⟩
          clear cs bnW
          have hbV0 : Below w0.heap.size w0 V := hB0.trans (hbV.mono hB0.size)
          have hbV2 : Below w.heap.size w V := hBW.trans (hbV.mono hBW.size)
          have sV := H.out.1.below hbV2
          have x0 : V.cell? ⟨bn, 0, none⟩ = some (.int .u64 (n : Int)) := (K0.out.2.keep hbV0).cell 0
          have x1 := sV.c1
          have f1 := sV.live 1 (by decide)
          have E : Aside (CUTOK w B g log n N C (V.setCell ⟨g, 1, none⟩ (.int .u64 (n : Int)))) := by
            obtain ⟨q1, q2⟩ := sV.relen n (by have := H.out.1.short; have := HNE.out; omega) (by rw [HNE.out]; exact sV.top)
            refine ⟨C, len, q1, by rw [HNE.out]; exact ALV.full H.out.2.2.1, (STEP.below H.out.1 hbV2).trans q2, fun p => ?_, (OTO.of_below hbV2).trans (OTO.cell _ _ _)⟩
            by_cases hp : p < n
            · rw [if_pos hp]
            · rw [if_neg hp, H.out.1.far (by have := HNE.out; omega)]
          clear hbV hbV0 hB0 hbV2 sV hSW hBW
          go_wp2
          refine wp_loop_rounds 1 ?_
          rw [rounds_succ]
          go_wp2
          go_ret
          exact .inr ⟨HP0.out, rfl, E.out⟩
        · have hfl : n / 2 ^ log ≤ (len - 1) / 2 ^ log := Nat.div_le_div_right (by omega)
          have cs := since_ok hSW n (by omega) H.out.2.2.2.2.1 H.out.2.2.2.2.2.2.1 (H.out.2.2.2.2.2.2.2 (by omega))
          obtain ⟨fi, hfi⟩ : ∃ fi, n / 2 ^ log = fi := ⟨_, rfl⟩
          obtain ⟨la, hla⟩ : ∃ la, (len - 1) / 2 ^ log = la := ⟨_, rfl⟩
          obtain ⟨cnt, hcnt⟩ : ∃ cnt, la - fi + 1 = cnt := ⟨_, rfl⟩
          rw [hfi, hla, hcnt] at cs
          rw [hfi, hla] at hfl
          go_wp2_with fail
          refine cs.mono ?_
          rintro e V ⟨sa, sc, rfl, okk, hbV⟩
          clear cs bnW
          have hbV0 : Below w0.heap.size w0 V := hB0.trans (hbV.mono hB0.size)
          have hbV2 : Below w.heap.size w V := hBW.trans (hbV.mono hBW.size)
          have hc1000 : cnt ≤ 1001 := by
            have h1 := H.out.2.2.2.2.1
            have h2 : (len - 1) / 2 ^ log ≤ len - 1 := Nat.div_le_self _ _
            omega
          obtain ⟨kb, rfl, hkb1, hkb2, hkc⟩ : ∃ kb, sa = some ⟨kb, 0, none⟩ ∧ w3.heap.size ≤ kb ∧ kb < V.heap.size ∧ ∀ i, i < cnt → V.cell? ⟨kb, i, none⟩ = some (.int .u64 ((fi + i : Nat) : Int)) := keys_lie okk (by omega)
          have I0 : Aside (CUTI V V B g log len n N fi bn 0 (.slice (some ⟨kb, 0, none⟩) cnt sc) C) := by
            have sV := H.out.1.below hbV2
            have fl : ∀ x, w.heap.size ≤ x → ¬ FOOT V g C x := fun x hx hf => by
              have := H.out.1.foot_lt (H.out.1.foot_below hbV2 hf)
              omega
            have hgl := H.out.1.lt
            have hbnl : w.heap.size ≤ bn := HBL.out
            have hbW := hBW.size
            refine ⟨C, len, sV, ALV.full H.out.2.2.1, STEP.below sV (Below.refl _ _), fun p => by rw [if_neg (fun x => by omega)], fun _ _ => rfl, (K0.out.2.keep hbV0).cell 0, fl bn hbnl, by omega, World.block_lt_of_cell? _ _ ((K0.out.2.keep hbV0).cell 0), fun k e => ?_, OTO.refl _⟩
            have : kb = k := by simpa [Value.ownBlock] using e
            subst this
            exact ⟨fl kb (by omega), by omega, hkb2, rfl⟩
          have HV : Aside (Below w.heap.size w V ∧ kb < V.heap.size ∧ (∀ i, i < cnt → V.cell? ⟨kb, i, none⟩ = some (.int .u64 ((fi + i : Nat) : Int))) ∧ n / 2 ^ log = fi ∧ (len - 1) / 2 ^ log = la ∧ la - fi + 1 = cnt ∧ fi ≤ la ∧ cnt ≤ 1001) := ⟨hbV2, hkb2, hkc, hfi, hla, hcnt, hfl, hc1000⟩
          have HV0 : Aside (0 < len) := by show 0 < len; omega
          clear okk hbV hbV0 hB0 hbV2 hkb1 hkb2 hkc hfi hla hcnt hfl hc1000 hSW hBW hnl
          go_upto_region 9 with fail
          go_loopg [30] cnt (fun r s30 wx => ∃ i : Nat, s30 = .int .i64 (i : Int) ∧ Aside (i + r = cnt ∧ CUTI V wx B g log len n N fi bn i (.slice (some ⟨kb, 0, none⟩) cnt sc) C))
          case atStart => exact ⟨0, rfl, by omega, I0.out⟩
          case round =>
            obtain ⟨i, rfl, A⟩ := hrel
            clear I0
            cases gk with
            | zero =>
              obtain rfl : i = cnt := by have := A.out.1; omega
              have hlt : ¬ (i : Int) < (i : Int) := by omega
              obtain ⟨h1, h2, h3, h4, h5, h6, h7, h8⟩ := HV.out
              have hA : CUTI V wr B g log len n N fi bn (la - fi + 1) (.slice (some ⟨kb, 0, none⟩) i sc) C := by rw [h6]; exact A.out.2
              have x0 : wr.cell? ⟨bn, 0, none⟩ = some (.int .u64 (n : Int)) := by obtain ⟨_, _, _, _, _, _, _, h, _⟩ := A.out.2; exact h
              obtain ⟨f1, ⟨v1, x1⟩, hC⟩ := hA.last (H.out.1.below h1) H.out.2.2.2.2.2.1 h4 h5 h7
              have E : Aside (CUTOK w B g log n N C (wr.setCell ⟨g, 1, none⟩ (.int .u64 (n : Int)))) := by
                obtain ⟨C', al, q1, q2, q3, q4, q5⟩ := hC
                exact ⟨C', al, q1, q2, (STEP.below H.out.1 h1).trans q3, q4, (OTO.of_below h1).trans q5⟩
              clear h1 h2 h3 h4 h5 h6 h7 h8 hA hC A
              go_wp2
              go_ret
              exact .inr ⟨HP0.out, rfl, E.out⟩
            | succ r =>
              have hin : i < cnt := by have := A.out.1; omega
              have hlt : (i : Int) < (cnt : Int) := by omega
              have hi0 : ¬ (i : Int) < 0 := by omega
              obtain ⟨h1, h2, h3, h4, h5, h6, h7, h8⟩ := HV.out
              obtain ⟨Ci, al, s1, s2, s3, s4, s5, s6, s7, s8, s9, s10, s11⟩ := A.out.2
              have xk : wr.cell? ⟨kb, i, none⟩ = some (.int .u64 ((fi + i : Nat) : Int)) := (World.cell?_of_block (a := ⟨kb, i, none⟩) (s10 kb rfl).2.2.2).trans (h3 i hin)
              have hsome := H.out.2.2.2.2.2.2.2 HV0.out (fi + i) (by rw [h5]; omega)
              obtain ⟨gc, rs, hK⟩ : ∃ gc rs, Ci (fi + i) = some (gc, rs) := by
                rw [s5 _ (Nat.le_refl _)]
                cases hc : C (fi + i) with
                | none => rw [hc] at hsome; cases hsome
                | some x => exact ⟨x.1, x.2, rfl⟩
              have hrs : rs ≠ [] := s3.full H.out.2.2.2.1 _ gc rs hK
              have hal := s2.sump s1 hK
              have hle : al ≤ len := by rw [show al = LIVES Ci log len from s2]; exact LCT_most _ _
              obtain ⟨kk, hkk⟩ : ∃ kk, fi + i = kk := ⟨_, rfl⟩
              have hb6 : Below wr.heap.size wr (wr.alloc (.cells #[.int .u64 (kk : Int)] 51)) := (Below.refl _ _).alloc (Nat.le_refl _) _
              obtain ⟨gr, cap, hbx⟩ := ((s1.below hb6).chunk _ gc rs hK).2.1.slice hrs
              have hbng : bn ≠ gr := fun e => s7 (s1.foot_below hb6 (.inr ⟨_, gc, rs, hK, .inr (.inl ⟨_, hbx.cell 0, by rw [e]; rfl⟩)⟩))
              have ct := sthin_ok (s1.below hb6) (fi + i) gc gr cap bn n rs hK hbx hal (by have := H.out.1.short; omega) (by have := H.out.2.2.2.2.2.1; have := H.out.1.short; omega) (by have := H.out.2.1; have := s1.lt; simp; omega) ((hb6.cell (p := ⟨bn, 0, none⟩) s9).trans s6) hbng
              have HN : Aside (∀ W', STHIN (wr.alloc (.cells #[.int .u64 (kk : Int)] 51)) B g log len al N (fi + i) n Ci rs W' → CUTI V W' B g log len n N fi bn (i + 1) (.slice (some ⟨kb, 0, none⟩) cnt sc) C) := fun W' hW' => by
                refine CUTI.next (s1.below hb6) s2 (s3.trans (STEP.below s1 hb6)) s4 s5 ((hb6.cell (p := ⟨bn, 0, none⟩) s9).trans s6) (fun hf => s7 (s1.foot_below hb6 hf)) s8 (Nat.lt_of_lt_of_le s9 hb6.size) (fun k e => ?_) (s11.trans (OTO.of_below hb6)) hK hW'
                obtain ⟨k1, k2, k3, k4⟩ := s10 k e
                exact ⟨fun hf => k1 (s1.foot_below hb6 hf), k2, Nat.lt_of_lt_of_le k3 hb6.size, (hb6.block k k3).trans k4⟩
              have HI1 : Aside (i + 1 + r = cnt) := by have := A.out.1; show i + 1 + r = cnt; omega
              have ei : wrap64 ((i : Int) + 1) = ((i + 1 : Nat) : Int) := by unfold wrap64; omega
              have HKK : Aside (fi + i = kk) := hkk
              rw [hkk] at xk ct
              have k7 : Has (wr.alloc (.cells #[.int .u64 (kk : Int)] 51)) wr.heap.size #[.int .u64 (kk : Int)] 51 := Has.new _ _ _
              obtain ⟨w6, hw6⟩ : ∃ w6, wr.alloc (.cells #[.int .u64 (kk : Int)] 51) = w6 := ⟨_, rfl⟩
              rw [hw6] at ct HN k7
              clear h1 h2 h3 h4 h5 h6 h7 h8 s1 s2 s3 s4 s5 s6 s7 s8 s9 s10 s11 hsome hK hrs hal hle hb6 hbx hbng hkk A hin
              go_upto_region 11 with fail
              clear hw6 xk
              go_wp2_with (first
                | (refine wpList_load_row rfl 51 (.tmp 7) rfl wr.heap.size rfl 51 #[.int .u64 (kk : Int)] (0, 0) _ k7 Try.underlying51 rfl (by kernel_rfl) ?_)
                | fail)
              refine ct.mono ?_
              rintro e w7 ⟨⟨v, rfl⟩, hth⟩
              have A7 := HN.out w7 (by rw [HKK.out]; exact hth)
              have HA7 : Aside (CUTI V w7 B g log len n N fi bn (i + 1) (.slice (some ⟨kb, 0, none⟩) cnt sc) C) := A7
              clear ct hth A7 HN k7
              go_wp2_with fail
              go_roundg r
              case measure => exact Nat.lt_succ_self _
              case rel => exact ⟨i + 1, by first | rfl | (rw [ei]), HI1.out, HA7.out⟩
      · intro x c w3 cnt1 hwx hwc hlx hat hrg1 hlt hg1 hs1 hen
        obtain ⟨p, rfl⟩ : ∃ p : Nat, x = (p : Int) := ⟨x.toNat, by have := wf_u64 hwx; omega⟩
        have hp64 : p < 2 ^ 64 := by have := wf_u64 hwx; omega
        have hPp : P p ≠ 0 := (HD.out p hp64).1 (by
          cases hh : Maps.has D (PK p) with
          | true => rfl
          | false =>
            have h1 := (hat (ID 0)).symm.trans (Maps.atKey_of_not_has hh (ID 0))
            have h2 := (hat (ID 1)).symm.trans (Maps.atKey_of_not_has hh (ID 1))
            have h3 := h1.symm.trans h2
            simp at h3)
        have hb3 : Below w0.heap.size w0 w3 := AL.out.2.1.grown hg1 AL.out.2.1.size (fun k e => by cases e; exact HB1.out.size)
        have x0 : w3.cell? ⟨bn, 0, none⟩ = some (.int .u64 (n : Int)) := (K0.out.2.keep hb3).cell 0
        have HB3 : Aside (Below w0.heap.size w0 w3) := hb3
        have HP : Aside (p < 2 ^ 64 ∧ P p ≠ 0) := ⟨hp64, hPp⟩
        have HRG : Aside (w3.ranges Try.prog 29 (plainElem Try.prog 3) b w1.heap.size m D (fun z => left z && !z.sameKey (PK p)) cnt1 ∧ cnt1 < cntp ∧ wr.ranges Try.prog 29 (plainElem Try.prog 3) b w1.heap.size m D left cntp) := ⟨hrg1, hlt, hrg⟩
        clear hrg hat hwx hwc hlx hrg1 hlt hg1 hs1 hb3 hp64 hPp HR0
        rcases Nat.lt_or_ge p n with hc | hc
        · have hlt : ¬ (n : Int) ≤ (p : Int) := by omega
          have hlt2 : (p : Int) < (n : Int) := by omega
          have HC : Aside (p < n) := hc
          clear hc
          go_wp2
          refine ⟨⟨_, cnt1, HRG.out.1, HB3.out, fun q hq hPq hnq => ?_⟩, ?_⟩
          · have hne : (PK q).sameKey (PK p) = false := by
              have := HC.out
              simp [Lit.sameKey]
              omega
            rw [AL.out.2.2 q hq hPq hnq, hne]
            rfl
          · rw [HRG.out.1.left_eq, HRG.out.2.2.left_eq]
            exact HRG.out.2.1
        · have hlt : (n : Int) ≤ (p : Int) := by omega
          have hlt2 : ¬ (p : Int) < (n : Int) := by omega
          have HC : Aside (n ≤ p) := hc
          clear hc
          go_wp2
          go_ret
          exact .inl ⟨⟨p, HP.out.1, HP.out.2, HC.out⟩, rfl, K0.out.1.trans (HB3.out.mono K0.out.1.size)⟩
end Go.Proofs.Ytkmcmngdainofaa

/- massiflaw5.awake. -/
namespace Go.Proofs.Ytkmcmngdainofaa
open Go.RowKit Go.Maps
set_option maxRecDepth 100000

/-- a hash with this first byte, noughts behind it. -/
def HB (x : Nat) : Nat → Nat := fun i => if i = 0 then x else 0
theorem HB_lt (x : Nat) (h : x < 256) : ∀ i, HB x i < 256 := fun i => by unfold HB; split <;> omega
theorem build7 (w : World) : (Instr.build 33 #[(0, .int .u8 7)]).run Try.prog w = .ok (.agg (UARR .u8 32 (HB 7))) w := run_build (P := Try.prog) w 33 _ _ (by kernel_rfl)
theorem build8 (w : World) : (Instr.build 33 #[(0, .int .u8 8)]).run Try.prog w = .ok (.agg (UARR .u8 32 (HB 8))) w := run_build (P := Try.prog) w 33 _ _ (by kernel_rfl)
theorem same8 (w : World) : (Op.equalIn 10000 33 (.agg (UARR .u8 32 (HB 8))) (.agg ((UARR .u8 32 fun _ => 0).setIfInBounds 0 (.int .u8 8)))).run Try.prog w = .ok true w := by kernel_rfl
/-- a load of a whole row where a guard is met. -/
theorem wpList_load_row_if {ops : Array Oper} {rest : List Oper} {o : Oper} {a : Act} {w : World} {Q : Exit → Act → World → Prop} (hw : Region.wanted o (yielded ops a.tmps) = true) (ty : TypeId) (x : Operand) (ho : o.op = .load ty x) (n : Nat) (e : TypeId)
    (b : Nat) (hx : a.eval x = .pointer (some ⟨b, 0, none⟩)) (t : TypeId) (cs : Array Value) (fr : Nat × Nat) (hb : w.heap[b]? = some (.cells cs t fr)) (hu : Try.prog.underlying ty = some (.array n e)) (hi : (Try.prog.info? ty).map (·.size) = some cs.size)
    (h : wpList Try.prog ops Q rest (a.put o.dst (.agg cs)) w) : wpList Try.prog ops Q (o :: rest) a w := by
  simp only [wpList]
  rw [if_pos hw]
  exact .inl (wp_load_row ty x ho b hx t cs fr (.array n e) hb hu rfl hi h)
set_option maxHeartbeats 4000000 in
theorem awake_ok (w : World) : Calls Try.prog 13 #[] w fun e w' => e = .returned (.bool true) ∧ Below w.heap.size w w' := by
  have cN := storenew_ok 1 (by decide) w
  obtain ⟨f1, f2⟩ := STORE.fresh w 1 (by decide)
  have HF : Aside (STORE (w.alloc (.cells (FRESH 1) 47)) w.heap.size w.heap.size 1 0 0 0 (fun _ => none) ∧ PINS (w.alloc (.cells (FRESH 1) 47)) w.heap.size w.heap.size 0 (fun _ => none) (fun _ => 0) ∧ Below w.heap.size w (w.alloc (.cells (FRESH 1) 47))) := ⟨f1, f2, (Below.refl _ _).alloc (Nat.le_refl _) _⟩
  clear f1 f2
  have h7 := build7
  have h8 := build8
  go_enter Try.func13, Try.ntmps13
  go_wp2_with fail
  refine cN.mono ?_
  rintro e w1 ⟨rfl, rfl⟩
  clear cN
  obtain ⟨w1, hw1⟩ : ∃ w1, w.alloc (.cells (FRESH 1) 47) = w1 := ⟨_, rfl⟩
  rw [hw1] at HF ⊢
  clear hw1
  obtain ⟨g, hg⟩ : ∃ g, w.heap.size = g := ⟨_, rfl⟩
  have HG : Aside (w.heap.size = g) := hg
  rw [hg] at HF ⊢
  clear hg
  go_wp2_with fail
  refine (push_ok HF.out.1 (HB 7) (HB_lt 7 (by decide)) (by decide) (by decide) (Nat.le_refl _) (by decide)).mono ?_
  rintro e w2 ⟨rfl, hP⟩
  have H2 : Aside (FILLED w2 g g 1 1 (fun i => if i = 0 then HB 7 else HB 8) ∧ Below g w w2) := by
    obtain ⟨f1, f2, f3⟩ := HF.out
    obtain ⟨_, _, _, _, hb2⟩ := id hP
    exact ⟨FILLED.push (n := 0) (hs := fun i => if i = 0 then HB 7 else HB 8) f1 f2 (fun p => rfl) (fun k gc rs e => by cases e) hP, f3.trans hb2⟩
  clear HF hP
  obtain ⟨⟨C, f1, f2, f3, f5⟩, f4⟩ := H2.out
  have cP := push_ok f1 (HB 8) (HB_lt 8 (by decide)) (by decide) (by decide) (Nat.le_refl _) (by decide)
  have HC : Aside (STORE w2 g g 1 1 1 1 C ∧ PINS w2 g g 0 C (fun _ => 0) ∧ (∀ p, AT C 1 p = if p < 1 then some ((fun i => if i = 0 then HB 7 else HB 8) p) else none) ∧ Below g w w2 ∧ FULL C) := ⟨f1, f2, f3, f4, f5⟩
  clear f1 f2 f3 f4 f5
  go_wp2_with fail
  refine cP.mono ?_
  rintro e w3 ⟨rfl, hP⟩
  have H3 : Aside (FILLED w3 g g 1 2 (fun i => if i = 0 then HB 7 else HB 8) ∧ Below g w w3) := by
    obtain ⟨f1, f2, f3, f4, f5⟩ := HC.out
    obtain ⟨_, _, _, _, hb2⟩ := id hP
    exact ⟨FILLED.push (n := 1) (hs := fun i => if i = 0 then HB 7 else HB 8) f1 f2 f3 f5 hP, f4.trans hb2⟩
  clear H2 hP cP h7 HC
  obtain ⟨⟨C1, f1, f2, f3, -⟩, f4⟩ := H3.out
  have cD := drop_live f1 f2 0 1 (HB 7) (by decide) (by decide) rfl (f3 0) rfl (by decide) (Nat.le_refl _)
  have HC : Aside ((∀ p, AT C1 1 p = if p < 2 then some ((fun i => if i = 0 then HB 7 else HB 8) p) else none) ∧ Below g w w3) := ⟨f3, f4⟩
  clear f1 f2 f3 f4
  go_wp2_with fail
  refine cD.mono ?_
  rintro e w4 ⟨rfl, hD⟩
  have H4 : Aside (∃ C', STORE w4 g g 1 2 1 2 C' ∧ AT C' 1 0 = none ∧ AT C' 1 1 = some (HB 8) ∧ Below g w w4) := by
    obtain ⟨f3, f4⟩ := HC.out
    obtain ⟨C', d1, d2, d3, d4, d5⟩ := hD
    refine ⟨C', d1, d2 0, ?_, f4.trans d5⟩
    rw [d2, if_neg (by decide), f3]
    rfl
  clear H3 hD cD HC
  obtain ⟨C4, f1, f2, f3, f4⟩ := H4.out
  have cG := get_ok f1 1 (by decide)
  have e1 : GOT C4 1 2 1 = 0 := by unfold GOT; rw [f3]; rfl
  have e2 : GOTH C4 1 2 1 = HB 8 := by unfold GOTH; rw [f3]; rfl
  rw [e1, e2] at cG
  clear e1 e2 f1 f2 f3 f4
  have hz := zeroHash
  go_wp2_with fail
  refine cG.mono ?_
  rintro e w5 ⟨rfl, hb5⟩
  clear cG
  have hst := run_storeCells_new (P := Try.prog) w5 33 (UARR .u8 32 fun _ => 0) (UARR .u8 32 (HB 8)) (info_HASH _) (by rw [UARR_size, UARR_size]) (UARR_one _ _ _)
  have hsu := UARR_size .u8 32 (HB 8)
  obtain ⟨w6, hw6⟩ : ∃ w6, w5.alloc (.cells (UARR .u8 32 (HB 8)) 33) = w6 := ⟨_, rfl⟩
  rw [hw6] at hst
  have hb6 : Below w4.heap.size w4 w6 := by rw [← hw6]; exact hb5.alloc hb5.size _
  have h66 : Has w6 w5.heap.size (UARR .u8 32 (HB 8)) 33 := by rw [← hw6]; exact Has.new w5 _ _
  have cG : Calls Try.prog 10 #[.pointer (some ⟨g, 0, none⟩), .int .u64 0] w6 fun e w' => e = .returned (.tuple #[.agg (UARR .u8 32 fun _ => 0), .int .i64 50]) ∧ Below w6.heap.size w6 w' := by
    obtain ⟨C', f1, f2, f3, f4⟩ := H4.out
    have := get_ok (f1.below hb6) 0 (by decide)
    have e1 : GOT C' 1 2 0 = 50 := by unfold GOT; rw [f2]; rfl
    have e2 : GOTH C' 1 2 0 = fun _ => 0 := by unfold GOTH; rw [f2]; rfl
    rw [e1, e2] at this
    exact this
  clear hw6
  go_wp2_with fail
  refine cG.mono ?_
  rintro e w7 ⟨rfl, hb7⟩
  clear cG hst hsu
  have hst := run_storeCells_new (P := Try.prog) w7 33 (UARR .u8 32 fun _ => 0) (UARR .u8 32 fun _ => 0) (info_HASH _) rfl (UARR_one _ _ _)
  have hsu := UARR_size .u8 32 (fun _ => 0)
  obtain ⟨w8, hw8⟩ : ∃ w8, w7.alloc (.cells (UARR .u8 32 fun _ => 0) 33) = w8 := ⟨_, rfl⟩
  replace hst := hst.trans (by rw [hw8])
  have hb8 : Below w6.heap.size w6 w8 := by rw [← hw8]; exact hb7.alloc hb7.size _
  have h68 := h66.keep hb8
  have hb48 : Below w4.heap.size w4 w8 := hb6.trans (hb8.mono hb6.size)
  have HE : Aside (Below g w w8) := by
    obtain ⟨C', f1, f2, f3, f4⟩ := H4.out
    exact f4.trans (hb48.mono (by have := f1.lt; omega))
  have cL : Calls Try.prog 9 #[.pointer (some ⟨g, 0, none⟩)] w8 fun e w' => e = .returned (.int .u64 2) ∧ w8 = w' := by
    obtain ⟨C', f1, f2, f3, f4⟩ := H4.out
    exact len_ok g 2 w8 (f1.below hb48).c1
  have cA : Calls Try.prog 7 #[.pointer (some ⟨g, 0, none⟩)] w8 fun e w' => e = .returned (.int .u64 1) ∧ w8 = w' := by
    obtain ⟨C', f1, f2, f3, f4⟩ := H4.out
    exact alive_ok g 1 w8 (f1.below hb48).c2
  have hsame := same8
  clear hw8 hb8 hb48 hb7 hb6 hb5 h66 H4
  go_wp2_with (first
    | (refine wpList_load_row_if (by rfl) 33 (.tmp 6) rfl 32 5 w5.heap.size rfl 33 (UARR .u8 32 (HB 8)) (0, 0) h68 Try.underlying33 (info_HASH _) ?_)
    | (refine cL.mono ?_; rintro e w' ⟨rfl, rfl⟩)
    | (refine cA.mono ?_; rintro e w' ⟨rfl, rfl⟩)
    | fail)
  go_ret
  rw [HG.out]
  exact ⟨rfl, HE.out⟩
end Go.Proofs.Ytkmcmngdainofaa
