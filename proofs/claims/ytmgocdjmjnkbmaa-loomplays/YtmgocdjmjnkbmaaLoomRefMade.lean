/- The walk of the document's Make. -/
import Derived.Test.YtmgocdjmjnkbmaaLoomRefDo
namespace Go.Proofs.Ytmgocdjmjnkbmaa
open Go.RowKit
set_option maxRecDepth 100000

theorem addr_add13 (b o j : Nat) : (⟨b, o, none⟩ : Addr).add j = ⟨b, o + j, none⟩ := by unfold Addr.add; split <;> simp_all
/-- behind the switch of Make. -/
def SWT (w : World) (B r bw cw : Nat) (vq vg : Value) (t : LM) (W : World) : Prop := ∃ vq' vg' R2, RAFTER w B r bw cw vq vg vq' vg' R2 W ∧ REL1 t R2
set_option maxHeartbeats 4000000 in
theorem rmake_ok {w : World} {B r bw cw : Nat} {vq vg : Value} {R : RR} {s : LM} (h : RLOOM w B r bw cw vq vg R) (hr : REL s R) (hi : INV s) (hs : SMALL s) (hjb : s.jobs ≤ 65536) (m : MV) (hm : m ∈ MVS s) : Calls Try.prog 21 #[.pointer (some ⟨r, 0, none⟩), .agg (MVAL m.1 m.2.1 m.2.2)] w fun e w' => e = .returned (.tuple #[]) ∧ ∃ vq' vg' R', RAFTER w B r bw cw vq vg vq' vg' R' w' ∧ REL (DO s m) R' := by
  obtain ⟨k, x, j⟩ := m
  have HA : Aside (RLOOM w B r bw cw vq vg R ∧ REL s R ∧ INV s ∧ SMALL s ∧ (k, x, j) ∈ MVS s) := ⟨h, hr, hi, hs, hm⟩
  have HJ : Aside (s.jobs ≤ 65536) := hjb
  clear h hr hi hs hm hjb
  obtain ⟨w1, hw1⟩ : ∃ w1, w.alloc (.cells #[.int .i64 (k : Int), .int .i64 x, .int .i64 (j : Int)] 42) = w1 := ⟨_, rfl⟩
  obtain ⟨b, hb⟩ : ∃ b, w.heap.size = b := ⟨_, rfl⟩
  have HN : Aside (¬ RFOOT r bw vq vg b) := fun hk => by have := (HA.out.1.foot hk).2; omega
  have HB : Aside (RAFTER w B r bw cw vq vg vq vg R w1 ∧ Has w1 b (MVAL k x j) 42) := by
    rw [← hw1, ← hb]
    exact ⟨⟨HA.out.1.below ((Below.refl _ _).alloc (Nat.le_refl _) _), RSTEP.below ((Below.refl _ _).alloc (Nat.le_refl _) _)⟩, Has.new _ _ _⟩
  show Calls Try.prog 21 #[.pointer (some ⟨r, 0, none⟩), .agg #[.int .i64 (k : Int), .int .i64 x, .int .i64 (j : Int)]] w _
  have x11 : w1.cell? ⟨r, 11, none⟩ = some (.int .i64 (R.count : Int)) := HB.out.1.1.row.cell 11
  have z11 := HB.out.1.1.row.frozen 11
  have hcb : R.count < 2 ^ 39 := by rw [HA.out.2.1.count]; exact HA.out.2.2.2.1.made
  obtain ⟨R1, hR1⟩ : ∃ R1 : RR, R1 = { R with count := R.count + 1 } := ⟨_, rfl⟩
  obtain ⟨w2, hw2⟩ : ∃ w2, w1.setCell ⟨r, 11, none⟩ (.int .i64 ((R.count : Int) + 1)) = w2 := ⟨_, rfl⟩
  have H2 : Aside (RAFTER w B r bw cw vq vg vq vg R1 w2 ∧ Has w2 b (MVAL k x j) 42 ∧ R1 = { R with count := R.count + 1 }) := by
    rw [← hw2, hR1]
    have q := HB.out.1.1.set1 (R' := { R with count := R.count + 1 }) 11 (.int .i64 ((R.count : Int) + 1)) rfl rfl rfl rfl rfl rfl
    exact ⟨⟨q.1, HB.out.1.2.trans q.2⟩, HB.out.2.other (a := ⟨r, 11, none⟩) (fun e => HN.out (.inl e)) _, rfl⟩
  have y0 : w2.cell? ⟨b, 0, none⟩ = some (.int .i64 (k : Int)) := H2.out.2.1.cell 0
  have y1 : w2.cell? ⟨b, 1, none⟩ = some (.int .i64 x) := H2.out.2.1.cell 1
  go_enter Try.func21, Try.ntmps21
  go_upto_block 0 with fail
  clear hw1 hw2 x11 z11 hcb hb hR1
  go_cut [] from 14 to 152 (fun W => Aside (SWT w B r bw cw vq vg (DO1 s (k, x, j)) W))
  case first =>
    have hL := H2.out.1.1
    have hS := HA.out.2.2.2.1
    have hR := HA.out.2.1
    have hI := HA.out.2.2.1
    have x0 : w2.cell? ⟨r, 0, none⟩ = some (.int .i64 (R1.jobs : Int)) := hL.row.cell 0
    have x1 : w2.cell? ⟨r, 1, none⟩ = some (.int .i64 (R1.room : Int)) := hL.row.cell 1
    have hr1 : R1.room = s.room := by rw [H2.out.2.2]; exact hR.room
    have hw1 : R1.W = s.W := by rw [H2.out.2.2]; exact hR.W
    have hnx : R1.next = s.first + s.held := by rw [H2.out.2.2]; exact hR.next
    rw [hr1] at x1
    rcases mem_MVS HA.out.2.2.2.2 with h | h | h | h | h | h | h | h | h
    · as_aux_lemma =>
        obtain ⟨h1, h2, h3⟩ := h
        simp only [Prod.mk.injEq] at h1
        obtain ⟨rfl, rfl, hj⟩ := h1
        have hjn : j = s.first + s.held := by have := hI.next h2; omega
        have HR : Aside (REL1 (DO1 s (1, 0, j)) { R1 with qs := R1.qs ++ [j], next := R1.next + 1 }) := by
          have q := rel_put hR h2
          rw [← hjn] at q
          rw [H2.out.2.2]
          exact q
        have hql : R1.qs.length ≤ 100000 := by rw [H2.out.2.2]; show R.qs.length ≤ _; rw [hR.qs, QL_length]; have := hI.fed; have := HJ.out; omega
        have hnb : R1.next < 2 ^ 40 := by rw [hnx]; have := hS.first; have := hS.held; omega
        clear x0 x1 hr1 hw1 hnx h2 h3 hj hjn hL hS
        go_upto_region 4 with fail
        have hIC : ICELLS R1.qs ++ [.int .i64 (j : Int)] = ICELLS (R1.qs ++ [j]) := by simp [ICELLS]
        refine mk4 _ r b j R1.qs.length B vq (ICELLS R1.qs) hql (fun W => RAFTER w B r bw cw vq vg vq vg R1 W ∧ Has W b (MVAL 1 0 j) 42) (fun g2 c2 W => W.cell? ⟨r, 4, none⟩ = some vq ∧ W.frozen? ⟨r, 4, none⟩ = false ∧ RAFTER w B r bw cw vq vg (.slice (some ⟨g2, 0, none⟩) (R1.qs.length + 1) c2) vg { R1 with qs := R1.qs ++ [j] } (W.setCell ⟨r, 4, none⟩ (.slice (some ⟨g2, 0, none⟩) (R1.qs.length + 1) c2))) ⟨⟨H2.out.1.1.drew, H2.out.1.2.drew⟩, H2.out.2.1⟩ (fun W o h2 => ⟨h2.1.below ((Below.refl _ _).alloc (Nat.le_refl _) _), h2.2.alloc _⟩) (fun W h2 => h2.1.1.row.cell 4) (fun W h2 => h2.2.cell 2) (fun W h2 => by have := h2.1.1.br; have := h2.1.1.lt.1; omega) (fun W h2 => h2.1.1.oq) (fun g2 c2 W h2 => ⟨h2.1, h2.2.1⟩) (fun W W' g2 c2 h2 z1 z2 z3 => rhalf_q h2.1 g2 _ c2 j (by rw [← hIC, List.length_append]; exact z1) z2 z3) (fun _ _ _ _ _ h => h) ?_
        rintro bx g2 c2 w4 ⟨wy, hy, rfl⟩
        dsimp only
        obtain ⟨v5, hv5⟩ : ∃ v5, Value.slice (some ⟨g2, 0, none⟩) (R1.qs.length + 1) c2 = v5 := ⟨_, rfl⟩
        rw [hv5] at hy ⊢
        obtain ⟨w5, hw5⟩ : ∃ w5, wy.setCell ⟨r, 4, none⟩ v5 = w5 := ⟨_, rfl⟩
        rw [hw5] at hy ⊢
        have HY : Aside (RAFTER w B r bw cw vq vg v5 vg { R1 with qs := R1.qs ++ [j] } w5) := hy.2.2
        have x2 : w5.cell? ⟨r, 2, none⟩ = some (.int .i64 (R1.next : Int)) := HY.out.1.row.cell 2
        have z2 := HY.out.1.row.frozen 2
        clear hy hw5 hv5 hIC
        go_wp2
        go_meet
        case rel =>
          have q := HY.out.1.set1 (R' := { R1 with qs := R1.qs ++ [j], next := R1.next + 1 }) 2 (.int .i64 ((R1.next : Int) + 1)) rfl rfl rfl rfl rfl rfl
          exact ⟨v5, vg, _, ⟨q.1, HY.out.2.trans q.2⟩, HR.out⟩
    · as_aux_lemma =>
        obtain ⟨i, h1, h2, h3, h4, h5⟩ := h
        simp only [Prod.mk.injEq] at h5
        obtain ⟨rfl, rfl, hj⟩ := h5
        have hz := hI.zero h3
        have HR : Aside (REL1 (DO1 s (2, (i : Int), j)) { R1 with next := R1.next + 1, jb := fun k => if k = i then (j : Int) else R1.jb k }) := by
          have eD : DO1 s (2, (i : Int), j) = GIVES (PUTS s) i j := by
            show GIVES (if s.room = 0 then PUTS s else s) (i : Int).toNat j = _
            rw [if_pos h3, Int.toNat_natCast]
          rw [eD, H2.out.2.2]
          exact rel_give0 hR hz h4 i j h1 h2
        have x2 : w2.cell? ⟨r, 2, none⟩ = some (.int .i64 (R1.next : Int)) := hL.row.cell 2
        have z2 := hL.row.frozen 2
        have hnb : R1.next < 2 ^ 40 := by rw [hnx]; have := hS.first; have := hS.held; omega
        have hiw : i < R1.W := by rw [hw1]; exact h1
        rw [h3] at x1
        obtain ⟨w3, hw3⟩ : ∃ w3, w2.setCell ⟨r, 2, none⟩ (.int .i64 ((R1.next : Int) + 1)) = w3 := ⟨_, rfl⟩
        have HX : Aside (RAFTER w B r bw cw vq vg vq vg { R1 with next := R1.next + 1 } w3 ∧ Has w3 b (MVAL 2 (i : Int) j) 42 ∧ i < R1.W) := by
          rw [← hw3]
          have q := hL.set1 (R' := { R1 with next := R1.next + 1 }) 2 (.int .i64 ((R1.next : Int) + 1)) rfl rfl rfl rfl rfl rfl
          exact ⟨⟨q.1, H2.out.1.2.trans q.2⟩, H2.out.2.1.other (a := ⟨r, 2, none⟩) (fun e => HN.out (.inl e)) _, hiw⟩
        clear x0 hr1 hw1 hnx h1 h2 h3 h4 hj hz hL hS hR hI hiw
        go_upto_region 10 with fail
        refine mk10 _ r bw cw b R1.W i j _ (by have := HX.out.2.2; omega) (fun W => RAFTER w B r bw cw vq vg vq vg { R1 with next := R1.next + 1 } W ∧ Has W b (MVAL 2 (i : Int) j) 42) ⟨⟨HX.out.1.1.drew, HX.out.1.2.drew⟩, HX.out.2.1⟩ (fun W h2 => h2.1.1.row.cell 6) (fun W h2 => h2.2.cell 1) (fun W h2 => h2.2.cell 2) (fun W h2 => ⟨h2.1.1.jb i HX.out.2.2, h2.1.1.wfrozen _⟩) (fun _ _ _ _ _ h => h) ?_
        rintro w4 ⟨wy, hy, rfl⟩
        dsimp only
        have HY : Aside (RAFTER w B r bw cw vq vg vq vg { R1 with next := R1.next + 1, jb := fun k => if k = i then (j : Int) else R1.jb k } (wy.setCell ⟨bw, i * 2, none⟩ (.int .i64 (j : Int)))) := by
          have q := hy.1.1.setjb i (j : Int)
          exact ⟨q.1, hy.1.2.trans q.2⟩
        clear hy hw3 x2 z2
        go_wp2
        go_meet
        case rel => exact ⟨vq, vg, _, HY.out, HR.out⟩
    · as_aux_lemma =>
        obtain ⟨i, h1, h2, h3, h4, h5⟩ := h
        simp only [Prod.mk.injEq] at h5
        obtain ⟨rfl, rfl, hj⟩ := h5
        have HR : Aside (REL1 (DO1 s (2, (i : Int), j)) { R1 with qs := QL (s.first + 1) (s.held - 1), jb := fun k => if k = i then (j : Int) else R1.jb k } ∧ i < R1.W) := by
          have eD : DO1 s (2, (i : Int), j) = GIVES s i j := by
            show GIVES (if s.room = 0 then PUTS s else s) (i : Int).toNat j = _
            rw [if_neg h3, Int.toNat_natCast]
          refine ⟨?_, by rw [hw1]; exact h1⟩
          rw [eD, H2.out.2.2]
          exact rel_give hR h4 i j h1 h2
        have hoq := hL.oq
        have hqs : R1.qs = QL s.first s.held := by rw [H2.out.2.2]; exact hR.qs
        rw [hqs, QL_length] at hoq
        rcases hoq.2 with ⟨e, h0⟩ | ⟨bq, qc, cur, e, hbq, hg, hnc, rest⟩
        · omega
        · obtain ⟨hh, hhh⟩ : ∃ hh, s.held = hh + 1 := ⟨s.held - 1, by omega⟩
          obtain ⟨ad, hsl, had⟩ := slice_tail bq s.held qc (by omega) hnc
          have hbl : bq < w2.heap.size := (Array.getElem?_eq_some_iff.1 hg).1
          have HC : Aside (∀ jj u, (ICELLS (QL (s.first + 1) hh))[jj]? = some u → (w2.alloc (.cells #[] 3)).cell? (ad.add jj) = some u) := by
            intro jj u hu
            have hjj : jj < hh := by
              have := (List.getElem?_eq_some_iff.1 hu).1
              simp [ICELLS, QL] at this
              exact this
            rw [had (by omega), addr_add13]
            have e2 : (w2.alloc (.cells #[] 3)).cell? ⟨bq, 1 + jj, none⟩ = w2.cell? ⟨bq, 1 + jj, none⟩ := World.cell?_of_block (w := w2) (Below.heap_alloc w2 _ bq hbl)
            have hoq' := hoq
            rw [e] at hoq'
            rw [e2, hoq'.cellAt (1 + jj) (by omega), hhh, QL_tail, Nat.add_comm 1 jj]
            exact hu
          have H1 : Aside (∀ u ∈ ICELLS (QL (s.first + 1) hh), u.oneCell' = true) := fun u hu => by
            obtain ⟨_, _, rfl⟩ := List.mem_map.1 hu
            rfl
          have HE : Aside ((ICELLS (QL (s.first + 1) hh)).length = hh * 1 ∧ hh ≤ 65536) := ⟨by simp [ICELLS, QL], by have := hI.fed; have := HJ.out; omega⟩
          obtain ⟨it, hi1, hi2, hi3, hi4⟩ := info_parts info_int
          have HI : Aside (Try.prog.info? 3 = some it ∧ it.zero = some (.int .i64 0) ∧ it.size = 1 ∧ it.bytes = 8) := ⟨hi1, hi2, hi3, hi4⟩
          have x4 : w2.cell? ⟨r, 4, none⟩ = some vq := hL.row.cell 4
          have z4 := hL.row.frozen 4
          rw [e] at x4
          rw [hhh, Nat.add_sub_cancel] at hsl
          rw [hhh] at x4
          have x4a : (w2.alloc (.cells #[] 3)).cell? ⟨r, 4, none⟩ = some (.slice (some ⟨bq, 0, none⟩) (hh + 1) qc) := (World.cell?_of_block (w := w2) (Below.heap_alloc w2 _ r hL.lt.1)).trans x4
          rw [hhh, Nat.add_sub_cancel] at HR
          have hrm : ((s.room : Int) == 0) = false := by rw [beq_eq_false_iff_ne]; omega
          have hrm2 : ¬ (s.room : Int) = 0 := by omega
          generalize (s.room : Int) = RMM at *
          clear hL hS hR hI x0 hr1 hw1 hnx h1 h2 h3 h4 hj hoq hqs e hbq hg hnc rest had hbl hi1 hi2 hi3 hi4 hhh
          go_upto_region 10 with (at_builtin; refine wpList_append_own (w2.alloc (.cells #[] 3)) rfl (.tmp 51) (.tmp 56) 22 rfl w2.heap.size 3 it (.int .i64 0) 1 8 Try.underlying22 HI.out.1 HI.out.2.1 HI.out.2.2.1 HI.out.2.2.2 rfl (by decide) (.slice (some ⟨w2.heap.size, 0, none⟩) 0 0) 0 [] rfl (World.ownsRow_lit w2 #[] 0 (Nat.le_refl _) (by simp [maxLen]) rfl) ad hh (qc - 1) (ICELLS (QL (s.first + 1) hh)) rfl HE.out.1 HC.out H1.out (by have := HE.out.2; simp only [maxLen]; omega) (by have := HE.out.2; omega) (by simp) ?_; intro v' w3 q1 q2 _; have Rq : Aside (w3.ownsRow w2.heap.size 3 1 v' hh (ICELLS (QL (s.first + 1) hh)) ∧ Below w2.heap.size w2 w3) := ⟨by simpa using q1, ((Below.refl _ w2).alloc (Nat.le_refl _) _).grown q2 (by simp) (fun k e => by cases e; exact Nat.le_refl _)⟩; clear q1 q2; obtain ⟨a9, c9, hv9, _⟩ := own_slice Rq.out.1; subst hv9; have x4b : w3.cell? ⟨r, 4, none⟩ = some (.slice (some ⟨bq, 0, none⟩) (hh + 1) qc) := (Rq.out.2.cell (p := ⟨r, 4, none⟩) H2.out.1.1.lt.1).trans x4; have z4b : w3.frozen? ⟨r, 4, none⟩ = false := (Rq.out.2.frozen (p := ⟨r, 4, none⟩) H2.out.1.1.lt.1).trans z4)
          obtain ⟨v9, hv9⟩ : ∃ v9, Value.slice a9 hh c9 = v9 := ⟨_, rfl⟩
          rw [hv9] at Rq
          obtain ⟨w4, hw4⟩ : ∃ w4, w3.setCell ⟨r, 4, none⟩ v9 = w4 := ⟨_, rfl⟩
          have H4 : Aside (RAFTER w B r bw cw vq vg v9 vg { R1 with qs := QL (s.first + 1) hh } w4 ∧ Has w4 b (MVAL 2 (i : Int) j) 42) := by
            rw [← hw4]
            exact ⟨rqueue H2.out.1 _ (by rw [QL_length]; exact Rq.out.1) Rq.out.2, Has.other (H2.out.2.1.keep Rq.out.2) (a := ⟨r, 4, none⟩) (fun e => HN.out (.inl e)) _⟩
          rw [hv9, hw4]
          clear hw4 hv9 x4 x4a x4b z4 z4b hsl x1
          refine mk10 _ r bw cw b R1.W i j _ (by have := HR.out.2; omega) (fun W => RAFTER w B r bw cw vq vg v9 vg { R1 with qs := QL (s.first + 1) hh } W ∧ Has W b (MVAL 2 (i : Int) j) 42) ⟨⟨H4.out.1.1.drew, H4.out.1.2.drew⟩, H4.out.2⟩ (fun W h2 => h2.1.1.row.cell 6) (fun W h2 => h2.2.cell 1) (fun W h2 => h2.2.cell 2) (fun W h2 => ⟨h2.1.1.jb i HR.out.2, h2.1.1.wfrozen _⟩) (fun _ _ _ _ _ h => h) ?_
          rintro w5 ⟨wy, hy, rfl⟩
          dsimp only
          have HY : Aside (RAFTER w B r bw cw vq vg v9 vg { R1 with qs := QL (s.first + 1) hh, jb := fun k => if k = i then (j : Int) else R1.jb k } (wy.setCell ⟨bw, i * 2, none⟩ (.int .i64 (j : Int)))) := by
            have q := hy.1.1.setjb i (j : Int)
            exact ⟨q.1, hy.1.2.trans q.2⟩
          clear hy
          go_wp2
          go_meet
          case rel => exact ⟨v9, vg, _, HY.out, HR.out.1⟩
    · as_aux_lemma =>
        obtain ⟨h1, h2⟩ := h
        simp only [Prod.mk.injEq] at h1
        obtain ⟨rfl, rfl, rfl⟩ := h1
        have HR : Aside (REL1 (DO1 s (3, 0, 0)) { R1 with sh := true, fg := true }) := by rw [H2.out.2.2]; exact rel_shut hR
        have x5 : w2.cell? ⟨r, 5, none⟩ = some (.bool R1.sh) := hL.row.cell 5
        have z5 := hL.row.frozen 5
        have x3 : w2.cell? ⟨r, 3, none⟩ = some (.bool R1.fg) := hL.row.cell 3
        have z3 := hL.row.frozen 3
        have HX : Aside (RAFTER w B r bw cw vq vg vq vg { R1 with sh := true, fg := true } ((w2.setCell ⟨r, 5, none⟩ (.bool true)).setCell ⟨r, 3, none⟩ (.bool true))) := by
          have q := hL.set1 (R' := { R1 with sh := true }) 5 (.bool true) rfl rfl rfl rfl rfl rfl
          have q2 := q.1.set1 (R' := { R1 with sh := true, fg := true }) 3 (.bool true) rfl rfl rfl rfl rfl rfl
          exact ⟨q2.1, (H2.out.1.2.trans q.2).trans q2.2⟩
        clear hL hS hR hI x0 x1 hr1 hw1 hnx h2
        go_wp2
        go_meet
        case rel => exact ⟨vq, vg, _, HX.out, HR.out⟩
    · as_aux_lemma =>
        obtain ⟨i, h1, h2, h3, h4, h5⟩ := h
        simp only [Prod.mk.injEq] at h5
        obtain ⟨rfl, rfl, rfl⟩ := h5
        have HR : Aside (REL1 (DO1 s (4, (i : Int), 0)) { R1 with gn := fun k => if k = i then true else R1.gn k } ∧ i < R1.W) := by
          have eD : DO1 s (4, (i : Int), 0) = { s with ws := UPD s.ws i 1 } := by
            show LEAVES s (i : Int) = _
            unfold LEAVES
            rw [if_neg (by omega), if_neg (by omega), Int.toNat_natCast]
          rw [eD]
          refine ⟨?_, by rw [hw1]; exact h1⟩
          rw [H2.out.2.2]
          exact rel_left hR i
        clear hL hS hR hI x0 x1 hr1 hw1 hnx h1 h2 h3 h4
        go_upto_region 15 with fail
        refine mk15 _ r bw cw b R1.W i _ (by have := HR.out.2; omega) (fun W => RAFTER w B r bw cw vq vg vq vg R1 W ∧ Has W b (MVAL 4 (i : Int) 0) 42) ⟨⟨H2.out.1.1.drew, H2.out.1.2.drew⟩, H2.out.2.1⟩ (fun W h2 => h2.1.1.row.cell 6) (fun W h2 => h2.2.cell 1) (fun W h2 => ⟨h2.1.1.gn i HR.out.2, h2.1.1.wfrozen _⟩) (fun _ _ _ _ _ h => h) ?_
        rintro w4 ⟨wy, hy, rfl⟩
        dsimp only
        have HY : Aside (RAFTER w B r bw cw vq vg vq vg { R1 with gn := fun k => if k = i then true else R1.gn k } (wy.setCell ⟨bw, i * 2 + 1, none⟩ (.bool true))) := by
          have q := hy.1.1.setgn i
          exact ⟨q.1, hy.1.2.trans q.2⟩
        clear hy
        go_wp2
        go_meet
        case rel => exact ⟨vq, vg, _, HY.out, HR.out.1⟩
    · as_aux_lemma =>
        obtain ⟨i, h1, h2, h3, h5⟩ := h
        simp only [Prod.mk.injEq] at h5
        obtain ⟨rfl, rfl, hj⟩ := h5
        have hiw : i < R1.W := by rw [hw1]; exact h1
        have hgl : R1.got.length = s.ans.length := by rw [H2.out.2.2]; show R.got.length = _; rw [hR.got]
        have hgk : R1.got.length ≤ 100000 := by rw [hgl]; have := hS.ans; omega
        have hjj : R1.jobs = s.jobs := by rw [H2.out.2.2]; exact hR.jobs
        have HR1 : Aside (s.ans.length + 1 = s.jobs → REL1 (DO1 s (5, (i : Int), j)) { R1 with jb := (fun k => if k = i then (-1 : Int) else R1.jb k), got := R1.got ++ [j], dn := true, out := 1 }) := fun he => by rw [H2.out.2.2]; exact rel_answer1 hR i j h1 h2 he
        have HR0 : Aside (s.ans.length + 1 ≠ s.jobs → REL1 (DO1 s (5, (i : Int), j)) { R1 with jb := (fun k => if k = i then (-1 : Int) else R1.jb k), got := R1.got ++ [j] }) := fun he => by rw [H2.out.2.2]; exact rel_answer0 hR i j h1 h2 h3 he
        have HG : Aside (R1.got.length = s.ans.length ∧ R1.jobs = s.jobs ∧ s.ans.length ≤ 70000) := ⟨hgl, hjj, hS.ans⟩
        clear hL hS hR hI x0 x1 hr1 hw1 hnx h1 h2 h3 hj hgl hjj
        go_upto_region 17 with fail
        refine mk17 _ r bw cw b R1.W i _ (by omega) (fun W => RAFTER w B r bw cw vq vg vq vg R1 W ∧ Has W b (MVAL 5 (i : Int) j) 42) ⟨⟨H2.out.1.1.drew, H2.out.1.2.drew⟩, H2.out.2.1⟩ (fun W h2 => h2.1.1.row.cell 6) (fun W h2 => h2.2.cell 1) (fun W h2 => ⟨h2.1.1.jb i hiw, h2.1.1.wfrozen _⟩) (fun _ _ _ _ _ h => h) ?_
        rintro w4 ⟨wy, hy, rfl⟩
        dsimp only
        obtain ⟨w3, hw3⟩ : ∃ w3, wy.setCell ⟨bw, i * 2, none⟩ (.int .i64 (-1)) = w3 := ⟨_, rfl⟩
        obtain ⟨R3, hR3⟩ : ∃ R3 : RR, R3 = { R1 with jb := fun k => if k = i then (-1 : Int) else R1.jb k } := ⟨_, rfl⟩
        have H3 : Aside (RAFTER w B r bw cw vq vg vq vg R3 w3 ∧ Has w3 b (MVAL 5 (i : Int) j) 42 ∧ R3 = { R1 with jb := fun k => if k = i then (-1 : Int) else R1.jb k }) := by
          rw [← hw3, hR3]
          have q := hy.1.1.setjb i (-1)
          exact ⟨⟨q.1, hy.1.2.trans q.2⟩, hy.2.other (a := ⟨bw, i * 2, none⟩) (fun e => HN.out (.inr (.inl e))) _, rfl⟩
        have hgk3 : R3.got.length ≤ 100000 := by rw [hR3]; exact hgk
        rw [hw3]
        clear hy hw3 hR3 hgk hiw
        go_upto_region 18 with fail
        have hIC : ICELLS R3.got ++ [.int .i64 (j : Int)] = ICELLS (R3.got ++ [j]) := by simp [ICELLS]
        refine mk18 _ r b j R3.got.length B vg (ICELLS R3.got) hgk3 (fun W => RAFTER w B r bw cw vq vg vq vg R3 W ∧ Has W b (MVAL 5 (i : Int) j) 42) (fun g2 c2 W => W.cell? ⟨r, 8, none⟩ = some vg ∧ W.frozen? ⟨r, 8, none⟩ = false ∧ RAFTER w B r bw cw vq vg vq (.slice (some ⟨g2, 0, none⟩) (R3.got.length + 1) c2) { R3 with got := R3.got ++ [j] } (W.setCell ⟨r, 8, none⟩ (.slice (some ⟨g2, 0, none⟩) (R3.got.length + 1) c2))) ⟨⟨H3.out.1.1.drew, H3.out.1.2.drew⟩, H3.out.2.1⟩ (fun W o h2 => ⟨h2.1.below ((Below.refl _ _).alloc (Nat.le_refl _) _), h2.2.alloc _⟩) (fun W h2 => h2.1.1.row.cell 8) (fun W h2 => h2.2.cell 2) (fun W h2 => by have := h2.1.1.br; have := h2.1.1.lt.1; omega) (fun W h2 => h2.1.1.og) (fun g2 c2 W h2 => ⟨h2.1, h2.2.1⟩) (fun W W' g2 c2 h2 z1 z2 z3 => rhalf_g h2.1 g2 _ c2 j (by rw [← hIC, List.length_append]; exact z1) z2 z3) (fun _ _ _ _ _ h => h) ?_
        rintro bx g2 c2 w6 ⟨wz, hz, rfl⟩
        dsimp only
        have hgl3 : R3.got.length = s.ans.length := by rw [H3.out.2.2]; exact HG.out.1
        have hjl3 : R3.jobs = s.jobs := by rw [H3.out.2.2]; exact HG.out.2.1
        obtain ⟨v5, hv5⟩ : ∃ v5, Value.slice (some ⟨g2, 0, none⟩) (R3.got.length + 1) c2 = v5 := ⟨_, rfl⟩
        rw [hv5] at hz
        obtain ⟨w5, hw5⟩ : ∃ w5, wz.setCell ⟨r, 8, none⟩ v5 = w5 := ⟨_, rfl⟩
        rw [hw5] at hz
        have HY : Aside (RAFTER w B r bw cw vq vg vq v5 { R3 with got := R3.got ++ [j] } w5) := hz.2.2
        have x8 : w5.cell? ⟨r, 8, none⟩ = some v5 := HY.out.1.row.cell 8
        have x0 : w5.cell? ⟨r, 0, none⟩ = some (.int .i64 (R3.jobs : Int)) := HY.out.1.row.cell 0
        have x7 : w5.cell? ⟨r, 7, none⟩ = some (.bool R3.dn) := HY.out.1.row.cell 7
        have z7 := HY.out.1.row.frozen 7
        have x9 : w5.cell? ⟨r, 9, none⟩ = some (.int .i64 (R3.out : Int)) := HY.out.1.row.cell 9
        have z9 := HY.out.1.row.frozen 9
        rw [← hv5, hgl3] at x8
        rw [hjl3] at x0
        rw [hv5, hw5]
        have hnl := HG.out.2.2
        generalize hNL : s.ans.length = NL at *
        generalize hNJ : s.jobs = NJ at *
        clear hz hw5 hIC hNL hNJ hgl3 hjl3 hgk3
        by_cases hq : NL + 1 = NJ
        · have hq1 : ((NL : Int) + 1 == (NJ : Int)) = true := by simp; omega
          have hq2 : (((NL + 1 : Nat) : Int) == (NJ : Int)) = true := by simp; omega
          have HRR := HR1.out hq
          have HRA : Aside (REL1 (DO1 s (5, (i : Int), j)) { R3 with got := R3.got ++ [j], dn := true, out := 1 }) := by rw [H3.out.2.2]; exact HRR
          clear HRR HR1 HR0
          go_upto_region 19 with fail
          go_quiet (fail)
          all_goals
            go_wp2
            go_meet
            case rel =>
              have q0 : RAFTER w B r bw cw vq vg vq v5 { R3 with got := R3.got ++ [j] } (w5.drewN nq) := ⟨HY.out.1.turn (fun _ _ => rfl), HY.out.2.trans (⟨rfl, rfl, rfl, Nat.le_refl _, fun _ _ _ => rfl, fun _ h => .inl h⟩ : RSTEP r bw vq v5 vq v5 w5 (w5.drewN nq))⟩
              have q1 := q0.1.set1 (R' := { R3 with got := R3.got ++ [j], dn := true }) 7 (.bool true) rfl rfl rfl rfl rfl rfl
              have q2 := q1.1.set1 (R' := { R3 with got := R3.got ++ [j], dn := true, out := 1 }) 9 (.int .i64 1) rfl rfl rfl rfl rfl rfl
              exact ⟨vq, v5, _, ⟨q2.1, (q0.2.trans q1.2).trans q2.2⟩, HRA.out⟩
        · have hq1 : ((NL : Int) + 1 == (NJ : Int)) = false := by simp; omega
          have hq2 : (((NL + 1 : Nat) : Int) == (NJ : Int)) = false := by simp; omega
          have HRR := HR0.out hq
          have HRA : Aside (REL1 (DO1 s (5, (i : Int), j)) { R3 with got := R3.got ++ [j] }) := by rw [H3.out.2.2]; exact HRR
          clear HRR HR1 HR0
          go_upto_region 19 with fail
          go_quiet (fail)
          all_goals
            go_wp2
            go_meet
            case rel => exact ⟨vq, v5, _, ⟨HY.out.1.turn (fun _ _ => rfl), HY.out.2.trans (⟨rfl, rfl, rfl, Nat.le_refl _, fun _ _ _ => rfl, fun _ h => .inl h⟩ : RSTEP r bw vq v5 vq v5 w5 (w5.drewN nq))⟩, HRA.out⟩
    · as_aux_lemma =>
        obtain ⟨h1, h2, h5⟩ := h
        simp only [Prod.mk.injEq] at h5
        obtain ⟨rfl, rfl, rfl⟩ := h5
        have HR : Aside (REL1 (DO1 s (6, -2, 0)) { R1 with sh := true, fg := true }) := by rw [H2.out.2.2]; exact rel_shut hR
        have x5 : w2.cell? ⟨r, 5, none⟩ = some (.bool R1.sh) := hL.row.cell 5
        have z5 := hL.row.frozen 5
        have x3 : w2.cell? ⟨r, 3, none⟩ = some (.bool R1.fg) := hL.row.cell 3
        have z3 := hL.row.frozen 3
        have HX : Aside (RAFTER w B r bw cw vq vg vq vg { R1 with sh := true, fg := true } ((w2.setCell ⟨r, 5, none⟩ (.bool true)).setCell ⟨r, 3, none⟩ (.bool true))) := by
          have q := hL.set1 (R' := { R1 with sh := true }) 5 (.bool true) rfl rfl rfl rfl rfl rfl
          have q2 := q.1.set1 (R' := { R1 with sh := true, fg := true }) 3 (.bool true) rfl rfl rfl rfl rfl rfl
          exact ⟨q2.1, (H2.out.1.2.trans q.2).trans q2.2⟩
        clear hL hS hR hI x0 x1 hr1 hw1 hnx h1 h2
        go_wp2
        go_meet
        case rel => exact ⟨vq, vg, _, HX.out, HR.out⟩
    · as_aux_lemma =>
        obtain ⟨h1, h2, h5⟩ := h
        simp only [Prod.mk.injEq] at h5
        obtain ⟨rfl, rfl, rfl⟩ := h5
        have HR : Aside (REL1 (DO1 s (6, -1, 0)) { R1 with dn := true, out := 2 }) := by rw [H2.out.2.2]; exact rel_col hR (by have := hI.open_ (by have := hI.colx; omega); omega)
        have x7 : w2.cell? ⟨r, 7, none⟩ = some (.bool R1.dn) := hL.row.cell 7
        have z7 := hL.row.frozen 7
        have x9 : w2.cell? ⟨r, 9, none⟩ = some (.int .i64 (R1.out : Int)) := hL.row.cell 9
        have z9 := hL.row.frozen 9
        have HX : Aside (RAFTER w B r bw cw vq vg vq vg { R1 with dn := true, out := 2 } ((w2.setCell ⟨r, 7, none⟩ (.bool true)).setCell ⟨r, 9, none⟩ (.int .i64 2))) := by
          have q := hL.set1 (R' := { R1 with dn := true }) 7 (.bool true) rfl rfl rfl rfl rfl rfl
          have q2 := q.1.set1 (R' := { R1 with dn := true, out := 2 }) 9 (.int .i64 2) rfl rfl rfl rfl rfl rfl
          exact ⟨q2.1, (H2.out.1.2.trans q.2).trans q2.2⟩
        clear hL hS hR hI x0 x1 hr1 hw1 hnx h1 h2
        go_wp2
        go_meet
        case rel => exact ⟨vq, vg, _, HX.out, HR.out⟩
    · as_aux_lemma =>
        obtain ⟨i, h1, h2, h3, h5⟩ := h
        simp only [Prod.mk.injEq] at h5
        obtain ⟨rfl, rfl, rfl⟩ := h5
        have HR : Aside (REL1 (DO1 s (6, (i : Int), 0)) { R1 with gn := fun k => if k = i then true else R1.gn k } ∧ i < R1.W) := by
          have eD : DO1 s (6, (i : Int), 0) = { s with ws := UPD s.ws i 1 } := by
            show LEAVES s (i : Int) = _
            unfold LEAVES
            rw [if_neg (by omega), if_neg (by omega), Int.toNat_natCast]
          rw [eD]
          refine ⟨?_, by rw [hw1]; exact h1⟩
          rw [H2.out.2.2]
          exact rel_left hR i
        have n1 : ¬ (i : Int) = -2 := by omega
        have n2 : ((i : Int) == -2) = false := by rw [beq_eq_false_iff_ne]; omega
        have n3 : ¬ (i : Int) = -1 := by omega
        have n4 : ((i : Int) == -1) = false := by rw [beq_eq_false_iff_ne]; omega
        clear hL hS hR hI x0 x1 hr1 hw1 hnx h1 h2 h3
        go_upto_region 29 with fail
        refine mk29 _ r bw cw b R1.W i _ (by have := HR.out.2; omega) (fun W => RAFTER w B r bw cw vq vg vq vg R1 W ∧ Has W b (MVAL 6 (i : Int) 0) 42) ⟨⟨H2.out.1.1.drew, H2.out.1.2.drew⟩, H2.out.2.1⟩ (fun W h2 => h2.1.1.row.cell 6) (fun W h2 => h2.2.cell 1) (fun W h2 => ⟨h2.1.1.gn i HR.out.2, h2.1.1.wfrozen _⟩) (fun _ _ _ _ _ h => h) ?_
        rintro w4 ⟨wy, hy, rfl⟩
        dsimp only
        have HY : Aside (RAFTER w B r bw cw vq vg vq vg { R1 with gn := fun k => if k = i then true else R1.gn k } (wy.setCell ⟨bw, i * 2 + 1, none⟩ (.bool true))) := by
          have q := hy.1.1.setgn i
          exact ⟨q.1, hy.1.2.trans q.2⟩
        clear hy
        go_wp2
        go_meet
        case rel => exact ⟨vq, vg, _, HY.out, HR.out.1⟩
  case rest =>
    obtain ⟨vq', vg', R2, h1, h2⟩ := hcut.out
    have hW2 : R2.W ≤ 64 := by
      have e : (DO1 s (k, x, j)).W = s.W := by
        have := (do_same s (k, x, j)).1
        exact this
      rw [h2.W]
      show (DO1 s (k, x, j)).W ≤ 64
      rw [e]
      exact HA.out.2.2.2.1.w
    obtain ⟨t, ht⟩ : ∃ t, DO1 s (k, x, j) = t := ⟨_, rfl⟩
    have hD : DO s (k, x, j) = COUNTED t := by rw [← ht]; rfl
    rw [ht] at h2
    have hG : CNT (fun i => decide (0 ≤ R2.jb i) && !R2.gn i) R2.W = GAUGE t := rgauge_eq (s := { t with made := t.made + 1 }) h2
    have HX : Aside (RAFTER w B r bw cw vq vg vq' vg' R2 wc ∧ REL1 t R2 ∧ DO s (k, x, j) = COUNTED t ∧ R2.W ≤ 64 ∧ CNT (fun i => decide (0 ≤ R2.jb i) && !R2.gn i) R2.W = GAUGE t) := ⟨h1, h2, hD, hW2, hG⟩
    have cg : ∀ w', RAFTER w B r bw cw vq vg vq' vg' R2 w' → Calls Try.prog 26 #[.pointer (some ⟨r, 0, none⟩)] w' fun e w'' => e = .returned (.int .i64 (GAUGE t : Int)) ∧ RAFTER w B r bw cw vq vg vq' vg' R2 w'' := fun w' hw' => by
      have := rgauge_ok hw'.1 hW2
      rw [hG] at this
      refine this.mono ?_
      rintro e w'' ⟨rfl, rfl⟩
      exact ⟨rfl, hw'⟩
    have HCG : Aside (∀ w', RAFTER w B r bw cw vq vg vq' vg' R2 w' → Calls Try.prog 26 #[.pointer (some ⟨r, 0, none⟩)] w' fun e w'' => e = .returned (.int .i64 (GAUGE t : Int)) ∧ RAFTER w B r bw cw vq vg vq' vg' R2 w'') := cg
    clear hcut h1 h2 ht hD hW2 hG cg y0 y1
    go_upto_region 30 with fail
    refine mk30 _ r R2.top (GAUGE t) (fun W => RAFTER w B r bw cw vq vg vq' vg' R2 W) ⟨HX.out.1.1.drew, HX.out.1.2.drew⟩ (fun W h2 => h2.1.row.cell 12) HCG.out (fun _ _ _ _ _ h => h) ?_
    intro w5 h5
    dsimp only
    have H5 : Aside (RAFTER w B r bw cw vq vg vq' vg' R2 w5) := h5
    clear h5
    have htop : R2.top = t.top := HX.out.2.1.top
    by_cases hlt : R2.top < GAUGE t
    · rw [decide_eq_true hlt]
      have HF : Aside (REL (DO s (k, x, j)) { R2 with top := GAUGE t }) := by
        rw [HX.out.2.2.1]
        have q := HX.out.2.1
        exact ⟨q.jobs, q.room, q.next, q.fg, q.qs, q.sh, q.W, q.ws, q.dn, q.got, q.out, q.canc, q.count, by show GAUGE t = max t.top (GAUGE t); omega⟩
      clear hlt htop
      go_wp2_with fail
      refine (HCG.out w5 H5.out).mono ?_
      rintro e w6 ⟨rfl, h6⟩
      have H6 : Aside (RAFTER w B r bw cw vq vg vq' vg' R2 w6) := h6
      have x12 : w6.cell? ⟨r, 12, none⟩ = some (.int .i64 (R2.top : Int)) := H6.out.1.row.cell 12
      have z12 := H6.out.1.row.frozen 12
      clear h6
      go_wp2
      refine bodyPost_end (v := .tuple #[]) (by simp [results, Try.f21]) rfl ⟨rfl, ?_⟩
      have q := H6.out.1.set1 (R' := { R2 with top := GAUGE t }) 12 (.int .i64 (GAUGE t : Int)) rfl rfl rfl rfl rfl rfl
      exact ⟨vq', vg', _, ⟨q.1, H6.out.2.trans q.2⟩, HF.out⟩
    · rw [decide_eq_false hlt]
      have HF : Aside (REL (DO s (k, x, j)) R2) := by
        rw [HX.out.2.2.1]
        have q := HX.out.2.1
        exact ⟨q.jobs, q.room, q.next, q.fg, q.qs, q.sh, q.W, q.ws, q.dn, q.got, q.out, q.canc, q.count, by show R2.top = max t.top (GAUGE t); omega⟩
      clear hlt htop
      go_wp2
      refine bodyPost_end (v := .tuple #[]) (by simp [results, Try.f21]) rfl ⟨rfl, ?_⟩
      exact ⟨vq', vg', _, H5.out, HF.out⟩
end Go.Proofs.Ytmgocdjmjnkbmaa
