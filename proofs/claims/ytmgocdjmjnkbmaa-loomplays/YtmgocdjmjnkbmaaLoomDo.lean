/- What a move makes: do. -/
import Derived.Test.YtmgocdjmjnkbmaaLoomGive
namespace Go.Proofs.Ytmgocdjmjnkbmaa
open Go.RowKit
set_option maxRecDepth 100000

/-- a loom whose numbers are small. -/
structure SMALL (s : LM) : Prop where
  w : s.W ≤ 64
  fd : s.fd < 2 ^ 39
  held : s.held < 2 ^ 39
  first : s.first < 2 ^ 39
  made : s.made < 2 ^ 39
  top : s.top < 2 ^ 39
  ans : s.ans.length ≤ 70000
theorem LOOM.counted {w : World} {B g gw : Nat} {va : Value} {s : LM} (h : LOOM w B g gw va s) (n : Nat) : LOOM (w.setCell ⟨g, 10, none⟩ (.int .i64 (n : Int))) B g gw va { s with made := n } := h.store (h.row.set 10 _) (fun k hk => Below.heap_setCell w _ _ k hk) rfl rfl rfl
theorem LOOM.topped {w : World} {B g gw : Nat} {va : Value} {s : LM} (h : LOOM w B g gw va s) (n : Nat) : LOOM (w.setCell ⟨g, 11, none⟩ (.int .i64 (n : Int))) B g gw va { s with top := n } := h.store (h.row.set 11 _) (fun k hk => Below.heap_setCell w _ _ k hk) rfl rfl rfl
set_option maxHeartbeats 2000000 in
theorem do_ok {w : World} {B g gw : Nat} {va : Value} {s : LM} (h : LOOM w B g gw va s) (hs : SMALL s) (m : MV) (hm : m ∈ MVS s) : Calls Try.prog 19 #[.pointer (some ⟨g, 0, none⟩), .agg (MVAL m.1 m.2.1 m.2.2)] w fun e w' => e = .returned (.tuple #[]) ∧ ∃ va', AFTER w B g gw va va' (DO s m) w' := by
  obtain ⟨k, x, j⟩ := m
  have HA : Aside (LOOM w B g gw va s ∧ SMALL s ∧ (k, x, j) ∈ MVS s) := ⟨h, hs, hm⟩
  clear h hs hm
  obtain ⟨w1, hw1⟩ : ∃ w1, w.alloc (.cells #[.int .i64 (k : Int), .int .i64 x, .int .i64 (j : Int)] 42) = w1 := ⟨_, rfl⟩
  have HB : Aside (AFTER w B g gw va va s w1 ∧ Has w1 w.heap.size (MVAL k x j) 42) := by
    rw [← hw1]
    exact ⟨⟨HA.out.1.below ((Below.refl _ _).alloc (Nat.le_refl _) _), STEP.below ((Below.refl _ _).alloc (Nat.le_refl _) _)⟩, Has.new _ _ _⟩
  show Calls Try.prog 19 #[.pointer (some ⟨g, 0, none⟩), .agg #[.int .i64 (k : Int), .int .i64 x, .int .i64 (j : Int)]] w _
  obtain ⟨b, hb⟩ : ∃ b, w.heap.size = b := ⟨_, rfl⟩
  rw [hb] at HB
  have y0 : w1.cell? ⟨b, 0, none⟩ = some (.int .i64 (k : Int)) := HB.out.2.cell 0
  have y1 : w1.cell? ⟨b, 1, none⟩ = some (.int .i64 x) := HB.out.2.cell 1
  have y2 : w1.cell? ⟨b, 2, none⟩ = some (.int .i64 (j : Int)) := HB.out.2.cell 2
  go_enter Try.func19, Try.ntmps19
  have HN : Aside (w.heap.size = b) := hb
  have HP : Aside (¬ FOOT g gw va b) := fun hk => by have := (HA.out.1.foot hk).2; omega
  go_upto_block 0 with fail
  clear hw1 hb
  go_cut [] from 4 to 52 (fun W => ∃ v2, Aside (AFTER w B g gw va v2 (DO1 s (k, x, j)) W))
  case first =>
    have hL := HB.out.1.1
    have hS := HA.out.2.1
    rcases mem_MVS HA.out.2.2 with h | h | h | h | h | h | h | h | h
    · obtain ⟨h1, h2, h3⟩ := h
      cases h1
      have cp := put_ok hL h2 (by have := hS.fd; omega) (by have := hS.held; omega)
      have HD : Aside (DO1 s (1, 0, s.fd - 2) = PUTS s) := rfl
      clear h2 h3 hS hL
      go_wp2_with fail
      refine cp.mono ?_
      rintro e w2 ⟨rfl, q1, q2⟩
      clear cp
      have R : Aside (AFTER w B g gw va va (PUTS s) w2) := ⟨q1, HB.out.1.2.trans q2⟩
      clear q1 q2
      go_wp2
      go_meet
      case rel => exact ⟨va, by rw [HD.out]; exact R⟩
    · obtain ⟨i, h1, h2, h3, h4, h5⟩ := h
      cases h5
      have cp := give_ok hL i (s.fd - 2) h1 (fun _ => h4) (fun e => absurd h3 e) hS.fd hS.held hS.first
      have HD : Aside (DO1 s (2, (i : Int), s.fd - 2) = GIVES (if s.room = 0 then PUTS s else s) i (s.fd - 2)) := rfl
      have hmv : MVAL 2 (i : Int) (s.fd - 2) = #[.int .i64 2, .int .i64 (i : Int), .int .i64 ((s.fd - 2 : Nat) : Int)] := rfl
      rw [hmv] at cp
      clear h1 h2 h3 h4 hS hL hmv
      generalize s.fd - 2 = jj at *
      go_wp2_with fail
      refine cp.mono ?_
      rintro e w2 ⟨rfl, q1, q2⟩
      clear cp
      have R : Aside (AFTER w B g gw va va (GIVES (if s.room = 0 then PUTS s else s) i jj) w2) := ⟨q1, HB.out.1.2.trans q2⟩
      clear q1 q2
      go_wp2
      go_meet
      case rel => exact ⟨va, by rw [HD.out]; exact R⟩
    · obtain ⟨i, h1, h2, h3, h4, h5⟩ := h
      cases h5
      have cp := give_ok hL i s.first h1 (fun e => absurd e h3) (fun _ => h4) hS.fd hS.held hS.first
      have HD : Aside (DO1 s (2, (i : Int), s.first) = GIVES (if s.room = 0 then PUTS s else s) i s.first) := rfl
      have hmv : MVAL 2 (i : Int) s.first = #[.int .i64 2, .int .i64 (i : Int), .int .i64 (s.first : Int)] := rfl
      rw [hmv] at cp
      clear h1 h2 h3 h4 hS hL hmv
      generalize s.first = jj at *
      go_wp2_with fail
      refine cp.mono ?_
      rintro e w2 ⟨rfl, q1, q2⟩
      clear cp
      have R : Aside (AFTER w B g gw va va (GIVES (if s.room = 0 then PUTS s else s) i jj) w2) := ⟨q1, HB.out.1.2.trans q2⟩
      clear q1 q2
      go_wp2
      go_meet
      case rel => exact ⟨va, by rw [HD.out]; exact R⟩
    · obtain ⟨h1, h2⟩ := h
      cases h1
      have HD : Aside (DO1 s (3, 0, 0) = { s with fd := 1 }) := rfl
      have x3 := hL.c3
      have x4 := hL.c4
      have z3 := hL.row.frozen 3
      have z4 := hL.row.frozen 4
      have R : Aside (AFTER w B g gw va va { s with fd := 1 } ((w1.setCell ⟨g, 3, none⟩ (.int .i64 2)).setCell ⟨g, 4, none⟩ (.int .i64 0))) := ⟨hL.setfd 1, HB.out.1.2.trans (STEP.two (.inl rfl) _ _)⟩
      clear h2 hS hL
      go_wp2
      go_meet
      case rel => exact ⟨va, by rw [HD.out]; exact R⟩
    · obtain ⟨i, h1, h2, h3, h4, h5⟩ := h
      cases h5
      have HD : Aside (DO1 s (4, (i : Int), 0) = { s with ws := UPD s.ws i 1 }) := by
        show LEAVES s (i : Int) = _
        unfold LEAVES
        rw [if_neg (by omega), if_neg (by omega), Int.toNat_natCast]
      have cw := who_ok hL (i : Int) (by omega) (by omega)
      have hwa : WHA g gw (i : Int) = ⟨gw, i * 2, none⟩ := by unfold WHA; rw [if_neg (by omega), if_neg (by omega), Int.toNat_natCast]
      rw [hwa] at cw
      have x3 := hL.at_ i h1
      have x4 := hL.jb i h1
      have z3 := hL.wfrozen (i * 2)
      have z4 := hL.wfrozen (i * 2 + 1)
      have R : Aside (AFTER w B g gw va va { s with ws := UPD s.ws i 1 } ((w1.setCell ⟨gw, i * 2, none⟩ (.int .i64 2)).setCell ⟨gw, i * 2 + 1, none⟩ (.int .i64 0))) := ⟨hL.setws i 1, HB.out.1.2.trans (STEP.two (.inr (.inl rfl)) _ _)⟩
      clear h1 h2 h3 h4 hS hL hwa
      go_wp2_with fail
      refine cw.mono ?_
      rintro e w2 ⟨rfl, rfl⟩
      clear cw
      go_wp2
      go_meet
      case rel => exact ⟨va, by rw [HD.out]; exact R⟩
    · obtain ⟨i, h1, h2, h3, h5⟩ := h
      cases h5
      have cp := answer_ok hL i (s.ws i - 2) h1 hS.ans
      have HD : Aside (DO1 s (5, (i : Int), s.ws i - 2) = ANSWERS s i (s.ws i - 2)) := rfl
      have hmv : MVAL 5 (i : Int) (s.ws i - 2) = #[.int .i64 5, .int .i64 (i : Int), .int .i64 ((s.ws i - 2 : Nat) : Int)] := rfl
      rw [hmv] at cp
      clear h1 h2 h3 hS hL hmv
      generalize s.ws i - 2 = jj at *
      go_wp2_with fail
      refine cp.mono ?_
      rintro e w2 ⟨rfl, v2, q1, q2⟩
      clear cp
      have R : Aside (AFTER w B g gw va v2 (ANSWERS s i jj) w2) := ⟨q1, HB.out.1.2.trans q2⟩
      clear q1 q2
      go_wp2
      go_meet
      case rel => exact ⟨v2, by rw [HD.out]; exact R⟩
    · obtain ⟨h1, h2, h5⟩ := h
      cases h5
      have HD : Aside (DO1 s (6, -2, 0) = { s with fd := 1 }) := rfl
      have cw := who_ok hL (-2) (by omega) (by omega)
      have hwa : WHA g gw (-2) = ⟨g, 3, none⟩ := rfl
      rw [hwa] at cw
      have x3 := hL.c3
      have x4 := hL.c4
      have z3 := hL.row.frozen 3
      have z4 := hL.row.frozen 4
      have R : Aside (AFTER w B g gw va va { s with fd := 1 } ((w1.setCell ⟨g, 3, none⟩ (.int .i64 2)).setCell ⟨g, 4, none⟩ (.int .i64 0))) := ⟨hL.setfd 1, HB.out.1.2.trans (STEP.two (.inl rfl) _ _)⟩
      clear h1 h2 hS hL hwa
      go_wp2_with fail
      refine cw.mono ?_
      rintro e w2 ⟨rfl, rfl⟩
      clear cw
      go_wp2
      go_meet
      case rel => exact ⟨va, by rw [HD.out]; exact R⟩
    · obtain ⟨h1, h2, h5⟩ := h
      cases h5
      have HD : Aside (DO1 s (6, -1, 0) = { s with col := 1 }) := rfl
      have cw := who_ok hL (-1) (by omega) (by omega)
      have hwa : WHA g gw (-1) = ⟨g, 6, none⟩ := rfl
      rw [hwa] at cw
      have x3 := hL.c6
      have x4 := hL.c7
      have z3 := hL.row.frozen 6
      have z4 := hL.row.frozen 7
      have R : Aside (AFTER w B g gw va va { s with col := 1 } ((w1.setCell ⟨g, 6, none⟩ (.int .i64 2)).setCell ⟨g, 7, none⟩ (.int .i64 0))) := ⟨hL.setcol 1, HB.out.1.2.trans (STEP.two (.inl rfl) _ _)⟩
      clear h1 h2 hS hL hwa
      go_wp2_with fail
      refine cw.mono ?_
      rintro e w2 ⟨rfl, rfl⟩
      clear cw
      go_wp2
      go_meet
      case rel => exact ⟨va, by rw [HD.out]; exact R⟩
    · obtain ⟨i, h1, h2, h3, h5⟩ := h
      cases h5
      have HD : Aside (DO1 s (6, (i : Int), 0) = { s with ws := UPD s.ws i 1 }) := by
        show LEAVES s (i : Int) = _
        unfold LEAVES
        rw [if_neg (by omega), if_neg (by omega), Int.toNat_natCast]
      have cw := who_ok hL (i : Int) (by omega) (by omega)
      have hwa : WHA g gw (i : Int) = ⟨gw, i * 2, none⟩ := by unfold WHA; rw [if_neg (by omega), if_neg (by omega), Int.toNat_natCast]
      rw [hwa] at cw
      have x3 := hL.at_ i h1
      have x4 := hL.jb i h1
      have z3 := hL.wfrozen (i * 2)
      have z4 := hL.wfrozen (i * 2 + 1)
      have R : Aside (AFTER w B g gw va va { s with ws := UPD s.ws i 1 } ((w1.setCell ⟨gw, i * 2, none⟩ (.int .i64 2)).setCell ⟨gw, i * 2 + 1, none⟩ (.int .i64 0))) := ⟨hL.setws i 1, HB.out.1.2.trans (STEP.two (.inr (.inl rfl)) _ _)⟩
      clear h1 h2 h3 hS hL hwa
      go_wp2_with fail
      refine cw.mono ?_
      rintro e w2 ⟨rfl, rfl⟩
      clear cw
      go_wp2
      go_meet
      case rel => exact ⟨va, by rw [HD.out]; exact R⟩
  case rest =>
    obtain ⟨v2, R⟩ := hcut
    have HM : Aside ((DO1 s (k, x, j)).made = s.made ∧ (DO1 s (k, x, j)).top = s.top ∧ (DO1 s (k, x, j)).W = s.W) := by
      unfold DO1 LEAVES GIVES
      dsimp only
      repeat' split
      all_goals exact ⟨rfl, rfl, rfl⟩
    have HE : Aside (DO s (k, x, j) = COUNTED (DO1 s (k, x, j))) := rfl
    obtain ⟨t, ht⟩ : ∃ t, DO1 s (k, x, j) = t := ⟨_, rfl⟩
    rw [ht] at R HM HE
    clear ht y0 y1 y2
    have x10 := R.out.1.c10
    have z10 := R.out.1.row.frozen 10
    have hmd : t.made < 2 ^ 39 := by rw [HM.out.1]; exact HA.out.2.1.made
    have H10 : Aside (AFTER w B g gw va v2 { t with made := t.made + 1 } (wc.setCell ⟨g, 10, none⟩ (.int .i64 ((t.made : Int) + 1)))) := ⟨R.out.1.counted (t.made + 1), R.out.2.trans (STEP.set (a := ⟨g, 10, none⟩) (.inl rfl) _)⟩
    go_upto_region 14 with fail
    obtain ⟨w5, hw5⟩ : ∃ w5, wc.setCell ⟨g, 10, none⟩ (.int .i64 ((t.made : Int) + 1)) = w5 := ⟨_, rfl⟩
    rw [hw5] at H10 ⊢
    obtain ⟨s2, hs2⟩ : ∃ s2 : LM, s2 = { t with made := t.made + 1 } := ⟨_, rfl⟩
    rw [← hs2] at H10
    have h2W : s2.W ≤ 64 := by rw [hs2]; show t.W ≤ 64; rw [HM.out.2.2]; exact HA.out.2.1.w
    refine do14 _ g s2.top (GAUGE s2) (max s2.top (GAUGE s2)) (by rw [Nat.max_def]; split <;> split <;> omega) (fun w2 => AFTER w B g gw va v2 s2 w2) ⟨H10.out.1.drew, H10.out.2.drew⟩ (fun w2 h2 => ⟨h2.1.c11, h2.1.row.frozen 11⟩) (fun w2 h2 => (gauge_ok h2.1 h2W).mono fun e w3 (h3 : _ ∧ _) => (⟨h3.1, h2.below h3.2⟩ : e = _ ∧ AFTER w B g gw va v2 s2 w3)) (fun _ _ _ _ _ h => h) ?_
    rintro w2 ⟨wx, hx, rfl⟩
    refine bodyPost_end (v := .tuple #[]) (by simp [results, Try.f19]) rfl ⟨rfl, v2, ?_⟩
    have hfin : DO s (k, x, j) = { s2 with top := max s2.top (GAUGE s2) } := by rw [HE.out, hs2]; rfl
    rw [hfin]
    exact ⟨hx.1.topped _, hx.2.trans (STEP.set (a := ⟨g, 11, none⟩) (.inl rfl) _)⟩
end Go.Proofs.Ytmgocdjmjnkbmaa
