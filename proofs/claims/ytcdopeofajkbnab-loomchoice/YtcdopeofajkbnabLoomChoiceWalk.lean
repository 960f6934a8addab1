/- The walk of the law LoomChoice. -/
import Derived.Test.YtcdopeofajkbnabLoomHold
import Derived.Test.YtcdopeofajkbnabLoomChoicePlain
namespace Go.Proofs.Ytcdopeofajkbnab
open Go.RowKit
set_option maxRecDepth 100000

theorem choice_out (a b c : Int) (h : ¬ (1 ≤ a ∧ a ≤ 64 ∧ 0 ≤ b ∧ b ≤ 400 ∧ 0 ≤ c ∧ c ≤ 65536)) (w : World) : Calls Try.prog 3 #[.int .i64 a, .int .i64 b, .int .i64 c] w fun e w' => e = .returned (.bool true) ∧ Below w.heap.size w w' := by
  have cs := sane_no a b c h w
  clear h
  go_enter Try.func3, Try.ntmps3
  go_wp2_with fail
  refine cs.mono ?_
  rintro e w1 ⟨rfl, rfl⟩
  clear cs
  go_wp2
  go_ret
  exact ⟨rfl, Below.refl _ _⟩
theorem choice_none (a c : Int) (h1 : 1 ≤ a) (h2 : a ≤ 64) (h5 : 0 ≤ c) (h6 : c ≤ 65536) (w : World) : Calls Try.prog 3 #[.int .i64 a, .int .i64 0, .int .i64 c] w fun e w' => e = .returned (.bool true) ∧ Below w.heap.size w w' := by
  have cs := sane_yes a 0 c h1 h2 (by omega) (by omega) h5 h6 w
  clear h1 h2 h5 h6
  go_enter Try.func3, Try.ntmps3
  go_wp2_with fail
  refine cs.mono ?_
  rintro e w1 ⟨rfl, rfl⟩
  clear cs
  go_wp2
  go_ret
  exact ⟨rfl, Below.refl _ _⟩
/-- the run of this law, behind t moves. -/
structure RUNC (w0 : World) (g n jobs room t : Nat) (q : Bool) (s : LM) (w : World) : Prop where
  hold : HOLD w0 g s w
  W : s.W = n
  jobs : s.jobs = jobs
  room : s.room = room
  made : s.made = t
  ch : CH q s
theorem RUNC.set {w0 w w' : World} {g n jobs room t : Nat} {q : Bool} {s : LM} (h : RUNC w0 g n jobs room t q s w) (hh : HOLD w0 g s w') : RUNC w0 g n jobs room t q s w' := ⟨hh, h.W, h.jobs, h.room, h.made, h.ch⟩
theorem RUNC.out0 {w0 w : World} {g n jobs room t : Nat} {q : Bool} {s : LM} (_ : RUNC w0 g n jobs room t q s w) (h0 : s.col = 0) : OUTC s = 0 := if_neg (by omega)
theorem RUNC.out1 {w0 w : World} {g n jobs room t : Nat} {q : Bool} {s : LM} (h : RUNC w0 g n jobs room t q s w) (h1 : s.col = 1) : OUTC s = if q then 2 else 1 := by
  rcases h.ch.how with ⟨e, _⟩ | ⟨_, h2, h3⟩
  · omega
  · unfold OUTC
    rw [if_pos h1]
    cases q with
    | false => rw [if_pos (h2 rfl)]; rfl
    | true => rw [if_neg (h3 rfl)]; rfl
theorem RUNC.col {w0 w : World} {g n jobs room t : Nat} {q : Bool} {s : LM} (h : RUNC w0 g n jobs room t q s w) : s.col = 0 ∨ s.col = 1 := by
  have := h.hold.inv.colx
  omega
theorem MLIE.on {w w' : World} {a : Option Addr} {l : List MV} (h : MLIE w a l) (hb : Below w.heap.size w w') : MLIE w' a l := fun i m hm => by
  obtain ⟨b, rfl, h1, h2, h3, h4⟩ := h i m hm
  exact ⟨b, rfl, (hb.cell (p := ⟨b, i * 3, none⟩) h4).trans h1, (hb.cell (p := ⟨b, i * 3 + 1, none⟩) h4).trans h2, (hb.cell (p := ⟨b, i * 3 + 2, none⟩) h4).trans h3, Nat.lt_of_lt_of_le h4 hb.size⟩
theorem h_outcome2 {w0 w : World} {g : Nat} {s : LM} (h : HOLD w0 g s w) : Calls Try.prog 9 #[.pointer (some ⟨g, 0, none⟩)] w fun e w' => e = .returned (.int .i64 (OUTC s : Int)) ∧ HOLD w0 g s w' ∧ Below w.heap.size w w' := by
  obtain ⟨gw, va, hl⟩ := h.loom
  refine (outcome_ok hl).mono ?_
  rintro e w' ⟨rfl, hb⟩
  exact ⟨rfl, h.on hb, hb⟩
set_option maxHeartbeats 8000000 in
theorem choice_in (n jobs room : Nat) (h1 : 1 ≤ n) (h2 : n ≤ 64) (h3 : jobs ≤ 400) (h0 : 0 < jobs) (h4 : room ≤ 65536) (w : World) : Calls Try.prog 3 #[.int .i64 (n : Int), .int .i64 (jobs : Int), .int .i64 (room : Int)] w fun e w' => e = .returned (.bool true) ∧ Below w.heap.size w w' := by
  have cs := sane_yes (n : Int) (jobs : Int) (room : Int) (by omega) (by omega) (by omega) (by omega) (by omega) (by omega) w
  have HN : Aside (∀ w, Calls Try.prog 5 #[.int .i64 (n : Int), .int .i64 (jobs : Int), .int .i64 (room : Int)] w fun e w' => ∃ g, e = .returned (.tuple #[.pointer (some ⟨g, 0, none⟩), .int .i64 0]) ∧ HOLD w g (NEWL n jobs room) w') := h_new n jobs room h1 h2 (by omega) h4
  obtain ⟨BD, hBD⟩ : ∃ BD, MOST n jobs room = BD := ⟨_, rfl⟩
  have HMO : Aside (∀ w, Calls Try.prog 7 #[.int .i64 (n : Int), .int .i64 (jobs : Int), .int .i64 (room : Int)] w fun e w' => e = .returned (.int .i64 (BD : Int)) ∧ w = w') := by rw [← hBD]; exact most_ok n jobs room h1 h2 (by omega) h4
  have HBD : Aside (MOST n jobs room = BD ∧ BD ≤ 1265) := ⟨hBD, by rw [← hBD]; unfold MOST; split <;> omega⟩
  have HK : Aside (1 ≤ n ∧ n ≤ 64 ∧ 0 < jobs) := ⟨h1, h2, h0⟩
  have hj0 : ((jobs : Int) == 0) = false := by simp; omega
  have hj1 : ¬ (jobs : Int) = 0 := by omega
  clear h1 h2 h3 h4 h0 hBD
  go_enter Try.func3, Try.ntmps3
  go_wp2_with fail
  refine cs.mono ?_
  rintro e w1 ⟨rfl, rfl⟩
  clear cs
  go_upto_block 0 with fail
  clear hj0 hj1
  obtain ⟨bq, hbq⟩ : ∃ bq, w.heap.size = bq := ⟨_, rfl⟩
  obtain ⟨w2, hw2⟩ : ∃ w2, w.alloc (.cells #[.bool false, .bool true] 4) = w2 := ⟨_, rfl⟩
  have H2 : Aside (Below w.heap.size w w2 ∧ Has w2 bq #[.bool false, .bool true] 4) := by
    rw [← hw2, ← hbq]
    exact ⟨(Below.refl _ _).alloc (Nat.le_refl _) _, Has.new _ _ _⟩
  rw [hbq, hw2]
  have HBQ : Aside (w.heap.size = bq) := hbq
  clear hbq hw2
  go_cut [] from 16 to 123 (fun W => Aside (Below w.heap.size w W))
  case first =>
    go_wp2_with fail
    go_loopg [27] 2 (fun k s27 wx => ∃ i : Nat, i + k = 2 ∧ s27 = .int .i64 (i : Int) ∧ Aside (Below w.heap.size w wx ∧ Has wx bq #[.bool false, .bool true] 4))
    case atStart => exact ⟨0, by omega, rfl, H2.out⟩
    case round =>
      obtain ⟨i, hi, rfl, A⟩ := hrel
      cases gk with
      | zero =>
        obtain rfl : i = 2 := by omega
        have R : Aside (Below w.heap.size w wr) := A.out.1
        clear A hi
        go_wp2
        go_meet
        case rel => exact R
      | succ gk =>
        have hi2 : (i : Int) < 2 := by omega
        obtain ⟨q, hq⟩ : ∃ q : Bool, wr.cell? ⟨bq, i, none⟩ = some (.bool q) := by
          rcases (by omega : i = 0 ∨ i = 1) with rfl | rfl
          · exact ⟨false, A.out.2.cell 0⟩
          · exact ⟨true, A.out.2.cell 1⟩
        have HA : Aside (Below w.heap.size w wr ∧ Has wr bq #[.bool false, .bool true] 4 ∧ i + (gk + 1) = 2) := ⟨A.out.1, A.out.2, hi⟩
        have hib : i ≤ 2 := by omega
        clear A hi H2
        go_wp2_with fail
        refine (HN.out wr).mono ?_
        rintro e w3 ⟨g, rfl, h3⟩
        clear hq
        have cc := h_cancel h3 rfl
        clear h3
        go_wp2_with fail
        refine cc.mono ?_
        rintro e w4 ⟨rfl, h4⟩
        clear cc
        have cd := h_cancel_not h4 rfl
        clear h4
        go_wp2_with fail
        refine cd.mono ?_
        rintro e w5 ⟨rfl, h5⟩
        clear cd
        have H5 : Aside (RUNC wr g n jobs room 0 q (CANC (NEWL n jobs room)) w5) := ⟨h5, rfl, rfl, rfl, rfl, ch_new q n jobs room HK.out.2.2⟩
        clear h5
        generalize wr = wo at *
        go_upto_block 2 with fail
        go_cut [27] from 27 to 121 (fun s27 W => s27 = .int .i64 (i : Int) ∧ Aside (∃ t s, RUNC wo g n jobs room t q s W ∧ MVS s = []))
        case first =>
          go_wp2_with fail
          go_loopg [11] (BD + 1) (fun k s11 wx => ∃ t : Nat, s11 = .int .i64 (t : Int) ∧ Aside (t + k = BD + 1 ∧ ∃ s, RUNC wo g n jobs room t q s wx))
          case atStart => exact ⟨0, rfl, by omega, _, H5.out⟩
          case round =>
            obtain ⟨t, rfl, A⟩ := hrel
            obtain ⟨a1, s, a2⟩ := A.out
            have hmost := made_most a2.hold.inv
            rw [a2.made, a2.W, a2.jobs, a2.room] at hmost
            have HB : Aside (t + gk = BD + 1 ∧ t ≤ BD ∧ RUNC wo g n jobs room t q s wr) := ⟨a1, by rw [← HBD.out.1]; exact hmost, a2⟩
            have htb : (t : Int) ≤ (BD : Int) := by have := HB.out.2.1; omega
            clear a1 a2 A H5 hmost
            go_wp2_with fail
            refine (HMO.out wr).mono ?_
            rintro e w6 ⟨rfl, rfl⟩
            have cm := h_moves HB.out.2.2.hold
            go_wp2_with fail
            refine cm.mono ?_
            rintro e w6 ⟨a, c, rfl, hml, h6⟩
            clear cm
            have H6 : Aside (MLIE w6 a (MVS s) ∧ RUNC wo g n jobs room t q s w6) := ⟨hml, HB.out.2.2.set h6⟩
            clear hml h6
            by_cases hE : MVS s = []
            · rw [hE]
              have HE : Aside (MVS s = []) := hE
              clear hE
              go_wp2
              go_meet
              case rel => exact ⟨rfl, t, s, H6.out.2, HE.out⟩
            · have HE : Aside (0 < (MVS s).length ∧ (MVS s).length ≤ 260) := by
                refine ⟨List.length_pos_iff.2 hE, ?_⟩
                have := MVS_length s
                rw [HB.out.2.2.W] at this
                have := HK.out
                omega
              obtain ⟨l, hl⟩ : ∃ l, MVS s = l := ⟨_, rfl⟩
              have HL : Aside (MVS s = l) := hl
              obtain ⟨L, hLL⟩ : ∃ L, l.length = L + 1 := ⟨l.length - 1, by rw [← hl]; have := HE.out.1; omega⟩
              have HLL : Aside (l.length = L + 1 ∧ L ≤ 260) := ⟨hLL, by have := HE.out.2; rw [hl] at this; omega⟩
              rw [hl] at H6
              rw [hl, hLL]
              have hL0 : ¬ ((L + 1 : Nat) : Int) = 0 := by omega
              have hL1 : (((L + 1 : Nat) : Int) == 0) = false := by rw [beq_eq_false_iff_ne]; omega
              have hL260 := HLL.out.2
              clear hE hl hLL HE
              go_upto_region 15 with fail
              go_cut [72] from 54 to 108 (fun s72 W => s72 = .bool (q || decide (s.col = 1)) ∧ Aside (RUNC wo g n jobs room t q s W ∧ MLIE W a l))
              case first =>
                cases q with
                | true =>
                  go_wp2
                  go_meet
                  case rel => exact ⟨rfl, H6.out.2, H6.out.1⟩
                | false =>
                  have co := h_outcome2 H6.out.2.hold
                  rcases H6.out.2.col with h0 | h1
                  · rw [H6.out.2.out0 h0] at co
                    have HC : Aside (decide (s.col = 1) = false) := decide_eq_false (by omega)
                    clear h0
                    go_wp2_with fail
                    refine co.mono ?_
                    rintro e w7 ⟨rfl, h7, hb7⟩
                    clear co
                    have H7 : Aside (RUNC wo g n jobs room t false s w7 ∧ MLIE w7 a l) := ⟨H6.out.2.set h7, H6.out.1.on hb7⟩
                    clear h7 hb7
                    go_wp2
                    go_meet
                    case rel => exact ⟨by rw [HC.out]; rfl, H7.out⟩
                  · rw [H6.out.2.out1 h1] at co
                    have HC : Aside (decide (s.col = 1) = true) := decide_eq_true h1
                    clear h1
                    go_wp2_with fail
                    refine co.mono ?_
                    rintro e w7 ⟨rfl, h7, hb7⟩
                    clear co
                    have H7 : Aside (RUNC wo g n jobs room t false s w7 ∧ MLIE w7 a l) := ⟨H6.out.2.set h7, H6.out.1.on hb7⟩
                    clear h7 hb7
                    go_wp2
                    go_meet
                    case rel => exact ⟨by rw [HC.out]; rfl, H7.out⟩
              case rest =>
                obtain ⟨rfl, hc⟩ := hcut
                have H7 : Aside (RUNC wo g n jobs room t q s wc ∧ MLIE wc a l) := hc
                clear hc H6
                go_upto_if 72 with fail
                go_cut [13] from 54 to 108 (fun s13 W => ∃ kk : Nat, s13 = .int .i64 (kk : Int) ∧ Aside (kk ≤ L ∧ (q = false → s.col = 0 → kk = 0) ∧ W = wc))
                case first =>
                  by_cases hq : q = true ∨ s.col = 1
                  · have hb : (q || decide (s.col = 1)) = true := by
                      rcases hq with rfl | h
                      · rfl
                      · rw [decide_eq_true h]
                        cases q <;> rfl
                    have HQ : Aside (q = false → s.col = 0 → L = 0) := fun e1 e2 => by
                      rcases hq with h | h
                      · rw [h] at e1
                        cases e1
                      · omega
                    rw [hb]
                    clear hq hb
                    go_wp2
                    go_meet
                    case rel => exact ⟨L, by first | rfl | (congr 1; omega), Nat.le_refl _, HQ.out, rfl⟩
                  · have hb : (q || decide (s.col = 1)) = false := by
                      cases q with
                      | true => exact absurd (.inl rfl) hq
                      | false => exact decide_eq_false (fun e => hq (.inr e))
                    rw [hb]
                    clear hq hb
                    go_wp2
                    go_meet
                    case rel => exact ⟨0, rfl, Nat.zero_le _, fun _ _ => rfl, rfl⟩
                case rest =>
                  obtain ⟨k1, rfl, hc⟩ := hcut
                  obtain ⟨k2, k3, rfl⟩ := hc.out
                  have HK1 : Aside (k1 ≤ L ∧ (q = false → s.col = 0 → k1 = 0)) := ⟨k2, k3⟩
                  clear hc k2 k3
                  go_upto_block 4 with fail
                  go_cut [13] from 54 to 108 (fun s13 W => ∃ kk : Nat, s13 = .int .i64 (kk : Int) ∧ Aside (RUNC wo g n jobs room t q s W ∧ ∃ m, l[kk]? = some m ∧ GOOD q s m))
                  case first =>
                    have hl0 : (0 : Int) < ((L + 1 : Nat) : Int) := by omega
                    by_cases hqc : q = true ∧ s.col = 0
                    · obtain ⟨rfl, hc0⟩ := hqc
                      obtain ⟨jq, hjq⟩ := coll_quits H7.out.1.ch.canc hc0
                      rw [HL.out] at hjq
                      have HJ : Aside (jq < L + 1 ∧ l[jq]? = some ((6, -1, 0) : MV) ∧ s.col = 0) := ⟨by rw [← HLL.out.1]; exact (List.getElem?_eq_some_iff.1 hjq).1, hjq, hc0⟩
                      clear hjq hc0 hL0 hL1
                      go_wp2_with fail
                      go_loopg [13, 14] (L + 1) (fun k s13 s14 wx => ∃ (z j : Nat), j + k = L + 1 ∧ s14 = .int .i64 (j : Int) ∧ s13 = .int .i64 (z : Int) ∧ Aside (RUNC wo g n jobs room t true s wx ∧ MLIE wx a l ∧ ((∃ m, l[z]? = some m ∧ m.1 = 6 ∧ m.2.1 = -1) ∨ ∀ j' m, j' < j → l[j']? = some m → ¬ (m.1 = 6 ∧ m.2.1 = -1))))
                      case atStart => exact ⟨k1, 0, by omega, rfl, rfl, H7.out.1, H7.out.2, .inr (fun j' m h => by omega)⟩
                      case round =>
                        obtain ⟨z, j, hj, rfl, rfl, B⟩ := hrel
                        have co := h_outcome2 B.out.1.hold
                        rw [B.out.1.out0 HJ.out.2.2] at co
                        cases gk with
                        | zero =>
                          obtain rfl : j = L + 1 := by omega
                          have HR : Aside (RUNC wo g n jobs room t true s wr ∧ ∃ m, l[z]? = some m ∧ GOOD true s m) := by
                            refine ⟨B.out.1, ?_⟩
                            rcases B.out.2.2 with ⟨m, h1, h2, h3⟩ | h
                            · exact ⟨m, h1, fun _ => ⟨(fun e => by cases e), fun _ => ⟨h2, h3⟩⟩⟩
                            · exact absurd ⟨rfl, rfl⟩ (h jq _ HJ.out.1 HJ.out.2.1)
                          clear B co
                          go_wp2
                          go_meet
                          case rel => exact ⟨z, rfl, HR⟩
                        | succ k =>
                          have hlt : (j : Int) < ((L + 1 : Nat) : Int) := by omega
                          have HJ2 : Aside (j + (k + 1) = L + 1) := hj
                          clear hj
                          go_wp2_with fail
                          refine co.mono ?_
                          rintro e w8 ⟨rfl, h8, hb8⟩
                          clear co
                          have H8 : Aside (RUNC wo g n jobs room t true s w8 ∧ MLIE w8 a l ∧ ((∃ m, l[z]? = some m ∧ m.1 = 6 ∧ m.2.1 = -1) ∨ ∀ j' m, j' < j → l[j']? = some m → ¬ (m.1 = 6 ∧ m.2.1 = -1))) := ⟨B.out.1.set h8, B.out.2.1.on hb8, B.out.2.2⟩
                          clear h8 hb8 B
                          obtain ⟨m, hm⟩ : ∃ m, l[j]? = some m := ⟨_, List.getElem?_eq_getElem (by have := HLL.out.1; have := HJ2.out; omega)⟩
                          obtain ⟨b, rfl, y0, y1, _, _⟩ := H8.out.2.1 j m hm
                          have HM : Aside (l[j]? = some m) := hm
                          clear hm
                          obtain ⟨m1, m2, m3⟩ := m
                          dsimp only at y0 y1
                          have hjb : j ≤ 262 := by have := HJ2.out; omega
                          by_cases h6 : m1 = 6
                          · subst h6
                            by_cases h7 : m2 = -1
                            · subst h7
                              go_wp2
                              go_roundg k
                              case measure => omega
                              case rel => exact ⟨j, j + 1, by have := HJ2.out; omega, rfl, rfl, H8.out.1, H8.out.2.1, .inl ⟨_, HM.out, rfl, rfl⟩⟩
                            · have h8 : (m2 == -1) = false := by rw [beq_eq_false_iff_ne]; exact h7
                              have HZ : Aside ((∃ m, l[z]? = some m ∧ m.1 = 6 ∧ m.2.1 = -1) ∨ ∀ j' m, j' < j + 1 → l[j']? = some m → ¬ (m.1 = 6 ∧ m.2.1 = -1)) := by
                                rcases H8.out.2.2 with h | h
                                · exact .inl h
                                · refine .inr (fun j' m' hj' hm' => ?_)
                                  by_cases e : j' = j
                                  · rw [e, HM.out] at hm'
                                    cases hm'
                                    exact fun e => h7 e.2
                                  · exact h j' m' (by omega) hm'
                              clear h7
                              go_wp2
                              go_roundg k
                              case measure => omega
                              case rel => exact ⟨z, j + 1, by have := HJ2.out; omega, rfl, rfl, H8.out.1, H8.out.2.1, HZ.out⟩
                          · have h8 : ((m1 : Int) == 6) = false := by rw [beq_eq_false_iff_ne]; omega
                            have h9 : ¬ (m1 : Int) = 6 := by omega
                            have HZ : Aside ((∃ m, l[z]? = some m ∧ m.1 = 6 ∧ m.2.1 = -1) ∨ ∀ j' m, j' < j + 1 → l[j']? = some m → ¬ (m.1 = 6 ∧ m.2.1 = -1)) := by
                              rcases H8.out.2.2 with h | h
                              · exact .inl h
                              · refine .inr (fun j' m' hj' hm' => ?_)
                                by_cases e : j' = j
                                · rw [e, HM.out] at hm'
                                  cases hm'
                                  exact fun e => h6 e.1
                                · exact h j' m' (by omega) hm'
                            clear h6
                            go_wp2
                            go_roundg k
                            case measure => omega
                            case rel => exact ⟨z, j + 1, by have := HJ2.out; omega, rfl, rfl, H8.out.1, H8.out.2.1, HZ.out⟩
                    · have HG : Aside (∃ m, l[k1]? = some m ∧ GOOD q s m) := by
                        obtain ⟨m, hm⟩ : ∃ m, l[k1]? = some m := ⟨_, List.getElem?_eq_getElem (by have := HLL.out.1; have := HK1.out.1; omega)⟩
                        refine ⟨m, hm, fun h0 => ?_⟩
                        cases q with
                        | true => exact absurd ⟨rfl, h0⟩ hqc
                        | false =>
                          refine ⟨fun _ => ?_, fun e => by cases e⟩
                          have hk0 := HK1.out.2 rfl h0
                          subst hk0
                          rw [← HL.out] at hm
                          rcases H7.out.1.ch.how with ⟨_, hn⟩ | ⟨h1, _⟩
                          · exact first_good H7.out.1.hold.inv hn H7.out.1.hold.few.1 h0 hm
                          · omega
                      go_wp2_with fail
                      go_loopg [13, 14] 0 (fun _ s13 s14 wx => s14 = .int .i64 0 ∧ s13 = .int .i64 (k1 : Int) ∧ wx = wc)
                      case atStart => exact ⟨rfl, rfl, rfl⟩
                      case round =>
                        obtain ⟨rfl, rfl, rfl⟩ := hrel
                        cases q with
                        | false =>
                          go_wp2
                          go_meet
                          case rel => exact ⟨k1, rfl, H7.out.1, HG.out⟩
                        | true =>
                          have hc1 : s.col = 1 := by
                            rcases H7.out.1.col with h | h
                            · exact absurd ⟨rfl, h⟩ hqc
                            · exact h
                          have co := h_outcome2 H7.out.1.hold
                          rw [H7.out.1.out1 hc1] at co
                          clear hqc hc1
                          go_wp2_with fail
                          refine co.mono ?_
                          rintro e w8 ⟨rfl, h8, hb8⟩
                          clear co
                          have H8 : Aside (RUNC wo g n jobs room t true s w8) := H7.out.1.set h8
                          clear h8 hb8
                          go_wp2
                          go_meet
                          case rel => exact ⟨k1, rfl, H8.out, HG.out⟩
                  case rest =>
                    obtain ⟨kk, rfl, hc⟩ := hcut
                    obtain ⟨c1, m, hm, c2⟩ := hc.out
                    have cv := h_move c1.hold kk m (by rw [HL.out]; exact hm)
                    have hmm : m ∈ MVS s := by rw [HL.out]; exact List.mem_of_getElem? hm
                    have HCH : Aside (CH q (DO s m)) := ch_do c1.hold.inv c1.ch hmm c2
                    have HC1 : Aside (RUNC wo g n jobs room t q s wc) := c1
                    clear hc c1 c2 hm hmm hL0 hL1 H7
                    go_wp2_with fail
                    refine cv.mono ?_
                    rintro e w9 ⟨rfl, h9⟩
                    clear cv
                    have hs := do_same s m
                    have HR : Aside (RUNC wo g n jobs room (t + 1) q (DO s m) w9) := ⟨h9, hs.1.trans HC1.out.W, hs.2.1.trans HC1.out.jobs, hs.2.2.1.trans HC1.out.room, by rw [hs.2.2.2.2, HC1.out.made], HCH.out⟩
                    clear h9 hs
                    have hbt : t ≤ 1265 := by have := HB.out.2.1; have := HBD.out.2; omega
                    cases gk with
                    | zero => exact absurd HB.out.1 (by have := HB.out.2.1; omega)
                    | succ gk =>
                      go_wp2
                      go_roundg gk
                      case measure => omega
                      case rel => exact ⟨t + 1, rfl, by have := HB.out.1; omega, _, HR.out⟩
        case rest =>
          obtain ⟨rfl, hc⟩ := hcut
          obtain ⟨t, s, c1, c2⟩ := hc.out
          have hgone : GONE s = s.W + 2 := none_gone c1.hold.inv (fun e => by rw [c1.ch.canc] at e; cases e) c1.hold.few.1 c2
          have hcol := ((gone_all s).1 hgone).2.1
          have ho := c1.out1 hcol
          rw [c1.W] at hgone
          have HR : Aside (RUNC wo g n jobs room t q s wc ∧ GONE s = n + 2 ∧ OUTC s = if q then 2 else 1) := ⟨c1, hgone, ho⟩
          have co := h_outcome c1.hold
          rw [ho] at co
          have hn64 := HK.out.2.1
          clear hc c1 c2 hgone hcol ho H5
          cases q with
          | false =>
            go_wp2_with fail
            refine co.mono ?_
            rintro e w6 ⟨rfl, h6⟩
            clear co
            have cg := h_gone h6
            rw [HR.out.2.1, show ((n + 2 : Nat) : Int) = (n : Int) + 2 from rfl] at cg
            clear h6
            go_wp2_with fail
            refine cg.mono ?_
            rintro e w7 ⟨rfl, h7⟩
            clear cg
            have H7 : Aside (Below w.heap.size w w7 ∧ Has w7 bq #[.bool false, .bool true] 4) := ⟨HA.out.1.trans (h7.below.mono HA.out.1.size), HA.out.2.1.below h7.below HA.out.2.1.lt⟩
            clear h7
            go_wp2
            go_roundg gk
            case measure => omega
            case rel => exact ⟨i + 1, by have := HA.out.2.2; omega, rfl, H7⟩
          | true =>
            go_wp2_with fail
            refine co.mono ?_
            rintro e w6 ⟨rfl, h6⟩
            clear co
            have cg := h_gone h6
            rw [HR.out.2.1, show ((n + 2 : Nat) : Int) = (n : Int) + 2 from rfl] at cg
            clear h6
            go_wp2_with fail
            refine cg.mono ?_
            rintro e w7 ⟨rfl, h7⟩
            clear cg
            have H7 : Aside (Below w.heap.size w w7 ∧ Has w7 bq #[.bool false, .bool true] 4) := ⟨HA.out.1.trans (h7.below.mono HA.out.1.size), HA.out.2.1.below h7.below HA.out.2.1.lt⟩
            clear h7
            go_wp2
            go_roundg gk
            case measure => omega
            case rel => exact ⟨i + 1, by have := HA.out.2.2; omega, rfl, H7⟩
  case rest =>
    have R : Aside (Below w.heap.size w wc) := hcut
    clear hcut H2
    go_wp2_with fail
    refine (awake13_ok wc).mono ?_
    rintro e w3 ⟨rfl, hb3⟩
    have R3 : Aside (Below w.heap.size w w3) := R.out.trans (hb3.mono R.out.size)
    clear hb3
    go_wp2
    go_ret
    exact ⟨rfl, R3.out⟩
theorem loomChoice_walk (a b c : Int) (_ : (Lit.int .i64 a).wf = true) (_ : (Lit.int .i64 b).wf = true) (_ : (Lit.int .i64 c).wf = true) (w : World) : Calls Try.prog 3 #[.int .i64 a, .int .i64 b, .int .i64 c] w fun e w' => e = .returned (.bool true) ∧ Below w.heap.size w w' := by
  by_cases h : 1 ≤ a ∧ a ≤ 64 ∧ 0 ≤ b ∧ b ≤ 400 ∧ 0 ≤ c ∧ c ≤ 65536
  · by_cases hb : b = 0
    · subst hb
      exact choice_none a c h.1 h.2.1 h.2.2.2.2.1 h.2.2.2.2.2 w
    · have e1 : ((a.toNat : Nat) : Int) = a := Int.toNat_of_nonneg (by omega)
      have e2 : ((b.toNat : Nat) : Int) = b := Int.toNat_of_nonneg (by omega)
      have e3 : ((c.toNat : Nat) : Int) = c := Int.toNat_of_nonneg (by omega)
      rw [← e1, ← e2, ← e3]
      exact choice_in a.toNat b.toNat c.toNat (by omega) (by omega) (by omega) (by omega) (by omega) w
  · exact choice_out a b c h w
end Go.Proofs.Ytcdopeofajkbnab
