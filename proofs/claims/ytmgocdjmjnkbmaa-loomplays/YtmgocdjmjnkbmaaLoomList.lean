/- The moves that can be made: list, Moves. -/
import Derived.Test.YtmgocdjmjnkbmaaLoomQuits
namespace Go.Proofs.Ytmgocdjmjnkbmaa
open Go.RowKit
set_option maxRecDepth 100000

theorem MV1_length (s : LM) : (MV1 s).length ≤ 1 := by unfold MV1; split <;> simp
theorem OFF_length (s : LM) (k j : Nat) : (OFF s k j).length ≤ s.W := PK_length _ _
theorem MV2_length (s : LM) : (MV2 s).length ≤ s.W := by unfold MV2; split <;> first | exact OFF_length _ _ _ | simp
theorem MV3_length (s : LM) : (MV3 s).length ≤ 1 := by unfold MV3; split <;> simp
theorem MV4_length (s : LM) : (MV4 s).length ≤ s.W := by unfold MV4; split <;> first | exact OFF_length _ _ _ | simp
theorem MV5_length (s : LM) : (MV5 s).length ≤ s.W := by unfold MV5; split <;> first | exact PK_length _ _ | simp
theorem MV6_length (s : LM) : (MV6 s).length ≤ s.W + 2 := by unfold MV6; split <;> first | exact QTS_length _ | simp
theorem MVS_length (s : LM) : (MVS s).length ≤ 4 * s.W + 4 := by
  unfold MVS
  simp only [List.length_append]
  have := MV1_length s
  have := MV2_length s
  have := MV3_length s
  have := MV4_length s
  have := MV5_length s
  have := MV6_length s
  omega
/-- a list l of moves, in v, made out of v0; the loom is as it was. -/
structure MADE (w0 w : World) (C : Nat) (v0 v : Value) (B g gw : Nat) (va : Value) (s : LM) (l : List MV) : Prop where
  own : w.ownsRow C 42 3 v l.length (MCELLS l)
  grew : GREW w0 w v0 v
  loom : LOOM w B g gw va s
  apart : ∀ k, v.ownBlock = some k → ¬ FOOT g gw va k
  base : C ≤ w.heap.size
theorem MADE.below {w0 w w' : World} {C : Nat} {v0 v : Value} {B g gw : Nat} {va : Value} {s : LM} {l : List MV} (h : MADE w0 w C v0 v B g gw va s l) (hb : Below w.heap.size w w') : MADE w0 w' C v0 v B g gw va s l :=
  ⟨own_turn h.own (fun k e => hb.block k (own_lt h.own e).2), h.grew.below hb, h.loom.below hb, h.apart, Nat.le_trans h.base hb.size⟩
theorem MADE.ext {w0 w w' : World} {C : Nat} {v0 v v' : Value} {B g gw : Nat} {va : Value} {s : LM} {l l' : List MV} (h : MADE w0 w C v0 v B g gw va s l) (ho : w'.ownsRow C 42 3 v' l'.length (MCELLS l')) (hg : GREW w w' v v') : MADE w0 w' C v0 v' B g gw va s l' := by
  refine ⟨ho, h.grew.trans hg, h.loom.grew hg h.apart, fun k e hk => ?_, Nat.le_trans h.base hg.size⟩
  rcases hg.new k e with x | x
  · exact h.apart k x hk
  · have := (h.loom.foot hk).2
    omega
theorem made_offree {w0 w : World} {C : Nat} {v0 v : Value} {B g gw : Nat} {va : Value} {s : LM} {l : List MV} (h : MADE w0 w C v0 v B g gw va s l) (hW : s.W ≤ 64) (hl : l.length ≤ 1000) (kd j : Nat) : Calls Try.prog 38 #[.pointer (some ⟨g, 0, none⟩), v, .int .i64 (kd : Int), .int .i64 (j : Int)] w fun e w' => ∃ v', e = .returned v' ∧ MADE w0 w' C v0 v' B g gw va s (l ++ OFF s kd j) := by
  refine (offree_ok h.loom hW kd j C v l hl h.base h.own h.apart).mono ?_
  rintro e w' ⟨v', rfl, ho, hg⟩
  exact ⟨v', rfl, h.ext ho hg⟩
theorem made_ofbusy {w0 w : World} {C : Nat} {v0 v : Value} {B g gw : Nat} {va : Value} {s : LM} {l : List MV} (h : MADE w0 w C v0 v B g gw va s l) (hW : s.W ≤ 64) (hl : l.length ≤ 1000) : Calls Try.prog 41 #[.pointer (some ⟨g, 0, none⟩), v] w fun e w' => ∃ v', e = .returned v' ∧ MADE w0 w' C v0 v' B g gw va s (l ++ OFB s) := by
  refine (ofbusy_ok h.loom hW C v l hl h.base h.own h.apart).mono ?_
  rintro e w' ⟨v', rfl, ho, hg⟩
  exact ⟨v', rfl, h.ext ho hg⟩
theorem made_quits {w0 w : World} {C : Nat} {v0 v : Value} {B g gw : Nat} {va : Value} {s : LM} {l : List MV} (h : MADE w0 w C v0 v B g gw va s l) (hW : s.W ≤ 64) (hl : l.length ≤ 1000) : Calls Try.prog 42 #[.pointer (some ⟨g, 0, none⟩), v] w fun e w' => ∃ v', e = .returned v' ∧ MADE w0 w' C v0 v' B g gw va s (l ++ QTS s) := by
  refine (quits_ok h.loom hW C v l hl h.base h.own h.apart).mono ?_
  rintro e w' ⟨v', rfl, ho, hg⟩
  exact ⟨v', rfl, h.ext ho hg⟩
/-- one move more. -/
theorem made_app {ops : Array Oper} {rest : List Oper} {o : Oper} {a : Act} {Q : Exit → Act → World → Prop} {w0 w : World} {C : Nat} {v0 v : Value} {B g gw : Nat} {va : Value} {s : LM} {l : List MV} (h : MADE w0 w C v0 v B g gw va s l) (hl : l.length ≤ 1000) (hgd : o.guard = none) (p x : Operand)
    (ho : o.op = .call { callee := .builtin .append, args := #[p, x], argTypes := #[39, 39] }) (m : MV) (hs : a.eval p = v)
    (hx : a.eval x = .slice (some ⟨w.heap.size, 0, none⟩) 1 1)
    (hh : ∀ v' w', Aside (MADE w0 w' C v0 v' B g gw va s (l ++ [m])) → wpList Try.prog ops Q rest (a.put o.dst v') w') : wpList Try.prog ops Q (o :: rest) a (w.alloc (.cells #[.int .i64 (m.1 : Int), .int .i64 m.2.1, .int .i64 (m.2.2 : Int)] 42)) := by
  refine app_mv w w hgd p x ho C v v l m hs ⟨h.own, GREW.refl _ _⟩ hx (by omega) h.base ?_
  intro g' cap w' R
  exact hh _ w' (h.ext R.out.1 R.out.2)
set_option maxHeartbeats 4000000 in
theorem list_ok {w : World} {B g gw : Nat} {va : Value} {s : LM} (h : LOOM w B g gw va s) (hW : s.W ≤ 64) (C : Nat) (v : Value) (hC : C ≤ w.heap.size) (hv : w.ownsRow C 42 3 v 0 []) (ha : ∀ k, v.ownBlock = some k → ¬ FOOT g gw va k) : Calls Try.prog 22 #[.pointer (some ⟨g, 0, none⟩), v] w fun e w' => ∃ v', e = .returned v' ∧ MADE w w' C v v' B g gw va s (MVS s) := by
  have HM : Aside (MADE w w C v v B g gw va s []) := ⟨hv, GREW.refl _ _, h, ha, hC⟩
  have HW : Aside (s.W ≤ 64) := hW
  have x1 := h.c1
  have x3 := h.c3
  have x4 := h.c4
  have x9 := h.c9
  clear h hW hC hv ha
  go_enter Try.func22, Try.ntmps22
  go_upto_region 1 with fail
  go_cut [23] from 7 to 84 (fun s23 W => s23 = .bool (decide (2 ≤ s.fd ∧ s.held < s.room)) ∧ Aside (Below w.heap.size w W))
  case first =>
    by_cases hf : 2 ≤ s.fd
    · rw [AT_busy hf] at x3
      by_cases hh : s.held < s.room
      · have h2 : (s.held : Int) < (s.room : Int) := by omega
        have hD : Aside (decide (2 ≤ s.fd ∧ s.held < s.room) = true) := decide_eq_true ⟨hf, hh⟩
        generalize (s.held : Int) = HH at *
        generalize (s.room : Int) = RR at *
        clear hf hh
        go_quiet (fail)
        all_goals
          go_wp2
          go_meet
          case rel => exact ⟨by rw [hD.out], rfl, rfl, rfl, Nat.le_refl _, fun _ _ => rfl⟩
      · have h2 : ¬ (s.held : Int) < (s.room : Int) := by omega
        have hD : Aside (decide (2 ≤ s.fd ∧ s.held < s.room) = false) := decide_eq_false (fun e => hh e.2)
        generalize (s.held : Int) = HH at *
        generalize (s.room : Int) = RR at *
        clear hf hh
        go_quiet (fail)
        all_goals
          go_wp2
          go_meet
          case rel => exact ⟨by rw [hD.out], rfl, rfl, rfl, Nat.le_refl _, fun _ _ => rfl⟩
    · have h3 := AT_not hf
      have hD : Aside (decide (2 ≤ s.fd ∧ s.held < s.room) = false) := decide_eq_false (fun e => hf e.1)
      generalize AT s.fd = A at *
      have h3b : (A == 1) = false := by simp [h3]
      clear hf
      go_quiet (fail)
      all_goals
        go_wp2
        go_meet
        case rel => exact ⟨by rw [hD.out], rfl, rfl, rfl, Nat.le_refl _, fun _ _ => rfl⟩
  case rest =>
    obtain ⟨rfl, hb⟩ := hcut
    have M0 : Aside (MADE w wc C v v B g gw va s []) := HM.out.below hb.out
    clear hb HM x1 x3 x4 x9
    go_upto_if 23 with fail
    go_cut [1] from 7 to 84 (fun s1 W => Aside (MADE w W C v s1 B g gw va s (MV1 s)))
    case first =>
      by_cases hP : 2 ≤ s.fd ∧ s.held < s.room
      · have hD := decide_eq_true hP
        have x4 := M0.out.loom.c4
        rw [JB_busy hP.1] at x4
        have hM : Aside (MV1 s = [(1, 0, s.fd - 2)]) := if_pos hP
        generalize s.fd - 2 = jj at *
        rw [hD]
        clear hD hP
        go_wp2_with (at_builtin; refine made_app M0.out (by simp) rfl (.tmp 24) (.tmp 31) rfl (1, 0, jj) rfl rfl ?_; intro v1 w1 M1)
        go_meet
        case rel => rw [hM.out]; exact M1
      · have hD := decide_eq_false hP
        have hM : Aside (MV1 s = []) := if_neg hP
        rw [hD]
        clear hD hP
        go_wp2
        go_meet
        case rel => rw [hM.out]; exact M0
    case rest =>
      have M1 : Aside (MADE w wc C v u1 B g gw va s (MV1 s)) := hcut
      clear hcut M0
      have co := offered_ok M1.out.loom
      go_step
      go_step
      go_cut [1] from 7 to 84 (fun s1 W => Aside (MADE w W C v s1 B g gw va s (MV1 s ++ MV2 s)))
      case first =>
        have hl1 : Aside ((MV1 s).length ≤ 1000) := by have := MV1_length s; show _ ≤ _; omega
        go_wp2_with fail
        refine co.mono ?_
        rintro e w1 ⟨j, rfl, hb1, hj⟩
        clear co
        have M2 : Aside (MADE w w1 C v u1 B g gw va s (MV1 s)) := M1.out.below hb1
        clear hb1 M1
        cases ho : OFFERED s with
        | none =>
          have hM : Aside (MV2 s = []) := by unfold MV2; rw [ho]; exact rfl
          rw [ho] at *
          clear ho hj
          simp only [Option.isSome_none]
          go_wp2
          go_meet
          case rel => rw [hM.out, List.append_nil]; exact M2
        | some jj =>
          have hM : Aside (MV2 s = OFF s 2 jj) := by unfold MV2; rw [ho]; exact rfl
          obtain rfl := hj jj ho
          clear ho hj
          simp only [Option.isSome_some]
          go_wp2_with fail
          refine (made_offree M2.out HW.out hl1.out 2 jj).mono ?_
          rintro e w2 ⟨v2, rfl, hm⟩
          have M3 : Aside (MADE w w2 C v v2 B g gw va s (MV1 s ++ OFF s 2 jj)) := hm
          clear hm M2
          go_wp2
          go_meet
          case rel => rw [hM.out]; exact M3
      case rest =>
        have M2 : Aside (MADE w wc C v u1 B g gw va s (MV1 s ++ MV2 s)) := hcut
        have hl2 : Aside ((MV1 s ++ MV2 s).length ≤ 65) := by have := MV1_length s; have := MV2_length s; have := HW.out; show _ ≤ _; rw [List.length_append]; omega
        clear hcut M1 co
        have x3 := M2.out.loom.c3
        have x4 := M2.out.loom.c4
        have cf := free_ok s.fd
        go_upto_if 47 with (refine (cf _).mono ?_; rintro e w1 ⟨rfl, hb1⟩; have M3 : Aside (MADE w w1 C v u1 B g gw va s (MV1 s ++ MV2 s)) := M2.out.below hb1; clear hb1)
        clear cf x3 x4 M2
        go_cut [1] from 7 to 84 (fun s1 W => Aside (MADE w W C v s1 B g gw va s (MV1 s ++ MV2 s ++ MV3 s)))
        case first =>
          by_cases hf : s.fd = 0
          · have hM : Aside (MV3 s = [(3, 0, 0)]) := if_pos hf
            rw [decide_eq_true hf]
            clear hf
            go_wp2_with (at_builtin; refine made_app M3.out (by have := hl2.out; omega) rfl (.tmp 48) (.tmp 50) rfl (3, 0, 0) rfl rfl ?_; intro v2 w2 M4)
            go_meet
            case rel => rw [hM.out]; exact M4
          · have hM : Aside (MV3 s = []) := if_neg hf
            rw [decide_eq_false hf]
            clear hf
            go_wp2
            go_meet
            case rel => rw [hM.out, List.append_nil]; exact M3
        case rest =>
          have M4 : Aside (MADE w wc C v u1 B g gw va s (MV1 s ++ MV2 s ++ MV3 s)) := hcut
          have hl3 : Aside ((MV1 s ++ MV2 s ++ MV3 s).length ≤ 66) := by have := hl2.out; have := MV3_length s; show _ ≤ _; rw [List.length_append]; omega
          clear hcut M3 hl2
          go_upto_region 8 with fail
          go_cut [63] from 7 to 84 (fun s63 W => s63 = .bool (decide (s.fd = 1 ∧ s.held = 0)) ∧ Aside (MADE w W C v u1 B g gw va s (MV1 s ++ MV2 s ++ MV3 s)))
          case first =>
            have cg := gone_ok s.fd
            by_cases hf : s.fd = 1
            · rw [decide_eq_true hf] at cg
              have x3 := M4.out.loom.c3
              have x4 := M4.out.loom.c4
              generalize AT s.fd = A at *
              generalize JB s.fd = J at *
              by_cases hh : s.held = 0
              · have hD : Aside (decide (s.fd = 1 ∧ s.held = 0) = true) := decide_eq_true ⟨hf, hh⟩
                go_wp2_with (refine (cg _).mono ?_; rintro e w1 ⟨rfl, hb1⟩; have M5 : Aside (MADE w w1 C v u1 B g gw va s (MV1 s ++ MV2 s ++ MV3 s)) := M4.out.below hb1; clear hb1; have x9 := M5.out.loom.c9; rw [hh] at x9)
                go_meet
                case rel => exact ⟨by rw [hD.out], M5⟩
              · have hD : Aside (decide (s.fd = 1 ∧ s.held = 0) = false) := decide_eq_false (fun e => hh e.2)
                have hh2 : ((s.held : Int) == 0) = false := by simp [hh]
                go_wp2_with (refine (cg _).mono ?_; rintro e w1 ⟨rfl, hb1⟩; have M5 : Aside (MADE w w1 C v u1 B g gw va s (MV1 s ++ MV2 s ++ MV3 s)) := M4.out.below hb1; clear hb1; have x9 := M5.out.loom.c9; generalize (s.held : Int) = HH at *)
                go_meet
                case rel => exact ⟨by first | rw [hD.out, hh2] | rw [hD.out], M5⟩
            · rw [decide_eq_false hf] at cg
              have x3 := M4.out.loom.c3
              have x4 := M4.out.loom.c4
              generalize AT s.fd = A at *
              generalize JB s.fd = J at *
              have hD : Aside (decide (s.fd = 1 ∧ s.held = 0) = false) := decide_eq_false (fun e => hf e.1)
              go_wp2_with (refine (cg _).mono ?_; rintro e w1 ⟨rfl, hb1⟩; have M5 : Aside (MADE w w1 C v u1 B g gw va s (MV1 s ++ MV2 s ++ MV3 s)) := M4.out.below hb1; clear hb1)
              go_meet
              case rel => exact ⟨by rw [hD.out], M5⟩
          case rest =>
            obtain ⟨rfl, hc⟩ := hcut
            have M5 : Aside (MADE w wc C v u1 B g gw va s (MV1 s ++ MV2 s ++ MV3 s)) := hc
            clear hc M4
            go_upto_if 63 with fail
            go_cut [1] from 7 to 84 (fun s1 W => Aside (MADE w W C v s1 B g gw va s (MV1 s ++ MV2 s ++ MV3 s ++ MV4 s)))
            case first =>
              by_cases hf : s.fd = 1 ∧ s.held = 0
              · have hM : Aside (MV4 s = OFF s 4 0) := if_pos hf
                rw [decide_eq_true hf]
                clear hf
                go_wp2_with fail
                refine (made_offree M5.out HW.out (by have := hl3.out; omega) 4 0).mono ?_
                rintro e w2 ⟨v2, rfl, hm⟩
                have M6 : Aside (MADE w w2 C v v2 B g gw va s (MV1 s ++ MV2 s ++ MV3 s ++ OFF s 4 0)) := hm
                clear hm M5
                go_wp2
                go_meet
                case rel => rw [hM.out]; exact M6
              · have hM : Aside (MV4 s = []) := if_neg hf
                rw [decide_eq_false hf]
                clear hf
                go_wp2
                go_meet
                case rel => rw [hM.out, List.append_nil]; exact M5
            case rest =>
              have M6 : Aside (MADE w wc C v u1 B g gw va s (MV1 s ++ MV2 s ++ MV3 s ++ MV4 s)) := hcut
              have hl4 : Aside ((MV1 s ++ MV2 s ++ MV3 s ++ MV4 s).length ≤ 130) := by have := hl3.out; have := MV4_length s; have := HW.out; show _ ≤ _; rw [List.length_append]; omega
              clear hcut M5 hl3
              have x6 := M6.out.loom.c6
              have x7 := M6.out.loom.c7
              have cg := gone_ok s.col
              go_upto_if 72 with (refine (cg _).mono ?_; rintro e w1 ⟨rfl, hb1⟩; have M7 : Aside (MADE w w1 C v u1 B g gw va s (MV1 s ++ MV2 s ++ MV3 s ++ MV4 s)) := M6.out.below hb1; clear hb1)
              clear cg x6 x7 M6
              go_cut [1] from 7 to 84 (fun s1 W => Aside (MADE w W C v s1 B g gw va s (MV1 s ++ MV2 s ++ MV3 s ++ MV4 s ++ MV5 s)))
              case first =>
                by_cases hf : s.col = 1
                · have hM : Aside (MV5 s = []) := if_pos hf
                  rw [decide_eq_true hf]
                  clear hf
                  go_wp2
                  go_meet
                  case rel => rw [hM.out, List.append_nil]; exact M7
                · have hM : Aside (MV5 s = OFB s) := if_neg hf
                  rw [decide_eq_false hf]
                  clear hf
                  go_wp2_with fail
                  refine (made_ofbusy M7.out HW.out (by have := hl4.out; omega)).mono ?_
                  rintro e w2 ⟨v2, rfl, hm⟩
                  have M8 : Aside (MADE w w2 C v v2 B g gw va s (MV1 s ++ MV2 s ++ MV3 s ++ MV4 s ++ OFB s)) := hm
                  clear hm M7
                  go_wp2
                  go_meet
                  case rel => rw [hM.out]; exact M8
              case rest =>
                have M8 : Aside (MADE w wc C v u1 B g gw va s (MV1 s ++ MV2 s ++ MV3 s ++ MV4 s ++ MV5 s)) := hcut
                have hl5 : Aside ((MV1 s ++ MV2 s ++ MV3 s ++ MV4 s ++ MV5 s).length ≤ 194) := by have := hl4.out; have := MV5_length s; have := HW.out; show _ ≤ _; rw [List.length_append]; omega
                clear hcut M7 hl4
                have x2 := M8.out.loom.c2
                by_cases hf : s.canc = true
                · have hM : Aside (MVS s = MV1 s ++ MV2 s ++ MV3 s ++ MV4 s ++ MV5 s ++ QTS s) := by unfold MVS MV6; rw [if_pos hf]; exact rfl
                  rw [hf] at x2
                  clear hf
                  go_wp2_with fail
                  refine (made_quits M8.out HW.out (by have := hl5.out; omega)).mono ?_
                  rintro e w2 ⟨v2, rfl, hm⟩
                  rw [← hM.out] at hm
                  have M9 : Aside (MADE w w2 C v v2 B g gw va s (MVS s)) := hm
                  clear hm M8 hM hl5
                  go_wp2
                  go_ret
                  exact ⟨_, rfl, M9.out⟩
                · have hM : Aside (MVS s = MV1 s ++ MV2 s ++ MV3 s ++ MV4 s ++ MV5 s) := by unfold MVS MV6; rw [if_neg hf, List.append_nil]; exact rfl
                  have hf2 : s.canc = false := by cases h : s.canc <;> simp_all
                  rw [hf2] at x2
                  clear hf hf2
                  have M9 : Aside (MADE w wc C v u1 B g gw va s (MVS s)) := by rw [hM.out]; exact M8
                  clear M8 hM hl5
                  go_wp2
                  go_ret
                  exact ⟨_, rfl, M9.out⟩
theorem own_none (w : World) (C : Nat) : w.ownsRow C 42 3 (.slice none 0 0) 0 [] := World.ownsRow_nil _ _ _ _
/-- what Moves answers. -/
theorem moves_ok {w : World} {B g gw : Nat} {va : Value} {s : LM} (h : LOOM w B g gw va s) (hW : s.W ≤ 64) : Calls Try.prog 16 #[.pointer (some ⟨g, 0, none⟩)] w fun e w' => ∃ v', e = .returned v' ∧ w'.ownsRow w.heap.size 42 3 v' (MVS s).length (MCELLS (MVS s)) ∧ Below w.heap.size w w' := by
  have cl := list_ok h hW w.heap.size (.slice none 0 0) (Nat.le_refl _) (own_none w _) (fun k e => by cases e)
  clear h hW
  go_enter Try.func16, Try.ntmps16
  go_wp2_with fail
  refine cl.mono ?_
  rintro e w1 ⟨v', rfl, hm⟩
  have M : Aside (MADE w w1 w.heap.size (.slice none 0 0) v' B g gw va s (MVS s)) := hm
  clear hm cl
  go_wp2
  go_ret
  exact ⟨_, rfl, M.out.own, M.out.grew.tobelow (Nat.le_refl _) (fun k e => by cases e)⟩
end Go.Proofs.Ytmgocdjmjnkbmaa
