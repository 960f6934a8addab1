/- The answers of workers that hold a job; whose state lies where; what is offered. -/
import Derived.Test.YtmgocdjmjnkbmaaLoomOf
namespace Go.Proofs.Ytmgocdjmjnkbmaa
open Go.RowKit
set_option maxRecDepth 100000

set_option maxHeartbeats 1000000 in
theorem ofbusy_ok {w : World} {B g gw : Nat} {va : Value} {s : LM} (h : LOOM w B g gw va s) (hW : s.W ≤ 64) (C : Nat) (v : Value) (l : List MV) (hl : l.length ≤ 1000) (hC : C ≤ w.heap.size) (hv : w.ownsRow C 42 3 v l.length (MCELLS l)) (ha : ∀ k, v.ownBlock = some k → ¬ FOOT g gw va k) : Calls Try.prog 41 #[.pointer (some ⟨g, 0, none⟩), v] w (EXT w C v (l ++ OFB s)) := by
  have x5 := h.c5
  obtain ⟨f, hf⟩ : ∃ f : Nat → Option MV, f = fun i => if 2 ≤ s.ws i then some (5, (i : Int), s.ws i - 2) else none := ⟨_, rfl⟩
  have hO : OFB s = PK f s.W := by rw [hf]; rfl
  rw [hO]
  obtain ⟨n, hn⟩ : ∃ n, s.W = n := ⟨_, rfl⟩
  rw [hn] at x5 hW ⊢
  have HA : Aside (LOOM w B g gw va s ∧ n ≤ 64 ∧ s.W = n ∧ l.length ≤ 1000 ∧ C ≤ w.heap.size ∧ (f = fun i => if 2 ≤ s.ws i then some (5, (i : Int), s.ws i - 2) else none) ∧ w.ownsRow C 42 3 v l.length (MCELLS l) ∧ ∀ k, v.ownBlock = some k → ¬ FOOT g gw va k) := ⟨h, hW, hn, hl, hC, hf, hv, ha⟩
  clear h hW hn hO hl hC hf hv ha
  go_enter Try.func41, Try.ntmps41
  go_wp2
  go_loopg [1, 12] n (fun k s1 s12 wx => ∃ i : Nat, i + k = n ∧ s12 = .int .i64 (i : Int) ∧ Aside (wx.ownsRow C 42 3 s1 (l ++ PK f i).length (MCELLS (l ++ PK f i)) ∧ GREW w wx v s1))
  case atStart => exact ⟨0, by omega, rfl, by rw [PK_zero, List.append_nil]; exact HA.out.2.2.2.2.2.2.1, GREW.refl _ _⟩
  case round =>
    obtain ⟨i, hi, rfl, A⟩ := hrel
    cases gk with
    | zero =>
      obtain rfl : i = n := by omega
      go_wp2
      go_ret
      exact ⟨_, rfl, A.out.1, A.out.2⟩
    | succ k =>
      have hlt : (i : Int) < (n : Int) := by omega
      have hn64 := HA.out.2.1
      have L := HA.out.1.grew A.out.2 HA.out.2.2.2.2.2.2.2
      have y0 := L.at_ i (by rw [HA.out.2.2.1]; omega)
      have y1 := L.jb i (by rw [HA.out.2.2.1]; omega)
      by_cases hb : 2 ≤ s.ws i
      · have hAA := AT_busy hb
        have hJJ := JB_busy hb
        have hR : Aside (PK f (i + 1) = PK f i ++ [(5, (i : Int), s.ws i - 2)]) := by
          show _ = _
          rw [PK_succ, HA.out.2.2.2.2.2.1]
          simp only [hb, if_pos]
          rfl
        rw [hAA] at y0
        rw [hJJ] at y1
        generalize s.ws i - 2 = jj at *
        clear hb L hAA hJJ
        obtain ⟨w1, hw1⟩ : ∃ w1, wr.alloc (.cells #[.int .i64 1, .int .i64 (jj : Int)] 54) = w1 := ⟨_, rfl⟩
        have R1 : Aside (w1.ownsRow C 42 3 u1 (l ++ PK f i).length (MCELLS (l ++ PK f i)) ∧ GREW w w1 v u1) := by
          rw [← hw1]
          exact ⟨own_alloc A.out.1 _, A.out.2.below ((Below.refl _ _).alloc (Nat.le_refl _) _)⟩
        have R3 : Aside ((l ++ PK f i).length ≤ 100000 ∧ C ≤ w1.heap.size) := by
          have h1 := HA.out.2.2.2.1
          have h2 := PK_length f i
          have h3 := R1.out.2.size
          have h4 := HA.out.2.2.2.2.1
          exact ⟨by rw [List.length_append]; omega, by omega⟩
        have H1 : Aside (w1.heap.size = wr.heap.size + 1) := by rw [← hw1]; exact Array.size_push ..
        have HW : Aside (w1 = wr.alloc (.cells #[.int .i64 1, .int .i64 (jj : Int)] 54)) := hw1.symm
        clear A hw1
        go_wp2_with (at_builtin; rw [← HW.out]; refine app_mv w w1 rfl (.tmp 20) (.tmp 25) rfl C v u1 (l ++ PK f i) (5, (i : Int), jj) rfl R1.out (by rw [H1.out]; rfl) R3.out.1 R3.out.2 ?_; intro g' cap w2 R2)
        go_roundg k
        case measure => omega
        case rel =>
          have R4 := R2.out
          rw [show (l ++ PK f i).length + 1 = l.length + (PK f i).length + 1 by rw [List.length_append]] at R4
          exact ⟨i + 1, by omega, rfl, by rw [hR.out, ← List.append_assoc]; exact R4⟩
      · have hna := AT_not hb
        generalize hAA : AT (s.ws i) = AA at *
        generalize hJJ : JB (s.ws i) = JJ at *
        have hR : Aside (PK f (i + 1) = PK f i) := by
          show _ = _
          rw [PK_succ, HA.out.2.2.2.2.2.1]
          simp [hb]
        clear hb L hAA hJJ
        have R2 : Aside ((wr.alloc (.cells #[.int .i64 AA, .int .i64 JJ] 54)).ownsRow C 42 3 u1 (l ++ PK f (i + 1)).length (MCELLS (l ++ PK f (i + 1))) ∧ GREW w (wr.alloc (.cells #[.int .i64 AA, .int .i64 JJ] 54)) v u1) := by
          rw [hR.out]
          exact ⟨own_alloc A.out.1 _, A.out.2.below ((Below.refl _ _).alloc (Nat.le_refl _) _)⟩
        clear A
        go_wp2
        go_roundg k
        case measure => omega
        case rel => exact ⟨i + 1, by omega, rfl, R2⟩
/-- whose state lies where. -/
def WHA (g gw : Nat) (x : Int) : Addr := if x = -2 then ⟨g, 3, none⟩ else if x = -1 then ⟨g, 6, none⟩ else ⟨gw, x.toNat * 2, none⟩
def WHS (s : LM) (x : Int) : Nat := if x = -2 then s.fd else if x = -1 then s.col else s.ws x.toNat
theorem who_ok {w : World} {B g gw : Nat} {va : Value} {s : LM} (h : LOOM w B g gw va s) (x : Int) (h1 : -2 ≤ x) (h2 : x < (s.W : Int)) : Calls Try.prog 36 #[.pointer (some ⟨g, 0, none⟩), .int .i64 x] w fun e w' => e = .returned (.pointer (some (WHA g gw x))) ∧ w = w' := by
  have x5 := h.c5
  clear h
  unfold WHA
  by_cases c1 : x = -2
  · subst c1
    rw [if_pos rfl]
    clear h1 h2
    go_enter Try.func36, Try.ntmps36
    go_wp2
    go_ret
    exact ⟨rfl, rfl⟩
  · rw [if_neg c1]
    by_cases c2 : x = -1
    · subst c2
      rw [if_pos rfl]
      clear h1 h2
      go_enter Try.func36, Try.ntmps36
      go_wp2
      go_ret
      exact ⟨rfl, rfl⟩
    · rw [if_neg c2]
      obtain ⟨i, rfl⟩ : ∃ i : Nat, x = (i : Int) := ⟨x.toNat, by omega⟩
      have h3 : (i : Int) < (s.W : Int) := h2
      generalize s.W = n at *
      rw [Int.toNat_natCast]
      clear h1
      go_enter Try.func36, Try.ntmps36
      go_wp2
      go_ret
      exact ⟨rfl, rfl⟩
theorem LOOM.who {w : World} {B g gw : Nat} {va : Value} {s : LM} (h : LOOM w B g gw va s) (x : Int) (h1 : -2 ≤ x) (h2 : x < (s.W : Int)) : ∃ b o, WHA g gw x = ⟨b, o, none⟩ ∧ w.cell? ⟨b, o, none⟩ = some (.int .i64 (AT (WHS s x))) ∧ w.cell? ⟨b, o + 1, none⟩ = some (.int .i64 (JB (WHS s x))) := by
  unfold WHA WHS
  by_cases c1 : x = -2
  · rw [if_pos c1, if_pos c1]
    exact ⟨g, 3, rfl, h.c3, h.c4⟩
  · rw [if_neg c1, if_neg c1]
    by_cases c2 : x = -1
    · rw [if_pos c2, if_pos c2]
      exact ⟨g, 6, rfl, h.c6, h.c7⟩
    · rw [if_neg c2, if_neg c2]
      exact ⟨gw, _, rfl, h.at_ _ (by omega), h.jb _ (by omega)⟩
theorem offered_ok {w : World} {B g gw : Nat} {va : Value} {s : LM} (h : LOOM w B g gw va s) : Calls Try.prog 37 #[.pointer (some ⟨g, 0, none⟩)] w fun e w' => ∃ j, e = .returned (.tuple #[.int .i64 j, .bool (OFFERED s).isSome]) ∧ Below w.heap.size w w' ∧ ∀ k, OFFERED s = some k → j = (k : Int) := by
  have x1 := h.c1
  have x3 := h.c3
  have x4 := h.c4
  have x8 := h.c8
  have x9 := h.c9
  clear h
  by_cases hr : s.room = 0
  · have hO : OFFERED s = (if 2 ≤ s.fd then some (s.fd - 2) else none) := if_pos hr
    rw [hO]
    rw [hr] at x1
    by_cases hf : 2 ≤ s.fd
    · rw [if_pos hf]
      rw [AT_busy hf] at x3
      rw [JB_busy hf] at x4
      generalize s.fd - 2 = j at *
      clear hO hr hf x8 x9
      have hS : Aside ((some j).isSome = true) := rfl
      rw [hS.out]
      have HJ : Aside (∀ k, some j = some k → (j : Int) = (k : Int)) := fun k e => by cases e; rfl
      go_enter Try.func37, Try.ntmps37
      go_upto_region 2 with fail
      go_quiet (fail)
      all_goals
        go_wp2
        go_ret2
        refine ⟨_, rfl, ?_, HJ.out⟩
        exact ⟨rfl, rfl, rfl, Nat.le_refl _, fun _ _ => rfl⟩
    · rw [if_neg hf]
      have h3 := AT_not hf
      generalize AT s.fd = A at *
      generalize JB s.fd = J at *
      have h3b : (A == 1) = false := by simp [h3]
      clear hO hr hf x8 x9
      go_enter Try.func37, Try.ntmps37
      go_upto_region 2 with fail
      go_quiet (fail)
      all_goals
        go_wp2
        go_ret2
        first
          | exact ⟨_, rfl, ⟨rfl, rfl, rfl, Nat.le_refl _, fun _ _ => rfl⟩, fun k e => by cases e⟩
          | exact ⟨_, rfl, ⟨rfl, rfl, rfl, Nat.le_refl _, fun _ _ => rfl⟩⟩
          | exact ⟨⟨_, rfl⟩, ⟨rfl, rfl, rfl, Nat.le_refl _, fun _ _ => rfl⟩⟩
  · have hO : OFFERED s = (if 0 < s.held then some s.first else none) := if_neg hr
    rw [hO]
    have h1 : ¬ (s.room : Int) = 0 := by omega
    generalize (s.room : Int) = R at *
    generalize AT s.fd = A at *
    generalize JB s.fd = J at *
    by_cases hf : 0 < s.held
    · rw [if_pos hf]
      have h2 : (0 : Int) < (s.held : Int) := by omega
      generalize (s.held : Int) = HH at *
      generalize s.first = F at *
      have HJ : Aside (∀ k, some F = some k → (F : Int) = (k : Int)) := fun k e => by cases e; rfl
      clear hO hr hf x3 x4
      go_enter Try.func37, Try.ntmps37
      go_upto_region 3 with fail
      go_quiet (fail)
      all_goals
        go_wp2
        go_ret2
        refine ⟨_, rfl, ?_, HJ.out⟩
        exact ⟨rfl, rfl, rfl, Nat.le_refl _, fun _ _ => rfl⟩
    · rw [if_neg hf]
      have h2 : ¬ (0 : Int) < (s.held : Int) := by omega
      generalize (s.held : Int) = HH at *
      generalize s.first = F at *
      clear hO hr hf x3 x4
      go_enter Try.func37, Try.ntmps37
      go_upto_region 3 with fail
      go_quiet (fail)
      all_goals
        go_wp2
        go_ret2
        first
          | exact ⟨_, rfl, ⟨rfl, rfl, rfl, Nat.le_refl _, fun _ _ => rfl⟩, fun k e => by cases e⟩
          | exact ⟨_, rfl, ⟨rfl, rfl, rfl, Nat.le_refl _, fun _ _ => rfl⟩⟩
          | exact ⟨⟨_, rfl⟩, ⟨rfl, rfl, rfl, Nat.le_refl _, fun _ _ => rfl⟩⟩
end Go.Proofs.Ytmgocdjmjnkbmaa
