/- New, Move, Cancel and what a loom tells. -/
import Derived.Test.YtmgocdjmjnkbmaaLoomDo
namespace Go.Proofs.Ytmgocdjmjnkbmaa
open Go.RowKit
set_option maxRecDepth 100000

/-- numbers that New refuses. -/
def REF (a b c : Int) : Prop := a < 1 ∨ 64 < a ∨ b < 0 ∨ 65536 < b ∨ c < 0 ∨ 65536 < c
theorem refused_yes (a b c : Int) (h : REF a b c) (w : World) : Calls Try.prog 31 #[.int .i64 a, .int .i64 b, .int .i64 c] w fun e w' => e = .returned (.bool true) ∧ w = w' := by
  by_cases h1 : a < 1
  · clear h
    go_enter Try.func31, Try.ntmps31
    go_wp2
    go_ret
    exact ⟨rfl, rfl⟩
  · by_cases h2 : 64 < a
    · clear h
      go_enter Try.func31, Try.ntmps31
      go_wp2
      go_ret
      exact ⟨rfl, rfl⟩
    · by_cases h3 : b < 0
      · clear h
        go_enter Try.func31, Try.ntmps31
        go_wp2
        go_ret
        exact ⟨rfl, rfl⟩
      · by_cases h4 : 65536 < b
        · clear h
          go_enter Try.func31, Try.ntmps31
          go_wp2
          go_ret
          exact ⟨rfl, rfl⟩
        · by_cases h5 : c < 0
          · clear h
            go_enter Try.func31, Try.ntmps31
            go_wp2
            go_ret
            exact ⟨rfl, rfl⟩
          · have h6 : 65536 < c := by unfold REF at h; omega
            clear h
            go_enter Try.func31, Try.ntmps31
            go_wp2
            go_ret
            exact ⟨rfl, rfl⟩
theorem refused_no (a b c : Int) (h : ¬ REF a b c) (w : World) : Calls Try.prog 31 #[.int .i64 a, .int .i64 b, .int .i64 c] w fun e w' => e = .returned (.bool false) ∧ w = w' := by
  have h1 : ¬ a < 1 := fun e => h (.inl e)
  have h2 : ¬ 64 < a := fun e => h (.inr (.inl e))
  have h3 : ¬ b < 0 := fun e => h (.inr (.inr (.inl e)))
  have h4 : ¬ 65536 < b := fun e => h (.inr (.inr (.inr (.inl e))))
  have h5 : ¬ c < 0 := fun e => h (.inr (.inr (.inr (.inr (.inl e)))))
  have h6 : ¬ 65536 < c := fun e => h (.inr (.inr (.inr (.inr (.inr e)))))
  clear h
  go_enter Try.func31, Try.ntmps31
  go_wp2
  go_ret
  exact ⟨rfl, rfl⟩
/-- a loom that has made no move. -/
def NEWL (n jobs room : Nat) : LM := { jobs := jobs, room := room, W := n, canc := false, fd := NEXTF 0 jobs, ws := fun _ => 0, col := if jobs = 0 then 1 else 0, first := 0, held := 0, made := 0, top := 0, ans := [] }
theorem info_state : (Try.prog.info? 54).map (fun i => (i.zero, i.size, i.bytes)) = some (some (.agg #[.int .i64 0, .int .i64 0]), 2, 16) := by kernel_rfl
theorem make_states (n : Nat) (hn : n ≤ 64) (w : World) : ∃ c : Array Value, (Instr.makeSlice 55 (.int .i64 (n : Int)) (.int .i64 (n : Int))).run Try.prog w = .ok (.slice (some ⟨w.heap.size, 0, none⟩) n n) (w.alloc (.cells c 54)) ∧ ∀ j, j < n * 2 → c[j]? = some (.int .i64 0) := by
  obtain ⟨i, hi, hz, hs1, hby⟩ := info_parts info_state
  have h := run_make (P := Try.prog) w 55 54 i _ Try.underlying55 hi hz .i64 .i64 n n (by omega) (by omega) (by rw [hby]; omega) (by omega)
  rw [Int.toNat_natCast] at h
  refine ⟨_, h, ?_⟩
  intro j hj
  rw [hs1]
  have h2 : j % 2 = 0 ∨ j % 2 = 1 := by omega
  have hc : (Value.agg #[.int .i64 0, .int .i64 0]).cells = #[.int .i64 0, .int .i64 0] := rfl
  rw [hc]
  rcases h2 with h2 | h2 <;> simp [madeCells, hj, h2]
/-- what New answers. -/
def NEWD (w : World) (n jobs room : Nat) (e : Ending) (w' : World) : Prop := ∃ g gw, e = .returned (.tuple #[.pointer (some ⟨g, 0, none⟩), .int .i64 0]) ∧ LOOM w' w.heap.size g gw (.slice none 0 0) (NEWL n jobs room) ∧ Below w.heap.size w w'
set_option maxHeartbeats 1000000 in
theorem new_ok (n jobs room : Nat) (h1 : 1 ≤ n) (h2 : n ≤ 64) (h3 : jobs ≤ 65536) (h4 : room ≤ 65536) (w : World) : Calls Try.prog 14 #[.int .i64 (n : Int), .int .i64 (jobs : Int), .int .i64 (room : Int)] w (NEWD w n jobs room) := by
  have cr := refused_no (n : Int) (jobs : Int) (room : Int) (by unfold REF; omega) w
  have hj : jobs = 0 ∨ 0 < jobs := by omega
  have HZ : Aside (∀ w2 : World, ∃ c : Array Value, (Instr.makeSlice 55 (.int .i64 (n : Int)) (.int .i64 (n : Int))).run Try.prog w2 = .ok (.slice (some ⟨w2.heap.size, 0, none⟩) n n) (w2.alloc (.cells c 54)) ∧ ∀ j, j < n * 2 → c[j]? = some (.int .i64 0)) := make_states n h2
  have HB : Aside (∀ w2 : World, Calls Try.prog 32 #[.int .i64 0, .int .i64 (jobs : Int)] w2 fun e w' => e = .returned (.agg #[.int .i64 (AT (NEXTF 0 jobs)), .int .i64 (JB (NEXTF 0 jobs))]) ∧ Below w2.heap.size w2 w') := before_ok 0 jobs
  clear h1 h2 h3 h4
  go_enter Try.func14, Try.ntmps14
  go_wp2_with fail
  refine cr.mono ?_
  rintro e w1 ⟨rfl, rfl⟩
  clear cr
  go_upto_region 3 with fail
  have hcell : ∀ (gw : Nat) (w2 : World) (c : Array Value), Has w2 gw c 54 → (∀ j, j < n * 2 → c[j]? = some (.int .i64 0)) → ∀ j, j < n * 2 → w2.cell? ⟨gw, j, none⟩ = some (.int .i64 0) := fun gw w2 c hc hz j hj => (hc.cell j).trans (hz j hj)
  refine new3 _ n jobs room w.heap.size (AT (NEXTF 0 jobs)) (JB (NEXTF 0 jobs)) (fun w2 => Below w.heap.size w w2) (fun gw w2 => Below w.heap.size w w2 ∧ w.heap.size ≤ gw ∧ gw < w2.heap.size ∧ ∃ c, Has w2 gw c 54 ∧ ∀ j, j < n * 2 → c[j]? = some (.int .i64 0)) (fun c => ∀ j, j < n * 2 → c[j]? = some (.int .i64 0)) ⟨rfl, rfl, rfl, Nat.le_refl _, fun _ _ => rfl⟩ HZ.out (fun w2 c h2 hz => ⟨h2.alloc h2.size _, h2.size, by simp, c, Has.new _ _ _, hz⟩) (fun gw w2 o h2 => ⟨h2.1.alloc h2.1.size _, h2.2.1, by simp; exact Nat.lt_succ_of_lt h2.2.2.1, h2.2.2.2.imp fun c hc => ⟨hc.1.alloc _, hc.2⟩⟩) (fun gw w2 h2 => by have := h2.2.2.1; omega) (fun gw w2 h2 => h2.1.size) (fun w2 h2 => (HB.out w2).mono fun e w3 (h3 : _ ∧ _) => (⟨h3.1, h2.trans (h3.2.mono h2.size)⟩ : e = _ ∧ Below w.heap.size w w3)) (fun gw w2 h2 => (HB.out w2).mono fun e w3 (h3 : _ ∧ _) => (⟨h3.1, h2.1.trans (h3.2.mono h2.1.size), h2.2.1, Nat.lt_of_lt_of_le h2.2.2.1 h3.2.size, h2.2.2.2.imp fun c hc => ⟨hc.1.below h3.2 h2.2.2.1, hc.2⟩⟩ : e = _ ∧ _)) (fun _ _ _ _ _ h => h) ?_
  rintro gw gl w2 ⟨⟨q1, q2, q3, c, q4, q5⟩, q6, q7, q8⟩
  have L : LOOM w2 w.heap.size gl gw (.slice none 0 0) { NEWL n jobs room with col := 0 } := ⟨q6, ⟨c, q4⟩, fun i hi => hcell gw w2 c q4 q5 _ (by have : i < n := hi; omega), fun i hi => hcell gw w2 c q4 q5 _ (by have : i < n := hi; omega), World.ownsRow_nil _ _ _ _, q7, (fun e => by cases e), (fun e => by cases e), q8, q2⟩
  have HL : Aside (LOOM w2 w.heap.size gl gw (.slice none 0 0) { NEWL n jobs room with col := 0 } ∧ Below w.heap.size w w2) := ⟨L, q1⟩
  clear q1 q2 q3 q4 q5 q6 q7 q8 L hcell
  rcases hj with hj | hj
  · subst hj
    have x6 := HL.out.1.c6
    have x7 := HL.out.1.c7
    have z6 := HL.out.1.row.frozen 6
    have z7 := HL.out.1.row.frozen 7
    have HM : Aside (LOOM ((w2.setCell ⟨gl, 6, none⟩ (.int .i64 2)).setCell ⟨gl, 7, none⟩ (.int .i64 0)) w.heap.size gl gw (.slice none 0 0) (NEWL n 0 room) ∧ Below w.heap.size w ((w2.setCell ⟨gl, 6, none⟩ (.int .i64 2)).setCell ⟨gl, 7, none⟩ (.int .i64 0))) := ⟨HL.out.1.setcol 1, (HL.out.2.setCell (p := ⟨gl, 6, none⟩) HL.out.1.bg _).setCell (p := ⟨gl, 7, none⟩) HL.out.1.bg _⟩
    go_wp2
    go_ret2
    exact ⟨gl, gw, rfl, HM.out.1, HM.out.2⟩
  · have hq : ((jobs : Int) == 0) = false := by simp; omega
    have hq2 : ¬ (jobs : Int) = 0 := by omega
    have HM : Aside (LOOM w2 w.heap.size gl gw (.slice none 0 0) (NEWL n jobs room)) := by
      have e : (NEWL n jobs room) = { NEWL n jobs room with col := 0 } := by unfold NEWL; rw [if_neg (by omega)]
      rw [e]
      exact HL.out.1
    go_wp2
    go_ret2
    exact ⟨gl, gw, rfl, HM.out, HL.out.2⟩
theorem new_not (a b c : Int) (h : REF a b c) (w : World) : Calls Try.prog 14 #[.int .i64 a, .int .i64 b, .int .i64 c] w fun e w' => e = .returned (.tuple #[.pointer none, .int .i64 1]) ∧ w = w' := by
  have cr := refused_yes a b c h w
  clear h
  go_enter Try.func14, Try.ntmps14
  go_wp2_with fail
  refine cr.mono ?_
  rintro e w1 ⟨rfl, rfl⟩
  clear cr
  go_wp2
  go_ret2
  exact ⟨rfl, rfl⟩
/-- how many moves there are at most. -/
def MOST (n jobs room : Nat) : Nat := n + 1 + (if room = 0 then 2 * jobs else 3 * jobs)
theorem top_ok {w : World} {B g gw : Nat} {va : Value} {s : LM} (h : LOOM w B g gw va s) : Calls Try.prog 27 #[.pointer (some ⟨g, 0, none⟩)] w fun e w' => e = .returned (.int .i64 (s.top : Int)) ∧ w = w' := by
  have x := h.c11
  clear h
  go_enter Try.func27, Try.ntmps27
  go_wp2
  go_ret
  exact ⟨rfl, rfl⟩
theorem made_ok {w : World} {B g gw : Nat} {va : Value} {s : LM} (h : LOOM w B g gw va s) : Calls Try.prog 18 #[.pointer (some ⟨g, 0, none⟩)] w fun e w' => e = .returned (.int .i64 (s.made : Int)) ∧ w = w' := by
  have x := h.c10
  clear h
  go_enter Try.func18, Try.ntmps18
  go_wp2
  go_ret
  exact ⟨rfl, rfl⟩
/-- how it went. -/
def OUTC (s : LM) : Nat := if s.col = 1 then (if s.ans.length = s.jobs then 1 else 2) else 0
theorem own_slice {w : World} {C n : Nat} {t : TypeId} {z : Nat} {v : Value} {xs : List Value} (h : w.ownsRow C t z v n xs) : ∃ a c, v = .slice a n c ∧ (a = none → n = 0 ∧ c = 0) := by
  rcases h.2 with ⟨rfl, rfl⟩ | ⟨g, c, cur, rfl, _⟩
  · exact ⟨none, 0, rfl, fun _ => ⟨rfl, rfl⟩⟩
  · exact ⟨_, c, rfl, fun e => by cases e⟩
theorem outcome_ok {w : World} {B g gw : Nat} {va : Value} {s : LM} (h : LOOM w B g gw va s) : Calls Try.prog 30 #[.pointer (some ⟨g, 0, none⟩)] w fun e w' => e = .returned (.int .i64 (OUTC s : Int)) ∧ Below w.heap.size w w' := by
  have x6 := h.c6
  have x7 := h.c7
  have cg := gone_ok s.col w
  have HL : Aside (LOOM w B g gw va s) := h
  clear h
  by_cases hc : s.col = 1
  · rw [decide_eq_true hc] at cg
    obtain ⟨a, c, ha, _⟩ := own_slice HL.out.own
    have HO : Aside (OUTC s = if s.ans.length = s.jobs then 1 else 2) := if_pos hc
    generalize AT s.col = A at *
    generalize JB s.col = J at *
    go_enter Try.func30, Try.ntmps30
    go_wp2_with fail
    refine cg.mono ?_
    rintro e w1 ⟨rfl, hb⟩
    have L1 := HL.out.below hb
    have x12 := L1.c12
    have x0 := L1.c0
    have HB : Aside (Below w.heap.size w w1) := hb
    rw [ha] at x12
    generalize s.ans.length = NL at *
    generalize s.jobs = NJ at *
    clear L1 hb cg hc ha x6 x7 HL
    by_cases hq : NL = NJ
    · have hq1 : ((NL : Int) == (NJ : Int)) = true := by simp [hq]
      rw [if_pos hq] at HO
      clear hq
      go_upto_region 3 with fail
      go_quiet (fail)
      all_goals
        go_wp2
        go_ret
        exact ⟨by rw [HO.out]; rfl, HB.out.trans ⟨rfl, rfl, rfl, Nat.le_refl _, fun _ _ => rfl⟩⟩
    · have hq1 : ((NL : Int) == (NJ : Int)) = false := by simp; omega
      have hq2 : ¬ (NL : Int) = (NJ : Int) := by omega
      rw [if_neg hq] at HO
      clear hq
      go_upto_region 3 with fail
      go_quiet (fail)
      all_goals
        go_wp2
        go_ret
        exact ⟨by rw [HO.out]; rfl, HB.out.trans ⟨rfl, rfl, rfl, Nat.le_refl _, fun _ _ => rfl⟩⟩
  · rw [decide_eq_false hc] at cg
    have HO : Aside (OUTC s = 0) := if_neg hc
    rw [HO.out]
    generalize AT s.col = A at *
    generalize JB s.col = J at *
    go_enter Try.func30, Try.ntmps30
    go_wp2_with fail
    refine cg.mono ?_
    rintro e w1 ⟨rfl, hb⟩
    go_wp2
    go_ret
    exact ⟨rfl, hb⟩
/-- the cancel. -/
def CANC (s : LM) : LM := { s with canc := true }
theorem cancel_ok {w : World} {B g gw : Nat} {va : Value} {s : LM} (h : LOOM w B g gw va s) (hc : s.canc = false) : Calls Try.prog 12 #[.pointer (some ⟨g, 0, none⟩)] w fun e w' => e = .returned (.int .i64 0) ∧ AFTER w B g gw va va (CANC s) w' := by
  have x := h.c2
  have z := h.row.frozen 2
  rw [hc] at x
  have HL : Aside (LOOM w B g gw va s) := h
  clear h hc
  go_enter Try.func12, Try.ntmps12
  go_wp2
  go_ret
  exact ⟨rfl, HL.out.store (HL.out.row.set 2 _) (fun k hk => Below.heap_setCell w _ _ k hk) rfl rfl rfl, STEP.set (a := ⟨g, 2, none⟩) (.inl rfl) _⟩
theorem cancel_not {w : World} {B g gw : Nat} {va : Value} {s : LM} (h : LOOM w B g gw va s) (hc : s.canc = true) : Calls Try.prog 12 #[.pointer (some ⟨g, 0, none⟩)] w fun e w' => e = .returned (.int .i64 130) ∧ w = w' := by
  have x := h.c2
  rw [hc] at x
  clear h hc
  go_enter Try.func12, Try.ntmps12
  go_wp2
  go_ret
  exact ⟨rfl, rfl⟩
/-- moves lie there. -/
theorem own_moves {w : World} {C n c : Nat} {a : Option Addr} {l : List MV} (h : w.ownsRow C 42 3 (.slice a n c) n (MCELLS l)) (hl : l.length = n) (i : Nat) (m : MV) (hm : l[i]? = some m) : ∃ b, a = some ⟨b, 0, none⟩ ∧ C ≤ b ∧ b < w.heap.size ∧ w.cell? ⟨b, i * 3, none⟩ = some (.int .i64 (m.1 : Int)) ∧ w.cell? ⟨b, i * 3 + 1, none⟩ = some (.int .i64 m.2.1) ∧ w.cell? ⟨b, i * 3 + 2, none⟩ = some (.int .i64 (m.2.2 : Int)) := by
  have hi : i < n := by rw [← hl]; exact (List.getElem?_eq_some_iff.1 hm).1
  rcases h.2 with ⟨e, h0⟩ | ⟨b, c', cur, e, hb, hg, r⟩
  · omega
  · cases e
    have hat := MCELLS_at l i m hm
    exact ⟨b, rfl, hb, (Array.getElem?_eq_some_iff.1 hg).1, (h.cellAt (i * 3) (by omega)).trans hat.1, (h.cellAt (i * 3 + 1) (by omega)).trans hat.2.1, (h.cellAt (i * 3 + 2) (by omega)).trans hat.2.2⟩
/-- a move is made. -/
def MOVED (w : World) (B g gw : Nat) (va : Value) (s : LM) (e : Ending) (w' : World) : Prop := e = .returned (.int .i64 0) ∧ ∃ va', AFTER w B g gw va va' s w'
theorem move_not {w : World} {B g gw : Nat} {va : Value} {s : LM} (h : LOOM w B g gw va s) (hW : s.W ≤ 64) (k : Int) (hk : k < 0 ∨ ((MVS s).length : Int) ≤ k) : Calls Try.prog 6 #[.pointer (some ⟨g, 0, none⟩), .int .i64 k] w fun e w' => e = .returned (.int .i64 130) ∧ Below w.heap.size w w' := by
  have cm := moves_ok h hW
  clear h hW
  generalize MVS s = l at *
  go_enter Try.func6, Try.ntmps6
  go_wp2_with fail
  refine cm.mono ?_
  rintro e w1 ⟨v, rfl, ho, hb⟩
  clear cm
  obtain ⟨a, c, rfl, _⟩ := own_slice ho
  have HB : Aside (Below w.heap.size w w1) := hb
  clear ho hb
  by_cases h1 : k < 0
  · clear hk
    go_wp2
    go_ret
    exact ⟨rfl, HB.out⟩
  · have h2 : (l.length : Int) ≤ k := by omega
    generalize l.length = n at *
    clear hk
    go_wp2
    go_ret
    exact ⟨rfl, HB.out⟩
set_option maxHeartbeats 1000000 in
theorem move_ok {w : World} {B g gw : Nat} {va : Value} {s : LM} (h : LOOM w B g gw va s) (hs : SMALL s) (k : Nat) (m : MV) (hm : (MVS s)[k]? = some m) : Calls Try.prog 6 #[.pointer (some ⟨g, 0, none⟩), .int .i64 (k : Int)] w (MOVED w B g gw va (DO s m)) := by
  have cm := moves_ok h hs.w
  have HA : Aside (LOOM w B g gw va s ∧ SMALL s ∧ m ∈ MVS s ∧ (MVS s)[k]? = some m) := ⟨h, hs, List.mem_of_getElem? hm, hm⟩
  have hk : k < (MVS s).length := (List.getElem?_eq_some_iff.1 hm).1
  clear h hs hm
  go_enter Try.func6, Try.ntmps6
  go_wp2_with fail
  refine cm.mono ?_
  rintro e w1 ⟨v, rfl, ho, hb⟩
  clear cm
  obtain ⟨a, c, rfl, _⟩ := own_slice ho
  obtain ⟨b, rfl, _, _, y0, y1, y2⟩ := own_moves ho rfl k m HA.out.2.2.2
  have L1 := HA.out.1.below hb
  have cd := do_ok L1 HA.out.2.1 m HA.out.2.2.1
  have hmv : MVAL m.1 m.2.1 m.2.2 = #[.int .i64 (m.1 : Int), .int .i64 m.2.1, .int .i64 (m.2.2 : Int)] := rfl
  rw [hmv] at cd
  have HB : Aside (STEP g gw va va w w1) := STEP.below hb
  have hk1 : (k : Int) < ((MVS s).length : Int) := by omega
  have hk2 : ¬ (k : Int) < 0 := by omega
  have hk3 : ¬ ((MVS s).length : Int) ≤ (k : Int) := by omega
  generalize (MVS s).length = n at *
  generalize (m.1 : Int) = M1 at *
  generalize m.2.1 = M2 at *
  generalize (m.2.2 : Int) = M3 at *
  clear ho hb L1 hmv
  go_wp2_with fail
  refine cd.mono ?_
  rintro e w2 ⟨rfl, va', q1, q2⟩
  clear cd y0 y1 y2
  have R : Aside (AFTER w B g gw va va' (DO s m) w2) := ⟨q1, HB.out.trans q2⟩
  clear q1 q2
  go_wp2
  go_ret
  exact ⟨rfl, va', R.out⟩
end Go.Proofs.Ytmgocdjmjnkbmaa
