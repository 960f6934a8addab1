/- A loom that a law has made: what its calls answer, from state to state; awake. -/
import Derived.Test.YtmgocdjmjnkbmaaLoomNew
import Derived.Test.YtmgocdjmjnkbmaaLoomGoes
namespace Go.Proofs.Ytmgocdjmjnkbmaa
open Go.RowKit
set_option maxRecDepth 100000

/-- a law that began in w0 has a loom at g in the state s. -/
structure HOLD (w0 : World) (g : Nat) (s : LM) (w : World) : Prop where
  loom : ∃ gw va, LOOM w w0.heap.size g gw va s
  below : Below w0.heap.size w0 w
  inv : INV s
  few : 1 ≤ s.W ∧ s.W ≤ 64
  jobs : s.jobs ≤ 65536
theorem INV.small {s : LM} (h : INV s) (hW : s.W ≤ 64) (hj : s.jobs ≤ 65536) : SMALL s := by
  have hb := h.base
  have h1 := hb.fed
  have h2 := made_most h
  have h3 := h.topw
  have h4 := hb.count
  refine ⟨hW, ?_, by omega, by omega, ?_, by omega, by omega⟩
  · rcases (by omega : 2 ≤ s.fd ∨ s.fd < 2) with hf | hf
    · have := hb.next hf
      omega
    · omega
  · split at h2 <;> omega
theorem HOLD.on {w0 w w' : World} {g : Nat} {s : LM} (h : HOLD w0 g s w) (hb : Below w.heap.size w w') : HOLD w0 g s w' := by
  obtain ⟨gw, va, hl⟩ := h.loom
  exact ⟨⟨gw, va, hl.below hb⟩, h.below.trans (hb.mono h.below.size), h.inv, h.few, h.jobs⟩
theorem HOLD.to {w0 w w' : World} {g gw : Nat} {va va' : Value} {s s' : LM} (h : HOLD w0 g s w) (hl : LOOM w w0.heap.size g gw va s) (ha : AFTER w w0.heap.size g gw va va' s' w') (hi : INV s') (hW : s'.W = s.W) (hj : s'.jobs = s.jobs) : HOLD w0 g s' w' :=
  ⟨⟨gw, va', ha.1⟩, h.below.trans (STEP.tobelow hl ha.2 h.below.size), hi, by rw [hW]; exact h.few, by rw [hj]; exact h.jobs⟩
theorem h_new (n jobs room : Nat) (h1 : 1 ≤ n) (h2 : n ≤ 64) (h3 : jobs ≤ 65536) (h4 : room ≤ 65536) (w : World) : Calls Try.prog 14 #[.int .i64 (n : Int), .int .i64 (jobs : Int), .int .i64 (room : Int)] w fun e w' => ∃ g, e = .returned (.tuple #[.pointer (some ⟨g, 0, none⟩), .int .i64 0]) ∧ HOLD w g (NEWL n jobs room) w' := by
  refine (new_ok n jobs room h1 h2 h3 h4 w).mono ?_
  rintro e w' ⟨g, gw, rfl, hl, hb⟩
  exact ⟨g, rfl, ⟨gw, _, hl⟩, hb, inv_new n jobs room, ⟨h1, h2⟩, h3⟩
/-- moves lie at a. -/
def MLIE (w : World) (a : Option Addr) (l : List MV) : Prop := ∀ i m, l[i]? = some m → ∃ b, a = some ⟨b, 0, none⟩ ∧ w.cell? ⟨b, i * 3, none⟩ = some (.int .i64 (m.1 : Int)) ∧ w.cell? ⟨b, i * 3 + 1, none⟩ = some (.int .i64 m.2.1) ∧ w.cell? ⟨b, i * 3 + 2, none⟩ = some (.int .i64 (m.2.2 : Int)) ∧ b < w.heap.size
theorem h_moves {w0 w : World} {g : Nat} {s : LM} (h : HOLD w0 g s w) : Calls Try.prog 16 #[.pointer (some ⟨g, 0, none⟩)] w fun e w' => ∃ a c, e = .returned (.slice a (MVS s).length c) ∧ MLIE w' a (MVS s) ∧ HOLD w0 g s w' := by
  obtain ⟨gw, va, hl⟩ := h.loom
  refine (moves_ok hl h.few.2).mono ?_
  rintro e w' ⟨v, rfl, ho, hb⟩
  obtain ⟨a, c, rfl, _⟩ := own_slice ho
  refine ⟨a, c, rfl, fun i m hm => ?_, h.on hb⟩
  obtain ⟨b, rfl, _, h1, h2, h3, h4⟩ := own_moves ho rfl i m hm
  exact ⟨b, rfl, h2, h3, h4, h1⟩
theorem h_move {w0 w : World} {g : Nat} {s : LM} (h : HOLD w0 g s w) (k : Nat) (m : MV) (hm : (MVS s)[k]? = some m) : Calls Try.prog 6 #[.pointer (some ⟨g, 0, none⟩), .int .i64 (k : Int)] w fun e w' => e = .returned (.int .i64 0) ∧ HOLD w0 g (DO s m) w' := by
  obtain ⟨gw, va, hl⟩ := h.loom
  refine (move_ok hl (h.inv.small h.few.2 h.jobs) k m hm).mono ?_
  rintro e w' ⟨rfl, va', ha⟩
  have hs := do_same s m
  exact ⟨rfl, h.to hl ha (inv_do h.inv (List.mem_of_getElem? hm)) hs.1 hs.2.1⟩
theorem h_move_not {w0 w : World} {g : Nat} {s : LM} (h : HOLD w0 g s w) (k : Int) (hk : k < 0 ∨ ((MVS s).length : Int) ≤ k) : Calls Try.prog 6 #[.pointer (some ⟨g, 0, none⟩), .int .i64 k] w fun e w' => e = .returned (.int .i64 130) ∧ HOLD w0 g s w' := by
  obtain ⟨gw, va, hl⟩ := h.loom
  refine (move_not hl h.few.2 k hk).mono ?_
  rintro e w' ⟨rfl, hb⟩
  exact ⟨rfl, h.on hb⟩
theorem h_gauge {w0 w : World} {g : Nat} {s : LM} (h : HOLD w0 g s w) : Calls Try.prog 17 #[.pointer (some ⟨g, 0, none⟩)] w fun e w' => e = .returned (.int .i64 (GAUGE s : Int)) ∧ HOLD w0 g s w' := by
  obtain ⟨gw, va, hl⟩ := h.loom
  refine (gauge_ok hl h.few.2).mono ?_
  rintro e w' ⟨rfl, hb⟩
  exact ⟨rfl, h.on hb⟩
theorem h_gone {w0 w : World} {g : Nat} {s : LM} (h : HOLD w0 g s w) : Calls Try.prog 28 #[.pointer (some ⟨g, 0, none⟩)] w fun e w' => e = .returned (.int .i64 (GONE s : Int)) ∧ HOLD w0 g s w' := by
  obtain ⟨gw, va, hl⟩ := h.loom
  refine (gonecount_ok hl h.few.2).mono ?_
  rintro e w' ⟨rfl, hb⟩
  exact ⟨rfl, h.on hb⟩
theorem h_top {w0 w : World} {g : Nat} {s : LM} (h : HOLD w0 g s w) : Calls Try.prog 27 #[.pointer (some ⟨g, 0, none⟩)] w fun e w' => e = .returned (.int .i64 (s.top : Int)) ∧ HOLD w0 g s w' := by
  obtain ⟨gw, va, hl⟩ := h.loom
  refine (top_ok hl).mono ?_
  rintro e w' ⟨rfl, rfl⟩
  exact ⟨rfl, h⟩
theorem h_made {w0 w : World} {g : Nat} {s : LM} (h : HOLD w0 g s w) : Calls Try.prog 18 #[.pointer (some ⟨g, 0, none⟩)] w fun e w' => e = .returned (.int .i64 (s.made : Int)) ∧ HOLD w0 g s w' := by
  obtain ⟨gw, va, hl⟩ := h.loom
  refine (made_ok hl).mono ?_
  rintro e w' ⟨rfl, rfl⟩
  exact ⟨rfl, h⟩
theorem h_outcome {w0 w : World} {g : Nat} {s : LM} (h : HOLD w0 g s w) : Calls Try.prog 30 #[.pointer (some ⟨g, 0, none⟩)] w fun e w' => e = .returned (.int .i64 (OUTC s : Int)) ∧ HOLD w0 g s w' := by
  obtain ⟨gw, va, hl⟩ := h.loom
  refine (outcome_ok hl).mono ?_
  rintro e w' ⟨rfl, hb⟩
  exact ⟨rfl, h.on hb⟩
theorem h_cancel {w0 w : World} {g : Nat} {s : LM} (h : HOLD w0 g s w) (hc : s.canc = false) : Calls Try.prog 12 #[.pointer (some ⟨g, 0, none⟩)] w fun e w' => e = .returned (.int .i64 0) ∧ HOLD w0 g (CANC s) w' := by
  obtain ⟨gw, va, hl⟩ := h.loom
  refine (cancel_ok hl hc).mono ?_
  rintro e w' ⟨rfl, ha⟩
  exact ⟨rfl, h.to hl ha (inv_canc h.inv) rfl rfl⟩
theorem h_cancel_not {w0 w : World} {g : Nat} {s : LM} (h : HOLD w0 g s w) (hc : s.canc = true) : Calls Try.prog 12 #[.pointer (some ⟨g, 0, none⟩)] w fun e w' => e = .returned (.int .i64 130) ∧ HOLD w0 g s w' := by
  obtain ⟨gw, va, hl⟩ := h.loom
  refine (cancel_not hl hc).mono ?_
  rintro e w' ⟨rfl, rfl⟩
  exact ⟨rfl, h⟩
theorem mvs_two : MVS (NEWL 2 2 0) = [(2, 0, 0), (2, 1, 0)] := by decide
theorem gauge_two : GAUGE (DO (NEWL 2 2 0) (2, 1, 0)) = 1 := by decide
theorem made_two : (DO (NEWL 2 2 0) (2, 1, 0)).made = 1 := rfl
theorem mvs_two' : (MVS (DO (NEWL 2 2 0) (2, 1, 0))).length ≤ 5 := by decide
set_option maxHeartbeats 1000000 in
theorem awake13_ok (w : World) : Calls Try.prog 5 #[] w fun e w' => e = .returned (.bool true) ∧ Below w.heap.size w w' := by
  have cn := h_new 2 2 0 (by omega) (by omega) (by omega) (by omega) w
  go_enter Try.func5, Try.ntmps5
  go_wp2_with fail
  refine cn.mono ?_
  rintro e w1 ⟨g, rfl, h1⟩
  clear cn
  have cm := h_moves h1
  rw [mvs_two] at cm
  clear h1
  go_wp2_with fail
  refine cm.mono ?_
  rintro e w2 ⟨a, c, rfl, hl, h2⟩
  clear cm
  obtain ⟨b, rfl, y0, y1, y2, _⟩ := hl 1 (2, 1, 0) rfl
  have cv := h_move h2 1 (2, 1, 0) (by rw [mvs_two]; rfl)
  clear hl h2
  go_wp2_with fail
  refine cv.mono ?_
  rintro e w3 ⟨rfl, h3⟩
  clear cv y0 y1 y2
  have cg := h_gauge h3
  rw [gauge_two] at cg
  go_wp2_with fail
  refine cg.mono ?_
  rintro e w4 ⟨rfl, h4⟩
  clear cg h3
  have cd := h_made h4
  rw [made_two] at cd
  go_wp2_with fail
  refine cd.mono ?_
  rintro e w5 ⟨rfl, h5⟩
  clear cd h4
  have ce := h_move_not h5 5 (.inr (by have := mvs_two'; omega))
  go_wp2_with fail
  refine ce.mono ?_
  rintro e w6 ⟨rfl, h6⟩
  clear ce h5
  go_wp2
  go_ret
  exact ⟨rfl, h6.below⟩
end Go.Proofs.Ytmgocdjmjnkbmaa
