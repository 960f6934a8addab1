/- A loom as it lies in memory; the state of one who stands there. -/
import Derived.Test.YtmgocdjmjnkbmaaLoomPlain
import Derived.Test.YtmgocdjmjnkbmaaPosHas
namespace Go.Proofs.Ytmgocdjmjnkbmaa
open Go.RowKit
set_option maxRecDepth 100000

/-- where one stands, and the job in hand, as numbers of the program. -/
def AT (x : Nat) : Int := if x = 0 then 0 else if x = 1 then 2 else 1
def JB (x : Nat) : Int := if 2 ≤ x then ((x - 2 : Nat) : Int) else 0
theorem AT_zero : AT 0 = 0 := rfl
theorem AT_one : AT 1 = 2 := rfl
theorem JB_zero : JB 0 = 0 := rfl
theorem JB_one : JB 1 = 0 := rfl
theorem AT_busy {x : Nat} (h : 2 ≤ x) : AT x = 1 := by unfold AT; rw [if_neg (by omega), if_neg (by omega)]
theorem JB_busy {x : Nat} (h : 2 ≤ x) : JB x = ((x - 2 : Nat) : Int) := if_pos h
theorem free_ok (x : Nat) (w : World) : Calls Try.prog 39 #[.agg #[.int .i64 (AT x), .int .i64 (JB x)]] w fun e w' => e = .returned (.bool (decide (x = 0))) ∧ Below w.heap.size w w' := by
  by_cases h : x = 0
  · subst h
    rw [AT_zero, JB_zero]
    go_enter Try.func39, Try.ntmps39
    go_wp2
    go_ret
    exact ⟨rfl, (Below.refl _ _).alloc (Nat.le_refl _) _⟩
  · have h1 : ¬ AT x = 0 := by
      unfold AT
      rw [if_neg h]
      split <;> omega
    rw [decide_eq_false h]
    generalize AT x = A at *
    generalize JB x = J at *
    clear h
    go_enter Try.func39, Try.ntmps39
    go_wp2
    go_ret
    exact ⟨rfl, (Below.refl _ _).alloc (Nat.le_refl _) _⟩
theorem gone_ok (x : Nat) (w : World) : Calls Try.prog 40 #[.agg #[.int .i64 (AT x), .int .i64 (JB x)]] w fun e w' => e = .returned (.bool (decide (x = 1))) ∧ Below w.heap.size w w' := by
  by_cases h : x = 1
  · subst h
    rw [AT_one, JB_one]
    go_enter Try.func40, Try.ntmps40
    go_wp2
    go_ret
    exact ⟨rfl, (Below.refl _ _).alloc (Nat.le_refl _) _⟩
  · have h1 : ¬ AT x = 2 := by
      unfold AT
      by_cases h0 : x = 0
      · rw [if_pos h0]
        omega
      · rw [if_neg h0, if_neg h]
        omega
    rw [decide_eq_false h]
    generalize AT x = A at *
    generalize JB x = J at *
    clear h
    go_enter Try.func40, Try.ntmps40
    go_wp2
    go_ret
    exact ⟨rfl, (Below.refl _ _).alloc (Nat.le_refl _) _⟩
theorem before_ok (j n : Nat) (w : World) : Calls Try.prog 32 #[.int .i64 (j : Int), .int .i64 (n : Int)] w fun e w' => e = .returned (.agg #[.int .i64 (AT (NEXTF j n)), .int .i64 (JB (NEXTF j n))]) ∧ Below w.heap.size w w' := by
  by_cases h : j < n
  · have h1 : (j : Int) < (n : Int) := by omega
    have e : NEXTF j n = j + 2 := if_pos h
    rw [e, AT_busy (by omega), JB_busy (by omega), Nat.add_sub_cancel]
    go_enter Try.func32, Try.ntmps32
    go_wp2
    exact bodyPost_ret (results_cell_row rfl _ _ w.heap.size 54 _ (0, 0) _ rfl (Has.new _ _ _) Try.underlying54 rfl (by kernel_rfl)) rfl ⟨rfl, ((Below.refl _ _).alloc (Nat.le_refl _) _)⟩
  · have h1 : ¬ (j : Int) < (n : Int) := by omega
    have e : NEXTF j n = 0 := if_neg h
    rw [e, AT_zero, JB_zero]
    go_enter Try.func32, Try.ntmps32
    go_wp2
    exact bodyPost_ret (results_cell_row rfl _ _ w.heap.size 54 _ (0, 0) _ rfl (Has.new _ _ _) Try.underlying54 rfl (by kernel_rfl)) rfl ⟨rfl, ((Below.refl _ _).alloc (Nat.le_refl _) _)⟩
/-- the cells of a loom. -/
def LC (s : LM) (gw : Nat) (va : Value) : Array Value := #[.int .i64 (s.jobs : Int), .int .i64 (s.room : Int), .bool s.canc, .int .i64 (AT s.fd), .int .i64 (JB s.fd), .slice (some ⟨gw, 0, none⟩) s.W s.W, .int .i64 (AT s.col), .int .i64 (JB s.col), .int .i64 (s.first : Int), .int .i64 (s.held : Int), .int .i64 (s.made : Int), .int .i64 (s.top : Int), va]
def ICELLS (l : List Nat) : List Value := l.map fun x => Value.int .i64 ((x : Nat) : Int)
/-- a loom lies at g, its workers at gw, its answers are va. -/
structure LOOM (w : World) (B g gw : Nat) (va : Value) (s : LM) : Prop where
  row : Has w g (LC s gw va) 57
  wk : ∃ c, Has w gw c 54
  at_ : ∀ i, i < s.W → w.cell? ⟨gw, i * 2, none⟩ = some (.int .i64 (AT (s.ws i)))
  jb : ∀ i, i < s.W → w.cell? ⟨gw, i * 2 + 1, none⟩ = some (.int .i64 (JB (s.ws i)))
  own : w.ownsRow B 3 1 va s.ans.length (ICELLS s.ans)
  ne : g ≠ gw
  ag : va.ownBlock ≠ some g
  aw : va.ownBlock ≠ some gw
  bg : B ≤ g
  bw : B ≤ gw
/-- the blocks of a loom. -/
def FOOT (g gw : Nat) (va : Value) (k : Nat) : Prop := k = g ∨ k = gw ∨ va.ownBlock = some k
theorem LOOM.lt {w : World} {B g gw : Nat} {va : Value} {s : LM} (h : LOOM w B g gw va s) : g < w.heap.size ∧ gw < w.heap.size := by
  obtain ⟨c, hc⟩ := h.wk
  exact ⟨h.row.lt, hc.lt⟩
theorem own_lt {w : World} {B n : Nat} {t : TypeId} {z : Nat} {v : Value} {xs : List Value} (h : w.ownsRow B t z v n xs) {k : Nat} (e : v.ownBlock = some k) : B ≤ k ∧ k < w.heap.size := h.lt k e
theorem LOOM.foot {w : World} {B g gw : Nat} {va : Value} {s : LM} (h : LOOM w B g gw va s) {k : Nat} (hk : FOOT g gw va k) : B ≤ k ∧ k < w.heap.size := by
  rcases hk with rfl | rfl | hk
  · exact ⟨h.bg, h.lt.1⟩
  · exact ⟨h.bw, h.lt.2⟩
  · exact own_lt h.own hk
/-- each block of the loom is as it was. -/
theorem own_turn {w w' : World} {B n : Nat} {t : TypeId} {z : Nat} {v : Value} {xs : List Value} (h : w.ownsRow B t z v n xs) (ht : ∀ k, v.ownBlock = some k → w'.heap[k]? = w.heap[k]?) : w'.ownsRow B t z v n xs := by
  refine ⟨h.1, h.2.imp id ?_⟩
  rintro ⟨g, c, cur, rfl, b, r, rest⟩
  exact ⟨g, c, cur, rfl, b, (ht g rfl).trans r, rest⟩
theorem LOOM.turn {w w' : World} {B g gw : Nat} {va : Value} {s : LM} (h : LOOM w B g gw va s) (ht : ∀ k, FOOT g gw va k → w'.heap[k]? = w.heap[k]?) : LOOM w' B g gw va s := by
  have e1 := ht g (.inl rfl)
  have e2 := ht gw (.inr (.inl rfl))
  refine ⟨e1.trans h.row, ?_, fun i hi => (World.cell?_of_block (w := w) e2).trans (h.at_ i hi), fun i hi => (World.cell?_of_block (w := w) e2).trans (h.jb i hi), own_turn h.own (fun k e => ht k (.inr (.inr e))), h.ne, h.ag, h.aw, h.bg, h.bw⟩
  obtain ⟨c, hc⟩ := h.wk
  exact ⟨c, e2.trans hc⟩
theorem LOOM.below {w w' : World} {B g gw : Nat} {va : Value} {s : LM} (h : LOOM w B g gw va s) (hb : Below w.heap.size w w') : LOOM w' B g gw va s := h.turn fun k hk => hb.block k (h.foot hk).2
theorem LOOM.at2 {w : World} {B g gw : Nat} {va : Value} {s : LM} (h : LOOM w B g gw va s) (i : Nat) (hi : i < s.W) : w.cell? ⟨gw, 2 * i, none⟩ = some (.int .i64 (AT (s.ws i))) := by rw [Nat.mul_comm]; exact h.at_ i hi
theorem LOOM.c0 {w : World} {B g gw : Nat} {va : Value} {s : LM} (h : LOOM w B g gw va s) : w.cell? ⟨g, 0, none⟩ = some (.int .i64 (s.jobs : Int)) := h.row.cell 0
theorem LOOM.c1 {w : World} {B g gw : Nat} {va : Value} {s : LM} (h : LOOM w B g gw va s) : w.cell? ⟨g, 1, none⟩ = some (.int .i64 (s.room : Int)) := h.row.cell 1
theorem LOOM.c2 {w : World} {B g gw : Nat} {va : Value} {s : LM} (h : LOOM w B g gw va s) : w.cell? ⟨g, 2, none⟩ = some (.bool s.canc) := h.row.cell 2
theorem LOOM.c3 {w : World} {B g gw : Nat} {va : Value} {s : LM} (h : LOOM w B g gw va s) : w.cell? ⟨g, 3, none⟩ = some (.int .i64 (AT s.fd)) := h.row.cell 3
theorem LOOM.c4 {w : World} {B g gw : Nat} {va : Value} {s : LM} (h : LOOM w B g gw va s) : w.cell? ⟨g, 4, none⟩ = some (.int .i64 (JB s.fd)) := h.row.cell 4
theorem LOOM.c5 {w : World} {B g gw : Nat} {va : Value} {s : LM} (h : LOOM w B g gw va s) : w.cell? ⟨g, 5, none⟩ = some (.slice (some ⟨gw, 0, none⟩) s.W s.W) := h.row.cell 5
theorem LOOM.c6 {w : World} {B g gw : Nat} {va : Value} {s : LM} (h : LOOM w B g gw va s) : w.cell? ⟨g, 6, none⟩ = some (.int .i64 (AT s.col)) := h.row.cell 6
theorem LOOM.c7 {w : World} {B g gw : Nat} {va : Value} {s : LM} (h : LOOM w B g gw va s) : w.cell? ⟨g, 7, none⟩ = some (.int .i64 (JB s.col)) := h.row.cell 7
theorem LOOM.c8 {w : World} {B g gw : Nat} {va : Value} {s : LM} (h : LOOM w B g gw va s) : w.cell? ⟨g, 8, none⟩ = some (.int .i64 (s.first : Int)) := h.row.cell 8
theorem LOOM.c9 {w : World} {B g gw : Nat} {va : Value} {s : LM} (h : LOOM w B g gw va s) : w.cell? ⟨g, 9, none⟩ = some (.int .i64 (s.held : Int)) := h.row.cell 9
theorem LOOM.c10 {w : World} {B g gw : Nat} {va : Value} {s : LM} (h : LOOM w B g gw va s) : w.cell? ⟨g, 10, none⟩ = some (.int .i64 (s.made : Int)) := h.row.cell 10
theorem LOOM.c11 {w : World} {B g gw : Nat} {va : Value} {s : LM} (h : LOOM w B g gw va s) : w.cell? ⟨g, 11, none⟩ = some (.int .i64 (s.top : Int)) := h.row.cell 11
theorem LOOM.c12 {w : World} {B g gw : Nat} {va : Value} {s : LM} (h : LOOM w B g gw va s) : w.cell? ⟨g, 12, none⟩ = some (va) := h.row.cell 12
theorem ISB_pos {x : Nat} (h : 2 ≤ x) : ISB x = true := decide_eq_true h
theorem ISB_neg {x : Nat} (h : ¬ 2 ≤ x) : ISB x = false := decide_eq_false h
theorem AT_not {x : Nat} (h : ¬ 2 ≤ x) : ¬ AT x = 1 := by
  unfold AT
  by_cases h0 : x = 0
  · rw [if_pos h0]
    omega
  · rw [if_neg h0, if_pos (by omega)]
    omega
set_option maxHeartbeats 1000000 in
theorem gauge_ok {w : World} {B g gw : Nat} {va : Value} {s : LM} (h : LOOM w B g gw va s) (hW : s.W ≤ 64) : Calls Try.prog 17 #[.pointer (some ⟨g, 0, none⟩)] w fun e w' => e = .returned (.int .i64 (GAUGE s : Int)) ∧ Below w.heap.size w w' := by
  have x5 := h.c5
  have HA : Aside (LOOM w B g gw va s ∧ s.W ≤ 64) := ⟨h, hW⟩
  have hG : GAUGE s = CNT (fun i => ISB (s.ws i)) s.W := rfl
  obtain ⟨n, hn⟩ : ∃ n, s.W = n := ⟨_, rfl⟩
  obtain ⟨G, hg⟩ : ∃ G, GAUGE s = G := ⟨_, rfl⟩
  rw [hn] at HA x5 hG
  rw [hg] at hG ⊢
  have HG : Aside (G = CNT (fun i => ISB (s.ws i)) n ∧ s.W = n) := ⟨hG, hn⟩
  clear h hW hG hn hg
  go_enter Try.func17, Try.ntmps17
  go_wp2
  go_loopg [3, 11] n (fun k s3 s11 wx => ∃ i c : Nat, i + k = n ∧ s3 = .int .i64 (c : Int) ∧ s11 = .int .i64 (i : Int) ∧ Aside (c = CNT (fun i => ISB (s.ws i)) i ∧ Below w.heap.size w wx))
  case atStart => exact ⟨0, 0, by omega, rfl, rfl, rfl, Below.refl _ _⟩
  case round =>
    obtain ⟨i, c, hi, rfl, rfl, A⟩ := hrel
    cases gk with
    | zero =>
      obtain rfl : i = n := by omega
      obtain rfl : c = G := by rw [HG.out.1, A.out.1]
      go_wp2
      go_ret
      exact ⟨rfl, A.out.2⟩
    | succ k =>
      have hlt : (i : Int) < (n : Int) := by omega
      have hc : c ≤ i := by rw [A.out.1]; exact CNT_le _ _
      have L := HA.out.1.below A.out.2
      have y0 := L.at_ i (by rw [HG.out.2]; omega)
      have y1 := L.jb i (by rw [HG.out.2]; omega)
      have hn64 := HA.out.2
      clear L
      by_cases hb : 2 ≤ s.ws i
      · have ha := AT_busy hb
        have hR : Aside (c + 1 = CNT (fun i => ISB (s.ws i)) (i + 1) ∧ Below w.heap.size w wr) := by
          refine ⟨?_, A.out.2⟩
          show _ = CNT _ i + (if ISB (s.ws i) then 1 else 0)
          rw [← A.out.1, ISB_pos hb]
          rfl
        rw [ha] at y0
        generalize JB (s.ws i) = J at *
        clear hb ha A
        go_wp2
        go_roundg k
        case measure => omega
        case rel => exact ⟨i + 1, c + 1, by omega, rfl, rfl, hR.out.1, hR.out.2.alloc hR.out.2.size _⟩
      · have ha := AT_not hb
        have hR : Aside (c = CNT (fun i => ISB (s.ws i)) (i + 1) ∧ Below w.heap.size w wr) := by
          refine ⟨?_, A.out.2⟩
          show _ = CNT _ i + (if ISB (s.ws i) then 1 else 0)
          rw [← A.out.1, ISB_neg hb]
          rfl
        generalize JB (s.ws i) = J at *
        generalize AT (s.ws i) = AA at *
        clear hb A
        go_wp2
        go_roundg k
        case measure => omega
        case rel => exact ⟨i + 1, c, by omega, rfl, rfl, hR.out.1, hR.out.2.alloc hR.out.2.size _⟩
end Go.Proofs.Ytmgocdjmjnkbmaa
