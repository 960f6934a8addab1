/- The moves that idle workers, and those that hold a job, can make. -/
import Derived.Test.YtmgocdjmjnkbmaaLoomLists
namespace Go.Proofs.Ytmgocdjmjnkbmaa
open Go.RowKit
set_option maxRecDepth 100000

/-- a list v of one's own has become v': nothing else that was there has turned. -/
structure GREW (w w' : World) (v v' : Value) : Prop where
  os : w'.os = w.os
  tape : w'.tape = w.tape
  output : w'.output = w.output
  size : w.heap.size ≤ w'.heap.size
  block : ∀ k, k < w.heap.size → v.ownBlock ≠ some k → w'.heap[k]? = w.heap[k]?
  new : ∀ k, v'.ownBlock = some k → v.ownBlock = some k ∨ w.heap.size ≤ k
theorem GREW.refl (w : World) (v : Value) : GREW w w v v := ⟨rfl, rfl, rfl, Nat.le_refl _, fun _ _ _ => rfl, fun _ h => .inl h⟩
theorem GREW.below {w w1 w2 : World} {v v1 : Value} (h : GREW w w1 v v1) (hb : Below w1.heap.size w1 w2) : GREW w w2 v v1 :=
  ⟨hb.os.trans h.os, hb.tape.trans h.tape, hb.output.trans h.output, Nat.le_trans h.size hb.size, fun k hk hv => (hb.block k (Nat.lt_of_lt_of_le hk h.size)).trans (h.block k hk hv), h.new⟩
theorem GREW.grown {w w1 w2 : World} {v v1 v2 : Value} (h : GREW w w1 v v1) (hg : w1.grownBy w2 v1.ownBlock) (hn : ∀ k, v2.ownBlock = some k → v1.ownBlock = some k ∨ w1.heap.size ≤ k) : GREW w w2 v v2 := by
  refine ⟨hg.os.trans h.os, hg.tape.trans h.tape, hg.output.trans h.output, Nat.le_trans h.size hg.size, fun k hk hv => (hg.block k (Nat.lt_of_lt_of_le hk h.size) ?_).trans (h.block k hk hv), fun k e => ?_⟩
  · intro e
    rcases h.new k e.symm with x | x
    · exact hv x
    · omega
  · rcases hn k e with x | x
    · exact h.new k x
    · exact .inr (Nat.le_trans h.size x)
theorem GREW.trans {w w1 w2 : World} {v v1 v2 : Value} (h : GREW w w1 v v1) (g : GREW w1 w2 v1 v2) : GREW w w2 v v2 := by
  refine ⟨g.os.trans h.os, g.tape.trans h.tape, g.output.trans h.output, Nat.le_trans h.size g.size, fun k hk hv => (g.block k (Nat.lt_of_lt_of_le hk h.size) ?_).trans (h.block k hk hv), fun k e => ?_⟩
  · intro e
    rcases h.new k e with x | x
    · exact hv x
    · omega
  · rcases g.new k e with x | x
    · exact h.new k x
    · exact .inr (Nat.le_trans h.size x)
theorem GREW.tobelow {w w' : World} {v v' : Value} {B : Nat} (h : GREW w w' v v') (hB : B ≤ w.heap.size) (hv : ∀ k, v.ownBlock = some k → B ≤ k) : Below B w w' :=
  ⟨h.os, h.tape, h.output, h.size, fun k hk => h.block k (by omega) (fun e => by have := hv k e; omega)⟩
theorem LOOM.grew {w w' : World} {v v' : Value} {B g gw : Nat} {va : Value} {s : LM} (h : LOOM w B g gw va s) (hg : GREW w w' v v') (hv : ∀ k, v.ownBlock = some k → ¬ FOOT g gw va k) : LOOM w' B g gw va s :=
  h.turn fun k hk => hg.block k (h.foot hk).2 (fun e => hv k e hk)
/-- what is answered: the list l, made out of v. -/
def EXT (w : World) (C : Nat) (v : Value) (l : List MV) (e : Ending) (w' : World) : Prop := ∃ v', e = .returned v' ∧ w'.ownsRow C 42 3 v' l.length (MCELLS l) ∧ GREW w w' v v'
theorem own_alloc {w : World} {C n : Nat} {t : TypeId} {z : Nat} {v : Value} {xs : List Value} (h : w.ownsRow C t z v n xs) (o : Obj) : (w.alloc o).ownsRow C t z v n xs := own_turn h fun k e => Below.heap_alloc w o k (own_lt h e).2
/-- one move more, at the end of a list of one's own. -/
theorem app_mv {ops : Array Oper} {rest : List Oper} {o : Oper} {a : Act} {Q : Exit → Act → World → Prop} (w0 w : World) (hgd : o.guard = none) (s x : Operand)
    (ho : o.op = .call { callee := .builtin .append, args := #[s, x], argTypes := #[39, 39] })
    (base : Nat) (v0 v : Value) (xs : List MV) (m : MV) (hs : a.eval s = v) (hA : w.ownsRow base 42 3 v xs.length (MCELLS xs) ∧ GREW w0 w v0 v)
    (hx : a.eval x = .slice (some ⟨w.heap.size, 0, none⟩) 1 1) (hb : xs.length ≤ 100000) (hbase : base ≤ w.heap.size)
    (hh : ∀ g cap w', Aside (w'.ownsRow base 42 3 (.slice (some ⟨g, 0, none⟩) (xs.length + 1) cap) (xs ++ [m]).length (MCELLS (xs ++ [m])) ∧ GREW w0 w' v0 (.slice (some ⟨g, 0, none⟩) (xs.length + 1) cap)) → wpList Try.prog ops Q rest (a.put o.dst (.slice (some ⟨g, 0, none⟩) (xs.length + 1) cap)) w') : wpList Try.prog ops Q (o :: rest) a (w.alloc (.cells #[.int .i64 (m.1 : Int), .int .i64 m.2.1, .int .i64 (m.2.2 : Int)] 42)) := by
  have hn := Has.new w #[.int .i64 (m.1 : Int), .int .i64 m.2.1, .int .i64 (m.2.2 : Int)] 42
  refine app_move _ hgd s x ho base v xs.length xs hs (own_alloc hA.1 _) w.heap.size 1 m hx (hn.cell 0) (hn.cell 1) (hn.cell 2) hb (by simp; omega) ?_
  intro g cap w' h1 h2 h3 h4
  refine hh g cap w' ⟨by rw [List.length_append]; exact h1, ?_⟩
  refine (hA.2.below ((Below.refl _ _).alloc (Nat.le_refl _) _)).grown h2 ?_
  intro k e
  have e : some g = some k := e
  cases e
  exact h4
set_option maxHeartbeats 1000000 in
theorem offree_ok {w : World} {B g gw : Nat} {va : Value} {s : LM} (h : LOOM w B g gw va s) (hW : s.W ≤ 64) (kd j : Nat) (C : Nat) (v : Value) (l : List MV) (hl : l.length ≤ 1000) (hC : C ≤ w.heap.size) (hv : w.ownsRow C 42 3 v l.length (MCELLS l)) (ha : ∀ k, v.ownBlock = some k → ¬ FOOT g gw va k) : Calls Try.prog 38 #[.pointer (some ⟨g, 0, none⟩), v, .int .i64 (kd : Int), .int .i64 (j : Int)] w (EXT w C v (l ++ OFF s kd j)) := by
  have x5 := h.c5
  obtain ⟨f, hf⟩ : ∃ f : Nat → Option MV, f = fun i => if s.ws i = 0 then some (kd, (i : Int), j) else none := ⟨_, rfl⟩
  have hO : OFF s kd j = PK f s.W := by rw [hf]; rfl
  rw [hO]
  obtain ⟨n, hn⟩ : ∃ n, s.W = n := ⟨_, rfl⟩
  rw [hn] at x5 hW ⊢
  have HA : Aside (LOOM w B g gw va s ∧ n ≤ 64 ∧ s.W = n ∧ l.length ≤ 1000 ∧ C ≤ w.heap.size ∧ (f = fun i => if s.ws i = 0 then some (kd, (i : Int), j) else none) ∧ w.ownsRow C 42 3 v l.length (MCELLS l) ∧ ∀ k, v.ownBlock = some k → ¬ FOOT g gw va k) := ⟨h, hW, hn, hl, hC, hf, hv, ha⟩
  clear h hW hn hO hl hC hf hv ha
  go_enter Try.func38, Try.ntmps38
  go_wp2
  go_loopg [1, 16] n (fun k s1 s16 wx => ∃ i : Nat, i + k = n ∧ s16 = .int .i64 (i : Int) ∧ Aside (wx.ownsRow C 42 3 s1 (l ++ PK f i).length (MCELLS (l ++ PK f i)) ∧ GREW w wx v s1))
  case atStart => exact ⟨0, by omega, rfl, by rw [PK_zero, List.append_nil]; exact HA.out.2.2.2.2.2.2.1, GREW.refl _ _⟩
  case round =>
    obtain ⟨i, hi, rfl, A⟩ := hrel
    cases gk with
    | zero =>
      obtain rfl : i = n := by omega
      go_wp2
      go_ret
      exact ⟨_, rfl, A.out.1, A.out.2⟩
    | succ k =>
      have hlt : (i : Int) < (n : Int) := by omega
      have hn64 := HA.out.2.1
      have L := HA.out.1.grew A.out.2 HA.out.2.2.2.2.2.2.2
      have y0 := L.at_ i (by rw [HA.out.2.2.1]; omega)
      have y1 := L.jb i (by rw [HA.out.2.2.1]; omega)
      have cf := free_ok (s.ws i)
      by_cases hb : s.ws i = 0
      · rw [decide_eq_true hb] at cf
        generalize hAA : AT (s.ws i) = AA at *
        generalize hJJ : JB (s.ws i) = JJ at *
        have hR : Aside (PK f (i + 1) = PK f i ++ [(kd, (i : Int), j)]) := by
          show _ = _
          rw [PK_succ, HA.out.2.2.2.2.2.1]
          simp only [hb, if_pos]
          rfl
        clear hb L hAA hJJ
        go_wp2_with fail
        refine (cf _).mono ?_
        rintro e w1 ⟨rfl, hb1⟩
        clear cf
        have R1 : Aside (w1.ownsRow C 42 3 u1 (l ++ PK f i).length (MCELLS (l ++ PK f i)) ∧ GREW w w1 v u1) := by
          have hb2 := ((Below.refl wr.heap.size wr).alloc (Nat.le_refl _) _).trans (hb1.mono (by simp))
          exact ⟨own_turn A.out.1 (fun k e => hb2.block k (own_lt A.out.1 e).2), A.out.2.below hb2⟩
        have R3 : Aside ((l ++ PK f i).length ≤ 100000 ∧ C ≤ w1.heap.size) := by
          have h1 := HA.out.2.2.2.1
          have h2 := PK_length f i
          have h3 := R1.out.2.size
          have h4 := HA.out.2.2.2.2.1
          exact ⟨by rw [List.length_append]; omega, by omega⟩
        clear hb1 A
        go_wp2_with (at_builtin; refine app_mv w w1 rfl (.tmp 23) (.tmp 28) rfl C v u1 (l ++ PK f i) (kd, (i : Int), j) rfl R1.out rfl R3.out.1 R3.out.2 ?_; intro g' cap w2 R2)
        go_roundg k
        case measure => omega
        case rel =>
          have R4 := R2.out
          rw [show (l ++ PK f i).length + 1 = l.length + (PK f i).length + 1 by rw [List.length_append]] at R4
          exact ⟨i + 1, by omega, rfl, by rw [hR.out, ← List.append_assoc]; exact R4⟩
      · rw [decide_eq_false hb] at cf
        generalize hAA : AT (s.ws i) = AA at *
        generalize hJJ : JB (s.ws i) = JJ at *
        have hR : Aside (PK f (i + 1) = PK f i) := by
          show _ = _
          rw [PK_succ, HA.out.2.2.2.2.2.1]
          simp [hb]
        clear hb L hAA hJJ
        go_wp2_with fail
        refine (cf _).mono ?_
        rintro e w1 ⟨rfl, hb1⟩
        clear cf
        have R2 : Aside (w1.ownsRow C 42 3 u1 (l ++ PK f (i + 1)).length (MCELLS (l ++ PK f (i + 1))) ∧ GREW w w1 v u1) := by
          have hb2 := ((Below.refl wr.heap.size wr).alloc (Nat.le_refl _) _).trans (hb1.mono (by simp))
          rw [hR.out]
          exact ⟨own_turn A.out.1 (fun k e => hb2.block k (own_lt A.out.1 e).2), A.out.2.below hb2⟩
        clear hb1 A
        go_wp2
        go_roundg k
        case measure => omega
        case rel => exact ⟨i + 1, by omega, rfl, R2⟩
end Go.Proofs.Ytmgocdjmjnkbmaa
