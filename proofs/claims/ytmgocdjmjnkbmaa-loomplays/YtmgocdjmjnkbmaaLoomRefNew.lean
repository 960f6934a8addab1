/- The document's New, Most, Cancel, Gone. -/
import Derived.Test.YtmgocdjmjnkbmaaLoomRefMade
namespace Go.Proofs.Ytmgocdjmjnkbmaa
open Go.RowKit
set_option maxRecDepth 100000

def WCELLS (n : Nat) : List Value := (List.range n).flatMap fun _ => [.int .i64 (-1), .bool false]
theorem WCELLS_succ (n : Nat) : WCELLS (n + 1) = WCELLS n ++ [.int .i64 (-1), .bool false] := by
  unfold WCELLS
  rw [List.range_succ, List.flatMap_append]
  rfl
theorem WCELLS_length : ∀ n, (WCELLS n).length = n * 2
  | 0 => rfl
  | n + 1 => by rw [WCELLS_succ, List.length_append, WCELLS_length n]; show _ + 2 = _; omega
theorem WCELLS_at : ∀ n i, i < n → (WCELLS n)[i * 2]? = some (.int .i64 (-1)) ∧ (WCELLS n)[i * 2 + 1]? = some (.bool false)
  | 0, i, h => by omega
  | n + 1, i, h => by
    rw [WCELLS_succ]
    by_cases e : i < n
    · have := WCELLS_at n i e
      have hl := WCELLS_length n
      rw [List.getElem?_append_left (by omega), List.getElem?_append_left (by omega)]
      exact this
    · obtain rfl : i = n := by omega
      have hl := WCELLS_length i
      rw [List.getElem?_append_right (by omega), List.getElem?_append_right (by omega), hl]
      refine ⟨?_, ?_⟩
      · rw [Nat.sub_self]
        rfl
      · rw [show i * 2 + 1 - i * 2 = 1 by omega]
        rfl
theorem info_worker : (Try.prog.info? 61).map (fun i => (i.zero, i.size, i.bytes)) = some (some (.agg #[.int .i64 0, .bool false]), 2, 16) := by kernel_rfl
/-- one worker more. -/
theorem app_worker {ops : Array Oper} {rest : List Oper} {o : Oper} {a : Act} {Q : Exit → Act → World → Prop} (w : World) (hgd : o.guard = none) (s x : Operand)
    (ho : o.op = .call { callee := .builtin .append, args := #[s, x], argTypes := #[47, 47] })
    (base : Nat) (v : Value) (n : Nat) (hs : a.eval s = v) (hown : w.ownsRow base 61 2 v n (WCELLS n))
    (hx : a.eval x = .slice (some ⟨w.heap.size, 0, none⟩) 1 1) (hb : n ≤ 1000) (hbase : base ≤ w.heap.size)
    (hh : ∀ g cap w', w'.ownsRow base 61 2 (.slice (some ⟨g, 0, none⟩) (n + 1) cap) (n + 1) (WCELLS (n + 1)) → Below w.heap.size w (w.alloc (.cells #[.int .i64 (-1), .bool false] 61)) → (w.alloc (.cells #[.int .i64 (-1), .bool false] 61)).grownBy w' v.ownBlock → (v.ownBlock = some g ∨ w.heap.size < g) → wpList Try.prog ops Q rest (a.put o.dst (.slice (some ⟨g, 0, none⟩) (n + 1) cap)) w') : wpList Try.prog ops Q (o :: rest) a (w.alloc (.cells #[.int .i64 (-1), .bool false] 61)) := by
  obtain ⟨i, hi, hz, hs1, hby⟩ := info_parts info_worker
  have hn := Has.new w #[.int .i64 (-1), .bool false] 61
  refine wpList_append_lies _ hgd s x 47 ho base 61 i _ 2 16 Try.underlying47 hi hz hs1 hby rfl (by decide) v n (WCELLS n) hs (own_alloc hown _) ⟨w.heap.size, 0, none⟩ 1 1 [.int .i64 (-1), .bool false] hx rfl ?_ (fun u hu => by simp at hu; rcases hu with rfl | rfl <;> rfl) (by decide) (by simp only [maxLen]; omega) (by omega) (by simp; omega) (w.heap.size + 1) (by simp) ?_
  · intro j u hj
    rw [addr_add13]
    match j, hj with
    | 0, hj =>
      simp only [List.getElem?_cons_zero, Option.some.injEq] at hj
      subst hj
      exact hn.cell 0
    | 1, hj =>
      simp only [List.getElem?_cons_succ, List.getElem?_cons_zero, Option.some.injEq] at hj
      subst hj
      exact hn.cell 1
    | j + 2, hj => simp at hj
  · intro g cap w' h1 h2 h3 h4
    rw [← WCELLS_succ] at h1
    exact hh g cap w' h1 ((Below.refl _ _).alloc (Nat.le_refl _) _) h2 (h3.imp id (fun e => by omega))
/-- the document's loom, new. -/
def NEWR (n jobs room : Nat) : RR := { jobs := jobs, room := room, next := 0, fg := false, qs := [], sh := false, W := n, jb := fun _ => -1, gn := fun _ => false, dn := decide (jobs = 0), got := [], out := if jobs = 0 then 1 else 0, canc := false, count := 0, top := 0 }
theorem rel_new (n jobs room : Nat) : REL (NEWL n jobs room) (NEWR n jobs room) := by
  have h1 : decide (jobs = 0) = decide ((if jobs = 0 then 1 else 0) = 1) := by
    by_cases e : jobs = 0
    · simp [e]
    · simp [e]
  have h2 : (if jobs = 0 then 1 else 0) = (if (if jobs = 0 then 1 else 0) = 1 then (if 0 = jobs then 1 else 2) else 0) := by
    by_cases e : jobs = 0
    · simp [e]
    · simp [e]
  exact ⟨rfl, rfl, rfl, (decide_eq_false (NEXTF_ne _ _)).symm, rfl, (decide_eq_false (NEXTF_ne _ _)).symm, rfl, fun i _ => .inr (.inl ⟨rfl, rfl, rfl⟩), h1, rfl, h2, rfl, rfl, rfl⟩
/-- the cells of the document's loom while it is made. -/
def RCX (jobs room : Nat) (v : Value) : Array Value := #[.int .i64 (jobs : Int), .int .i64 (room : Int), .int .i64 0, .bool false, .slice none 0 0, .bool false, v, .bool false, .slice none 0 0, .int .i64 0, .bool false, .int .i64 0, .int .i64 0]
def RNEWD (w : World) (n jobs room : Nat) (e : Ending) (w' : World) : Prop := ∃ r bw cw, e = .returned (.tuple #[.pointer (some ⟨r, 0, none⟩), .int .i64 0]) ∧ RLOOM w' w.heap.size r bw cw (.slice none 0 0) (.slice none 0 0) (NEWR n jobs room) ∧ Below w.heap.size w w'
theorem rnew_half {w wr w' : World} {r jobs room i g cap : Nat} {v : Value} (hB : Below w.heap.size w wr) (hr : Has wr r (RCX jobs room v) 49) (hv : v.ownBlock ≠ some r) (hwr : w.heap.size ≤ r) (z1 : w'.ownsRow w.heap.size 61 2 (.slice (some ⟨g, 0, none⟩) (i + 1) cap) (i + 1) (WCELLS (i + 1))) (z2 : Below wr.heap.size wr (wr.alloc (.cells #[.int .i64 (-1), .bool false] 61))) (z3 : (wr.alloc (.cells #[.int .i64 (-1), .bool false] 61)).grownBy w' v.ownBlock) (z4 : v.ownBlock = some g ∨ wr.heap.size < g) (ho : wr.ownsRow w.heap.size 61 2 v i (WCELLS i)) : Has w' r (RCX jobs room v) 49 ∧ Below w.heap.size w (w'.setCell ⟨r, 6, none⟩ (.slice (some ⟨g, 0, none⟩) (i + 1) cap)) ∧ Has (w'.setCell ⟨r, 6, none⟩ (.slice (some ⟨g, 0, none⟩) (i + 1) cap)) r (RCX jobs room (.slice (some ⟨g, 0, none⟩) (i + 1) cap)) 49 ∧ (w'.setCell ⟨r, 6, none⟩ (.slice (some ⟨g, 0, none⟩) (i + 1) cap)).ownsRow w.heap.size 61 2 (.slice (some ⟨g, 0, none⟩) (i + 1) cap) (i + 1) (WCELLS (i + 1)) ∧ g ≠ r := by
  have hrl := hr.lt
  have hng : g ≠ r := fun e => by
    rcases z4 with z4 | z4
    · exact hv (e ▸ z4)
    · omega
  have hsz : (wr.alloc (.cells #[.int .i64 (-1), .bool false] 61)).heap.size = wr.heap.size + 1 := Array.size_push _
  have hr2 : Has w' r (RCX jobs room v) 49 := (z3.block r (by omega) (fun e => hv e.symm)).trans (hr.alloc _)
  have hB2 : Below w.heap.size w w' := by
    refine ⟨z3.os.trans (z2.os.trans hB.os), z3.tape.trans (z2.tape.trans hB.tape), z3.output.trans (z2.output.trans hB.output), Nat.le_trans hB.size (Nat.le_trans z2.size z3.size), fun k hk => ?_⟩
    have h1 := hB.size
    refine (z3.block k (by omega) (fun e => ?_)).trans ((z2.block k (by omega)).trans (hB.block k hk))
    have := (own_lt ho e.symm).1
    omega
  refine ⟨hr2, hB2.setCell hwr _, hr2.set 6 _, own_turn z1 (fun k e => Below.heap_setCell _ _ _ k (fun e' => ?_)), hng⟩
  cases e
  exact hng e'
def NEWR0 (n jobs room : Nat) : RR := { jobs := jobs, room := room, next := 0, fg := false, qs := [], sh := false, W := n, jb := fun _ => -1, gn := fun _ => false, dn := false, got := [], out := 0, canc := false, count := 0, top := 0 }
theorem rnew_end {w wr : World} {r n jobs room : Nat} {v : Value} (hn : 1 ≤ n) (hr : Has wr r (RCX jobs room v) 49) (hwr : w.heap.size = r) (ho : wr.ownsRow w.heap.size 61 2 v n (WCELLS n)) (hv : v.ownBlock ≠ some r) : ∃ bw cw, RLOOM wr w.heap.size r bw cw (.slice none 0 0) (.slice none 0 0) (NEWR0 n jobs room) := by
  rcases ho.2 with ⟨_, h0⟩ | ⟨bw, cw, cur, rfl, hb, hg, _⟩
  · omega
  · refine ⟨bw, cw, hr, ⟨cur, hg⟩, fun i hi => ?_, fun i hi => ?_, World.ownsRow_nil _ _ _ _, World.ownsRow_nil _ _ _ _, fun e => hv (by rw [e]; rfl), by simp [Value.ownBlock], by simp [Value.ownBlock], by simp [Value.ownBlock], by simp [Value.ownBlock], by simp [Value.ownBlock], by omega, hb⟩
    · have hi : i < n := hi
      exact (ho.cellAt (i * 2) (by omega)).trans (WCELLS_at n i hi).1
    · have hi : i < n := hi
      exact (ho.cellAt (i * 2 + 1) (by omega)).trans (WCELLS_at n i hi).2
set_option maxHeartbeats 2000000 in
theorem rnew_ok (n jobs room : Nat) (h1 : 1 ≤ n) (h2 : n ≤ 64) (h3 : jobs ≤ 65536) (h4 : room ≤ 65536) (w : World) : Calls Try.prog 15 #[.int .i64 (n : Int), .int .i64 (jobs : Int), .int .i64 (room : Int)] w (RNEWD w n jobs room) := by
  have k1 : ¬ (n : Int) < 1 := by omega
  have k2 : ¬ (64 : Int) < (n : Int) := by omega
  have k3 : ¬ (jobs : Int) < 0 := by omega
  have k4 : ¬ (65536 : Int) < (jobs : Int) := by omega
  have k5 : ¬ (room : Int) < 0 := by omega
  have k6 : ¬ (65536 : Int) < (room : Int) := by omega
  have HK : Aside (1 ≤ n ∧ n ≤ 64) := ⟨h1, h2⟩
  clear h3 h4
  go_enter Try.func15, Try.ntmps15
  go_upto_block 0 with fail
  generalize hr : w.heap.size = r
  generalize hw1 : w.alloc _ = w1
  have H1 : Aside (Below w.heap.size w w1 ∧ Has w1 r (RCX jobs room (.slice none 0 0)) 49) := by
    rw [← hw1, ← hr]
    exact ⟨(Below.refl _ _).alloc (Nat.le_refl _) _, Has.new _ _ _⟩
  have HR : Aside (w.heap.size = r) := hr
  clear hr hw1
  go_wp2_with fail
  go_loopg [9] n (fun k s9 wx => ∃ i : Nat, i + k = n ∧ s9 = .int .i64 (i : Int) ∧ Aside (∃ v, Below w.heap.size w wx ∧ Has wx r (RCX jobs room v) 49 ∧ wx.ownsRow w.heap.size 61 2 v i (WCELLS i) ∧ v.ownBlock ≠ some r))
  case atStart => exact ⟨0, by omega, rfl, _, H1.out.1, H1.out.2, ⟨rfl, by simp [WCELLS]⟩, by simp [Value.ownBlock]⟩
  case round =>
    obtain ⟨i, hi, rfl, A⟩ := hrel
    cases gk with
    | zero =>
      obtain rfl : i = n := by omega
      obtain ⟨v, A⟩ := A
      obtain ⟨bw, cw, hL⟩ := rnew_end HK.out.1 A.2.1 HR.out A.2.2.1 A.2.2.2
      have HB : Aside (Below w.heap.size w wr) := A.1
      have HL : Aside (RLOOM wr w.heap.size r bw cw (.slice none 0 0) (.slice none 0 0) (NEWR0 i jobs room)) := hL
      clear A hL
      by_cases hj : jobs = 0
      · subst hj
        have q7 := HL.out.set1 (R' := { NEWR0 i 0 room with dn := true }) 7 (.bool true) rfl rfl rfl rfl rfl rfl
        have q9 := q7.1.set1 (R' := NEWR i 0 room) 9 (.int .i64 1) rfl rfl rfl rfl rfl rfl
        have c7 : wr.cell? ⟨r, 7, none⟩ = some (.bool false) := HL.out.row.cell 7
        have f7 := HL.out.row.frozen 7
        have c9 : (wr.setCell ⟨r, 7, none⟩ (.bool true)).cell? ⟨r, 9, none⟩ = some (.int .i64 0) := q7.1.row.cell 9
        have f9 := q7.1.row.frozen 9
        have HM : Aside (RLOOM ((wr.setCell ⟨r, 7, none⟩ (.bool true)).setCell ⟨r, 9, none⟩ (.int .i64 1)) w.heap.size r bw cw (.slice none 0 0) (.slice none 0 0) (NEWR i 0 room) ∧ Below w.heap.size w ((wr.setCell ⟨r, 7, none⟩ (.bool true)).setCell ⟨r, 9, none⟩ (.int .i64 1))) := ⟨q9.1, (HB.out.setCell (by rw [HR.out]; exact Nat.le_refl _) _).setCell (by rw [HR.out]; exact Nat.le_refl _) _⟩
        clear q7 q9
        go_wp2
        go_ret2
        exact ⟨r, bw, cw, rfl, HM.out.1, HM.out.2⟩
      · have hj' : ¬ (jobs : Int) = 0 := by omega
        have hq : ((jobs : Int) == 0) = false := by simp; omega
        have e : NEWR0 i jobs room = NEWR i jobs room := by
          unfold NEWR NEWR0
          rw [if_neg hj, decide_eq_false hj]
        have HM : Aside (RLOOM wr w.heap.size r bw cw (.slice none 0 0) (.slice none 0 0) (NEWR i jobs room)) := e ▸ HL.out
        clear e
        go_wp2
        go_ret2
        exact ⟨r, bw, cw, rfl, HM.out, HB.out⟩
    | succ gk =>
      obtain ⟨v, A'⟩ := A
      have A : Aside (Below w.heap.size w wr ∧ Has wr r (RCX jobs room v) 49 ∧ wr.ownsRow w.heap.size 61 2 v i (WCELLS i) ∧ v.ownBlock ≠ some r) := A'
      clear A'
      have hin : (i : Int) < (n : Int) := by omega
      have hi64 : i < 64 := by omega
      have c6 : wr.cell? ⟨r, 6, none⟩ = some v := A.out.2.1.cell 6
      go_wp2_with (at_builtin; refine app_worker wr rfl (.tmp 45) (.tmp 47) rfl w.heap.size v i rfl A.out.2.2.1 rfl (by omega) A.out.1.size ?_; intro g cap w' z1 z2 z3 z4; have HH : Aside (_ ∧ _) := rnew_half A.out.1 A.out.2.1 A.out.2.2.2 (by rw [HR.out]; exact Nat.le_refl _) z1 z2 z3 z4 A.out.2.2.1; have d6 : w'.cell? ⟨r, 6, none⟩ = some v := HH.out.1.cell 6; have e6 := HH.out.1.frozen 6; clear z1 z2 z3 z4)
      go_roundg gk
      case measure => omega
      case rel => exact ⟨i + 1, by omega, rfl, _, HH.out.2.1, HH.out.2.2.1, HH.out.2.2.2.1, fun e => HH.out.2.2.2.2 (Option.some.inj e)⟩
end Go.Proofs.Ytmgocdjmjnkbmaa
