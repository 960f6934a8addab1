/- Lists of moves and of numbers of one's own; who stands where; the moves of workers. -/
import Derived.Test.YtmgocdjmjnkbmaaLoomState
import Derived.Deep.AppendLies
import Derived.Deep.RegionHeld3
import Derived.Deep.Cut
import Derived.Deep.CutRange
import Derived.Deep.CutBlock
import Derived.BigQuiet
import Derived.Deep.QuietTactic
import Derived.Deep.RegionWith
import Derived.Deep.MidRow
namespace Go.Proofs.Ytmgocdjmjnkbmaa
open Go.RowKit
set_option maxRecDepth 100000

/-- moves as cells. -/
def MCELL (m : MV) : List Value := [.int .i64 (m.1 : Int), .int .i64 m.2.1, .int .i64 (m.2.2 : Int)]
def MCELLS (l : List MV) : List Value := l.flatMap MCELL
theorem MCELLS_snoc (l : List MV) (m : MV) : MCELLS (l ++ [m]) = MCELLS l ++ MCELL m := by simp [MCELLS]
theorem MCELLS_length (l : List MV) : (MCELLS l).length = l.length * 3 := by
  induction l with
  | nil => rfl
  | cons x l ih =>
    show (MCELL x ++ MCELLS l).length = _
    rw [List.length_append, ih, List.length_cons]
    show 3 + _ = _
    omega
theorem MCELLS_at : ∀ (l : List MV) (j : Nat) (m : MV), l[j]? = some m → (MCELLS l)[j * 3]? = some (.int .i64 (m.1 : Int)) ∧ (MCELLS l)[j * 3 + 1]? = some (.int .i64 m.2.1) ∧ (MCELLS l)[j * 3 + 2]? = some (.int .i64 (m.2.2 : Int))
  | [], j, m, e => by simp at e
  | x :: l, 0, m, e => by
    simp at e
    subst e
    simp [MCELLS, MCELL]
  | x :: l, j + 1, m, e => by
    have := MCELLS_at l j m (by simpa using e)
    have e1 : (j + 1) * 3 = j * 3 + 1 + 1 + 1 := by omega
    simp only [MCELLS, MCELL, List.flatMap_cons, List.cons_append, List.nil_append, e1, List.getElem?_cons_succ]
    exact this
theorem info_move : (Try.prog.info? 42).map (fun i => (i.zero, i.size, i.bytes)) = some (some (.agg #[.int .i64 0, .int .i64 0, .int .i64 0]), 3, 24) := by kernel_rfl
theorem info_int : (Try.prog.info? 3).map (fun i => (i.zero, i.size, i.bytes)) = some (some (.int .i64 0), 1, 8) := by kernel_rfl
theorem info_parts {t : TypeId} {z : Value} {s b : Nat} (h : (Try.prog.info? t).map (fun i => (i.zero, i.size, i.bytes)) = some (some z, s, b)) : ∃ i, Try.prog.info? t = some i ∧ i.zero = some z ∧ i.size = s ∧ i.bytes = b := by
  cases hi : Try.prog.info? t with
  | none => rw [hi] at h; cases h
  | some i =>
    rw [hi] at h
    simp only [Option.map_some, Option.some.injEq, Prod.mk.injEq] at h
    exact ⟨i, rfl, h.1, h.2.1, h.2.2⟩
theorem app_move {ops : Array Oper} {rest : List Oper} {o : Oper} {a : Act} {Q : Exit → Act → World → Prop} (w : World) (hgd : o.guard = none) (s x : Operand)
    (ho : o.op = .call { callee := .builtin .append, args := #[s, x], argTypes := #[39, 39] })
    (base : Nat) (v : Value) (n : Nat) (xs : List MV) (hs : a.eval s = v) (hown : w.ownsRow base 42 3 v n (MCELLS xs))
    (b c : Nat) (m : MV) (hx : a.eval x = .slice (some ⟨b, 0, none⟩) 1 c) (hc0 : w.cell? ⟨b, 0, none⟩ = some (.int .i64 (m.1 : Int))) (hc1 : w.cell? ⟨b, 1, none⟩ = some (.int .i64 m.2.1)) (hc2 : w.cell? ⟨b, 2, none⟩ = some (.int .i64 (m.2.2 : Int)))
    (hb : n ≤ 100000) (hbase : base ≤ w.heap.size)
    (hh : ∀ g cap w', w'.ownsRow base 42 3 (.slice (some ⟨g, 0, none⟩) (n + 1) cap) (n + 1) (MCELLS (xs ++ [m])) → w.grownBy w' v.ownBlock → g < w'.heap.size → (v.ownBlock = some g ∨ w.heap.size ≤ g) → wpList Try.prog ops Q rest (a.put o.dst (.slice (some ⟨g, 0, none⟩) (n + 1) cap)) w') : wpList Try.prog ops Q (o :: rest) a w := by
  obtain ⟨i, hi, hz, hs1, hby⟩ := info_parts info_move
  refine wpList_append_lies w hgd s x 39 ho base 42 i _ 3 24 Try.underlying39 hi hz hs1 hby rfl (by decide) v n (MCELLS xs) hs hown ⟨b, 0, none⟩ 1 c (MCELL m) hx rfl ?_ (fun u hu => by simp [MCELL] at hu; rcases hu with rfl | rfl | rfl <;> rfl) (by decide) (by simp only [maxLen]; omega) (by omega) hbase w.heap.size rfl ?_
  · intro j u hj
    unfold MCELL at hj
    match j, hj with
    | 0, hj =>
      simp only [List.getElem?_cons_zero, Option.some.injEq] at hj
      subst hj
      exact hc0
    | 1, hj =>
      simp only [List.getElem?_cons_succ, List.getElem?_cons_zero, Option.some.injEq] at hj
      subst hj
      exact hc1
    | 2, hj =>
      simp only [List.getElem?_cons_succ, List.getElem?_cons_zero, Option.some.injEq] at hj
      subst hj
      exact hc2
    | j + 3, hj => simp at hj
  · intro g cap w' h1 h2 h3 h4
    rw [← MCELLS_snoc] at h1
    exact hh g cap w' h1 h2 h4 (h3.imp id (fun e => by omega))
end Go.Proofs.Ytmgocdjmjnkbmaa
