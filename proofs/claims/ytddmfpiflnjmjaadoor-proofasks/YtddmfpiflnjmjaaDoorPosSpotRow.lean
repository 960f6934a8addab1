/- Lists of spots of one's own. -/
import Derived.Test.YtddmfpiflnjmjaaDoorPosPath
namespace Go.Proofs.YtddmfpiflnjmjaaDoor
open Go.RowKit

/-- spots as cells. -/
def SCELLS (l : List (Nat × Nat)) : List Value := l.flatMap fun x => [Value.int .u8 (x.1 : Int), Value.int .u64 (x.2 : Int)]
theorem SCELLS_snoc (l : List (Nat × Nat)) (h k : Nat) : SCELLS (l ++ [(h, k)]) = SCELLS l ++ [Value.int .u8 (h : Int), Value.int .u64 (k : Int)] := by simp [SCELLS]
theorem SCELLS_at : ∀ (l : List (Nat × Nat)) (j h k : Nat), l[j]? = some (h, k) → (SCELLS l)[j * 2]? = some (.int .u8 (h : Int)) ∧ (SCELLS l)[j * 2 + 1]? = some (.int .u64 (k : Int))
  | [], j, h, k, e => by simp at e
  | x :: l, 0, h, k, e => by
    simp at e
    subst e
    simp [SCELLS]
  | x :: l, j + 1, h, k, e => by
    have := SCELLS_at l j h k (by simpa using e)
    have e1 : (j + 1) * 2 = j * 2 + 1 + 1 := by omega
    simp only [SCELLS, List.flatMap_cons, List.cons_append, List.nil_append, e1, List.getElem?_cons_succ]
    exact this
theorem info_spot : (Tryd.prog.info? 76).map (fun i => (i.zero, i.size, i.bytes)) = some (some (.agg #[.int .u8 0, .int .u64 0]), 2, 16) := by kernel_rfl
theorem app_spot {ops : Array Oper} {rest : List Oper} {o : Oper} {a : Act} {Q : Exit → Act → World → Prop} (w : World) (hgd : o.guard = none) (s x : Operand)
    (ho : o.op = .call { callee := .builtin .append, args := #[s, x], argTypes := #[71, 71] })
    (base : Nat) (v : Value) (n : Nat) (xs : List (Nat × Nat)) (hs : a.eval s = v) (hown : w.ownsRow base 76 2 v n (SCELLS xs))
    (b c : Nat) (h k : Nat) (hx : a.eval x = .slice (some ⟨b, 0, none⟩) 1 c) (hc0 : w.cell? ⟨b, 0, none⟩ = some (.int .u8 (h : Int))) (hc1 : w.cell? ⟨b, 1, none⟩ = some (.int .u64 (k : Int)))
    (hb : n ≤ 1000) (hbase : base ≤ w.heap.size)
    (hh : ∀ g cap w', w'.ownsRow base 76 2 (.slice (some ⟨g, 0, none⟩) (n + 1) cap) (n + 1) (SCELLS (xs ++ [(h, k)])) → w.grownBy w' v.ownBlock → g < w'.heap.size → wpList Tryd.prog ops Q rest (a.put o.dst (.slice (some ⟨g, 0, none⟩) (n + 1) cap)) w') : wpList Tryd.prog ops Q (o :: rest) a w := by
  obtain ⟨i, hi, hz, hs1, hby⟩ := info_parts info_spot
  refine wpList_append_lies w hgd s x 71 ho base 76 i _ 2 16 Tryd.underlying71 hi hz hs1 hby rfl (by decide) v n (SCELLS xs) hs hown ⟨b, 0, none⟩ 1 c [.int .u8 (h : Int), .int .u64 (k : Int)] hx rfl ?_ (fun u hu => by simp at hu; rcases hu with rfl | rfl <;> rfl) (by decide) (by simp only [maxLen]; omega) (by omega) hbase w.heap.size rfl ?_
  · intro j u hj
    match j, hj with
    | 0, hj =>
      simp only [List.getElem?_cons_zero, Option.some.injEq] at hj
      subst hj
      exact hc0
    | 1, hj =>
      simp only [List.getElem?_cons_succ, List.getElem?_cons_zero, Option.some.injEq] at hj
      subst hj
      exact hc1
    | j + 2, hj => simp at hj
  · intro g cap w' h1 h2 _ h4
    rw [← SCELLS_snoc] at h1
    exact hh g cap w' h1 h2 h4
/-- a list of spots lies there. -/
def Spots (w : World) (a : Option Addr) (l : List (Nat × Nat)) : Prop := 0 < l.length → ∃ g, a = some ⟨g, 0, none⟩ ∧ g < w.heap.size ∧ ∀ (j h k : Nat), l[j]? = some (h, k) → w.cell? ⟨g, j * 2, none⟩ = some (.int .u8 (h : Int)) ∧ w.cell? ⟨g, j * 2 + 1, none⟩ = some (.int .u64 (k : Int))
theorem Spots.below {w w' : World} {a : Option Addr} {l : List (Nat × Nat)} (h : Spots w a l) (hb : Below w.heap.size w w') : Spots w' a l := fun h0 => by
  obtain ⟨g, e, hg, hc⟩ := h h0
  exact ⟨g, e, Nat.lt_of_lt_of_le hg hb.size, fun j x y he => ⟨(hb.cell (p := ⟨g, j * 2, none⟩) hg).trans (hc j x y he).1, (hb.cell (p := ⟨g, j * 2 + 1, none⟩) hg).trans (hc j x y he).2⟩⟩
theorem spots_own {w : World} {base n : Nat} {v : Value} {l : List (Nat × Nat)} (hl : l.length = n) (h : w.ownsRow base 76 2 v n (SCELLS l)) : ∃ a cap, v = .slice a n cap ∧ Spots w a l := by
  rcases h.2 with ⟨rfl, h0⟩ | ⟨g, cap, cur, rfl, hb, hg, r⟩
  · subst h0
    exact ⟨none, 0, rfl, fun h => by omega⟩
  · refine ⟨_, cap, rfl, fun h0 => ⟨g, rfl, ?_, fun j x y he => ?_⟩⟩
    · exact (Array.getElem?_eq_some_iff.1 hg).1
    · have hj : j < n := by rw [← hl]; exact (List.getElem?_eq_some_iff.1 he).1
      have h1 := SCELLS_at l j x y he
      exact ⟨(h.cellAt (j * 2) (by omega)).trans h1.1, (h.cellAt (j * 2 + 1) (by omega)).trans h1.2⟩
theorem own_below {w w' : World} {base : Nat} {t : TypeId} {s : Nat} {v : Value} {n : Nat} {xs : List Value} (h : w.ownsRow base t s v n xs) (hb : Below w.heap.size w w') : w'.ownsRow base t s v n xs := by
  refine ⟨h.1, h.2.imp id ?_⟩
  rintro ⟨g, c, cur, a, b, r, rest⟩
  exact ⟨g, c, cur, a, b, (hb.block g (Array.getElem?_eq_some_iff.1 r).1).trans r, rest⟩
end Go.Proofs.YtddmfpiflnjmjaaDoor
