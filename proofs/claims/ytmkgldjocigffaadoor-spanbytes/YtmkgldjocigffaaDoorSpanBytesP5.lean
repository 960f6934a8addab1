/- Texts of SpanBytes, one behind the other: PosSpotRow, ManyRefUnder, RegionSteps, StepLists, ManyRefSpots, ManyRefNeedsRegion. -/
import Derived.Test.YtmkgldjocigffaaDoorProg
import Derived.WalkKit
import Derived.WalkLawsBesides
import Derived.Deep.RegionHeld3
import Derived.Deep.CutRange
import Derived.Deep.MidRow
import Derived.Deep.AppendLies
import Derived.Laws.AppendOwnNone
import Derived.Test.YtmkgldjocigffaaDoorSpanBytesP4
/- Lists of spots of one's own. -/
namespace Go.Proofs.YtmkgldjocigffaaDoor
open Go.RowKit

/-- spots as cells. -/
def SCELLS (l : List (Nat × Nat)) : List Value := l.flatMap fun x => [Value.int .u8 (x.1 : Int), Value.int .u64 (x.2 : Int)]
theorem SCELLS_snoc (l : List (Nat × Nat)) (h k : Nat) : SCELLS (l ++ [(h, k)]) = SCELLS l ++ [Value.int .u8 (h : Int), Value.int .u64 (k : Int)] := by simp [SCELLS]
theorem SCELLS_at : ∀ (l : List (Nat × Nat)) (j h k : Nat), l[j]? = some (h, k) → (SCELLS l)[j * 2]? = some (.int .u8 (h : Int)) ∧ (SCELLS l)[j * 2 + 1]? = some (.int .u64 (k : Int))
  | [], j, h, k, e => by simp at e
  | x :: l, 0, h, k, e => by
    simp at e
    subst e
    simp [SCELLS]
  | x :: l, j + 1, h, k, e => by
    have := SCELLS_at l j h k (by simpa using e)
    have e1 : (j + 1) * 2 = j * 2 + 1 + 1 := by omega
    simp only [SCELLS, List.flatMap_cons, List.cons_append, List.nil_append, e1, List.getElem?_cons_succ]
    exact this
theorem info_spot : (Tryd.prog.info? 55).map (fun i => (i.zero, i.size, i.bytes)) = some (some (.agg #[.int .u8 0, .int .u64 0]), 2, 16) := by kernel_rfl
theorem app_spot {ops : Array Oper} {rest : List Oper} {o : Oper} {a : Act} {Q : Exit → Act → World → Prop} (w : World) (hgd : o.guard = none) (s x : Operand)
    (ho : o.op = .call { callee := .builtin .append, args := #[s, x], argTypes := #[51, 51] })
    (base : Nat) (v : Value) (n : Nat) (xs : List (Nat × Nat)) (hs : a.eval s = v) (hown : w.ownsRow base 55 2 v n (SCELLS xs))
    (b c : Nat) (h k : Nat) (hx : a.eval x = .slice (some ⟨b, 0, none⟩) 1 c) (hc0 : w.cell? ⟨b, 0, none⟩ = some (.int .u8 (h : Int))) (hc1 : w.cell? ⟨b, 1, none⟩ = some (.int .u64 (k : Int)))
    (hb : n ≤ 1000) (hbase : base ≤ w.heap.size)
    (hh : ∀ g cap w', w'.ownsRow base 55 2 (.slice (some ⟨g, 0, none⟩) (n + 1) cap) (n + 1) (SCELLS (xs ++ [(h, k)])) → w.grownBy w' v.ownBlock → g < w'.heap.size → wpList Tryd.prog ops Q rest (a.put o.dst (.slice (some ⟨g, 0, none⟩) (n + 1) cap)) w') : wpList Tryd.prog ops Q (o :: rest) a w := by
  obtain ⟨i, hi, hz, hs1, hby⟩ := info_parts info_spot
  refine wpList_append_lies w hgd s x 51 ho base 55 i _ 2 16 Tryd.underlying51 hi hz hs1 hby rfl (by decide) v n (SCELLS xs) hs hown ⟨b, 0, none⟩ 1 c [.int .u8 (h : Int), .int .u64 (k : Int)] hx rfl ?_ (fun u hu => by simp at hu; rcases hu with rfl | rfl <;> rfl) (by decide) (by simp only [maxLen]; omega) (by omega) hbase w.heap.size rfl ?_
  · intro j u hj
    match j, hj with
    | 0, hj =>
      simp only [List.getElem?_cons_zero, Option.some.injEq] at hj
      subst hj
      exact hc0
    | 1, hj =>
      simp only [List.getElem?_cons_succ, List.getElem?_cons_zero, Option.some.injEq] at hj
      subst hj
      exact hc1
    | j + 2, hj => simp at hj
  · intro g cap w' h1 h2 _ h4
    rw [← SCELLS_snoc] at h1
    exact hh g cap w' h1 h2 h4
/-- a list of spots lies there. -/
def Spots (w : World) (a : Option Addr) (l : List (Nat × Nat)) : Prop := 0 < l.length → ∃ g, a = some ⟨g, 0, none⟩ ∧ g < w.heap.size ∧ ∀ (j h k : Nat), l[j]? = some (h, k) → w.cell? ⟨g, j * 2, none⟩ = some (.int .u8 (h : Int)) ∧ w.cell? ⟨g, j * 2 + 1, none⟩ = some (.int .u64 (k : Int))
theorem Spots.below {w w' : World} {a : Option Addr} {l : List (Nat × Nat)} (h : Spots w a l) (hb : Below w.heap.size w w') : Spots w' a l := fun h0 => by
  obtain ⟨g, e, hg, hc⟩ := h h0
  exact ⟨g, e, Nat.lt_of_lt_of_le hg hb.size, fun j x y he => ⟨(hb.cell (p := ⟨g, j * 2, none⟩) hg).trans (hc j x y he).1, (hb.cell (p := ⟨g, j * 2 + 1, none⟩) hg).trans (hc j x y he).2⟩⟩
theorem spots_own {w : World} {base n : Nat} {v : Value} {l : List (Nat × Nat)} (hl : l.length = n) (h : w.ownsRow base 55 2 v n (SCELLS l)) : ∃ a cap, v = .slice a n cap ∧ Spots w a l := by
  rcases h.2 with ⟨rfl, h0⟩ | ⟨g, cap, cur, rfl, hb, hg, r⟩
  · subst h0
    exact ⟨none, 0, rfl, fun h => by omega⟩
  · refine ⟨_, cap, rfl, fun h0 => ⟨g, rfl, ?_, fun j x y he => ?_⟩⟩
    · exact (Array.getElem?_eq_some_iff.1 hg).1
    · have hj : j < n := by rw [← hl]; exact (List.getElem?_eq_some_iff.1 he).1
      have h1 := SCELLS_at l j x y he
      exact ⟨(h.cellAt (j * 2) (by omega)).trans h1.1, (h.cellAt (j * 2 + 1) (by omega)).trans h1.2⟩
theorem own_below {w w' : World} {base : Nat} {t : TypeId} {s : Nat} {v : Value} {n : Nat} {xs : List Value} (h : w.ownsRow base t s v n xs) (hb : Below w.heap.size w w') : w'.ownsRow base t s v n xs := by
  refine ⟨h.1, h.2.imp id ?_⟩
  rintro ⟨g, c, cur, a, b, r, rest⟩
  exact ⟨g, c, cur, a, b, (hb.block g (Array.getElem?_eq_some_iff.1 r).1).trans r, rest⟩
end Go.Proofs.YtmkgldjocigffaaDoor

/- massifref10.under: the indices that stand under a spot. -/
namespace Go.Proofs.YtmkgldjocigffaaDoor
open Go.RowKit
set_option maxRecDepth 100000

end Go.Proofs.YtmkgldjocigffaaDoor

/- Steps of a region that draws its order, one operation at a time. -/
namespace Go.Proofs.YtmkgldjocigffaaDoor
open Go.RowKit
set_option maxRecDepth 100000

theorem step_skip {ops : Array Oper} {o : Oper} {a : Act} {w w' : World} {K : Act → World → Prop} {Q : Exit → Act → World → Prop} {E : Prop} (hg : o.guard = none)
    (hrun : (execOp a.eval o).run Tryd.prog w = .ok .skip w') (h : K (a.put o.dst undef) w') : if Region.wanted o (yielded ops a.tmps) = true then Oper.wp Tryd.prog o a w K Q else E := by
  have hw : Region.wanted o (yielded ops a.tmps) = true := by simp [Region.wanted, hg]
  rw [if_pos hw]
  unfold Oper.wp
  rw [hrun]
  exact h
theorem run_skip {s : Sem Unit} {w w' : World} (h : s.run Tryd.prog w = .ok () w') : (do s; pure Next.skip : Sem Next).run Tryd.prog w = .ok .skip w' := by
  simp [h]
theorem run_value {s : Sem Value} {w w' : World} {v : Value} (h : s.run Tryd.prog w = .ok v w') : (do pure (Next.value (← s)) : Sem Next).run Tryd.prog w = .ok (.value v) w' := by
  simp [h, Result.andThen]
end Go.Proofs.YtmkgldjocigffaaDoor

/- Laws of one operation, at a step of a region that draws its order. -/
namespace Go.Proofs.YtmkgldjocigffaaDoor
open Go.RowKit
set_option maxRecDepth 100000

theorem wp_both {P : Program} {o : Oper} {a : Act} {w : World} {K K' : Act → World → Prop} {Q Q' : Exit → Act → World → Prop} (h : ∀ a w, K a w → K' a w) (hq : ∀ c a w, Q (.panic c) a w → Q' (.panic c) a w) (hl : LetsOut Q → LetsOut Q') (hh : o.wp P a w K Q) : o.wp P a w K' Q' := by
  unfold Oper.wp at *
  generalize (execOp a.eval o).run P w = r at *
  cases r with
  | ok n w' =>
    cases n <;> simp only [Oper.upon] at hh ⊢ <;>
      first
        | exact h _ _ hh
        | exact Calls.mono hh (fun e w'' he => by cases e <;> first | exact h _ _ he | exact hq _ _ _ he | exact hl he)
        | exact Rows.mono hh (fun _ _ he => h _ _ he)
  | halt x w' => cases x <;> simp only [Oper.upon] at hh ⊢ <;> first | exact hq _ _ _ hh | exact hh
/-- a law of one operation in a row serves at a step. -/
theorem step_of_list {P : Program} {ops : Array Oper} {o : Oper} {a : Act} {w : World} {K : Act → World → Prop} {Q : Exit → Act → World → Prop} {E : Prop} (hw : Region.wanted o (yielded ops a.tmps) = true)
    (h : wpList P ops (fun e a w => e = Exit.normal ∧ K a w) [o] a w) : if Region.wanted o (yielded ops a.tmps) = true then Oper.wp P o a w K Q else E := by
  rw [if_pos hw]
  unfold wpList at h
  rw [if_pos hw] at h
  rcases h with h | ⟨_, a', w', h', _⟩
  · exact wp_both (fun a w h => by unfold wpList at h; exact h.2) (fun c a w h => by cases h.1) (fun h => by obtain ⟨_, _, h, _⟩ := h; cases h) h
  · cases h'
/-- an operation that gives a value. -/
theorem step_valw {ops : Array Oper} {o : Oper} {a : Act} {w w' : World} {K : Act → World → Prop} {Q : Exit → Act → World → Prop} {E : Prop} {v : Value} (hw : Region.wanted o (yielded ops a.tmps) = true)
    (hrun : (execOp a.eval o).run Tryd.prog w = .ok (.value v) w') (h : K (a.put o.dst v) w') : if Region.wanted o (yielded ops a.tmps) = true then Oper.wp Tryd.prog o a w K Q else E := by
  rw [if_pos hw]
  unfold Oper.wp
  rw [hrun]
  exact h
end Go.Proofs.YtmkgldjocigffaaDoor

/- A list of spots is put behind another one. -/
namespace Go.Proofs.YtmkgldjocigffaaDoor
open Go.RowKit
set_option maxRecDepth 100000

theorem SCELLS_append (l k : List (Nat × Nat)) : SCELLS (l ++ k) = SCELLS l ++ SCELLS k := by unfold SCELLS; rw [List.flatMap_append]
theorem SCELLS_one (l : List (Nat × Nat)) : ∀ u ∈ SCELLS l, u.oneCell' = true := fun u hu => by
  unfold SCELLS at hu
  obtain ⟨x, _, hx⟩ := List.mem_flatMap.1 hu
  simp at hx
  rcases hx with rfl | rfl <;> rfl
theorem app_spotrow {ops : Array Oper} {rest : List Oper} {o : Oper} {a : Act} {Q : Exit → Act → World → Prop} (w : World) (hgd : o.guard = none) (s x : Operand)
    (ho : o.op = .call { callee := .builtin .append, args := #[s, x], argTypes := #[51, 51] })
    (base : Nat) (v : Value) (n : Nat) (xs : List (Nat × Nat)) (hs : a.eval s = v) (hown : w.ownsRow base 55 2 v n (SCELLS xs))
    (B : Nat) (ad : Option Addr) (m c : Nat) (l : List (Nat × Nat)) (hx : a.eval x = .slice ad m c) (hsrc : w.ownsRow B 55 2 (.slice ad m c) m (SCELLS l))
    (hb : n + m ≤ 2 ^ 26) (hbase : base ≤ w.heap.size)
    (hh : ∀ a' c' w', w'.ownsRow base 55 2 (.slice a' (n + m) c') (n + m) (SCELLS (xs ++ l)) → w.grownBy w' v.ownBlock → wpList Tryd.prog ops Q rest (a.put o.dst (.slice a' (n + m) c')) w') : wpList Tryd.prog ops Q (o :: rest) a w := by
  obtain ⟨i, hi, hz, hs1, hby⟩ := info_parts info_spot
  have hlm : (SCELLS l).length = m * 2 := hsrc.1
  cases ad with
  | none =>
    have h0 : m = 0 ∧ c = 0 := by
      rcases hsrc.2 with ⟨e, h0⟩ | ⟨_, _, _, e, _⟩
      · cases e; exact ⟨rfl, rfl⟩
      · cases e
    obtain ⟨rfl, rfl⟩ := h0
    have hl0 : l = [] := by
      cases l with
      | nil => rfl
      | cons y l => simp [SCELLS] at hlm
    subst hl0
    refine wpList_append_own_none hgd s x 51 ho base 55 i 2 Tryd.underlying51 hi v n (SCELLS xs) hs hown hx ?_
    obtain ⟨a', c', rfl⟩ := own_sliced hown
    have := hh a' c' w (by simpa using hown) ⟨rfl, rfl, rfl, Nat.le_refl _, fun _ _ _ => rfl⟩
    simpa using this
  | some ad =>
    obtain ⟨g, rfl⟩ : ∃ g, ad = ⟨g, 0, none⟩ := by
      rcases hsrc.2 with ⟨e, h0⟩ | ⟨g, _, _, e, _⟩
      · cases e
      · cases e; exact ⟨g, rfl⟩
    refine wpList_append_own w hgd s x 51 ho base 55 i _ 2 16 Tryd.underlying51 hi hz hs1 hby rfl (by decide) v n (SCELLS xs) hs hown ⟨g, 0, none⟩ m c (SCELLS l) hx hlm (fun j u hu => ?_) (SCELLS_one l) (by simp only [maxLen]; omega) (by omega) hbase ?_
    · have hj : j < m * 2 := by rw [← hlm]; exact (List.getElem?_eq_some_iff.1 hu).1
      rw [show (⟨g, 0, none⟩ : Addr).add j = ⟨g, j, none⟩ by unfold Addr.add; split <;> simp_all]
      exact (hsrc.cellAt j hj).trans hu
    · intro v' w' h1 h2 _
      obtain ⟨a', c', rfl⟩ := own_sliced h1
      rw [← SCELLS_append] at h1
      exact hh a' c' w' h1 h2
theorem own_nospot (w : World) : (w.alloc (.cells #[] 55)).ownsRow w.heap.size 55 2 (.slice (some ⟨w.heap.size, 0, none⟩) 0 0) 0 (SCELLS []) :=
  World.ownsRow_lit w #[] 0 (Nat.le_refl _) (by simp [maxLen]) rfl
theorem own_aspot (w : World) (h k : Nat) : (w.alloc (.cells #[.int .u8 (h : Int), .int .u64 (k : Int)] 55)).ownsRow w.heap.size 55 2 (.slice (some ⟨w.heap.size, 0, none⟩) 1 1) 1 (SCELLS [(h, k)]) :=
  World.ownsRow_lit w #[.int .u8 (h : Int), .int .u64 (k : Int)] 1 (Nat.le_refl _) (by simp [maxLen]) rfl
theorem own_hold {w w' : World} {B s n : Nat} {t : TypeId} {v : Value} {xs : List Value} (h : w.ownsRow B t s v n xs) (hk : ∀ k, v.ownBlock = some k → w'.heap[k]? = w.heap[k]?) : w'.ownsRow B t s v n xs := by
  refine ⟨h.1, ?_⟩
  rcases h.2 with h | ⟨g, cap, cur, rfl, hb, hg, r⟩
  · exact .inl h
  · exact .inr ⟨g, cap, cur, rfl, hb, by rw [hk g rfl]; exact hg, r⟩
end Go.Proofs.YtmkgldjocigffaaDoor

/- The region of the document's needs that draws its order. -/
namespace Go.Proofs.YtmkgldjocigffaaDoor
open Go.RowKit
set_option maxRecDepth 100000

theorem own_alloc {w : World} {B s n : Nat} {t : TypeId} {v : Value} {xs : List Value} (h : w.ownsRow B t s v n xs) (o : Obj) : (w.alloc o).ownsRow B t s v n xs := own_hold h fun k e => Below.heap_alloc w o k (h.lt k e).2
end Go.Proofs.YtmkgldjocigffaaDoor
