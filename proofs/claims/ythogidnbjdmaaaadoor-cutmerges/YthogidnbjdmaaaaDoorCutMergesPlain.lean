/- What the law CutMerges rests on. -/
import Derived.Test.YthogidnbjdmaaaaDoorCutRefMerge
import Derived.Test.YthogidnbjdmaaaaDoorCutSpansWalk
namespace Go.Proofs.YthogidnbjdmaaaaDoor
open Go.RowKit
set_option maxRecDepth 100000

/-- what Over tells of a list, wherever it lies. -/
theorem overs (l : List (Nat × Nat)) : ∃ (A B : Nat) (t : Bool), ∀ (n cap : Nat) (a : Option Addr) (w : World), l.length = n → n ≤ 1000 → Lie w a l →
    (Calls Tryd.prog 12 #[.slice a n cap] w fun e w' => e = .returned (.tuple #[.int .u64 (A : Int), .int .u64 (B : Int), .bool t]) ∧ Below w.heap.size w w') ∧
    ((∀ x ∈ l, x.1 < 256) → Calls Tryd.prog 13 #[.slice a n cap] w fun e w' => e = .returned (.tuple #[.int .u64 (A : Int), .int .u64 (B : Int), .bool t]) ∧ Below w.heap.size w w') := by
  by_cases h0 : l = []
  · subst h0
    refine ⟨0, 0, false, fun n cap a w hl hn hL => ?_⟩
    obtain rfl : n = 0 := by simpa using hl.symm
    exact ⟨(over_none cap a w).mono fun e w' ⟨h1, h2⟩ => ⟨h1, by subst h2; exact Below.refl _ _⟩, fun _ => (refover_none cap a w).mono fun e w' ⟨h1, h2⟩ => ⟨h1, by subst h2; exact Below.refl _ _⟩⟩
  · have hpos : 0 < l.length := List.length_pos_iff.2 h0
    by_cases ht : ∃ x y, l ≠ [] ∧ Tile x l y
    · obtain ⟨A, B, _, hT⟩ := ht
      refine ⟨A, B, true, fun n cap a w hl hn hL => ⟨?_, fun h256 => ?_⟩⟩
      · refine (over_some n cap a l hl (by omega) (by omega) w hL).mono ?_
        rintro e w' ⟨⟨x, y, h1, rfl⟩ | ⟨h1, _⟩, hb⟩
        · obtain ⟨rfl, rfl⟩ := Tile.same h0 h1 hT
          exact ⟨rfl, hb⟩
        · exact absurd ⟨A, B, h0, hT⟩ h1
      · refine (refover_some n cap a l hl (by omega) (by omega) w hL h256).mono ?_
        rintro e w' ⟨⟨x, y, h1, rfl⟩ | ⟨h1, _⟩, hb⟩
        · obtain ⟨rfl, rfl⟩ := Tile.same h0 h1 hT
          exact ⟨rfl, hb⟩
        · exact absurd ⟨A, B, h0, hT⟩ h1
    · refine ⟨0, 0, false, fun n cap a w hl hn hL => ⟨?_, fun h256 => ?_⟩⟩
      · refine (over_some n cap a l hl (by omega) (by omega) w hL).mono ?_
        rintro e w' ⟨⟨x, y, h1, rfl⟩ | ⟨_, h1⟩, hb⟩
        · exact absurd ⟨x, y, h0, h1⟩ ht
        · exact ⟨h1, hb⟩
      · refine (refover_some n cap a l hl (by omega) (by omega) w hL h256).mono ?_
        rintro e w' ⟨⟨x, y, h1, rfl⟩ | ⟨_, h1⟩, hb⟩
        · exact absurd ⟨x, y, h0, h1⟩ ht
        · exact ⟨h1, hb⟩
/-- what Merge tells of a list, wherever it lies. -/
theorem merges (l : List (Nat × Nat)) : ∃ (P : List (Nat × Nat)) (t : Bool), P.length ≤ 124 ∧ ∀ (n cap : Nat) (a : Option Addr) (w : World), l.length = n → n ≤ 1000 → Lie w a l →
    (Calls Tryd.prog 15 #[.slice a n cap] w fun e w' => ∃ v, e = .returned (.tuple #[v, .bool t]) ∧ w'.ownsRow w.heap.size 28 2 v P.length (SCELLS P) ∧ Below w.heap.size w w') ∧
    ((∀ x ∈ l, x.1 < 256) → (a = none → cap = 0) → Calls Tryd.prog 14 #[.slice a n cap] w fun e w' => ∃ v, e = .returned (.tuple #[v, .bool t]) ∧ w'.ownsRow w.heap.size 28 2 v P.length (SCELLS P) ∧ Below w.heap.size w w') := by
  have nil : ∀ (w : World) (base : Nat), w.ownsRow base 28 2 (.slice none 0 0) ([] : List (Nat × Nat)).length (SCELLS []) := fun w base => ⟨rfl, .inl ⟨rfl, rfl⟩⟩
  by_cases h0 : l = []
  · subst h0
    refine ⟨[], true, by simp, fun n cap a w hl hn hL => ?_⟩
    obtain rfl : n = 0 := by simpa using hl.symm
    exact ⟨(merge_none cap a w).mono fun e w' ⟨h1, h2⟩ => ⟨_, h1, nil _ _, by subst h2; exact Below.refl _ _⟩, fun _ _ => (refmerge_none cap a w).mono fun e w' ⟨h1, h2⟩ => ⟨_, h1, nil _ _, by subst h2; exact Below.refl _ _⟩⟩
  · have hpos : 0 < l.length := List.length_pos_iff.2 h0
    by_cases ht : ∃ x y, l ≠ [] ∧ Tile x l y
    · obtain ⟨A, B, _, hT⟩ := ht
      exact ⟨SPAN A B, true, SPAN_length (hT.bound.2 h0).2, fun n cap a w hl hn hL => ⟨merge_ok n cap a l A B hl (by omega) hn w hL hT, fun h256 hc => refmerge_ok n cap a l A B hl (by omega) hn w hL hc h256 hT⟩⟩
    · refine ⟨[], false, by simp, fun n cap a w hl hn hL => ⟨?_, fun h256 hc => ?_⟩⟩
      · exact (merge_not n cap a l hl (by omega) (by omega) w hL ht).mono fun e w' ⟨h1, h2⟩ => ⟨_, h1, nil _ _, h2⟩
      · exact (refmerge_not n cap a l hl (by omega) (by omega) w hL h256 ht).mono fun e w' ⟨h1, h2⟩ => ⟨_, h1, nil _ _, h2⟩
/-- the index turned, of the first i. -/
def TX (i : Nat) (l : List (Nat × Nat)) : List (Nat × Nat) := (l.take i).map (fun x => (x.1, SIB x.2)) ++ l.drop i
theorem TX_zero (l : List (Nat × Nat)) : TX 0 l = l := by simp [TX]
theorem TX_length (i : Nat) (l : List (Nat × Nat)) : (TX i l).length = l.length := by simp [TX]; omega
theorem TX_at {i h k : Nat} {l : List (Nat × Nat)} (e : l[i]? = some (h, k)) : (TX i l)[i]? = some (h, k) := by
  have hi := (List.getElem?_eq_some_iff.1 e).1
  unfold TX
  rw [List.getElem?_append_right (by simp; omega), List.getElem?_drop]
  have e1 : i + (i - ((l.take i).map fun x => (x.1, SIB x.2)).length) = i := by simp; omega
  rw [e1, e]
theorem SCELLS_set {l : List (Nat × Nat)} : ∀ {i h k k' : Nat}, l[i]? = some (h, k) → (SCELLS l).set (i * 2 + 1) (.int .u64 (k' : Int)) = SCELLS (l.set i (h, k')) := by
  induction l with
  | nil => intro i h k k' e; simp at e
  | cons s l ih =>
    intro i h k k' e
    cases i with
    | zero =>
      simp at e
      subst e
      simp [SCELLS]
    | succ i =>
      have e2 := ih (k' := k') (by simpa using e)
      have e1 : (i + 1) * 2 + 1 = (i * 2 + 1) + 1 + 1 := by omega
      rw [e1, List.set_cons_succ]
      simp only [SCELLS, List.flatMap_cons, List.cons_append, List.nil_append, List.set_cons_succ]
      rw [show (l.flatMap fun x => [Value.int .u8 (x.1 : Int), Value.int .u64 (x.2 : Int)]) = SCELLS l from rfl, e2]
      rfl
theorem TX_next {i h k : Nat} {l : List (Nat × Nat)} (e : l[i]? = some (h, k)) : TX (i + 1) l = (TX i l).set i (h, SIB k) := by
  obtain ⟨t1, t2⟩ := take_at e
  have hi := (List.getElem?_eq_some_iff.1 e).1
  unfold TX
  rw [t2, List.map_append]
  have hd : l.drop i = (h, k) :: l.drop (i + 1) := by
    obtain ⟨hi, e2⟩ := List.getElem?_eq_some_iff.1 e
    rw [← e2, List.getElem_cons_drop]
  rw [hd, List.set_append_right _ _ (by simp; omega)]
  have e1 : i - ((l.take i).map fun x => (x.1, SIB x.2)).length = 0 := by simp; omega
  rw [e1]
  simp
theorem TX_small {l : List (Nat × Nat)} (h : ∀ x ∈ l, x.1 < 256) (i : Nat) : ∀ x ∈ TX i l, x.1 < 256 := by
  intro x hx
  unfold TX at hx
  rcases List.mem_append.1 hx with hx | hx
  · obtain ⟨y, hy, rfl⟩ := List.mem_map.1 hx
    exact h y (List.mem_of_mem_take hy)
  · exact h x (List.mem_of_mem_drop hx)
theorem given_lie {wx : World} {base g n c : Nat} {l : List (Nat × Nat)} (hl : l.length = n) (h : wx.ownsRow base 28 2 (.slice (some ⟨g, 0, none⟩) (n + 1) c) (n + 1) (SCELLS (l ++ [(171, 0)]))) : Lie wx (some ⟨g, 0, none⟩) l := by
  obtain ⟨ad, cp, e, hL⟩ := lie_own (l := l ++ [(171, 0)]) (by simp [hl]) h
  cases e
  have := hL.take n
  rw [List.take_left' hl] at this
  exact this
/-- two lists of one's own beside the list that was given. -/
structure Held (w : World) (g n c : Nat) (l : List (Nat × Nat)) (vx vy : Value) (Nx Ny : Nat) (xs ys : List Value) (wx : World) : Prop where
  bel : Below w.heap.size w wx
  giv : wx.ownsRow w.heap.size 28 2 (.slice (some ⟨g, 0, none⟩) (n + 1) c) (n + 1) (SCELLS (l ++ [(171, 0)]))
  rx : wx.ownsRow w.heap.size 28 2 vx Nx xs
  ry : wx.ownsRow w.heap.size 28 2 vy Ny ys
  xy : ∀ k, vx.ownBlock = some k → vy.ownBlock ≠ some k
  gx : vx.ownBlock ≠ some g
  gy : vy.ownBlock ≠ some g
theorem Held.keep {w : World} {g n c : Nat} {l : List (Nat × Nat)} {vx vy : Value} {Nx Ny : Nat} {xs ys : List Value} {wx wy : World} (h : Held w g n c l vx vy Nx Ny xs ys wx) (hb : Below wx.heap.size wx wy) : Held w g n c l vx vy Nx Ny xs ys wy :=
  ⟨h.bel.trans (hb.mono h.bel.size), own_below h.giv hb, own_below h.rx hb, own_below h.ry hb, h.xy, h.gx, h.gy⟩
theorem Held.storeX {w : World} {g n c : Nat} {l : List (Nat × Nat)} {vy : Value} {Nx Ny bx m cap : Nat} {xs ys : List Value} {wx : World} (h : Held w g n c l (.slice (some ⟨bx, 0, none⟩) m cap) vy Nx Ny xs ys wx) (j : Nat) (u : Value) : Held w g n c l (.slice (some ⟨bx, 0, none⟩) m cap) vy Nx Ny (xs.set j u) ys (wx.setCell ⟨bx, j, none⟩ u) := by
  have hl := h.rx.lt bx rfl
  have hm : m = Nx := by
    rcases h.rx.2 with ⟨e, _⟩ | ⟨_, _, _, e, _⟩
    · simp at e
    · simp at e
      omega
  subst hm
  exact ⟨h.bel.setCell (p := ⟨bx, j, none⟩) hl.1 _, h.giv.kept (grown_cell wx bx j u) (.inr fun e => h.gx e.symm), (h.rx.stored j u).1, h.ry.kept (grown_cell wx bx j u) (.inr fun e => h.xy bx rfl e), h.xy, h.gx, h.gy⟩
theorem Held.flip {w : World} {g n c : Nat} {l : List (Nat × Nat)} {vx vy : Value} {Nx Ny : Nat} {xs ys : List Value} {wx : World} (h : Held w g n c l vx vy Nx Ny xs ys wx) : Held w g n c l vy vx Ny Nx ys xs wx :=
  ⟨h.bel, h.giv, h.ry, h.rx, fun k h1 h2 => h.xy k h2 h1, h.gy, h.gx⟩
theorem Held.appX {w : World} {g n c : Nat} {l : List (Nat × Nat)} {vx vy : Value} {Nx Ny g' cap : Nat} {xs ys us : List Value} {wx w' : World} (h : Held w g n c l vx vy Nx Ny xs ys wx)
    (hown : w'.ownsRow w.heap.size 28 2 (.slice (some ⟨g', 0, none⟩) (Nx + 1) cap) (Nx + 1) (xs ++ us)) (hgrow : wx.grownBy w' vx.ownBlock) (hg : vx.ownBlock = some g' ∨ g' = wx.heap.size) :
    Held w g n c l (.slice (some ⟨g', 0, none⟩) (Nx + 1) cap) vy (Nx + 1) Ny (xs ++ us) ys w' := by
  refine ⟨h.bel.grown hgrow h.bel.size (fun k e => (h.rx.lt k e).1), h.giv.kept hgrow (.inr fun e => h.gx e.symm), hown, h.ry.kept hgrow ?_, fun k hk hk2 => ?_, fun e => ?_, h.gy⟩
  · cases hb : vy.ownBlock with
    | none => exact .inl rfl
    | some k => exact .inr fun e => h.xy k e.symm hb
  · have e : g' = k := by simpa [Value.ownBlock] using hk
    subst e
    rcases hg with hg | hg
    · exact h.xy g' hg hk2
    · have := (h.ry.lt g' hk2).2
      omega
  · have e : g' = g := by simpa [Value.ownBlock] using e
    subst e
    rcases hg with hg | hg
    · exact h.gx hg
    · have := (h.giv.lt g' rfl).2
      omega
theorem Held.lie {w : World} {g n c : Nat} {l : List (Nat × Nat)} {vx vy : Value} {Nx Ny : Nat} {xs ys : List Value} {wx : World} (h : Held w g n c l vx vy Nx Ny xs ys wx) (hl : l.length = n) : Lie wx (some ⟨g, 0, none⟩) l := given_lie hl h.giv
end Go.Proofs.YthogidnbjdmaaaaDoor
