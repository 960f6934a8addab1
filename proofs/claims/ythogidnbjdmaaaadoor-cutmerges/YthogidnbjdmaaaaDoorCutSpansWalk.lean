/- The walk of CutSpans. -/
import Derived.Test.YthogidnbjdmaaaaDoorCutFour
import Derived.Deep.RegionHeld3
import Derived.Deep.MidRow
import Derived.Great.BuildSlice
import Derived.Deep.RegionLaw
namespace Go.Proofs.YthogidnbjdmaaaaDoor
open Go.RowKit
set_option maxRecDepth 100000

/-- what stands behind the writing. -/
abbrev CX (x : Nat) : Value := .int .u64 (((201 + x : Nat)) : Int)
/-- a list of spots lies there. -/
def Lies (w : World) (v : Value) (l : List (Nat × Nat)) : Prop := ∃ a cap, v = .slice a l.length cap ∧ Lie w a l
theorem Lies.below {w w' : World} {v : Value} {l : List (Nat × Nat)} {B : Nat} (h : Lies w v l) (hb : Below B w w') (hB : w.heap.size ≤ B) : Lies w' v l := by
  obtain ⟨a, cap, rfl, h⟩ := h
  exact ⟨a, cap, rfl, h.below (hb.mono hB)⟩
theorem lies_own {w : World} {base n : Nat} {v : Value} {l : List (Nat × Nat)} (hl : l.length = n) (h : w.ownsRow base 28 2 v n (SCELLS l)) : Lies w v l := by
  subst hl
  exact lie_own rfl h
theorem wr_id {x : Nat} (h : x < 2 ^ 64) : IntKind.u64.wrap (x : Int) = (x : Int) := by
  rw [wrapU]
  omega
theorem same2_ok (va vb : Value) (l : List (Nat × Nat)) (w : World) (hn : l.length ≤ 1000) (ha : Lies w va l) (hb : Lies w vb l) :
    Calls Tryd.prog 9 #[va, vb] w fun e w' => e = .returned (.bool true) ∧ Below w.heap.size w w' := by
  obtain ⟨a, ca, rfl, hA⟩ := ha
  obtain ⟨b, cb, rfl, hB⟩ := hb
  exact same_ok a b l.length ca cb l rfl (by omega) w hA hB
/-- the lists that the calls brought, each behind the one before. -/
structure Came (w2 : World) (s3 s4 s5 s6 : Nat) (v8 v9 v10 v12 : Value) (P W : List (Nat × Nat)) (wx : World) : Prop where
  bel : Below w2.heap.size w2 wx
  r8 : wx.ownsRow w2.heap.size 28 2 v8 P.length (SCELLS P)
  r9 : wx.ownsRow s3 28 2 v9 P.length (SCELLS P)
  r10 : wx.ownsRow s4 28 2 v10 W.length (SCELLS W)
  r12 : wx.ownsRow s5 28 2 v12 W.length (SCELLS W)
  l8 : ∀ k, v8.ownBlock = some k → k < s3
  l9 : ∀ k, v9.ownBlock = some k → k < s4
  l10 : ∀ k, v10.ownBlock = some k → k < s5
  l12 : ∀ k, v12.ownBlock = some k → k < s6
  o3 : w2.heap.size ≤ s3
  o4 : s3 ≤ s4
  o5 : s4 ≤ s5
  o6 : s5 ≤ s6
  top : s6 ≤ wx.heap.size
theorem Came.keep {w2 wx wy : World} {s3 s4 s5 s6 : Nat} {v8 v9 v10 v12 : Value} {P W : List (Nat × Nat)} (h : Came w2 s3 s4 s5 s6 v8 v9 v10 v12 P W wx) (hb : Below wx.heap.size wx wy) : Came w2 s3 s4 s5 s6 v8 v9 v10 v12 P W wy :=
  ⟨h.bel.trans (hb.mono h.bel.size), own_below h.r8 hb, own_below h.r9 hb, own_below h.r10 hb, own_below h.r12 hb, h.l8, h.l9, h.l10, h.l12, h.o3, h.o4, h.o5, h.o6, Nat.le_trans h.top hb.size⟩
theorem Came.make {w2 w3 w4 w5 w6 : World} {v8 v9 v10 v12 : Value} {P W : List (Nat × Nat)} (b3 : Below w2.heap.size w2 w3) (r8 : w3.ownsRow w2.heap.size 28 2 v8 P.length (SCELLS P)) (b4 : Below w3.heap.size w3 w4) (r9 : w4.ownsRow w3.heap.size 28 2 v9 P.length (SCELLS P))
    (b5 : Below w4.heap.size w4 w5) (r10 : w5.ownsRow w4.heap.size 28 2 v10 W.length (SCELLS W)) (b6 : Below w5.heap.size w5 w6) (r12 : w6.ownsRow w5.heap.size 28 2 v12 W.length (SCELLS W)) : Came w2 w3.heap.size w4.heap.size w5.heap.size w6.heap.size v8 v9 v10 v12 P W w6 := by
  have b46 := b5.trans (b6.mono b5.size)
  have b36 := b4.trans (b46.mono b4.size)
  exact ⟨b3.trans (b36.mono b3.size), own_below r8 b36, own_below r9 b46, own_below r10 b6, r12, fun k hk => (r8.lt k hk).2, fun k hk => (r9.lt k hk).2, fun k hk => (r10.lt k hk).2, fun k hk => (r12.lt k hk).2, b3.size, b4.size, b5.size, b6.size, Nat.le_refl _⟩
/-- the writing, so far: the lists ahead of x are written over, of list x the first y. -/
def ST1 (w2 : World) (lb : Nat) (c0 : Array Value) (V : Nat → Value) (N : Nat → Nat) (x y : Nat) (wx : World) : Prop :=
  ∃ xs : Nat → List Value, Quad wx w2.heap.size (fun g => g = lb) V N xs ∧ Has wx lb c0 23 ∧ Below w2.heap.size w2 wx ∧ w2.heap.size ≤ lb ∧ (∀ z, z < x → ∀ j, j < N z → (xs z)[j * 2 + 1]? = some (CX z)) ∧ (∀ j, j < y → (xs x)[j * 2 + 1]? = some (CX x))
theorem ST1.next {w2 : World} {lb : Nat} {c0 : Array Value} {V : Nat → Value} {N : Nat → Nat} {x : Nat} {wx : World} (h : ST1 w2 lb c0 V N x (N x) wx) : ST1 w2 lb c0 V N (x + 1) 0 wx := by
  obtain ⟨xs, h1, h2, h3, h4, h5, h6⟩ := h
  refine ⟨xs, h1, h2, h3, h4, fun z hz j hj => ?_, fun j hj => by omega⟩
  rcases Nat.lt_or_ge z x with h | h
  · exact h5 z h j hj
  · obtain rfl : z = x := by omega
    exact h6 j hj
theorem ST1.store {w2 : World} {lb : Nat} {c0 : Array Value} {V : Nat → Value} {N : Nat → Nat} {x y g m cap : Nat} {wx : World} (h : ST1 w2 lb c0 V N x y wx) (hx : x < 4) (hy : y < N x) (hv : V x = .slice (some ⟨g, 0, none⟩) m cap) : ST1 w2 lb c0 V N x (y + 1) ((wx.setCell ⟨g, y * 2, none⟩ (.int .u8 0)).setCell ⟨g, y * 2 + 1, none⟩ (CX x)) := by
  obtain ⟨xs, h1, h2, h3, h4, h5, h6⟩ := h
  have hg := (h1.row x hx).lt g (by rw [hv]; rfl)
  have hne : lb ≠ g := fun e => h1.off x hx g (by rw [hv]; rfl) e.symm
  refine ⟨_, (h1.store hx hv (y * 2) (.int .u8 0)).store hx hv (y * 2 + 1) (CX x), (h2.other (a := ⟨g, y * 2, none⟩) hne _).other (a := ⟨g, y * 2 + 1, none⟩) hne _, (h3.setCell (p := ⟨g, y * 2, none⟩) hg.1 _).setCell (p := ⟨g, y * 2 + 1, none⟩) hg.1 _, h4, fun z hz j hj => ?_, fun j hj => ?_⟩
  · rw [UPS_other _ _ (by omega), UPS_other _ _ (by omega)]
    exact h5 z hz j hj
  · rw [UPS_at, UPS_at, List.getElem?_set]
    have hl : (xs x).length = N x * 2 := by have := (h1.row x hx).1; omega
    split
    · rw [if_pos (by rw [List.length_set]; omega)]
    · rw [List.getElem?_set, if_neg (by omega)]
      exact h6 j (by omega)
/-- the lists are grown, so far: those ahead of x. -/
structure ST3 (w2 : World) (lb gb : Nat) (c0 : Array Value) (x : Nat) (wx : World) (V : Nat → Value) (N : Nat → Nat) (xs : Nat → List Value) (cg : Array Value) : Prop where
  four : Quad wx w2.heap.size (fun g => g = lb ∨ g = gb) V N xs
  hl : Has wx lb c0 23
  hg : Has wx gb cg 29
  size : cg.size = 4
  bel : Below w2.heap.size w2 wx
  ol : w2.heap.size ≤ lb
  og : w2.heap.size ≤ gb
  old : ∀ z, x ≤ z → z < 4 → c0[z]? = some (V z)
  new : ∀ z, z < x → cg[z]? = some (V z)
  cell : ∀ z, z < 4 → ∀ j, j < N z → (xs z)[j * 2 + 1]? = some (CX z)
  len : ∀ z, z < 4 → N z ≤ 126
  few : ∀ z, x ≤ z → z < 4 → N z ≤ 124
/-- a spot of the mark, as cells. -/
abbrev CM (x : Nat) : List Value := [.int .u8 0, CX x]
theorem ST3.keep {w2 : World} {lb gb : Nat} {c0 : Array Value} {x : Nat} {wx wy : World} {V : Nat → Value} {N : Nat → Nat} {xs : Nat → List Value} {cg : Array Value} (h : ST3 w2 lb gb c0 x wx V N xs cg) (hb : Below wx.heap.size wx wy) : ST3 w2 lb gb c0 x wy V N xs cg :=
  ⟨h.four.below hb, h.hl.keep hb, h.hg.keep hb, h.size, h.bel.trans (hb.mono h.bel.size), h.ol, h.og, h.old, h.new, h.cell, h.len, h.few⟩
theorem ST3.step {w2 : World} {lb gb : Nat} {c0 : Array Value} {x : Nat} {wx : World} {V : Nat → Value} {N : Nat → Nat} {xs : Nat → List Value} {cg : Array Value} (h : ST3 w2 lb gb c0 x wx V N xs cg) (hx : x < 4) {g1 q1 g2 q2 : Nat} {w5 w5' w6 : World}
    (own1 : w5.ownsRow w2.heap.size 28 2 (.slice (some ⟨g1, 0, none⟩) (N x + 1) q1) (N x + 1) (xs x ++ CM x)) (grow1 : wx.grownBy w5 (V x).ownBlock) (at1 : (V x).ownBlock = some g1 ∨ g1 = wx.heap.size) (hmid : Below w5.heap.size w5 w5')
    (own2 : w6.ownsRow w2.heap.size 28 2 (.slice (some ⟨g2, 0, none⟩) (N x + 1 + 1) q2) (N x + 1 + 1) (xs x ++ CM x ++ CM x)) (grow2 : w5'.grownBy w6 (some g1)) (at2 : some g1 = some g2 ∨ g2 = w5'.heap.size) :
    Has w6 gb cg 29 ∧ ∃ V' N' xs', ST3 w2 lb gb c0 (x + 1) (w6.setCell ⟨gb, x, none⟩ (.slice (some ⟨g2, 0, none⟩) (N x + 1 + 1) q2)) V' N' xs' (cg.setIfInBounds x (.slice (some ⟨g2, 0, none⟩) (N x + 1 + 1) q2)) := by
  have hK : ∀ k, (k = lb ∨ k = gb) → k < wx.heap.size := fun k hk => by
    rcases hk with rfl | rfl
    · exact h.hl.lt
    · exact h.hg.lt
  have F1 := h.four.app hx hK own1 grow1 at1
  have hr1 : ∀ k, (k = lb ∨ k = gb) → (V x).ownBlock ≠ some k := fun k hk e => h.four.off x hx k e hk
  have l5 := h.hl.grownS grow1 (hr1 lb (.inl rfl))
  have g5 := h.hg.grownS grow1 (hr1 gb (.inr rfl))
  have hr2 : ∀ k, (k = lb ∨ k = gb) → (some g1 : Option Nat) ≠ some k := fun k hk e => F1.off x hx k (by rw [UPS_at]; exact e) hk
  have hK2 : ∀ k, (k = lb ∨ k = gb) → k < w5'.heap.size := fun k hk => by
    rcases hk with rfl | rfl
    · exact (l5.keep hmid).lt
    · exact (g5.keep hmid).lt
  have l6 := (l5.keep hmid).grownS grow2 (hr2 lb (.inl rfl))
  have g6 := (g5.keep hmid).grownS grow2 (hr2 gb (.inr rfl))
  have F2 := (F1.below hmid).app (x := x) (g := g2) (cap := q2) (us := CM x) (w' := w6) hx hK2 (by rw [UPS_at, UPS_at]; exact own2) (by rw [UPS_at]; exact grow2) (by rw [UPS_at]; exact at2)
  have F3 := F2.other (b := gb) (.inr rfl) x (.slice (some ⟨g2, 0, none⟩) (N x + 1 + 1) q2)
  have b5 : Below w2.heap.size w2 w5 := h.bel.grown grow1 h.bel.size (fun k e => ((h.four.row x hx).lt k e).1)
  have b5' : Below w2.heap.size w2 w5' := b5.trans (hmid.mono b5.size)
  have b6 : Below w2.heap.size w2 w6 := b5'.grown grow2 b5'.size (fun k e => (own1.lt k e).1)
  have hlen : (xs x).length = N x * 2 := by have := (h.four.row x hx).1; omega
  refine ⟨g6, _, _, _, ⟨F3, l6.other (a := ⟨gb, x, none⟩) (fun e => ?_) _, g6.set x _, by simpa using h.size, b6.setCell (p := ⟨gb, x, none⟩) h.og _, h.ol, h.og, fun z hz hz4 => ?_, fun z hz => ?_, fun z hz j hj => ?_, fun z hz => ?_, fun z hz hz4 => ?_⟩⟩
  · have e' : lb = gb := e
    have h1 : wx.heap[lb]? = some (.cells c0 23) := h.hl
    have h2 : wx.heap[gb]? = some (.cells cg 29) := h.hg
    rw [e', h2] at h1
    simp at h1
  · rw [UPS_other _ _ (by omega), UPS_other _ _ (by omega)]
    exact h.old z (by omega) hz4
  · rw [Array.getElem?_setIfInBounds]
    by_cases e : z = x
    · subst e
      rw [if_pos rfl, if_pos (by rw [h.size]; exact hx), UPS_at, UPS_at]
    · rw [if_neg (fun e2 => e e2.symm), UPS_other _ _ e, UPS_other _ _ e]
      exact h.new z (by omega)
  · by_cases e : z = x
    · subst e
      rw [UPS_at, UPS_at] at hj
      rw [UPS_at, UPS_at]
      rcases Nat.lt_or_ge j (N z) with h1 | h1
      · rw [List.append_assoc, List.getElem?_append_left (by omega)]
        exact h.cell z hz j h1
      · rw [List.append_assoc, List.getElem?_append_right (by omega), hlen]
        rcases (show j * 2 + 1 - N z * 2 = 1 ∨ j * 2 + 1 - N z * 2 = 3 by omega) with h2 | h2 <;> rw [h2] <;> rfl
    · rw [UPS_other _ _ e, UPS_other _ _ e] at hj
      rw [UPS_other _ _ e, UPS_other _ _ e]
      exact h.cell z hz j hj
  · by_cases e : z = x
    · subst e
      rw [UPS_at, UPS_at]
      have := h.few z (Nat.le_refl _) hz
      omega
    · rw [UPS_other _ _ e, UPS_other _ _ e]
      exact h.len z hz
  · rw [UPS_other _ _ (by omega), UPS_other _ _ (by omega)]
    exact h.few z (by omega) hz4
theorem ST3.start {w2 : World} {lb : Nat} {c0 : Array Value} {V : Nat → Value} {N : Nat → Nat} {wx : World} (h : ST1 w2 lb c0 V N 4 0 wx) (hV : ∀ x, x < 4 → c0[x]? = some (V x)) (hN : ∀ x, x < 4 → N x ≤ 124) (cg : Array Value) (hcg : cg.size = 4) : ∃ xs, ST3 w2 lb wx.heap.size c0 0 (wx.alloc (.cells cg 29)) V N xs cg := by
  obtain ⟨xs, h1, h2, h3, h4, h5, h6⟩ := h
  refine ⟨xs, (h1.more (K' := fun g => g = lb ∨ g = wx.heap.size) fun g hg hk => ?_).alloc _, h2.alloc _, Has.new _ _ _, hcg, h3.alloc h3.size _, h4, h3.size, fun z _ hz => hV z hz, fun z hz => by omega, fun z hz j hj => h5 z hz j hj, fun z hz => ?_, fun z _ hz => hN z hz⟩
  · rcases hk with h | h
    · exact h
    · omega
  · have := hN z hz
    omega
/-- what the region holds: the mark's two cells, and the list that is grown. -/
def SX (mb lb x : Nat) (v : Value) (W : World) : Prop := W.cell? ⟨mb, 0, none⟩ = some (.int .u8 0) ∧ W.cell? ⟨mb, 1, none⟩ = some (CX x) ∧ W.cell? ⟨lb, x, none⟩ = some v
theorem SX.below {mb lb x : Nat} {v : Value} {W W' : World} (h : SX mb lb x v W) (hb : Below W.heap.size W W') : SX mb lb x v W' :=
  ⟨(hb.cell (World.block_lt_of_cell? W _ h.1)).trans h.1, (hb.cell (World.block_lt_of_cell? W _ h.2.1)).trans h.2.1, (hb.cell (World.block_lt_of_cell? W _ h.2.2)).trans h.2.2⟩
theorem SX.alloc {mb lb x : Nat} {v : Value} {W : World} (h : SX mb lb x v W) (o : Obj) : SX mb lb x v (W.alloc o) := h.below ((Below.refl _ _).alloc (Nat.le_refl _) _)
theorem SX.grown {mb lb x : Nat} {v : Value} {W W' : World} {row : Option Nat} (h : SX mb lb x v W) (hg : W.grownBy W' row) (h1 : row ≠ some mb) (h2 : row ≠ some lb) : SX mb lb x v W' :=
  ⟨(hg.cell_far ⟨mb, 0, none⟩ (World.block_lt_of_cell? W _ h.1) (fun e => h1 e.symm)).trans h.1, (hg.cell_far ⟨mb, 1, none⟩ (World.block_lt_of_cell? W _ h.2.1) (fun e => h1 e.symm)).trans h.2.1, (hg.cell_far ⟨lb, x, none⟩ (World.block_lt_of_cell? W _ h.2.2) (fun e => h2 e.symm)).trans h.2.2⟩
theorem SX.far {mb lb x : Nat} {v : Value} {W : World} (h : SX mb lb x v W) {gb : Nat} (h1 : mb ≠ gb) (h2 : lb ≠ gb) {j : Nat} {u : Value} : SX mb lb x v (W.setCell ⟨gb, j, none⟩ u) :=
  ⟨(World.cell?_setCell_far W _ _ u (fun e => h1 e.symm)).trans h.1, (World.cell?_setCell_far W _ _ u (fun e => h1 e.symm)).trans h.2.1, (World.cell?_setCell_far W _ _ u (fun e => h2 e.symm)).trans h.2.2⟩
theorem ST3.far1 {w2 : World} {lb gb : Nat} {c0 : Array Value} {x : Nat} {wx : World} {V : Nat → Value} {N : Nat → Nat} {xs : Nat → List Value} {cg : Array Value} (h : ST3 w2 lb gb c0 x wx V N xs cg) (hx : x < 4) : (V x).ownBlock ≠ some wx.heap.size ∧ (V x).ownBlock ≠ some lb :=
  ⟨fun e => by have := ((h.four.row x hx).lt _ e).2; omega, fun e => h.four.off x hx lb e (.inl rfl)⟩
theorem ST3.far2 {w2 : World} {lb gb : Nat} {c0 : Array Value} {x : Nat} {wx W1 : World} {V : Nat → Value} {N : Nat → Nat} {xs : Nat → List Value} {cg : Array Value} (h : ST3 w2 lb gb c0 x wx V N xs cg) (hx : x < 4) {g1 : Nat} (at1 : (V x).ownBlock = some g1 ∨ g1 = W1.heap.size) (hlt : wx.heap.size < W1.heap.size) : (some g1 : Option Nat) ≠ some wx.heap.size ∧ (some g1 : Option Nat) ≠ some lb := by
  have hl := h.hl.lt
  rcases at1 with e | e
  · rw [← e]
    exact h.far1 hx
  · constructor <;> intro e2 <;> cases e2 <;> omega
theorem anyH_as {ops : Array Oper} {Q : Exit → Act → World → Prop} {md : Region.Mode} {S : World → Prop} {fuel : Nat} {listed : Array Bool} {a a' : Act} {w : World} (fuel' : Nat) (listed' : Array Bool) (hf : fuel = fuel') (hl : listed = listed') (ha : a = a') (h : wpAnyH Tryd.prog md ops Q S fuel' listed' a' w) : wpAnyH Tryd.prog md ops Q S fuel listed a w := by
  subst hf hl ha
  exact h
theorem anyH_one {ops : Array Oper} {Q : Exit → Act → World → Prop} {md : Region.Mode} {S : World → Prop} {fuel : Nat} {listed : Array Bool} {a : Act} {w : World} {o : Oper} (i : Nat) (hr : Region.ready md ops listed = [i]) (ho : ops[i]? = some o)
    (h : ∀ K' : Act → World → Prop, Shut (∀ a w, S w → (S w → wpAnyH Tryd.prog md ops Q S fuel (listed.setIfInBounds i true) a w) → K' a w) → if Region.wanted o (yielded ops a.tmps) = true then Oper.wp Tryd.prog o a w K' Q else K' (a.put o.dst undef) w) : wpAnyH Tryd.prog md ops Q S (fuel + 1) listed a w :=
  wpAnyH_ready hr (by simp) (AllReadyH.cons ho h AllReadyH.nil)
theorem anyH_two {ops : Array Oper} {Q : Exit → Act → World → Prop} {md : Region.Mode} {S : World → Prop} {fuel : Nat} {listed : Array Bool} {a : Act} {w : World} {o o' : Oper} (i j : Nat) (hr : Region.ready md ops listed = [i, j]) (ho : ops[i]? = some o) (ho' : ops[j]? = some o')
    (h : ∀ K' : Act → World → Prop, Shut (∀ a w, S w → (S w → wpAnyH Tryd.prog md ops Q S fuel (listed.setIfInBounds i true) a w) → K' a w) → if Region.wanted o (yielded ops a.tmps) = true then Oper.wp Tryd.prog o a w K' Q else K' (a.put o.dst undef) w)
    (h' : ∀ K' : Act → World → Prop, Shut (∀ a w, S w → (S w → wpAnyH Tryd.prog md ops Q S fuel (listed.setIfInBounds j true) a w) → K' a w) → if Region.wanted o' (yielded ops a.tmps) = true then Oper.wp Tryd.prog o' a w K' Q else K' (a.put o'.dst undef) w) : wpAnyH Tryd.prog md ops Q S (fuel + 1) listed a w :=
  wpAnyH_ready hr (by simp) (AllReadyH.cons ho h (AllReadyH.cons ho' h' AllReadyH.nil))
/-- a list of one aggregate, at a step of a region that draws its order. -/
theorem step_make {ops : Array Oper} {o : Oper} {a : Act} {K : Act → World → Prop} {Q : Exit → Act → World → Prop} {E : Prop} (w : World) (hg : o.guard = none) (t e : TypeId) (x : Operand) (ho : o.op = .buildSlice t 1 #[(0, x)]) (C : Array Value) (hx : a.eval x = .agg C) (n : Nat) (z : Value) (by' : Nat)
    (hu : Tryd.prog.underlying t = some (.slice e)) (hi : (Tryd.prog.info? e).map (fun i => (i.zero, i.size, i.bytes)) = some (some z, n, by')) (hC : C.size = n) (hz : z.cells.size = n) (hn : 0 < n) (hs : n ≤ 1000)
    (h : K (a.put o.dst (.slice (some ⟨w.heap.size, 0, none⟩) 1 1)) (w.alloc (.cells C e))) : if Region.wanted o (yielded ops a.tmps) = true then Oper.wp Tryd.prog o a w K Q else E := by
  have hw : Region.wanted o (yielded ops a.tmps) = true := by simp [Region.wanted, hg]
  rw [if_pos hw]
  obtain ⟨i, hie, hz', hs1, _⟩ := info_parts hi
  refine wp_buildSlice t e 1 _ ho C i z hu hie hz' (by rw [hs1]; omega) (by rw [hs1]; omega) ?_ h
  have := Great.fill_whole (s := n) hn [.agg C] ((Array.range (1 * i.size)).map (z.cells[· % z.cells.size]!)) (fun v hv => by simp at hv; subst hv; exact hC) (by simp [hs1])
  simp [Value.cells] at this
  rw [hs1]
  simp [hx]
  rw [hs1] at this
  exact this
/-- a list of one spot, at a step of a region that draws its order. -/
theorem step_mark {ops : Array Oper} {o : Oper} {a : Act} {K : Act → World → Prop} {Q : Exit → Act → World → Prop} {E : Prop} (w : World) (hg : o.guard = none) (x : Operand) (ho : o.op = .buildSlice 23 1 #[(0, x)]) (C : Array Value) (hx : a.eval x = .agg C) (hC : C.size = 2)
    (h : K (a.put o.dst (.slice (some ⟨w.heap.size, 0, none⟩) 1 1)) (w.alloc (.cells C 28))) : if Region.wanted o (yielded ops a.tmps) = true then Oper.wp Tryd.prog o a w K Q else E :=
  step_make w hg 23 28 x ho C hx 2 _ _ Tryd.underlying23 info_spot hC rfl (by decide) (by decide) h
/-- append of one spot, at such a step. -/
theorem step_spot {ops : Array Oper} {o : Oper} {a : Act} {K : Act → World → Prop} {Q : Exit → Act → World → Prop} {E : Prop} (w : World) (hgd : o.guard = none) (s x : Operand)
    (ho : o.op = .call { callee := .builtin .append, args := #[s, x], argTypes := #[23, 23] })
    (base : Nat) (v : Value) (n : Nat) (xs : List Value) (hs : a.eval s = v) (hown : w.ownsRow base 28 2 v n xs)
    (b c : Nat) (h k : Int) (hx : a.eval x = .slice (some ⟨b, 0, none⟩) 1 c) (hc0 : w.cell? ⟨b, 0, none⟩ = some (.int .u8 h)) (hc1 : w.cell? ⟨b, 1, none⟩ = some (.int .u64 k))
    (hb : n ≤ 1000) (hbase : base ≤ w.heap.size)
    (hh : ∀ g cap w', w'.ownsRow base 28 2 (.slice (some ⟨g, 0, none⟩) (n + 1) cap) (n + 1) (xs ++ [.int .u8 h, .int .u64 k]) → w.grownBy w' v.ownBlock → (v.ownBlock = some g ∨ g = w.heap.size) → g < w'.heap.size → K (a.put o.dst (.slice (some ⟨g, 0, none⟩) (n + 1) cap)) w') : if Region.wanted o (yielded ops a.tmps) = true then Oper.wp Tryd.prog o a w K Q else E := by
  obtain ⟨i, hi, hz, hs1, hby⟩ := info_parts info_spot
  refine step_append_lies w hgd s x 23 ho base 28 i _ 2 16 Tryd.underlying23 hi hz hs1 hby rfl (by decide) v n xs hs hown ⟨b, 0, none⟩ 1 c [.int .u8 h, .int .u64 k] hx rfl ?_ (fun u hu => by simp at hu; rcases hu with rfl | rfl <;> rfl) (by decide) (by simp only [maxLen]; omega) (by omega) hbase w.heap.size rfl hh
  intro j u hj
  match j, hj with
  | 0, hj =>
    simp only [List.getElem?_cons_zero, Option.some.injEq] at hj
    subst hj
    exact hc0
  | 1, hj =>
    simp only [List.getElem?_cons_succ, List.getElem?_cons_zero, Option.some.injEq] at hj
    subst hj
    exact hc1
  | j + 2, hj => simp at hj
set_option maxHeartbeats 4000000 in
theorem cutSpans_core (x0 x1 x2 x3 : Int) (P W : List (Nat × Nat)) (w : World) (hP : P.length ≤ 124) (hW : W.length ≤ 124)
    (c1 : ∀ w, Calls Tryd.prog 5 #[.int .u64 x0, .int .u64 x1] w fun e w' => ∃ v, e = .returned v ∧ w'.ownsRow w.heap.size 28 2 v P.length (SCELLS P) ∧ Below w.heap.size w w')
    (c2 : ∀ w, Calls Tryd.prog 6 #[.int .u64 x2, .int .u64 x3] w fun e w' => ∃ v, e = .returned v ∧ w'.ownsRow w.heap.size 28 2 v W.length (SCELLS W) ∧ Below w.heap.size w w')
    (c3 : ∀ W, Below w.heap.size w W → Calls Tryd.prog 7 #[.int .u64 x0, .int .u64 x1] W fun e w' => ∃ v, e = .returned v ∧ w'.ownsRow W.heap.size 28 2 v P.length (SCELLS P) ∧ Below W.heap.size W w')
    (c4 : ∀ V, Below w.heap.size w V → Calls Tryd.prog 8 #[.int .u64 x2, .int .u64 x3] V fun e w' => ∃ v, e = .returned v ∧ w'.ownsRow V.heap.size 28 2 v W.length (SCELLS W) ∧ Below V.heap.size V w')
    (ca : ∀ W, Below w.heap.size w W → Calls Tryd.prog 10 #[] W fun e w' => e = .returned (.bool true) ∧ Below W.heap.size W w') :
    Calls Tryd.prog 3 #[.int .u64 x0, .int .u64 x1, .int .u64 x2, .int .u64 x3] w fun e w' => e = .returned (.bool true) ∧ Below w.heap.size w w' := by
  have CA : Aside (∀ W, Below w.heap.size w W → Calls Tryd.prog 10 #[] W fun e w' => e = .returned (.bool true) ∧ Below W.heap.size W w') := ca
  have C3 : Aside (∀ W, Below w.heap.size w W → Calls Tryd.prog 7 #[.int .u64 x0, .int .u64 x1] W fun e w' => ∃ v, e = .returned v ∧ w'.ownsRow W.heap.size 28 2 v P.length (SCELLS P) ∧ Below W.heap.size W w') := c3
  have C4 : Aside (∀ V, Below w.heap.size w V → Calls Tryd.prog 8 #[.int .u64 x2, .int .u64 x3] V fun e w' => ∃ v, e = .returned v ∧ w'.ownsRow V.heap.size 28 2 v W.length (SCELLS W) ∧ Below V.heap.size V w') := c4
  have HL : Aside (P.length ≤ 124 ∧ W.length ≤ 124) := ⟨hP, hW⟩
  clear ca c3 c4 hP hW
  go_enter Tryd.func3, Tryd.ntmps3
  go_wp2_with fail
  refine (c1 _).mono ?_
  rintro e w1 ⟨v5, rfl, hr, hb⟩
  have R : Aside (Below w.heap.size w w1 ∧ Lies w1 v5 P) := ⟨hb, lies_own rfl hr⟩
  clear c1 hr hb
  go_wp2_with fail
  refine (c2 _).mono ?_
  rintro e w2 ⟨v6, rfl, hr, hb⟩
  have R0 : Aside (Below w.heap.size w w2 ∧ Lies w2 v5 P ∧ Lies w2 v6 W) := ⟨R.out.1.trans (hb.mono R.out.1.size), R.out.2.below hb (Nat.le_refl _), lies_own rfl hr⟩
  clear c2 hr hb R
  go_wp2_with fail
  refine (C3.out _ R0.out.1).mono ?_
  rintro e w3 ⟨v8, rfl, hr, hb⟩
  have R1 : Aside (Below w2.heap.size w2 w3 ∧ w3.ownsRow w2.heap.size 28 2 v8 P.length (SCELLS P)) := ⟨hb, hr⟩
  clear hr hb
  go_wp2_with fail
  refine (C3.out _ (R0.out.1.trans (R1.out.1.mono R0.out.1.size))).mono ?_
  rintro e w4 ⟨v9, rfl, hr, hb⟩
  have R2 : Aside (Below w3.heap.size w3 w4 ∧ w4.ownsRow w3.heap.size 28 2 v9 P.length (SCELLS P)) := ⟨hb, hr⟩
  clear hr hb
  go_wp2_with fail
  refine (C4.out _ ((R0.out.1.trans (R1.out.1.mono R0.out.1.size)).trans (R2.out.1.mono (R0.out.1.trans (R1.out.1.mono R0.out.1.size)).size))).mono ?_
  rintro e w5 ⟨v10, rfl, hr, hb⟩
  have R3 : Aside (Below w4.heap.size w4 w5 ∧ w5.ownsRow w4.heap.size 28 2 v10 W.length (SCELLS W)) := ⟨hb, hr⟩
  clear hr hb
  go_wp2_with fail
  refine (C4.out _ (((R0.out.1.trans (R1.out.1.mono R0.out.1.size)).trans (R2.out.1.mono (R0.out.1.trans (R1.out.1.mono R0.out.1.size)).size)).trans (R3.out.1.mono ((R0.out.1.trans (R1.out.1.mono R0.out.1.size)).trans (R2.out.1.mono (R0.out.1.trans (R1.out.1.mono R0.out.1.size)).size)).size))).mono ?_
  rintro e w6 ⟨v12, rfl, hr, hb⟩
  have M : Aside (Came w2 w3.heap.size w4.heap.size w5.heap.size w6.heap.size v8 v9 v10 v12 P W w6) := Came.make R1.out.1 R1.out.2 R2.out.1 R2.out.2 R3.out.1 R3.out.2 hb hr
  clear hr hb R1 R2 R3
  generalize w3.heap.size = s3 at *
  generalize w4.heap.size = s4 at *
  generalize w5.heap.size = s5 at *
  generalize w6.heap.size = s6 at *
  go_wp2_with fail
  refine (same2_ok v8 v5 P _ (by have := HL.out.1; omega) (lies_own rfl M.out.r8) (R0.out.2.1.below M.out.bel (Nat.le_refl _))).mono ?_
  rintro e w8 ⟨rfl, hb⟩
  replace M : Aside (Came w2 s3 s4 s5 s6 v8 v9 v10 v12 P W w8) := M.out.keep hb
  clear hb
  go_wp2_with fail
  refine (same2_ok v9 v5 P _ (by have := HL.out.1; omega) (lies_own rfl M.out.r9) (R0.out.2.1.below M.out.bel (Nat.le_refl _))).mono ?_
  rintro e w9 ⟨rfl, hb⟩
  replace M : Aside (Came w2 s3 s4 s5 s6 v8 v9 v10 v12 P W w9) := M.out.keep hb
  clear hb
  go_wp2_with fail
  refine (same2_ok v10 v6 W _ (by have := HL.out.2; omega) (lies_own rfl M.out.r10) (R0.out.2.2.below M.out.bel (Nat.le_refl _))).mono ?_
  rintro e w10 ⟨rfl, hb⟩
  replace M : Aside (Came w2 s3 s4 s5 s6 v8 v9 v10 v12 P W w10) := M.out.keep hb
  clear hb
  go_wp2_with fail
  refine (same2_ok v12 v6 W _ (by have := HL.out.2; omega) (lies_own rfl M.out.r12) (R0.out.2.2.below M.out.bel (Nat.le_refl _))).mono ?_
  rintro e w11 ⟨rfl, hb⟩
  replace M : Aside (Came w2 s3 s4 s5 s6 v8 v9 v10 v12 P W w11) := M.out.keep hb
  clear hb
  obtain ⟨a8, q8, rfl, -⟩ := sown_slice M.out.r8
  obtain ⟨a9, q9, rfl, -⟩ := sown_slice M.out.r9
  obtain ⟨a10, q10, rfl, -⟩ := sown_slice M.out.r10
  obtain ⟨a12, q12, rfl, -⟩ := sown_slice M.out.r12
  go_wp2
  obtain ⟨V, N, c0, hc0, hN, S⟩ : ∃ (V : Nat → Value) (N : Nat → Nat) (c0 : Array Value), c0 = #[Value.slice a8 P.length q8, Value.slice a9 P.length q9, Value.slice a10 W.length q10, Value.slice a12 W.length q12] ∧ Aside ((∀ x, x < 4 → c0[x]? = some (V x)) ∧ (∀ x, x < 4 → N x ≤ 124)) ∧ Aside (ST1 w2 w11.heap.size c0 V N 0 0 (w11.alloc (.cells c0 23))) := by
    have M := M.out
    obtain ⟨V, N, XS, h1, e0, e1, e2, e3, hN⟩ := Quad.of (K := fun g => g = w11.heap.size) M.r8 M.r9 M.r10 M.r12 M.l8 M.l9 M.l10 M.l12 M.o3 M.o4 M.o5 M.o6 (fun k hk => by rw [hk]; exact M.top)
    refine ⟨V, N, _, rfl, ⟨fun x hx => ?_, fun x hx => ?_⟩, XS, h1.alloc _, Has.new _ _ _, M.bel.alloc M.bel.size _, M.bel.size, fun z hz => by omega, fun j hj => by omega⟩
    · rcases (show x = 0 ∨ x = 1 ∨ x = 2 ∨ x = 3 by omega) with rfl | rfl | rfl | rfl
      · rw [e0]; rfl
      · rw [e1]; rfl
      · rw [e2]; rfl
      · rw [e3]; rfl
    · have := HL.out
      rcases hN x hx with h | h <;> omega
  rw [← hc0]
  clear hc0 M
  generalize w11.alloc (.cells c0 23) = w12 at *
  generalize w11.heap.size = lb at *
  go_loopg [16] 4 (fun q s19 wx => ∃ x : Nat, s19 = .int .i64 (x : Int) ∧ Aside (x + q = 4 ∧ ST1 w2 lb c0 V N x 0 wx))
  case atStart => exact ⟨0, rfl, by omega, S.out⟩
  case round =>
    obtain ⟨x, rfl, A⟩ := hrel
    clear S
    cases gk with
    | zero =>
      obtain rfl : x = 4 := by have := A.out.1; omega
      go_wp2
      obtain ⟨xs, S⟩ : ∃ xs, Aside (ST3 w2 lb wr.heap.size c0 0 (wr.alloc (.cells #[Value.slice none 0 0, Value.slice none 0 0, Value.slice none 0 0, Value.slice none 0 0] 29)) V N xs #[Value.slice none 0 0, Value.slice none 0 0, Value.slice none 0 0, Value.slice none 0 0]) := ST3.start A.out.2 hN.out.1 hN.out.2 _ rfl
      generalize wr.alloc (.cells #[Value.slice none 0 0, Value.slice none 0 0, Value.slice none 0 0, Value.slice none 0 0] 29) = w13 at *
      generalize wr.heap.size = gb at *
      clear A hN
      go_loopg [19] 4 (fun q s22 wx => ∃ x : Nat, s22 = .int .i64 (x : Int) ∧ Aside (x + q = 4 ∧ ∃ V N xs cg, ST3 w2 lb gb c0 x wx V N xs cg))
      case atStart => exact ⟨0, rfl, by omega, _, _, _, _, S.out⟩
      case round =>
        obtain ⟨x, rfl, A⟩ := hrel
        clear S
        cases gk with
        | zero =>
          obtain rfl : x = 4 := by have := A.out.1; omega
          obtain ⟨V', N', xs', cg, S3⟩ : ∃ V N xs cg, Aside (ST3 w2 lb gb c0 4 wr V N xs cg) := A.out.2
          clear A
          generalize hw14 : wr = w14 at *
          clear hw14
          go_wp2
          go_loopg [21] 4 (fun q s23 wx => ∃ x : Nat, s23 = .int .i64 (x : Int) ∧ Aside (x + q = 4) ∧ wx = w14)
          case atStart => exact ⟨0, rfl, by unfold Aside; omega, rfl⟩
          case round =>
            obtain ⟨x, rfl, A, hw⟩ := hrel
            subst hw
            cases gk with
            | zero =>
              obtain rfl : x = 4 := by have := A.out; omega
              have R : Aside (Below w2.heap.size w2 wr) := S3.out.bel
              clear S3 A
              go_wp2_with fail
              refine (C3.out _ (R0.out.1.trans (R.out.mono R0.out.1.size))).mono ?_
              rintro e w15 ⟨v, rfl, hr, hb⟩
              have R2 : Aside (Below w2.heap.size w2 w15 ∧ Lies w15 v P) := ⟨R.out.trans (hb.mono R.out.size), lies_own rfl hr⟩
              clear hr hb R C3
              go_wp2_with fail
              refine (same2_ok v v5 P _ (by have := HL.out.1; omega) R2.out.2 (R0.out.2.1.below R2.out.1 (Nat.le_refl _))).mono ?_
              rintro e w17 ⟨rfl, hb⟩
              have R3 : Aside (Below w2.heap.size w2 w17) := R2.out.1.trans (hb.mono R2.out.1.size)
              clear hb R2
              go_wp2_with fail
              refine (C4.out _ (R0.out.1.trans (R3.out.mono R0.out.1.size))).mono ?_
              rintro e w16 ⟨v', rfl, hr, hb⟩
              have R4 : Aside (Below w2.heap.size w2 w16 ∧ Lies w16 v' W) := ⟨R3.out.trans (hb.mono R3.out.size), lies_own rfl hr⟩
              clear hr hb R3 C4
              go_wp2_with fail
              refine (same2_ok v' v6 W _ (by have := HL.out.2; omega) R4.out.2 (R0.out.2.2.below R4.out.1 (Nat.le_refl _))).mono ?_
              rintro e w18 ⟨rfl, hb⟩
              have R5 : Aside (Below w.heap.size w w18) := R0.out.1.trans ((R4.out.1.trans (hb.mono R4.out.1.size)).mono R0.out.1.size)
              clear hb R4
              go_wp2_with fail
              refine (CA.out _ R5.out).mono ?_
              rintro e w19 ⟨rfl, hb⟩
              have R6 : Aside (Below w.heap.size w w19) := R5.out.trans (hb.mono R5.out.size)
              clear hb R5 CA
              go_wp2
              go_ret
              exact ⟨rfl, R6.out⟩
            | succ q =>
              have hx4 : x < 4 := by have := A.out; omega
              have hlt : (x : Int) < 4 := by omega
              have hx0 : ¬ (x : Int) < 0 := by omega
              have e1 : wrap64 ((x : Int) + 1) = ((x + 1 : Nat) : Int) := by unfold wrap64; omega
              obtain ⟨a, qq, hv, hpos⟩ := sown_slice (S3.out.four.row x hx4)
              generalize hw14 : wr = w14 at *
              clear hw14
              have hl : w14.cell? ⟨gb, x, none⟩ = some (.slice a (N' x) qq) := by rw [S3.out.hg.cell x, S3.out.new x hx4, hv]
              have HQ : Aside (V' x = .slice a (N' x) qq ∧ (0 < N' x → ∃ g, a = some ⟨g, 0, none⟩) ∧ N' x ≤ 126) := ⟨hv, fun h => by obtain ⟨g, h1, _⟩ := hpos h; exact ⟨g, h1⟩, S3.out.len x hx4⟩
              clear hv hpos
              go_wp2
              go_loopg [22] (N' x) (fun p s24 wx => ∃ y : Nat, s24 = .int .i64 (y : Int) ∧ Aside (y + p = N' x) ∧ wx = w14)
              case atStart => exact ⟨0, rfl, by unfold Aside; omega, rfl⟩
              case round =>
                obtain ⟨y, rfl, B, hw⟩ := hrel
                subst hw
                cases gk with
                | zero =>
                  obtain rfl : y = N' x := by have := B.out; omega
                  have hylt : ¬ ((N' x : Nat) : Int) < ((N' x : Nat) : Int) := by omega
                  go_wp2
                  go_roundg q
                  case measure => omega
                  case rel => exact ⟨x + 1, by first | rfl | (rw [e1]), by have := A.out; unfold Aside; omega, rfl⟩
                | succ p =>
                  have hyN : y < N' x := by have := B.out; omega
                  have hylt : (y : Int) < ((N' x : Nat) : Int) := by omega
                  have hy0 : ¬ (y : Int) < 0 := by omega
                  have ey : wrap64 ((y : Int) + 1) = ((y + 1 : Nat) : Int) := by have := HQ.out.2.2; unfold wrap64; omega
                  obtain ⟨g, rfl⟩ := HQ.out.2.1 (by omega)
                  have hc : wr.cell? ⟨g, y * 2 + 1, none⟩ = some (.int .u64 (201 + (x : Int))) := by
                    have hr := S3.out.four.row x hx4
                    rw [HQ.out.1] at hr
                    rw [hr.cellAt (y * 2 + 1) (by omega), S3.out.cell x hx4 y hyN]
                    rfl
                  go_wp2
                  go_roundg p
                  case measure => omega
                  case rel => exact ⟨y + 1, by first | rfl | (rw [ey]), by have := B.out; unfold Aside; omega, rfl⟩
        | succ q =>
          have hx4 : x < 4 := by have := A.out.1; omega
          have hlt : (x : Int) < 4 := by omega
          have hx0 : ¬ (x : Int) < 0 := by omega
          have e1 : wrap64 ((x : Int) + 1) = ((x + 1 : Nat) : Int) := by unfold wrap64; omega
          obtain ⟨V', N', xs', cg, h3⟩ := A.out.2
          obtain ⟨a, qq, hv, -⟩ := sown_slice (h3.four.row x hx4)
          have hl : wr.cell? ⟨lb, x, none⟩ = some (.slice a (N' x) qq) := by rw [h3.hl.cell x, h3.old x (Nat.le_refl _) hx4, hv]
          have M : Aside (x + 1 + q = 4 ∧ ST3 w2 lb gb c0 x wr V' N' xs' cg ∧ V' x = .slice a (N' x) qq) := ⟨by have := A.out.1; omega, h3, hv⟩
          clear A h3 hv
          go_wp2_with fail
          obtain ⟨w3, mb, hw3, hmb, M4⟩ : ∃ w3 mb, w3 = wr.alloc (.cells #[.int .u8 0, .int .u64 (201 + (x : Int))] 28) ∧ mb = wr.heap.size ∧ Aside (SX mb lb x (.slice a (N' x) qq) w3.drew ∧ (ST3 w2 lb gb c0 x w3.drew V' N' xs' cg ∧ mb < w3.drew.heap.size ∧ (V' x).ownBlock ≠ some mb ∧ (V' x).ownBlock ≠ some lb ∧ mb ≠ gb ∧ lb ≠ gb)) := by
            refine ⟨_, _, rfl, rfl, ?_⟩
            have hb : Below wr.heap.size wr (wr.alloc (.cells #[.int .u8 0, .int .u64 (201 + (x : Int))] 28)).drew := ((Below.refl _ _).alloc (Nat.le_refl _) _).drew
            have k0 := (Has.new wr #[.int .u8 0, .int .u64 (201 + (x : Int))] 28).cell 0
            have k1 := (Has.new wr #[.int .u8 0, .int .u64 (201 + (x : Int))] 28).cell 1
            have h3 := M.out.2.1
            refine ⟨⟨k0, k1, (hb.cell (p := ⟨lb, x, none⟩) h3.hl.lt).trans hl⟩, h3.keep hb, ?_, (h3.far1 hx4).1, (h3.far1 hx4).2, ?_, ?_⟩
            · have := hb.size
              simp [World.drew]
            · have := h3.hg.lt
              omega
            · intro e'
              have h1 : wr.heap[lb]? = some (.cells c0 23) := h3.hl
              have h2 : wr.heap[gb]? = some (.cells cg 29) := h3.hg
              rw [e', h2] at h1
              simp at h1
          rw [← hw3, ← hmb]
          clear hw3 hmb hl
          have R : Aside (x + 1 + q = 4 ∧ ST3 w2 lb gb c0 x w3.drew V' N' xs' cg ∧ V' x = .slice a (N' x) qq ∧ N' x ≤ 124 ∧ w3.drew.ownsRow w2.heap.size 28 2 (.slice a (N' x) qq) (N' x) (xs' x) ∧ w2.heap.size ≤ w3.drew.heap.size) := ⟨M.out.1, M4.out.2.1, M.out.2.2, M4.out.2.1.few x (Nat.le_refl _) hx4, by rw [← M.out.2.2]; exact M4.out.2.1.four.row x hx4, M4.out.2.1.bel.size⟩
          have hS := M4.out.1
          have FR1 : (Value.slice a (N' x) qq).ownBlock ≠ some mb ∧ (Value.slice a (N' x) qq).ownBlock ≠ some lb := by rw [← M.out.2.2]; exact ⟨M4.out.2.2.2.1, M4.out.2.2.2.2.1⟩
          have FR : Aside (∀ (W1 : World) (g1 : Nat), ((Value.slice a (N' x) qq).ownBlock = some g1 ∨ g1 = W1.heap.size) → w3.drew.heap.size < W1.heap.size → (some g1 : Option Nat) ≠ some mb ∧ (some g1 : Option Nat) ≠ some lb) := fun W1 g1 h hlt => by
            rcases h with e | e
            · rw [← e]
              exact FR1
            · have h1 := M4.out.2.2.1
              have h2 := M4.out.2.1.hl.lt
              constructor <;> intro e2 <;> cases e2 <;> omega
          have OFF : Aside (∀ k, w3.drew.heap.size ≤ k → (Value.slice a (N' x) qq).ownBlock ≠ some k) := fun k hk e => by
            have := (R.out.2.2.2.2.1.lt k e).2
            omega
          have GB : Aside (mb ≠ gb ∧ lb ≠ gb) := ⟨M4.out.2.2.2.2.2.1, M4.out.2.2.2.2.2.2⟩
          clear M M4
          refine wp_region_held_drew (S := SX mb lb x (.slice a (N' x) qq)) (by kernel_rfl) hS (fun hS => ?_)
          generalize w3.drew = w4 at *
          refine wpAnyH_take (i := 0) (v := .int .i64 (x : Int)) rfl (by kernel_rfl) (by kernel_rfl) (by kernel_rfl) (fun _ _ _ h => h) (Yields.yieldsIf (Or.inl ⟨by rfl, fun W => by go_simp⟩)) (by exact hS) ?_
          refine wpAnyH_take (i := 1) (v := .slice (some ⟨lb, 0, none⟩) 4 4) rfl (by kernel_rfl) (by kernel_rfl) (by kernel_rfl) (fun _ _ _ h => h) (Yields.yieldsIf (Or.inl ⟨by rfl, fun W => by go_simp⟩)) (by exact hS) ?_
          refine wpAnyH_take (i := 2) (v := .int .i64 (x : Int)) rfl (by kernel_rfl) (by kernel_rfl) (by kernel_rfl) (fun _ _ _ h => h) (Yields.yieldsIf (Or.inl ⟨by rfl, fun W => by go_simp⟩)) (by exact hS) ?_
          refine anyH_as (a' := ?N1) 10 #[true, true, true, false, false, false, false, false, false, false, false, false, false] (by kernel_rfl) (by kernel_rfl) ?HN1 ?HM1
          case HN1 =>
            go_simp
            exact rfl
          refine wpAnyH_take (i := 3) (v := .pointer (some ⟨lb, x, none⟩)) rfl (by kernel_rfl) (by kernel_rfl) (by kernel_rfl) (fun _ _ _ h => h) (Yields.yieldsIf (Or.inl ⟨by rfl, fun W => by go_simp⟩)) (by exact hS) ?_
          refine anyH_as (a' := ?N2) 9 #[true, true, true, true, false, false, false, false, false, false, false, false, false] (by kernel_rfl) (by kernel_rfl) ?HN2 ?HM2
          case HN2 =>
            go_simp
            exact rfl
          refine wpAnyH_take (i := 4) (v := .slice a (N' x) qq) rfl (by kernel_rfl) (by kernel_rfl) (by kernel_rfl) (fun _ _ _ h => h) (Or.inl ⟨by rfl, fun W hW => by obtain ⟨y0, y1, y2⟩ := hW; go_simp⟩) (by exact hS) ?_
          refine wpAnyH_take (i := 5) (v := .agg #[.int .u8 0, CX x]) rfl (by kernel_rfl) (by kernel_rfl) (by kernel_rfl) (fun _ _ _ h => h) (Or.inl ⟨by rfl, fun W hW => by obtain ⟨y0, y1, y2⟩ := hW; go_simp⟩) (by exact hS) ?_
          refine wpAnyH_take (i := 8) (v := .agg #[.int .u8 0, CX x]) rfl (by kernel_rfl) (by kernel_rfl) (by kernel_rfl) (fun _ _ _ h => h) (Or.inl ⟨by rfl, fun W hW => by obtain ⟨y0, y1, y2⟩ := hW; go_simp⟩) (by exact hS) ?_
          refine anyH_as (a' := ?N3) 6 #[true, true, true, true, true, true, false, false, true, false, false, false, false] (by kernel_rfl) (by kernel_rfl) ?HN3 ?HM3
          case HN3 =>
            go_simp
            exact rfl
          refine anyH_two (o := { dst := some 105, op := Op.buildSlice 23 1 #[(0, Operand.tmp 104)], type := 23, pos := "law.go:55", after := #[{ on := 5, ground := Ground.data }], guard := none }) (o' := { dst := some 108, op := Op.buildSlice 23 1 #[(0, Operand.tmp 107)], type := 23, pos := "law.go:55", after := #[{ on := 8, ground := Ground.data }], guard := none }) 6 9 (by kernel_rfl) rfl rfl (fun K hK => ?_) (fun K hK => ?_)
          · refine step_mark w4 (by rfl) (.tmp 104) (by rfl) #[.int .u8 0, CX x] (by rfl) rfl ?_
            refine hK.out _ _ (hS.alloc _) (fun _ => ?_)
            clear hK K
            refine anyH_as (a' := ?N4) 5 #[true, true, true, true, true, true, true, false, true, false, false, false, false] (by kernel_rfl) (by kernel_rfl) ?HN4 ?HM4
            case HN4 =>
              go_simp
              exact rfl
            refine anyH_two (o := { dst := some 106, op := Op.call { callee := Callee.builtin Builtin.append, args := #[Operand.tmp 103, Operand.tmp 105], argTypes := #[23, 23] }, type := 23, pos := "law.go:55", after := #[{ on := 4, ground := Ground.data }, { on := 6, ground := Ground.data }], guard := none }) (o' := { dst := some 108, op := Op.buildSlice 23 1 #[(0, Operand.tmp 107)], type := 23, pos := "law.go:55", after := #[{ on := 8, ground := Ground.data }], guard := none }) 7 9 (by kernel_rfl) rfl rfl (fun K hK => ?_) (fun K hK => ?_)
            · refine step_spot (w4.alloc (.cells #[.int .u8 0, CX x] 28)) (by rfl) (.tmp 103) (.tmp 105) (by rfl) w2.heap.size (.slice a (N' x) qq) (N' x) (xs' x) (by rfl) (R.out.2.2.2.2.1.alloc _) (w4.heap.size) 1 0 _ (by rfl) ((Has.new w4 _ _).cell 0) ((Has.new w4 _ _).cell 1) (by have := R.out.2.2.2.1; omega) (by have := R.out.2.2.2.2.2; simp; omega) ?_
              intro g1 q1 w5 hown1 hgrow1 hg1 hlt1
              have hS5 : SX mb lb x (.slice a (N' x) qq) w5 := SX.grown (hS.alloc _) hgrow1 FR1.1 FR1.2
              refine hK.out _ _ hS5 (fun _ => ?_)
              clear hK K
              refine anyH_as (a' := ?N5) 4 #[true, true, true, true, true, true, true, true, true, false, false, false, false] (by kernel_rfl) (by kernel_rfl) ?HN5 ?HM5
              case HN5 =>
                go_simp
                exact rfl
              refine anyH_one (o := { dst := some 108, op := Op.buildSlice 23 1 #[(0, Operand.tmp 107)], type := 23, pos := "law.go:55", after := #[{ on := 8, ground := Ground.data }], guard := none }) 9 (by kernel_rfl) rfl (fun K hK => ?_)
              refine step_mark w5 (by rfl) (.tmp 107) (by rfl) #[.int .u8 0, CX x] (by rfl) rfl ?_
              refine hK.out _ _ (hS5.alloc _) (fun _ => ?_)
              clear hK K
              refine anyH_as (a' := ?N6) 3 #[true, true, true, true, true, true, true, true, true, true, false, false, false] (by kernel_rfl) (by kernel_rfl) ?HN6 ?HM6
              case HN6 =>
                go_simp
                exact rfl
              refine anyH_one (o := { dst := some 109, op := Op.call { callee := Callee.builtin Builtin.append, args := #[Operand.tmp 106, Operand.tmp 108], argTypes := #[23, 23] }, type := 23, pos := "law.go:55", after := #[{ on := 7, ground := Ground.data }, { on := 9, ground := Ground.data }, { on := 7, ground := Ground.chain }], guard := none }) 10 (by kernel_rfl) rfl (fun K hK => ?_)
              refine step_spot (w5.alloc (.cells #[.int .u8 0, CX x] 28)) (by rfl) (.tmp 106) (.tmp 108) (by rfl) w2.heap.size (.slice (some ⟨g1, 0, none⟩) (N' x + 1) q1) (N' x + 1) _ (by rfl) (hown1.alloc _) (w5.heap.size) 1 0 _ (by rfl) ((Has.new w5 _ _).cell 0) ((Has.new w5 _ _).cell 1) (by have := R.out.2.2.2.1; omega) (by have := R.out.2.2.2.2.2; have := hgrow1.size; simp at this ⊢; omega) ?_
              intro g2 q2 w6 hown2 hgrow2 hg2 hlt2
              have FR2 := FR.out (w4.alloc (.cells #[.int .u8 0, CX x] 28)) g1 hg1 (by simp; try omega)
              have hS6 : SX mb lb x (.slice a (N' x) qq) w6 := SX.grown (hS5.alloc _) hgrow2 FR2.1 FR2.2
              refine hK.out _ _ hS6 (fun _ => ?_)
              clear hK K
              refine anyH_as (a' := ?N7) 2 #[true, true, true, true, true, true, true, true, true, true, true, false, false] (by kernel_rfl) (by kernel_rfl) ?HN7 ?HM7
              case HN7 =>
                go_simp
                exact rfl
              have T : Aside (Has w6 gb cg 29 ∧ ∃ V'' N'' xs'', ST3 w2 lb gb c0 (x + 1) (w6.setCell ⟨gb, x, none⟩ (.slice (some ⟨g2, 0, none⟩) (N' x + 1 + 1) q2)) V'' N'' xs'' (cg.setIfInBounds x (.slice (some ⟨g2, 0, none⟩) (N' x + 1 + 1) q2))) := ST3.step (R.out.2.1.keep ((Below.refl _ _).alloc (Nat.le_refl _) _)) hx4 hown1 (by rw [R.out.2.2.1]; exact hgrow1) (by rw [R.out.2.2.1]; exact hg1) ((Below.refl _ _).alloc (Nat.le_refl _) _) hown2 hgrow2 hg2
              obtain ⟨u, hu⟩ : ∃ u, cg[x]? = some u := ⟨_, Array.getElem?_eq_getElem (by rw [R.out.2.1.size]; exact hx4)⟩
              have y0 : w6.cell? ⟨gb, x, none⟩ = some u := (T.out.1.cell x).trans hu
              have z0 : w6.frozen? ⟨gb, x, none⟩ = false := T.out.1.frozen x
              clear hown1 hgrow1 hg1 hlt1 hown2 hgrow2 hg2 hlt2 hu hS5
              refine wpAnyH_take (i := 11) (v := .pointer (some ⟨gb, x, none⟩)) rfl (by kernel_rfl) (by kernel_rfl) (by kernel_rfl) (fun _ _ _ h => h) (Yields.yieldsIf (Or.inl ⟨by rfl, fun W => by go_simp⟩)) (by exact hS6) ?_
              refine anyH_as (a' := ?N8) 1 #[true, true, true, true, true, true, true, true, true, true, true, true, false] (by kernel_rfl) (by kernel_rfl) ?HN8 ?HM8
              case HN8 =>
                go_simp
                exact rfl
              refine anyH_one (o := { dst := none, op := Op.store 23 (Operand.tmp 110) (Operand.tmp 109), type := 0, pos := "law.go:55", after := #[{ on := 11, ground := Ground.data }, { on := 10, ground := Ground.data }, { on := 10, ground := Ground.chain }, { on := 0, ground := Ground.phase }, { on := 1, ground := Ground.phase }, { on := 2, ground := Ground.phase }, { on := 3, ground := Ground.phase }, { on := 4, ground := Ground.phase }, { on := 5, ground := Ground.phase }, { on := 6, ground := Ground.phase }, { on := 7, ground := Ground.phase }, { on := 8, ground := Ground.phase }, { on := 9, ground := Ground.phase }, { on := 10, ground := Ground.phase }], guard := none }) 12 (by kernel_rfl) rfl (fun K hK => ?_)
              rw [if_pos (by rfl)]
              go_simp
              refine hK.out _ _ (hS6.far GB.out.1 GB.out.2) (fun _ => ?_)
              clear hK K y0 z0
              refine anyH_as (a' := ?N9) 0 #[true, true, true, true, true, true, true, true, true, true, true, true, true] (by kernel_rfl) (by kernel_rfl) ?HN9 ?HM9
              case HN9 =>
                go_simp
                exact rfl
              refine wpAnyH_done (by kernel_rfl) ?_ _
              go_wp2
              go_roundg q
              case measure => omega
              case rel =>
                obtain ⟨V'', N'', xs'', h4⟩ := T.out.2
                exact ⟨x + 1, by first | rfl | (rw [e1]), R.out.1, _, _, _, _, h4⟩
            · refine step_mark (w4.alloc (.cells #[.int .u8 0, CX x] 28)) (by rfl) (.tmp 107) (by rfl) #[.int .u8 0, CX x] (by rfl) rfl ?_
              refine hK.out _ _ ((hS.alloc _).alloc _) (fun _ => ?_)
              clear hK K
              refine anyH_as (a' := ?N10) 4 #[true, true, true, true, true, true, true, false, true, true, false, false, false] (by kernel_rfl) (by kernel_rfl) ?HN10 ?HM10
              case HN10 =>
                go_simp
                exact rfl
              refine anyH_one (o := { dst := some 106, op := Op.call { callee := Callee.builtin Builtin.append, args := #[Operand.tmp 103, Operand.tmp 105], argTypes := #[23, 23] }, type := 23, pos := "law.go:55", after := #[{ on := 4, ground := Ground.data }, { on := 6, ground := Ground.data }], guard := none }) 7 (by kernel_rfl) rfl (fun K hK => ?_)
              refine step_spot ((w4.alloc (.cells #[.int .u8 0, CX x] 28)).alloc (.cells #[.int .u8 0, CX x] 28)) (by rfl) (.tmp 103) (.tmp 105) (by rfl) w2.heap.size (.slice a (N' x) qq) (N' x) (xs' x) (by rfl) ((R.out.2.2.2.2.1.alloc _).alloc _) (w4.heap.size) 1 0 _ (by rfl) (((Has.new w4 _ _).alloc _).cell 0) (((Has.new w4 _ _).alloc _).cell 1) (by have := R.out.2.2.2.1; omega) (by have := R.out.2.2.2.2.2; simp; omega) ?_
              intro g1 q1 w5 hown1 hgrow1 hg1 hlt1
              have hS5 : SX mb lb x (.slice a (N' x) qq) w5 := SX.grown ((hS.alloc _).alloc _) hgrow1 FR1.1 FR1.2
              refine hK.out _ _ hS5 (fun _ => ?_)
              clear hK K
              refine anyH_as (a' := ?N11) 3 #[true, true, true, true, true, true, true, true, true, true, false, false, false] (by kernel_rfl) (by kernel_rfl) ?HN11 ?HM11
              case HN11 =>
                go_simp
                exact rfl
              have HZ : Has w5 (w4.heap.size + 1) #[.int .u8 0, CX x] 28 := (Has.at (w4.alloc (.cells #[.int .u8 0, CX x] 28)) _ _ (by simp)).grownS hgrow1 (OFF.out _ (by omega))
              refine anyH_one (o := { dst := some 109, op := Op.call { callee := Callee.builtin Builtin.append, args := #[Operand.tmp 106, Operand.tmp 108], argTypes := #[23, 23] }, type := 23, pos := "law.go:55", after := #[{ on := 7, ground := Ground.data }, { on := 9, ground := Ground.data }, { on := 7, ground := Ground.chain }], guard := none }) 10 (by kernel_rfl) rfl (fun K hK => ?_)
              refine step_spot w5 (by rfl) (.tmp 106) (.tmp 108) (by rfl) w2.heap.size (.slice (some ⟨g1, 0, none⟩) (N' x + 1) q1) (N' x + 1) _ (by rfl) (hown1) (w4.heap.size + 1) 1 0 _ (by rfl) ((HZ).cell 0) ((HZ).cell 1) (by have := R.out.2.2.2.1; omega) (by have := R.out.2.2.2.2.2; have := hgrow1.size; simp at this ⊢; omega) ?_
              intro g2 q2 w6 hown2 hgrow2 hg2 hlt2
              have FR2 := FR.out ((w4.alloc (.cells #[.int .u8 0, CX x] 28)).alloc (.cells #[.int .u8 0, CX x] 28)) g1 hg1 (by simp; try omega)
              have hS6 : SX mb lb x (.slice a (N' x) qq) w6 := SX.grown (hS5) hgrow2 FR2.1 FR2.2
              refine hK.out _ _ hS6 (fun _ => ?_)
              clear hK K
              refine anyH_as (a' := ?N12) 2 #[true, true, true, true, true, true, true, true, true, true, true, false, false] (by kernel_rfl) (by kernel_rfl) ?HN12 ?HM12
              case HN12 =>
                go_simp
                exact rfl
              have T : Aside (Has w6 gb cg 29 ∧ ∃ V'' N'' xs'', ST3 w2 lb gb c0 (x + 1) (w6.setCell ⟨gb, x, none⟩ (.slice (some ⟨g2, 0, none⟩) (N' x + 1 + 1) q2)) V'' N'' xs'' (cg.setIfInBounds x (.slice (some ⟨g2, 0, none⟩) (N' x + 1 + 1) q2))) := ST3.step (R.out.2.1.keep (((Below.refl _ _).alloc (Nat.le_refl _) _).alloc (by simp) _)) hx4 hown1 (by rw [R.out.2.2.1]; exact hgrow1) (by rw [R.out.2.2.1]; exact hg1) (Below.refl _ _) hown2 hgrow2 hg2
              obtain ⟨u, hu⟩ : ∃ u, cg[x]? = some u := ⟨_, Array.getElem?_eq_getElem (by rw [R.out.2.1.size]; exact hx4)⟩
              have y0 : w6.cell? ⟨gb, x, none⟩ = some u := (T.out.1.cell x).trans hu
              have z0 : w6.frozen? ⟨gb, x, none⟩ = false := T.out.1.frozen x
              clear hown1 hgrow1 hg1 hlt1 hown2 hgrow2 hg2 hlt2 hu hS5
              refine wpAnyH_take (i := 11) (v := .pointer (some ⟨gb, x, none⟩)) rfl (by kernel_rfl) (by kernel_rfl) (by kernel_rfl) (fun _ _ _ h => h) (Yields.yieldsIf (Or.inl ⟨by rfl, fun W => by go_simp⟩)) (by exact hS6) ?_
              refine anyH_as (a' := ?N13) 1 #[true, true, true, true, true, true, true, true, true, true, true, true, false] (by kernel_rfl) (by kernel_rfl) ?HN13 ?HM13
              case HN13 =>
                go_simp
                exact rfl
              refine anyH_one (o := { dst := none, op := Op.store 23 (Operand.tmp 110) (Operand.tmp 109), type := 0, pos := "law.go:55", after := #[{ on := 11, ground := Ground.data }, { on := 10, ground := Ground.data }, { on := 10, ground := Ground.chain }, { on := 0, ground := Ground.phase }, { on := 1, ground := Ground.phase }, { on := 2, ground := Ground.phase }, { on := 3, ground := Ground.phase }, { on := 4, ground := Ground.phase }, { on := 5, ground := Ground.phase }, { on := 6, ground := Ground.phase }, { on := 7, ground := Ground.phase }, { on := 8, ground := Ground.phase }, { on := 9, ground := Ground.phase }, { on := 10, ground := Ground.phase }], guard := none }) 12 (by kernel_rfl) rfl (fun K hK => ?_)
              rw [if_pos (by rfl)]
              go_simp
              refine hK.out _ _ (hS6.far GB.out.1 GB.out.2) (fun _ => ?_)
              clear hK K y0 z0
              refine anyH_as (a' := ?N14) 0 #[true, true, true, true, true, true, true, true, true, true, true, true, true] (by kernel_rfl) (by kernel_rfl) ?HN14 ?HM14
              case HN14 =>
                go_simp
                exact rfl
              refine wpAnyH_done (by kernel_rfl) ?_ _
              go_wp2
              go_roundg q
              case measure => omega
              case rel =>
                obtain ⟨V'', N'', xs'', h4⟩ := T.out.2
                exact ⟨x + 1, by first | rfl | (rw [e1]), R.out.1, _, _, _, _, h4⟩
          · refine step_mark w4 (by rfl) (.tmp 107) (by rfl) #[.int .u8 0, CX x] (by rfl) rfl ?_
            refine hK.out _ _ (hS.alloc _) (fun _ => ?_)
            clear hK K
            refine anyH_as (a' := ?N15) 5 #[true, true, true, true, true, true, false, false, true, true, false, false, false] (by kernel_rfl) (by kernel_rfl) ?HN15 ?HM15
            case HN15 =>
              go_simp
              exact rfl
            refine anyH_one (o := { dst := some 105, op := Op.buildSlice 23 1 #[(0, Operand.tmp 104)], type := 23, pos := "law.go:55", after := #[{ on := 5, ground := Ground.data }], guard := none }) 6 (by kernel_rfl) rfl (fun K hK => ?_)
            refine step_mark (w4.alloc (.cells #[.int .u8 0, CX x] 28)) (by rfl) (.tmp 104) (by rfl) #[.int .u8 0, CX x] (by rfl) rfl ?_
            refine hK.out _ _ ((hS.alloc _).alloc _) (fun _ => ?_)
            clear hK K
            refine anyH_as (a' := ?N16) 4 #[true, true, true, true, true, true, true, false, true, true, false, false, false] (by kernel_rfl) (by kernel_rfl) ?HN16 ?HM16
            case HN16 =>
              go_simp
              exact rfl
            refine anyH_one (o := { dst := some 106, op := Op.call { callee := Callee.builtin Builtin.append, args := #[Operand.tmp 103, Operand.tmp 105], argTypes := #[23, 23] }, type := 23, pos := "law.go:55", after := #[{ on := 4, ground := Ground.data }, { on := 6, ground := Ground.data }], guard := none }) 7 (by kernel_rfl) rfl (fun K hK => ?_)
            refine step_spot ((w4.alloc (.cells #[.int .u8 0, CX x] 28)).alloc (.cells #[.int .u8 0, CX x] 28)) (by rfl) (.tmp 103) (.tmp 105) (by rfl) w2.heap.size (.slice a (N' x) qq) (N' x) (xs' x) (by rfl) ((R.out.2.2.2.2.1.alloc _).alloc _) (w4.heap.size + 1) 1 0 _ (by rfl) ((Has.at (w4.alloc (.cells #[.int .u8 0, CX x] 28)) _ _ (by simp)).cell 0) ((Has.at (w4.alloc (.cells #[.int .u8 0, CX x] 28)) _ _ (by simp)).cell 1) (by have := R.out.2.2.2.1; omega) (by have := R.out.2.2.2.2.2; simp; omega) ?_
            intro g1 q1 w5 hown1 hgrow1 hg1 hlt1
            have hS5 : SX mb lb x (.slice a (N' x) qq) w5 := SX.grown ((hS.alloc _).alloc _) hgrow1 FR1.1 FR1.2
            refine hK.out _ _ hS5 (fun _ => ?_)
            clear hK K
            refine anyH_as (a' := ?N17) 3 #[true, true, true, true, true, true, true, true, true, true, false, false, false] (by kernel_rfl) (by kernel_rfl) ?HN17 ?HM17
            case HN17 =>
              go_simp
              exact rfl
            have HZ : Has w5 w4.heap.size #[.int .u8 0, CX x] 28 := ((Has.new w4 _ _).alloc _).grownS hgrow1 (OFF.out _ (by omega))
            refine anyH_one (o := { dst := some 109, op := Op.call { callee := Callee.builtin Builtin.append, args := #[Operand.tmp 106, Operand.tmp 108], argTypes := #[23, 23] }, type := 23, pos := "law.go:55", after := #[{ on := 7, ground := Ground.data }, { on := 9, ground := Ground.data }, { on := 7, ground := Ground.chain }], guard := none }) 10 (by kernel_rfl) rfl (fun K hK => ?_)
            refine step_spot w5 (by rfl) (.tmp 106) (.tmp 108) (by rfl) w2.heap.size (.slice (some ⟨g1, 0, none⟩) (N' x + 1) q1) (N' x + 1) _ (by rfl) (hown1) (w4.heap.size) 1 0 _ (by rfl) ((HZ).cell 0) ((HZ).cell 1) (by have := R.out.2.2.2.1; omega) (by have := R.out.2.2.2.2.2; have := hgrow1.size; simp at this ⊢; omega) ?_
            intro g2 q2 w6 hown2 hgrow2 hg2 hlt2
            have FR2 := FR.out ((w4.alloc (.cells #[.int .u8 0, CX x] 28)).alloc (.cells #[.int .u8 0, CX x] 28)) g1 hg1 (by simp; try omega)
            have hS6 : SX mb lb x (.slice a (N' x) qq) w6 := SX.grown (hS5) hgrow2 FR2.1 FR2.2
            refine hK.out _ _ hS6 (fun _ => ?_)
            clear hK K
            refine anyH_as (a' := ?N18) 2 #[true, true, true, true, true, true, true, true, true, true, true, false, false] (by kernel_rfl) (by kernel_rfl) ?HN18 ?HM18
            case HN18 =>
              go_simp
              exact rfl
            have T : Aside (Has w6 gb cg 29 ∧ ∃ V'' N'' xs'', ST3 w2 lb gb c0 (x + 1) (w6.setCell ⟨gb, x, none⟩ (.slice (some ⟨g2, 0, none⟩) (N' x + 1 + 1) q2)) V'' N'' xs'' (cg.setIfInBounds x (.slice (some ⟨g2, 0, none⟩) (N' x + 1 + 1) q2))) := ST3.step (R.out.2.1.keep (((Below.refl _ _).alloc (Nat.le_refl _) _).alloc (by simp) _)) hx4 hown1 (by rw [R.out.2.2.1]; exact hgrow1) (by rw [R.out.2.2.1]; exact hg1) (Below.refl _ _) hown2 hgrow2 hg2
            obtain ⟨u, hu⟩ : ∃ u, cg[x]? = some u := ⟨_, Array.getElem?_eq_getElem (by rw [R.out.2.1.size]; exact hx4)⟩
            have y0 : w6.cell? ⟨gb, x, none⟩ = some u := (T.out.1.cell x).trans hu
            have z0 : w6.frozen? ⟨gb, x, none⟩ = false := T.out.1.frozen x
            clear hown1 hgrow1 hg1 hlt1 hown2 hgrow2 hg2 hlt2 hu hS5
            refine wpAnyH_take (i := 11) (v := .pointer (some ⟨gb, x, none⟩)) rfl (by kernel_rfl) (by kernel_rfl) (by kernel_rfl) (fun _ _ _ h => h) (Yields.yieldsIf (Or.inl ⟨by rfl, fun W => by go_simp⟩)) (by exact hS6) ?_
            refine anyH_as (a' := ?N19) 1 #[true, true, true, true, true, true, true, true, true, true, true, true, false] (by kernel_rfl) (by kernel_rfl) ?HN19 ?HM19
            case HN19 =>
              go_simp
              exact rfl
            refine anyH_one (o := { dst := none, op := Op.store 23 (Operand.tmp 110) (Operand.tmp 109), type := 0, pos := "law.go:55", after := #[{ on := 11, ground := Ground.data }, { on := 10, ground := Ground.data }, { on := 10, ground := Ground.chain }, { on := 0, ground := Ground.phase }, { on := 1, ground := Ground.phase }, { on := 2, ground := Ground.phase }, { on := 3, ground := Ground.phase }, { on := 4, ground := Ground.phase }, { on := 5, ground := Ground.phase }, { on := 6, ground := Ground.phase }, { on := 7, ground := Ground.phase }, { on := 8, ground := Ground.phase }, { on := 9, ground := Ground.phase }, { on := 10, ground := Ground.phase }], guard := none }) 12 (by kernel_rfl) rfl (fun K hK => ?_)
            rw [if_pos (by rfl)]
            go_simp
            refine hK.out _ _ (hS6.far GB.out.1 GB.out.2) (fun _ => ?_)
            clear hK K y0 z0
            refine anyH_as (a' := ?N20) 0 #[true, true, true, true, true, true, true, true, true, true, true, true, true] (by kernel_rfl) (by kernel_rfl) ?HN20 ?HM20
            case HN20 =>
              go_simp
              exact rfl
            refine wpAnyH_done (by kernel_rfl) ?_ _
            go_wp2
            go_roundg q
            case measure => omega
            case rel =>
              obtain ⟨V'', N'', xs'', h4⟩ := T.out.2
              exact ⟨x + 1, by first | rfl | (rw [e1]), R.out.1, _, _, _, _, h4⟩
    | succ q =>
      have hx4 : x < 4 := by have := A.out.1; omega
      have hlt : (x : Int) < 4 := by omega
      have hx0 : ¬ (x : Int) < 0 := by omega
      have e1 : wrap64 ((x : Int) + 1) = ((x + 1 : Nat) : Int) := by unfold wrap64; omega
      have e2 : wrap64 (201 + (x : Int)) = ((201 + x : Nat) : Int) := by unfold wrap64; omega
      have e3 : IntKind.u64.wrap ((201 + x : Nat) : Int) = ((201 + x : Nat) : Int) := wr_id (by omega)
      obtain ⟨a, qq, hv, hpos⟩ : ∃ a cap, V x = .slice a (N x) cap ∧ (0 < N x → ∃ g, a = some ⟨g, 0, none⟩) := by
        obtain ⟨xs, h1, _⟩ := A.out.2
        obtain ⟨a, cap, h2, h3⟩ := sown_slice (h1.row x hx4)
        exact ⟨a, cap, h2, fun h => by obtain ⟨g, h4, _⟩ := h3 h; exact ⟨g, h4⟩⟩
      generalize hwo : wr = wo at *
      clear hwo
      go_wp2
      go_loopg [17] (N x) (fun p s20 wx => ∃ y : Nat, s20 = .int .i64 (y : Int) ∧ Aside (y + p = N x ∧ ST1 w2 lb c0 V N x y wx))
      case atStart => exact ⟨0, rfl, by omega, A.out.2⟩
      case round =>
        obtain ⟨y, rfl, B⟩ := hrel
        have hl : wr.cell? ⟨lb, x, none⟩ = some (.slice a (N x) qq) := by
          obtain ⟨xs, _, h2, _⟩ := B.out.2
          rw [h2.cell x, hN.out.1 x hx4, hv]
        have hlz : (x : Int).toNat = x := by omega
        cases gk with
        | zero =>
          obtain rfl : y = N x := by have := B.out.1; omega
          have hylt : ¬ ((N x : Nat) : Int) < ((N x : Nat) : Int) := by omega
          go_wp2
          go_roundg q
          case measure => omega
          case rel => exact ⟨x + 1, by first | rfl | (rw [e1]), by have := A.out.1; omega, B.out.2.next⟩
        | succ p =>
          have hyN : y < N x := by have := B.out.1; omega
          have hylt : (y : Int) < ((N x : Nat) : Int) := by omega
          have hy0 : ¬ (y : Int) < 0 := by omega
          have ey : wrap64 ((y : Int) + 1) = ((y + 1 : Nat) : Int) := by have := hN.out.2 x hx4; unfold wrap64; omega
          obtain ⟨g, rfl⟩ := hpos (by omega)
          obtain ⟨u, u', hu, hu', hf, hf'⟩ : ∃ u u', wr.cell? ⟨g, y * 2, none⟩ = some u ∧ wr.cell? ⟨g, y * 2 + 1, none⟩ = some u' ∧ wr.frozen? ⟨g, y * 2, none⟩ = false ∧ wr.frozen? ⟨g, y * 2 + 1, none⟩ = false := by
            obtain ⟨xs, h1, _⟩ := B.out.2
            have hr := h1.row x hx4
            rw [hv] at hr
            have hlen : y * 2 + 1 < (xs x).length := by have := hr.1; omega
            exact ⟨_, _, (hr.cellAt (y * 2) (by omega)).trans (List.getElem?_eq_getElem (by omega)), (hr.cellAt (y * 2 + 1) (by omega)).trans (List.getElem?_eq_getElem hlen), hr.frozenAt (y * 2), hr.frozenAt (y * 2 + 1)⟩
          go_wp2
          go_roundg p
          case measure => omega
          case rel =>
            exact ⟨y + 1, by first | rfl | (rw [ey]), by have := B.out.1; omega, B.out.2.store hx4 hyN hv⟩
theorem cutSpans_walk (a0 a1 a2 a3 : Int) (w0 : (Lit.int .u64 a0).wf = true) (w1 : (Lit.int .u64 a1).wf = true) (w2 : (Lit.int .u64 a2).wf = true) (w3 : (Lit.int .u64 a3).wf = true) (w : World) (hT : Tabled w) (h0 : 0 < w.heap.size) :
    Calls Tryd.prog 3 #[.int .u64 a0, .int .u64 a1, .int .u64 a2, .int .u64 a3] w fun e w' => e = .returned (.bool true) ∧ Below w.heap.size w w' := by
  have b0 := wf_u64 w0
  have b1 := wf_u64 w1
  have b2 := wf_u64 w2
  have b3 := wf_u64 w3
  obtain ⟨a, rfl⟩ : ∃ X : Nat, a0 = (X : Int) := ⟨a0.toNat, by omega⟩
  obtain ⟨b, rfl⟩ : ∃ X : Nat, a1 = (X : Int) := ⟨a1.toNat, by omega⟩
  obtain ⟨n, rfl⟩ : ∃ X : Nat, a2 = (X : Int) := ⟨a2.toNat, by omega⟩
  obtain ⟨k, rfl⟩ : ∃ X : Nat, a3 = (X : Int) := ⟨a3.toNat, by omega⟩
  have ca : ∀ W, Below w.heap.size w W → Calls Tryd.prog 10 #[] W fun e w' => e = .returned (.bool true) ∧ Below W.heap.size W w' := fun W hW => cutawake_ok W (hT.below h0 hW) (Nat.lt_of_lt_of_le h0 hW.size)
  have nil : ∀ (w : World) (base : Nat), w.ownsRow base 28 2 (.slice none 0 0) ([] : List (Nat × Nat)).length (SCELLS []) := fun w base => ⟨rfl, .inl ⟨rfl, rfl⟩⟩
  obtain ⟨P, hP, c1, c3⟩ : ∃ P : List (Nat × Nat), P.length ≤ 124 ∧ (∀ w, Calls Tryd.prog 5 #[.int .u64 (a : Int), .int .u64 (b : Int)] w fun e w' => ∃ v, e = .returned v ∧ w'.ownsRow w.heap.size 28 2 v P.length (SCELLS P) ∧ Below w.heap.size w w')
      ∧ (∀ W, Below w.heap.size w W → Calls Tryd.prog 7 #[.int .u64 (a : Int), .int .u64 (b : Int)] W fun e w' => ∃ v, e = .returned v ∧ w'.ownsRow W.heap.size 28 2 v P.length (SCELLS P) ∧ Below W.heap.size W w') := by
    have hno : ∀ (h : b ≤ a ∨ 4611686018427387904 < b) (w : World), Calls Tryd.prog 5 #[.int .u64 (a : Int), .int .u64 (b : Int)] w fun e w' => ∃ v, e = .returned v ∧ w'.ownsRow w.heap.size 28 2 v ([] : List (Nat × Nat)).length (SCELLS []) ∧ Below w.heap.size w w' := fun h w => (refspan_none a b h w).mono fun e w' ⟨h1, h2⟩ => by
      subst h1; subst h2
      exact ⟨_, rfl, nil _ _, Below.refl _ _⟩
    rcases Nat.lt_or_ge 4611686018427387904 b with h | h
    · refine ⟨[], by simp, hno (.inr h), fun W _ => (span_not _ _ (by omega) W).mono ?_⟩
      rintro e w' ⟨rfl, rfl⟩
      exact ⟨_, rfl, nil _ _, Below.refl _ _⟩
    · refine ⟨SPAN a b, SPAN_length h, fun w => ?_, fun W hW => span_ok a b (by omega) h W (hT.below h0 hW) (Nat.lt_of_lt_of_le h0 hW.size)⟩
      rcases Nat.lt_or_ge a b with h2 | h2
      · exact refspan_ok a b h2 h w
      · rw [SPAN_end h2]
        exact hno (.inl h2) w
  obtain ⟨W, hW, c2, c4⟩ : ∃ P : List (Nat × Nat), P.length ≤ 124 ∧ (∀ w, Calls Tryd.prog 6 #[.int .u64 (n : Int), .int .u64 (k : Int)] w fun e w' => ∃ v, e = .returned v ∧ w'.ownsRow w.heap.size 28 2 v P.length (SCELLS P) ∧ Below w.heap.size w w')
      ∧ (∀ W, Below w.heap.size w W → Calls Tryd.prog 8 #[.int .u64 (n : Int), .int .u64 (k : Int)] W fun e w' => ∃ v, e = .returned v ∧ w'.ownsRow W.heap.size 28 2 v P.length (SCELLS P) ∧ Below W.heap.size W w') := by
    by_cases h : n + k ≤ 4611686018427387904
    · obtain ⟨t, hL, hj⟩ := joins_ok n k h
      refine ⟨JF n k (62 - t) (t + 1), ?_, fun w => refjoins_ok n k t hL h w, fun W hW => hj W (hT.below h0 hW) (Nat.lt_of_lt_of_le h0 hW.size)⟩
      have := JF_length n k (62 - t) (t + 1)
      omega
    · refine ⟨[], by simp, ?_⟩
      by_cases hn : n ≤ 4611686018427387904
      · have e : IntKind.u64.wrap (4611686018427387904 - (n : Int)) = 4611686018427387904 - (n : Int) := by rw [wrapU]; omega
        refine ⟨fun w => (refjoins_far _ _ _ (by omega) e (by omega) w).mono ?_, fun W _ => (joins_far _ _ _ (by omega) e (by omega) W).mono ?_⟩ <;>
        · rintro e w' ⟨rfl, rfl⟩
          exact ⟨_, rfl, nil _ _, Below.refl _ _⟩
      · refine ⟨fun w => (refjoins_great _ _ (by omega) w).mono ?_, fun W _ => (joins_great _ _ (by omega) W).mono ?_⟩ <;>
        · rintro e w' ⟨rfl, rfl⟩
          exact ⟨_, rfl, nil _ _, Below.refl _ _⟩
  exact cutSpans_core _ _ _ _ P W w hP hW c1 c2 c3 c4 ca
end Go.Proofs.YthogidnbjdmaaaaDoor
