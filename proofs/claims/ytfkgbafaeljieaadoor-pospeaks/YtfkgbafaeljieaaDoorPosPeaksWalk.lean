/- The walk of PosPeaks. -/
import Derived.Test.YtfkgbafaeljieaaDoorPosFour
namespace Go.Proofs.YtfkgbafaeljieaaDoor
open Go.RowKit
set_option maxRecDepth 100000

/-- what stands behind the writing. -/
abbrev CX (x : Nat) : Value := .int .u64 (((201 + x : Nat)) : Int)
/-- the lists that the calls brought, each behind the one before. -/
structure Came (w2 : World) (s3 s4 s5 s6 : Nat) (v8 v9 v10 v12 : Value) (P W : List Nat) (wx : World) : Prop where
  bel : Below w2.heap.size w2 wx
  r8 : wx.ownsRow w2.heap.size 22 1 v8 P.length (UCELLS P)
  r9 : wx.ownsRow s3 22 1 v9 P.length (UCELLS P)
  r10 : wx.ownsRow s4 22 1 v10 W.length (UCELLS W)
  r12 : wx.ownsRow s5 22 1 v12 W.length (UCELLS W)
  l8 : ∀ k, v8.ownBlock = some k → k < s3
  l9 : ∀ k, v9.ownBlock = some k → k < s4
  l10 : ∀ k, v10.ownBlock = some k → k < s5
  l12 : ∀ k, v12.ownBlock = some k → k < s6
  o3 : w2.heap.size ≤ s3
  o4 : s3 ≤ s4
  o5 : s4 ≤ s5
  o6 : s5 ≤ s6
  top : s6 ≤ wx.heap.size
theorem Came.keep {w2 wx wy : World} {s3 s4 s5 s6 : Nat} {v8 v9 v10 v12 : Value} {P W : List Nat} (h : Came w2 s3 s4 s5 s6 v8 v9 v10 v12 P W wx) (hb : Below wx.heap.size wx wy) : Came w2 s3 s4 s5 s6 v8 v9 v10 v12 P W wy :=
  ⟨h.bel.trans (hb.mono h.bel.size), own_below h.r8 hb, own_below h.r9 hb, own_below h.r10 hb, own_below h.r12 hb, h.l8, h.l9, h.l10, h.l12, h.o3, h.o4, h.o5, h.o6, Nat.le_trans h.top hb.size⟩
theorem Came.make {w2 w3 w4 w5 w6 : World} {v8 v9 v10 v12 : Value} {P W : List Nat} (b3 : Below w2.heap.size w2 w3) (r8 : w3.ownsRow w2.heap.size 22 1 v8 P.length (UCELLS P)) (b4 : Below w3.heap.size w3 w4) (r9 : w4.ownsRow w3.heap.size 22 1 v9 P.length (UCELLS P))
    (b5 : Below w4.heap.size w4 w5) (r10 : w5.ownsRow w4.heap.size 22 1 v10 W.length (UCELLS W)) (b6 : Below w5.heap.size w5 w6) (r12 : w6.ownsRow w5.heap.size 22 1 v12 W.length (UCELLS W)) : Came w2 w3.heap.size w4.heap.size w5.heap.size w6.heap.size v8 v9 v10 v12 P W w6 := by
  have b46 := b5.trans (b6.mono b5.size)
  have b36 := b4.trans (b46.mono b4.size)
  exact ⟨b3.trans (b36.mono b3.size), own_below r8 b36, own_below r9 b46, own_below r10 b6, r12, fun k hk => (r8.lt k hk).2, fun k hk => (r9.lt k hk).2, fun k hk => (r10.lt k hk).2, fun k hk => (r12.lt k hk).2, b3.size, b4.size, b5.size, b6.size, Nat.le_refl _⟩
/-- the writing, so far: the lists ahead of x are written over, of list x the first y. -/
def ST1 (w2 : World) (lb : Nat) (c0 : Array Value) (V : Nat → Value) (N : Nat → Nat) (x y : Nat) (wx : World) : Prop :=
  ∃ xs : Nat → List Value, Four wx w2.heap.size (fun g => g = lb) V N xs ∧ Has wx lb c0 36 ∧ Below w2.heap.size w2 wx ∧ w2.heap.size ≤ lb ∧ (∀ z, z < x → ∀ j, j < N z → (xs z)[j]? = some (CX z)) ∧ (∀ j, j < y → (xs x)[j]? = some (CX x))
theorem ST1.next {w2 : World} {lb : Nat} {c0 : Array Value} {V : Nat → Value} {N : Nat → Nat} {x : Nat} {wx : World} (h : ST1 w2 lb c0 V N x (N x) wx) : ST1 w2 lb c0 V N (x + 1) 0 wx := by
  obtain ⟨xs, h1, h2, h3, h4, h5, h6⟩ := h
  refine ⟨xs, h1, h2, h3, h4, fun z hz j hj => ?_, fun j hj => by omega⟩
  rcases Nat.lt_or_ge z x with h | h
  · exact h5 z h j hj
  · obtain rfl : z = x := by omega
    exact h6 j hj
theorem ST1.store {w2 : World} {lb : Nat} {c0 : Array Value} {V : Nat → Value} {N : Nat → Nat} {x y g m cap : Nat} {wx : World} (h : ST1 w2 lb c0 V N x y wx) (hx : x < 4) (hy : y < N x) (hv : V x = .slice (some ⟨g, 0, none⟩) m cap) : ST1 w2 lb c0 V N x (y + 1) (wx.setCell ⟨g, y, none⟩ (CX x)) := by
  obtain ⟨xs, h1, h2, h3, h4, h5, h6⟩ := h
  have hg := (h1.row x hx).lt g (by rw [hv]; rfl)
  refine ⟨_, h1.store hx hv y (CX x), h2.other (fun e => h1.off x hx g (by rw [hv]; rfl) e.symm) _, h3.setCell hg.1 _, h4, fun z hz j hj => ?_, fun j hj => ?_⟩
  · rw [UPD_other xs _ (by omega)]
    exact h5 z hz j hj
  · rw [UPD_at, List.getElem?_set]
    have hl : (xs x).length = N x := by have := (h1.row x hx).1; omega
    split
    · rw [if_pos (by omega)]
    · exact h6 j (by omega)
/-- the lists are grown, so far: those ahead of x. -/
structure ST3 (w2 : World) (lb gb : Nat) (c0 : Array Value) (x : Nat) (wx : World) (V : Nat → Value) (N : Nat → Nat) (xs : Nat → List Value) (cg : Array Value) : Prop where
  four : Four wx w2.heap.size (fun g => g = lb ∨ g = gb) V N xs
  hl : Has wx lb c0 36
  hg : Has wx gb cg 44
  size : cg.size = 4
  bel : Below w2.heap.size w2 wx
  ol : w2.heap.size ≤ lb
  og : w2.heap.size ≤ gb
  old : ∀ z, x ≤ z → z < 4 → c0[z]? = some (V z)
  new : ∀ z, z < x → cg[z]? = some (V z)
  cell : ∀ z, z < 4 → ∀ j, j < N z → (xs z)[j]? = some (CX z)
  len : ∀ z, z < 4 → N z ≤ 66
  few : ∀ z, x ≤ z → z < 4 → N z ≤ 64
theorem ST3.step {w2 : World} {lb gb : Nat} {c0 : Array Value} {x : Nat} {wx : World} {V : Nat → Value} {N : Nat → Nat} {xs : Nat → List Value} {cg : Array Value} (h : ST3 w2 lb gb c0 x wx V N xs cg) (hx : x < 4) (o1 o2 : Obj) {g1 q1 g2 q2 : Nat} {w5 w6 : World}
    (own1 : w5.ownsRow w2.heap.size 22 1 (.slice (some ⟨g1, 0, none⟩) (N x + 1) q1) (N x + 1) (xs x ++ [CX x])) (grow1 : (wx.alloc o1).grownBy w5 (V x).ownBlock) (at1 : (V x).ownBlock = some g1 ∨ g1 = (wx.alloc o1).heap.size)
    (own2 : w6.ownsRow w2.heap.size 22 1 (.slice (some ⟨g2, 0, none⟩) (N x + 1 + 1) q2) (N x + 1 + 1) (xs x ++ [CX x] ++ [CX x])) (grow2 : (w5.alloc o2).grownBy w6 (some g1)) (at2 : some g1 = some g2 ∨ g2 = (w5.alloc o2).heap.size) :
    Has w6 gb cg 44 ∧ ∃ V' N' xs', ST3 w2 lb gb c0 (x + 1) (w6.setCell ⟨gb, x, none⟩ (.slice (some ⟨g2, 0, none⟩) (N x + 1 + 1) q2)) V' N' xs' (cg.setIfInBounds x (.slice (some ⟨g2, 0, none⟩) (N x + 1 + 1) q2)) := by
  have hK : ∀ k, (k = lb ∨ k = gb) → k < (wx.alloc o1).heap.size := fun k hk => by
    rcases hk with rfl | rfl
    · exact (h.hl.alloc o1).lt
    · exact (h.hg.alloc o1).lt
  have F1 := (h.four.alloc o1).app hx hK own1 grow1 at1
  have hr1 : ∀ k, (k = lb ∨ k = gb) → (V x).ownBlock ≠ some k := fun k hk e => h.four.off x hx k e hk
  have l5 := (h.hl.alloc o1).grown grow1 (hr1 lb (.inl rfl))
  have g5 := (h.hg.alloc o1).grown grow1 (hr1 gb (.inr rfl))
  have hr2 : ∀ k, (k = lb ∨ k = gb) → (some g1 : Option Nat) ≠ some k := fun k hk e => F1.off x hx k (by rw [UPD_at]; exact e) hk
  have hK2 : ∀ k, (k = lb ∨ k = gb) → k < (w5.alloc o2).heap.size := fun k hk => by
    rcases hk with rfl | rfl
    · exact (l5.alloc o2).lt
    · exact (g5.alloc o2).lt
  have l6 := (l5.alloc o2).grown grow2 (hr2 lb (.inl rfl))
  have g6 := (g5.alloc o2).grown grow2 (hr2 gb (.inr rfl))
  have F2 := (F1.alloc o2).app (x := x) (g := g2) (cap := q2) (u := CX x) (w' := w6) hx hK2 (by rw [UPD_at, UPD_at]; exact own2) (by rw [UPD_at]; exact grow2) (by rw [UPD_at]; exact at2)
  have F3 := F2.other (b := gb) (.inr rfl) x (.slice (some ⟨g2, 0, none⟩) (N x + 1 + 1) q2)
  have b5 : Below w2.heap.size w2 w5 := (h.bel.alloc h.bel.size _).grown grow1 (by have := h.bel.size; simp; omega) (fun k e => ((h.four.row x hx).lt k e).1)
  have b6 : Below w2.heap.size w2 w6 := (b5.alloc b5.size _).grown grow2 (by have := b5.size; simp; omega) (fun k e => (own1.lt k e).1)
  have hlen : (xs x).length = N x := by have := (h.four.row x hx).1; omega
  refine ⟨g6, _, _, _, ⟨F3, l6.other (a := ⟨gb, x, none⟩) (fun e => ?_) _, g6.set x _, by simpa using h.size, b6.setCell (p := ⟨gb, x, none⟩) h.og _, h.ol, h.og, fun z hz hz4 => ?_, fun z hz => ?_, fun z hz j hj => ?_, fun z hz => ?_, fun z hz hz4 => ?_⟩⟩
  · have e' : lb = gb := e
    have h1 : wx.heap[lb]? = some (.cells c0 36) := h.hl
    have h2 : wx.heap[gb]? = some (.cells cg 44) := h.hg
    rw [e', h2] at h1
    simp at h1
  · rw [UPD_other _ _ (by omega), UPD_other _ _ (by omega)]
    exact h.old z (by omega) hz4
  · rw [Array.getElem?_setIfInBounds]
    by_cases e : z = x
    · subst e
      rw [if_pos rfl, if_pos (by rw [h.size]; exact hx), UPD_at, UPD_at]
    · rw [if_neg (fun e2 => e e2.symm), UPD_other _ _ e, UPD_other _ _ e]
      exact h.new z (by omega)
  · by_cases e : z = x
    · subst e
      rw [UPD_at, UPD_at] at hj
      rw [UPD_at, UPD_at]
      rcases Nat.lt_or_ge j (N z) with h1 | h1
      · rw [List.append_assoc, List.getElem?_append_left (by omega)]
        exact h.cell z hz j h1
      · rw [List.append_assoc, List.getElem?_append_right (by omega), hlen]
        rcases (show j - N z = 0 ∨ j - N z = 1 by omega) with h2 | h2 <;> rw [h2] <;> rfl
    · rw [UPD_other _ _ e, UPD_other _ _ e] at hj
      rw [UPD_other _ _ e, UPD_other _ _ e]
      exact h.cell z hz j hj
  · by_cases e : z = x
    · subst e
      rw [UPD_at, UPD_at]
      have := h.few z (Nat.le_refl _) hz
      omega
    · rw [UPD_other _ _ e, UPD_other _ _ e]
      exact h.len z hz
  · rw [UPD_other _ _ (by omega), UPD_other _ _ (by omega)]
    exact h.few z (by omega) hz4
theorem ST3.start {w2 : World} {lb : Nat} {c0 : Array Value} {V : Nat → Value} {N : Nat → Nat} {wx : World} (h : ST1 w2 lb c0 V N 4 0 wx) (hV : ∀ x, x < 4 → c0[x]? = some (V x)) (hN : ∀ x, x < 4 → N x ≤ 64) (cg : Array Value) (hcg : cg.size = 4) : ∃ xs, ST3 w2 lb wx.heap.size c0 0 (wx.alloc (.cells cg 44)) V N xs cg := by
  obtain ⟨xs, h1, h2, h3, h4, h5, h6⟩ := h
  refine ⟨xs, (h1.more (K' := fun g => g = lb ∨ g = wx.heap.size) fun g hg hk => ?_).alloc _, h2.alloc _, Has.new _ _ _, hcg, h3.alloc h3.size _, h4, h3.size, fun z _ hz => hV z hz, fun z hz => by omega, fun z hz j hj => h5 z hz j hj, fun z hz => ?_, fun z _ hz => hN z hz⟩
  · rcases hk with h | h
    · exact h
    · omega
  · have := hN z hz
    omega
set_option maxHeartbeats 4000000 in
theorem posPeaks_core (i n : Int) (P W : List Nat) (k : Int) (ok has : Bool) (w : World) (hP : P.length ≤ 64) (hW : W.length ≤ 64)
    (c1 : ∀ w, Calls Tryd.prog 34 #[.int .u64 n] w fun e w' => ∃ v, e = .returned v ∧ w'.ownsRow w.heap.size 22 1 v P.length (UCELLS P) ∧ Below w.heap.size w w')
    (c2 : ∀ w, Calls Tryd.prog 35 #[.int .u64 i, .int .u64 n] w fun e w' => ∃ v, e = .returned (.tuple #[v, .bool ok]) ∧ w'.ownsRow w.heap.size 22 1 v W.length (UCELLS W) ∧ Below w.heap.size w w')
    (c3 : ∀ W, Below w.heap.size w W → Calls Tryd.prog 36 #[.int .u64 n] W fun e w' => ∃ v, e = .returned v ∧ w'.ownsRow W.heap.size 22 1 v P.length (UCELLS P) ∧ Below W.heap.size W w')
    (c4 : ∀ w, Calls Tryd.prog 37 #[.int .u64 i, .int .u64 n] w fun e w' => ∃ v, e = .returned (.tuple #[v, .bool ok]) ∧ w'.ownsRow w.heap.size 22 1 v W.length (UCELLS W) ∧ Below w.heap.size w w')
    (c5 : ∀ w, Calls Tryd.prog 38 #[.int .u64 i, .int .u64 n] w fun e w' => e = .returned (.tuple #[.int .i64 k, .bool has]) ∧ w = w')
    (c6 : ∀ w, Calls Tryd.prog 39 #[.int .u64 i, .int .u64 n] w fun e w' => e = .returned (.tuple #[.int .i64 k, .bool has]) ∧ Below w.heap.size w w')
    (ca : ∀ W, Below w.heap.size w W → Calls Tryd.prog 13 #[] W fun e w' => e = .returned (.bool true) ∧ Below W.heap.size W w') :
    Calls Tryd.prog 8 #[.int .u64 i, .int .u64 n] w fun e w' => e = .returned (.bool true) ∧ Below w.heap.size w w' := by
  have CA : Aside (∀ W, Below w.heap.size w W → Calls Tryd.prog 13 #[] W fun e w' => e = .returned (.bool true) ∧ Below W.heap.size W w') := ca
  have C3 : Aside (∀ W, Below w.heap.size w W → Calls Tryd.prog 36 #[.int .u64 n] W fun e w' => ∃ v, e = .returned v ∧ w'.ownsRow W.heap.size 22 1 v P.length (UCELLS P) ∧ Below W.heap.size W w') := c3
  have C4 : Aside (∀ w, Calls Tryd.prog 37 #[.int .u64 i, .int .u64 n] w fun e w' => ∃ v, e = .returned (.tuple #[v, .bool ok]) ∧ w'.ownsRow w.heap.size 22 1 v W.length (UCELLS W) ∧ Below w.heap.size w w') := c4
  have HL : Aside (P.length ≤ 64 ∧ W.length ≤ 64) := ⟨hP, hW⟩
  clear ca c3 c4 hP hW
  go_enter Tryd.func8, Tryd.ntmps8
  go_wp2_with fail
  refine (c1 _).mono ?_
  rintro e w1 ⟨v5, rfl, hr, hb⟩
  have R : Aside (Below w.heap.size w w1 ∧ Nums w1 v5 P) := ⟨hb, nums_own hr⟩
  clear c1 hr hb
  go_wp2_with fail
  refine (c2 _).mono ?_
  rintro e w2 ⟨v6, rfl, hr, hb⟩
  have R0 : Aside (Below w.heap.size w w2 ∧ Nums w2 v5 P ∧ Nums w2 v6 W) := ⟨R.out.1.trans (hb.mono R.out.1.size), R.out.2.below hb (Nat.le_refl _), nums_own hr⟩
  clear c2 hr hb R
  go_wp2_with fail
  refine (C3.out _ R0.out.1).mono ?_
  rintro e w3 ⟨v8, rfl, hr, hb⟩
  have R1 : Aside (Below w2.heap.size w2 w3 ∧ w3.ownsRow w2.heap.size 22 1 v8 P.length (UCELLS P)) := ⟨hb, hr⟩
  clear hr hb
  go_wp2_with fail
  refine (C3.out _ (R0.out.1.trans (R1.out.1.mono R0.out.1.size))).mono ?_
  rintro e w4 ⟨v9, rfl, hr, hb⟩
  have R2 : Aside (Below w3.heap.size w3 w4 ∧ w4.ownsRow w3.heap.size 22 1 v9 P.length (UCELLS P)) := ⟨hb, hr⟩
  clear hr hb
  go_wp2_with fail
  refine (C4.out _).mono ?_
  rintro e w5 ⟨v10, rfl, hr, hb⟩
  have R3 : Aside (Below w4.heap.size w4 w5 ∧ w5.ownsRow w4.heap.size 22 1 v10 W.length (UCELLS W)) := ⟨hb, hr⟩
  clear hr hb
  go_wp2_with fail
  refine (C4.out _).mono ?_
  rintro e w6 ⟨v12, rfl, hr, hb⟩
  have M : Aside (Came w2 w3.heap.size w4.heap.size w5.heap.size w6.heap.size v8 v9 v10 v12 P W w6) := Came.make R1.out.1 R1.out.2 R2.out.1 R2.out.2 R3.out.1 R3.out.2 hb hr
  clear hr hb R1 R2 R3
  generalize w3.heap.size = s3 at *
  generalize w4.heap.size = s4 at *
  generalize w5.heap.size = s5 at *
  generalize w6.heap.size = s6 at *
  go_wp2_with fail
  refine (c5 _).mono ?_
  rintro e w7 ⟨rfl, rfl⟩
  clear c5
  go_wp2_with fail
  refine (c6 _).mono ?_
  rintro e w7 ⟨rfl, hb⟩
  replace M : Aside (Came w2 s3 s4 s5 s6 v8 v9 v10 v12 P W w7) := M.out.keep hb
  clear c6 hb
  go_wp2_with fail
  refine (list_ok v8 v5 P _ (by have := HL.out.1; omega) (nums_own M.out.r8) (R0.out.2.1.below M.out.bel (Nat.le_refl _))).mono ?_
  rintro e w8 ⟨rfl, hb⟩
  replace M : Aside (Came w2 s3 s4 s5 s6 v8 v9 v10 v12 P W w8) := M.out.keep hb
  clear hb
  go_wp2_with fail
  refine (list_ok v9 v5 P _ (by have := HL.out.1; omega) (nums_own M.out.r9) (R0.out.2.1.below M.out.bel (Nat.le_refl _))).mono ?_
  rintro e w9 ⟨rfl, hb⟩
  replace M : Aside (Came w2 s3 s4 s5 s6 v8 v9 v10 v12 P W w9) := M.out.keep hb
  clear hb
  go_wp2_with fail
  refine (list_ok v10 v6 W _ (by have := HL.out.2; omega) (nums_own M.out.r10) (R0.out.2.2.below M.out.bel (Nat.le_refl _))).mono ?_
  rintro e w10 ⟨rfl, hb⟩
  replace M : Aside (Came w2 s3 s4 s5 s6 v8 v9 v10 v12 P W w10) := M.out.keep hb
  clear hb
  go_wp2_with fail
  refine (list_ok v12 v6 W _ (by have := HL.out.2; omega) (nums_own M.out.r12) (R0.out.2.2.below M.out.bel (Nat.le_refl _))).mono ?_
  rintro e w11 ⟨rfl, hb⟩
  replace M : Aside (Came w2 s3 s4 s5 s6 v8 v9 v10 v12 P W w11) := M.out.keep hb
  clear hb
  obtain ⟨a8, q8, rfl, -⟩ := own_slice M.out.r8
  obtain ⟨a9, q9, rfl, -⟩ := own_slice M.out.r9
  obtain ⟨a10, q10, rfl, -⟩ := own_slice M.out.r10
  obtain ⟨a12, q12, rfl, -⟩ := own_slice M.out.r12
  go_wp2
  obtain ⟨V, N, c0, hc0, hN, S⟩ : ∃ (V : Nat → Value) (N : Nat → Nat) (c0 : Array Value), c0 = #[Value.slice a8 P.length q8, Value.slice a9 P.length q9, Value.slice a10 W.length q10, Value.slice a12 W.length q12] ∧ Aside ((∀ x, x < 4 → c0[x]? = some (V x)) ∧ (∀ x, x < 4 → N x ≤ 64)) ∧ Aside (ST1 w2 w11.heap.size c0 V N 0 0 (w11.alloc (.cells c0 36))) := by
    have M := M.out
    obtain ⟨V, N, XS, h1, e0, e1, e2, e3, hN⟩ := Four.of (K := fun g => g = w11.heap.size) M.r8 M.r9 M.r10 M.r12 M.l8 M.l9 M.l10 M.l12 M.o3 M.o4 M.o5 M.o6 (fun k hk => by rw [hk]; exact M.top)
    refine ⟨V, N, _, rfl, ⟨fun x hx => ?_, fun x hx => ?_⟩, XS, h1.alloc _, Has.new _ _ _, M.bel.alloc M.bel.size _, M.bel.size, fun z hz => by omega, fun j hj => by omega⟩
    · rcases (show x = 0 ∨ x = 1 ∨ x = 2 ∨ x = 3 by omega) with rfl | rfl | rfl | rfl
      · rw [e0]; rfl
      · rw [e1]; rfl
      · rw [e2]; rfl
      · rw [e3]; rfl
    · have := HL.out
      rcases hN x hx with h | h <;> omega
  rw [← hc0]
  clear hc0 M
  generalize w11.alloc (.cells c0 36) = w12 at *
  generalize w11.heap.size = lb at *
  go_loopg [19] 4 (fun q s19 wx => ∃ x : Nat, s19 = .int .i64 (x : Int) ∧ Aside (x + q = 4 ∧ ST1 w2 lb c0 V N x 0 wx))
  case atStart => exact ⟨0, rfl, by omega, S.out⟩
  case round =>
    obtain ⟨x, rfl, A⟩ := hrel
    clear S
    cases gk with
    | zero =>
      obtain rfl : x = 4 := by have := A.out.1; omega
      go_wp2
      obtain ⟨xs, S⟩ : ∃ xs, Aside (ST3 w2 lb wr.heap.size c0 0 (wr.alloc (.cells #[Value.slice none 0 0, Value.slice none 0 0, Value.slice none 0 0, Value.slice none 0 0] 44)) V N xs #[Value.slice none 0 0, Value.slice none 0 0, Value.slice none 0 0, Value.slice none 0 0]) := ST3.start A.out.2 hN.out.1 hN.out.2 _ rfl
      generalize wr.alloc (.cells #[Value.slice none 0 0, Value.slice none 0 0, Value.slice none 0 0, Value.slice none 0 0] 44) = w13 at *
      generalize wr.heap.size = gb at *
      clear A hN
      go_loopg [22] 4 (fun q s22 wx => ∃ x : Nat, s22 = .int .i64 (x : Int) ∧ Aside (x + q = 4 ∧ ∃ V N xs cg, ST3 w2 lb gb c0 x wx V N xs cg))
      case atStart => exact ⟨0, rfl, by omega, _, _, _, _, S.out⟩
      case round =>
        obtain ⟨x, rfl, A⟩ := hrel
        clear S
        cases gk with
        | zero =>
          obtain rfl : x = 4 := by have := A.out.1; omega
          obtain ⟨V', N', xs', cg, S3⟩ : ∃ V N xs cg, Aside (ST3 w2 lb gb c0 4 wr V N xs cg) := A.out.2
          clear A
          generalize hw14 : wr = w14 at *
          clear hw14
          go_wp2
          go_loopg [23] 4 (fun q s23 wx => ∃ x : Nat, s23 = .int .i64 (x : Int) ∧ Aside (x + q = 4) ∧ wx = w14)
          case atStart => exact ⟨0, rfl, by unfold Aside; omega, rfl⟩
          case round =>
            obtain ⟨x, rfl, A, hw⟩ := hrel
            subst hw
            cases gk with
            | zero =>
              obtain rfl : x = 4 := by have := A.out; omega
              have R : Aside (Below w2.heap.size w2 wr) := S3.out.bel
              clear S3 A
              go_wp2_with fail
              refine (C4.out _).mono ?_
              rintro e w15 ⟨v, rfl, hr, hb⟩
              have R2 : Aside (Below w2.heap.size w2 w15 ∧ Nums w15 v W) := ⟨R.out.trans (hb.mono R.out.size), nums_own hr⟩
              clear hr hb R C4
              go_wp2_with fail
              refine (C3.out _ (R0.out.1.trans (R2.out.1.mono R0.out.1.size))).mono ?_
              rintro e w16 ⟨v', rfl, hr, hb⟩
              have R3 : Aside (Below w2.heap.size w2 w16 ∧ Nums w16 v W ∧ Nums w16 v' P) := ⟨R2.out.1.trans (hb.mono R2.out.1.size), R2.out.2.below hb (Nat.le_refl _), nums_own hr⟩
              clear hr hb R2 C3
              go_wp2_with fail
              refine (list_ok v' v5 P _ (by have := HL.out.1; omega) R3.out.2.2 (R0.out.2.1.below R3.out.1 (Nat.le_refl _))).mono ?_
              rintro e w17 ⟨rfl, hb⟩
              have R4 : Aside (Below w2.heap.size w2 w17 ∧ Nums w17 v W) := ⟨R3.out.1.trans (hb.mono R3.out.1.size), R3.out.2.1.below hb (Nat.le_refl _)⟩
              clear hb R3
              go_wp2_with fail
              refine (list_ok v v6 W _ (by have := HL.out.2; omega) R4.out.2 (R0.out.2.2.below R4.out.1 (Nat.le_refl _))).mono ?_
              rintro e w18 ⟨rfl, hb⟩
              have R5 : Aside (Below w.heap.size w w18) := R0.out.1.trans ((R4.out.1.trans (hb.mono R4.out.1.size)).mono R0.out.1.size)
              clear hb R4
              go_wp2_with fail
              refine (CA.out _ R5.out).mono ?_
              rintro e w19 ⟨rfl, hb⟩
              have R6 : Aside (Below w.heap.size w w19) := R5.out.trans (hb.mono R5.out.size)
              clear hb R5 CA
              go_wp2
              go_ret
              exact ⟨rfl, R6.out⟩
            | succ q =>
              have hx4 : x < 4 := by have := A.out; omega
              have hlt : (x : Int) < 4 := by omega
              have hx0 : ¬ (x : Int) < 0 := by omega
              have e1 : wrap64 ((x : Int) + 1) = ((x + 1 : Nat) : Int) := by unfold wrap64; omega
              obtain ⟨a, qq, hv, hpos⟩ := own_slice (S3.out.four.row x hx4)
              generalize hw14 : wr = w14 at *
              clear hw14
              have hl : w14.cell? ⟨gb, x, none⟩ = some (.slice a (N' x) qq) := by rw [S3.out.hg.cell x, S3.out.new x hx4, hv]
              have HQ : Aside (V' x = .slice a (N' x) qq ∧ (0 < N' x → ∃ g, a = some ⟨g, 0, none⟩) ∧ N' x ≤ 66) := ⟨hv, fun h => by obtain ⟨g, h1, _⟩ := hpos h; exact ⟨g, h1⟩, S3.out.len x hx4⟩
              clear hv hpos
              go_wp2
              go_loopg [24] (N' x) (fun p s24 wx => ∃ y : Nat, s24 = .int .i64 (y : Int) ∧ Aside (y + p = N' x) ∧ wx = w14)
              case atStart => exact ⟨0, rfl, by unfold Aside; omega, rfl⟩
              case round =>
                obtain ⟨y, rfl, B, hw⟩ := hrel
                subst hw
                cases gk with
                | zero =>
                  obtain rfl : y = N' x := by have := B.out; omega
                  have hylt : ¬ ((N' x : Nat) : Int) < ((N' x : Nat) : Int) := by omega
                  go_wp2
                  go_roundg q
                  case measure => omega
                  case rel => exact ⟨x + 1, by first | rfl | (rw [e1]), by have := A.out; unfold Aside; omega, rfl⟩
                | succ p =>
                  have hyN : y < N' x := by have := B.out; omega
                  have hylt : (y : Int) < ((N' x : Nat) : Int) := by omega
                  have hy0 : ¬ (y : Int) < 0 := by omega
                  have ey : wrap64 ((y : Int) + 1) = ((y + 1 : Nat) : Int) := by have := HQ.out.2.2; unfold wrap64; omega
                  obtain ⟨g, rfl⟩ := HQ.out.2.1 (by omega)
                  have hc : wr.cell? ⟨g, y, none⟩ = some (.int .u64 (201 + (x : Int))) := by
                    have hr := S3.out.four.row x hx4
                    rw [HQ.out.1] at hr
                    rw [hr.cellAt y (by omega), S3.out.cell x hx4 y hyN]
                    rfl
                  go_wp2
                  go_roundg p
                  case measure => omega
                  case rel => exact ⟨y + 1, by first | rfl | (rw [ey]), by have := B.out; unfold Aside; omega, rfl⟩
        | succ q =>
          have hx4 : x < 4 := by have := A.out.1; omega
          have hlt : (x : Int) < 4 := by omega
          have hx0 : ¬ (x : Int) < 0 := by omega
          have e1 : wrap64 ((x : Int) + 1) = ((x + 1 : Nat) : Int) := by unfold wrap64; omega
          obtain ⟨V', N', xs', cg, h3⟩ := A.out.2
          obtain ⟨a, qq, hv, -⟩ := own_slice (h3.four.row x hx4)
          have hl : wr.cell? ⟨lb, x, none⟩ = some (.slice a (N' x) qq) := by rw [h3.hl.cell x, h3.old x (Nat.le_refl _) hx4, hv]
          have R : Aside (x + 1 + q = 4 ∧ ST3 w2 lb gb c0 x wr V' N' xs' cg ∧ V' x = .slice a (N' x) qq ∧ wr.ownsRow w2.heap.size 22 1 (.slice a (N' x) qq) (N' x) (xs' x) ∧ N' x ≤ 64 ∧ w2.heap.size ≤ wr.heap.size) := ⟨by have := A.out.1; omega, h3, hv, by rw [← hv]; exact h3.four.row x hx4, h3.few x (Nat.le_refl _) hx4, h3.bel.size⟩
          clear A h3 hv
          go_wp2_with (first | (at_builtin; refine app_more _ rfl (.tmp 138) (.tmp 142) rfl w2.heap.size (.slice a (N' x) qq) (N' x) (xs' x) rfl (R.out.2.2.2.1.alloc _) wr.heap.size 1 (201 + (x : Int)) rfl (by rw [World.cell?_alloc_at _ _ _ _ rfl]; rfl) (by have := R.out.2.2.2.2.1; omega) (by have := R.out.2.2.2.2.2; simp; omega) ?_; intro g1 q1 w5 hown1 hgrow1 hg1 hlt1) | (at_builtin; refine app_more _ rfl (.tmp 143) (.tmp 147) rfl w2.heap.size (.slice (some ⟨g1, 0, none⟩) (N' x + 1) q1) (N' x + 1) _ rfl (hown1.alloc _) w5.heap.size 1 (201 + (x : Int)) rfl (by rw [World.cell?_alloc_at _ _ _ _ rfl]; rfl) (by have := R.out.2.2.2.2.1; omega) (by have := R.out.2.2.2.2.2; have := hgrow1.size; simp at this ⊢; omega) ?_; intro g2 q2 w6 hown2 hgrow2 hg2 hlt2; have T : Aside (Has w6 gb cg 44 ∧ ∃ V'' N'' xs'', ST3 w2 lb gb c0 (x + 1) (w6.setCell ⟨gb, x, none⟩ (.slice (some ⟨g2, 0, none⟩) (N' x + 1 + 1) q2)) V'' N'' xs'' (cg.setIfInBounds x (.slice (some ⟨g2, 0, none⟩) (N' x + 1 + 1) q2))) := ST3.step R.out.2.1 hx4 _ _ hown1 (by rw [R.out.2.2.1]; exact hgrow1) (by rw [R.out.2.2.1]; exact hg1) hown2 hgrow2 hg2; obtain ⟨u, hu⟩ : ∃ u, cg[x]? = some u := ⟨_, Array.getElem?_eq_getElem (by rw [R.out.2.1.size]; exact hx4)⟩; have y0 : w6.cell? ⟨gb, x, none⟩ = some u := (T.out.1.cell x).trans hu; have z0 : w6.frozen? ⟨gb, x, none⟩ = false := T.out.1.frozen x; clear hown1 hgrow1 hg1 hlt1 hown2 hgrow2 hg2 hlt2 hu))
          go_roundg q
          case measure => omega
          case rel =>
            obtain ⟨V'', N'', xs'', h4⟩ := T.out.2
            exact ⟨x + 1, by first | rfl | (rw [e1]), R.out.1, _, _, _, _, h4⟩
    | succ q =>
      have hx4 : x < 4 := by have := A.out.1; omega
      have hlt : (x : Int) < 4 := by omega
      have hx0 : ¬ (x : Int) < 0 := by omega
      have e1 : wrap64 ((x : Int) + 1) = ((x + 1 : Nat) : Int) := by unfold wrap64; omega
      have e2 : wrap64 (201 + (x : Int)) = ((201 + x : Nat) : Int) := by unfold wrap64; omega
      have e3 : IntKind.u64.wrap ((201 + x : Nat) : Int) = ((201 + x : Nat) : Int) := wr_id (by omega)
      obtain ⟨a, qq, hv, hpos⟩ : ∃ a cap, V x = .slice a (N x) cap ∧ (0 < N x → ∃ g, a = some ⟨g, 0, none⟩) := by
        obtain ⟨xs, h1, _⟩ := A.out.2
        obtain ⟨a, cap, h2, h3⟩ := own_slice (h1.row x hx4)
        exact ⟨a, cap, h2, fun h => by obtain ⟨g, h4, _⟩ := h3 h; exact ⟨g, h4⟩⟩
      generalize hwo : wr = wo at *
      clear hwo
      go_wp2
      go_loopg [20] (N x) (fun p s20 wx => ∃ y : Nat, s20 = .int .i64 (y : Int) ∧ Aside (y + p = N x ∧ ST1 w2 lb c0 V N x y wx))
      case atStart => exact ⟨0, rfl, by omega, A.out.2⟩
      case round =>
        obtain ⟨y, rfl, B⟩ := hrel
        have hl : wr.cell? ⟨lb, x, none⟩ = some (.slice a (N x) qq) := by
          obtain ⟨xs, _, h2, _⟩ := B.out.2
          rw [h2.cell x, hN.out.1 x hx4, hv]
        have hlz : (x : Int).toNat = x := by omega
        cases gk with
        | zero =>
          obtain rfl : y = N x := by have := B.out.1; omega
          have hylt : ¬ ((N x : Nat) : Int) < ((N x : Nat) : Int) := by omega
          go_wp2
          go_roundg q
          case measure => omega
          case rel => exact ⟨x + 1, by first | rfl | (rw [e1]), by have := A.out.1; omega, B.out.2.next⟩
        | succ p =>
          have hyN : y < N x := by have := B.out.1; omega
          have hylt : (y : Int) < ((N x : Nat) : Int) := by omega
          have hy0 : ¬ (y : Int) < 0 := by omega
          have ey : wrap64 ((y : Int) + 1) = ((y + 1 : Nat) : Int) := by have := hN.out.2 x hx4; unfold wrap64; omega
          obtain ⟨g, rfl⟩ := hpos (by omega)
          obtain ⟨u, hu, hf⟩ : ∃ u, wr.cell? ⟨g, y, none⟩ = some u ∧ wr.frozen? ⟨g, y, none⟩ = false := by
            obtain ⟨xs, h1, _⟩ := B.out.2
            have hr := h1.row x hx4
            rw [hv] at hr
            have hlen : y < (xs x).length := by have := hr.1; omega
            exact ⟨_, (hr.cellAt y (by omega)).trans (List.getElem?_eq_getElem hlen), hr.frozenAt y⟩
          go_wp2
          go_roundg p
          case measure => omega
          case rel =>
            exact ⟨y + 1, by first | rfl | (rw [ey]), by have := B.out.1; omega, B.out.2.store hx4 hyN hv⟩
theorem posPeaks_walk (a0 a1 : Int) (w0 : (Lit.int .u64 a0).wf = true) (w1 : (Lit.int .u64 a1).wf = true) (w : World) (hT : Tabled w) (h0 : 0 < w.heap.size) :
    Calls Tryd.prog 8 #[.int .u64 a0, .int .u64 a1] w fun e w' => e = .returned (.bool true) ∧ Below w.heap.size w w' := by
  have b0 := wf_u64 w0
  have b1 := wf_u64 w1
  obtain ⟨i, rfl⟩ : ∃ X : Nat, a0 = (X : Int) := ⟨a0.toNat, by omega⟩
  obtain ⟨n, rfl⟩ : ∃ X : Nat, a1 = (X : Int) := ⟨a1.toNat, by omega⟩
  have ca : ∀ W, Below w.heap.size w W → Calls Tryd.prog 13 #[] W fun e w' => e = .returned (.bool true) ∧ Below W.heap.size W w' := fun W hW => awake_ok W (hT.below h0 hW) (Nat.lt_of_lt_of_le h0 hW.size)
  have nil : ∀ (w : World) (base : Nat), w.ownsRow base 22 1 (.slice none 0 0) ([] : List Nat).length (UCELLS []) := fun w base => ⟨rfl, .inl ⟨rfl, rfl⟩⟩
  obtain ⟨P, hP, c1, c3⟩ : ∃ P : List Nat, P.length ≤ 64 ∧ (∀ w, Calls Tryd.prog 34 #[.int .u64 (n : Int)] w fun e w' => ∃ v, e = .returned v ∧ w'.ownsRow w.heap.size 22 1 v P.length (UCELLS P) ∧ Below w.heap.size w w')
      ∧ (∀ W, Below w.heap.size w W → Calls Tryd.prog 36 #[.int .u64 (n : Int)] W fun e w' => ∃ v, e = .returned v ∧ w'.ownsRow W.heap.size 22 1 v P.length (UCELLS P) ∧ Below W.heap.size W w') := by
    rcases Nat.lt_or_ge 4611686018427387904 n with h | h
    · refine ⟨[], by simp, fun w => (refpeaks_not _ (by omega) w).mono ?_, fun W _ => (peaks_not _ (by omega) W).mono ?_⟩
      · rintro e w' ⟨rfl, rfl⟩
        exact ⟨_, rfl, nil _ _, Below.refl _ _⟩
      · rintro e w' ⟨rfl, rfl⟩
        exact ⟨_, rfl, nil _ _, Below.refl _ _⟩
    · have hl := PEAKS_length (n := n) (by omega)
      refine ⟨PEAKS n, by rw [hl]; exact PC_lt_pow 64 n (by omega), fun w => ?_, fun W hW => (peaks_ok n h W (hT.below h0 hW) (Nat.lt_of_lt_of_le h0 hW.size)).mono ?_⟩
      · rw [hl]
        exact refpeaks_ok n h w
      · rintro e w' ⟨g, cap, rfl, hr, hb⟩
        rw [hl]
        exact ⟨_, rfl, hr, hb⟩
  by_cases hh : i < n ∧ n ≤ 4611686018427387904
  · obtain ⟨hi, hn⟩ := hh
    have h62 := (RISE_spec hi hn).2.1
    refine posPeaks_core _ _ P (WAY i (RISE i n)) ((KTH i n : Nat) : Int) true true w hP (by rw [WAY_length]; omega) c1 (fun w => ?_) c3 (fun w => (path_ok i n hi hn w).mono ?_) (fun w => peak_ok i n hi hn w) (fun w => refpeak_ok i n hi hn w) ca
    · rw [WAY_length]
      exact refpath_ok i n hi hn w
    · rintro e w' ⟨g, cap, rfl, hr, hg, hb⟩
      rw [WAY_length]
      exact ⟨_, rfl, hr, hb⟩
  · have hh' : ¬ ((i : Int) < (n : Int) ∧ (n : Int) ≤ 4611686018427387904) := by omega
    refine posPeaks_core _ _ P [] 0 false false w hP (by simp) c1 (fun w => (refpath_not _ _ hh' w).mono ?_) c3 (fun w => (path_not _ _ hh' w).mono ?_) (fun w => peak_not _ _ hh' w) (fun w => (refpeak_not _ _ hh' w).mono ?_) ca
    · rintro e w' ⟨rfl, rfl⟩
      exact ⟨_, rfl, nil _ _, Below.refl _ _⟩
    · rintro e w' ⟨rfl, rfl⟩
      exact ⟨_, rfl, nil _ _, Below.refl _ _⟩
    · rintro e w' ⟨rfl, rfl⟩
      exact ⟨rfl, Below.refl _ _⟩
end Go.Proofs.YtfkgbafaeljieaaDoor
