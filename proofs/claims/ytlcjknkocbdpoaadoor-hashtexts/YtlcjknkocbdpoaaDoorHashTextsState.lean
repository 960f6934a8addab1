/- What lies there while the law HashTexts writes its lists over and grows them. -/
import Derived.Test.YtlcjknkocbdpoaaDoorHashFam
import Derived.Test.YtlcjknkocbdpoaaDoorHashRefTexts
import Derived.Deep.QuietTactic
import Derived.BigQuiet
namespace Go.Proofs.YtlcjknkocbdpoaaDoor
open Go.RowKit

theorem Fam.grown {w w' : World} {B M : Nat} {K K' : Nat → Prop} {v : Nat → Value} {n : Nat → Nat} {xs : Nat → List Value} {row : Option Nat} (h : Fam w B M K v n xs) (hg : w.grownBy w' row) (hr : ∀ x, x < M → ∀ q, (v x).ownBlock = some q → row ≠ some q) (hK : ∀ x, x < M → ∀ q, (v x).ownBlock = some q → ¬ K' q) : Fam w' B M K' v n xs := by
  refine ⟨fun x hx => (h.row x hx).kept hg ?_, h.apart, hK⟩
  cases hb : (v x).ownBlock with
  | none => exact .inl rfl
  | some q => exact .inr fun e => hr x hx q hb e.symm
/-- the blocks that no list of bytes shares. -/
def KK (g Ab Bb Cb : Nat) (sx sy : Value) (q : Nat) : Prop := q = g ∨ q = Ab ∨ q = Bb ∨ q = Cb ∨ sx.ownBlock = some q ∨ sy.ownBlock = some q
structure S2 (w : World) (g n c' Ab Bb Cb : Nat) (l : List Nat) (c1 c2 c3 : Array Value) (V : Nat → Value) (N : Nat → Nat) (XS : Nat → List Value) (sx sy : Value) (ix iy : Nat) (wx : World) : Prop where
  bel : Below w.heap.size w wx
  giv : wx.ownsRow w.heap.size 5 1 (.slice (some ⟨g, 0, none⟩) (n + 1) c') (n + 1) (BY (l ++ [171]))
  fam : Fam wx w.heap.size 9 (KK g Ab Bb Cb sx sy) V N XS
  hA : Has wx Ab c1 22
  hB : Has wx Bb c2 22
  hC : Has wx Cb c3 22
  rx : wx.ownsRow w.heap.size 22 1 sx ix ((List.range ix).map V)
  ry : wx.ownsRow w.heap.size 22 1 sy iy ((List.range iy).map fun x => V (x + 4))
  xy : ∀ q, sx.ownBlock = some q → sy.ownBlock ≠ some q
  kx : ∀ q, sx.ownBlock = some q → ¬ (q = g ∨ q = Ab ∨ q = Bb ∨ q = Cb)
  ky : ∀ q, sy.ownBlock = some q → ¬ (q = g ∨ q = Ab ∨ q = Bb ∨ q = Cb)
theorem S2.keep {w : World} {g n c' Ab Bb Cb : Nat} {l : List Nat} {c1 c2 c3 : Array Value} {V : Nat → Value} {N : Nat → Nat} {XS : Nat → List Value} {sx sy : Value} {ix iy : Nat} {wx wy : World} (h : S2 w g n c' Ab Bb Cb l c1 c2 c3 V N XS sx sy ix iy wx) (hb : Below wx.heap.size wx wy) : S2 w g n c' Ab Bb Cb l c1 c2 c3 V N XS sx sy ix iy wy :=
  ⟨h.bel.trans (hb.mono h.bel.size), own_keep h.giv hb, h.fam.below hb, h.hA.keep hb, h.hB.keep hb, h.hC.keep hb, own_keep h.rx hb, own_keep h.ry hb, h.xy, h.kx, h.ky⟩
theorem S2.known {w : World} {g n c' Ab Bb Cb : Nat} {l : List Nat} {c1 c2 c3 : Array Value} {V : Nat → Value} {N : Nat → Nat} {XS : Nat → List Value} {sx sy : Value} {ix iy : Nat} {wx : World} (h : S2 w g n c' Ab Bb Cb l c1 c2 c3 V N XS sx sy ix iy wx) : ∀ k, KK g Ab Bb Cb sx sy k → k < wx.heap.size := fun k hk => by
  rcases hk with rfl | rfl | rfl | rfl | hk | hk
  · exact (h.giv.lt k rfl).2
  · exact h.hA.lt
  · exact h.hB.lt
  · exact h.hC.lt
  · exact (h.rx.lt k hk).2
  · exact (h.ry.lt k hk).2
/-- what is stored into one of the lists. -/
theorem S2.store {w : World} {g n c' Ab Bb Cb : Nat} {l : List Nat} {c1 c2 c3 : Array Value} {V : Nat → Value} {N : Nat → Nat} {XS : Nat → List Value} {sx sy : Value} {ix iy : Nat} {wx : World} (h : S2 w g n c' Ab Bb Cb l c1 c2 c3 V N XS sx sy ix iy wx) {r b m cap : Nat} (hr : r < 9) (hv : V r = .slice (some ⟨b, 0, none⟩) m cap) (j : Nat) (u : Value) : S2 w g n c' Ab Bb Cb l c1 c2 c3 V N (UPF XS r ((XS r).set j u)) sx sy ix iy (wx.setCell ⟨b, j, none⟩ u) := by
  have hb : (V r).ownBlock = some b := by rw [hv]; rfl
  have off := h.fam.off r hr b hb
  have hl := (h.fam.row r hr).lt b hb
  have ne : ∀ q, KK g Ab Bb Cb sx sy q → q ≠ b := fun q hq e => off (by rw [← e]; exact hq)
  refine ⟨h.bel.setCell (p := ⟨b, j, none⟩) hl.1 _, h.giv.kept (grown_set wx b j u) (.inr fun e => ?_), h.fam.store hr hv j u, h.hA.other (a := ⟨b, j, none⟩) (ne Ab (.inr (.inl rfl))) _, h.hB.other (a := ⟨b, j, none⟩) (ne Bb (.inr (.inr (.inl rfl)))) _, h.hC.other (a := ⟨b, j, none⟩) (ne Cb (.inr (.inr (.inr (.inl rfl))))) _, h.rx.kept (grown_set wx b j u) (.inr fun e => off (.inr (.inr (.inr (.inr (.inl e)))))), h.ry.kept (grown_set wx b j u) (.inr fun e => off (.inr (.inr (.inr (.inr (.inr e)))))), h.xy, h.kx, h.ky⟩
  have e2 : g = b := by simpa [Value.ownBlock] using e
  exact ne g (.inl rfl) e2
theorem map_upd {V : Nat → Value} {r k : Nat} {u : Value} (h : k ≤ r) : (List.range k).map (UPF V r u) = (List.range k).map V := by
  apply List.map_congr_left
  intro x hx
  rw [List.mem_range] at hx
  exact UPF_other _ _ (by omega)
/-- one of the lists is grown. -/
theorem S2.row {w : World} {g n c' Ab Bb Cb : Nat} {l : List Nat} {c1 c2 c3 : Array Value} {V : Nat → Value} {N : Nat → Nat} {XS : Nat → List Value} {sx sy : Value} {ix iy : Nat} {wx w' : World} (h : S2 w g n c' Ab Bb Cb l c1 c2 c3 V N XS sx sy ix iy wx) {r g1 q1 : Nat} {u : Value} (hr : r < 9) (h1 : ix ≤ r) (h2 : r < 4 ∨ iy + 4 ≤ r)
    (own : w'.ownsRow w.heap.size 5 1 (.slice (some ⟨g1, 0, none⟩) (N r + 1) q1) (N r + 1) (XS r ++ [u])) (grow : wx.grownBy w' (V r).ownBlock) (at1 : (V r).ownBlock = some g1 ∨ g1 = wx.heap.size) :
    S2 w g n c' Ab Bb Cb l c1 c2 c3 (UPF V r (.slice (some ⟨g1, 0, none⟩) (N r + 1) q1)) (UPF N r (N r + 1)) (UPF XS r (XS r ++ [u])) sx sy ix iy w' := by
  have off : ∀ q, KK g Ab Bb Cb sx sy q → (V r).ownBlock ≠ some q := fun q hq e => h.fam.off r hr q e hq
  refine ⟨h.bel.grown grow h.bel.size (fun k e => ((h.fam.row r hr).lt k e).1), h.giv.kept grow (.inr fun e => off g (.inl rfl) e.symm), h.fam.app hr h.known own grow at1, h.hA.grownF grow (off Ab (.inr (.inl rfl))), h.hB.grownF grow (off Bb (.inr (.inr (.inl rfl)))), h.hC.grownF grow (off Cb (.inr (.inr (.inr (.inl rfl))))), ?_, ?_, h.xy, h.kx, h.ky⟩
  · rw [map_upd h1]
    refine h.rx.kept grow ?_
    cases hb : sx.ownBlock with
    | none => exact .inl rfl
    | some q => exact .inr fun e => off q (.inr (.inr (.inr (.inr (.inl hb))))) e.symm
  · have e : ((List.range iy).map fun x => UPF V r (.slice (some ⟨g1, 0, none⟩) (N r + 1) q1) (x + 4)) = (List.range iy).map fun x => V (x + 4) := by
      apply List.map_congr_left
      intro x hx
      rw [List.mem_range] at hx
      exact UPF_other _ _ (by omega)
    rw [e]
    refine h.ry.kept grow ?_
    cases hb : sy.ownBlock with
    | none => exact .inl rfl
    | some q => exact .inr fun e => off q (.inr (.inr (.inr (.inr (.inr hb))))) e.symm
theorem range_snoc (k : Nat) (f : Nat → Value) : (List.range (k + 1)).map f = (List.range k).map f ++ [f k] := by rw [List.range_succ, List.map_append]; rfl
/-- the first list of lists is grown. -/
theorem S2.appX {w : World} {g n c' Ab Bb Cb : Nat} {l : List Nat} {c1 c2 c3 : Array Value} {V : Nat → Value} {N : Nat → Nat} {XS : Nat → List Value} {sx sy : Value} {ix iy : Nat} {wx w' : World} (h : S2 w g n c' Ab Bb Cb l c1 c2 c3 V N XS sx sy ix iy wx) {g2 q2 : Nat}
    (own : w'.ownsRow w.heap.size 22 1 (.slice (some ⟨g2, 0, none⟩) (ix + 1) q2) (ix + 1) ((List.range ix).map V ++ [V ix])) (grow : wx.grownBy w' sx.ownBlock) (at2 : sx.ownBlock = some g2 ∨ g2 = wx.heap.size) :
    S2 w g n c' Ab Bb Cb l c1 c2 c3 V N XS (.slice (some ⟨g2, 0, none⟩) (ix + 1) q2) sy (ix + 1) iy w' := by
  have hk := h.known
  have new : ∀ q, (Value.slice (some ⟨g2, 0, none⟩) (ix + 1) q2).ownBlock = some q → g2 = q := fun q e => by simpa [Value.ownBlock] using e
  have far : ∀ q, (q = g ∨ q = Ab ∨ q = Bb ∨ q = Cb) → sx.ownBlock ≠ some q := fun q hq e => h.kx q e hq
  have kn4 : ∀ q, (q = g ∨ q = Ab ∨ q = Bb ∨ q = Cb) → KK g Ab Bb Cb sx sy q := fun q hq => by
    rcases hq with e | e | e | e
    · exact .inl e
    · exact .inr (.inl e)
    · exact .inr (.inr (.inl e))
    · exact .inr (.inr (.inr (.inl e)))
  refine ⟨h.bel.grown grow h.bel.size (fun k e => (h.rx.lt k e).1), h.giv.kept grow (.inr fun e => far g (.inl rfl) e.symm), h.fam.grown grow (fun x hx q hq e => h.fam.off x hx q hq (.inr (.inr (.inr (.inr (.inl e)))))) (fun x hx q hq hkk => ?_), h.hA.grownF grow (far Ab (.inr (.inl rfl))), h.hB.grownF grow (far Bb (.inr (.inr (.inl rfl)))), h.hC.grownF grow (far Cb (.inr (.inr (.inr rfl)))), by rw [range_snoc]; exact own, h.ry.kept grow ?_, fun q hq hq2 => ?_, fun q hq hq4 => ?_, h.ky⟩
  · rcases hkk with e | e | e | e | e | e
    · exact h.fam.off x hx q hq (.inl e)
    · exact h.fam.off x hx q hq (.inr (.inl e))
    · exact h.fam.off x hx q hq (.inr (.inr (.inl e)))
    · exact h.fam.off x hx q hq (.inr (.inr (.inr (.inl e))))
    · have := new q e
      subst this
      rcases at2 with e2 | e2
      · exact h.fam.off x hx g2 hq (.inr (.inr (.inr (.inr (.inl e2)))))
      · have := ((h.fam.row x hx).lt g2 hq).2
        omega
    · exact h.fam.off x hx q hq (.inr (.inr (.inr (.inr (.inr e)))))
  · cases hb : sy.ownBlock with
    | none => exact .inl rfl
    | some q => exact .inr fun e => h.xy q e.symm hb
  · have := new q hq
    subst this
    rcases at2 with e2 | e2
    · exact h.xy g2 e2 hq2
    · have := (h.ry.lt g2 hq2).2
      omega
  · have := new q hq
    subst this
    rcases at2 with e2 | e2
    · exact h.kx g2 e2 hq4
    · have := hk g2 (kn4 g2 hq4)
      omega
/-- the second one is grown. -/
theorem S2.appY {w : World} {g n c' Ab Bb Cb : Nat} {l : List Nat} {c1 c2 c3 : Array Value} {V : Nat → Value} {N : Nat → Nat} {XS : Nat → List Value} {sx sy : Value} {ix iy : Nat} {wx w' : World} (h : S2 w g n c' Ab Bb Cb l c1 c2 c3 V N XS sx sy ix iy wx) {g2 q2 : Nat}
    (own : w'.ownsRow w.heap.size 22 1 (.slice (some ⟨g2, 0, none⟩) (iy + 1) q2) (iy + 1) (((List.range iy).map fun x => V (x + 4)) ++ [V (iy + 4)])) (grow : wx.grownBy w' sy.ownBlock) (at2 : sy.ownBlock = some g2 ∨ g2 = wx.heap.size) :
    S2 w g n c' Ab Bb Cb l c1 c2 c3 V N XS sx (.slice (some ⟨g2, 0, none⟩) (iy + 1) q2) ix (iy + 1) w' := by
  have hk := h.known
  have new : ∀ q, (Value.slice (some ⟨g2, 0, none⟩) (iy + 1) q2).ownBlock = some q → g2 = q := fun q e => by simpa [Value.ownBlock] using e
  have far : ∀ q, (q = g ∨ q = Ab ∨ q = Bb ∨ q = Cb) → sy.ownBlock ≠ some q := fun q hq e => h.ky q e hq
  have kn4 : ∀ q, (q = g ∨ q = Ab ∨ q = Bb ∨ q = Cb) → KK g Ab Bb Cb sx sy q := fun q hq => by
    rcases hq with e | e | e | e
    · exact .inl e
    · exact .inr (.inl e)
    · exact .inr (.inr (.inl e))
    · exact .inr (.inr (.inr (.inl e)))
  refine ⟨h.bel.grown grow h.bel.size (fun k e => (h.ry.lt k e).1), h.giv.kept grow (.inr fun e => far g (.inl rfl) e.symm), h.fam.grown grow (fun x hx q hq e => h.fam.off x hx q hq (.inr (.inr (.inr (.inr (.inr e)))))) (fun x hx q hq hkk => ?_), h.hA.grownF grow (far Ab (.inr (.inl rfl))), h.hB.grownF grow (far Bb (.inr (.inr (.inl rfl)))), h.hC.grownF grow (far Cb (.inr (.inr (.inr rfl)))), h.rx.kept grow ?_, by rw [range_snoc]; exact own, fun q hq hq2 => ?_, h.kx, fun q hq hq4 => ?_⟩
  · rcases hkk with e | e | e | e | e | e
    · exact h.fam.off x hx q hq (.inl e)
    · exact h.fam.off x hx q hq (.inr (.inl e))
    · exact h.fam.off x hx q hq (.inr (.inr (.inl e)))
    · exact h.fam.off x hx q hq (.inr (.inr (.inr (.inl e))))
    · exact h.fam.off x hx q hq (.inr (.inr (.inr (.inr (.inl e)))))
    · have := new q e
      subst this
      rcases at2 with e2 | e2
      · exact h.fam.off x hx g2 hq (.inr (.inr (.inr (.inr (.inr e2)))))
      · have := ((h.fam.row x hx).lt g2 hq).2
        omega
  · cases hb : sx.ownBlock with
    | none => exact .inl rfl
    | some q => exact .inr fun e => h.xy q hb e.symm
  · have := new q hq2
    subst this
    rcases at2 with e2 | e2
    · exact h.xy g2 hq e2
    · have := (h.rx.lt g2 hq).2
      omega
  · have := new q hq
    subst this
    rcases at2 with e2 | e2
    · exact h.ky g2 e2 hq4
    · have := hk g2 (kn4 g2 hq4)
      omega
/-- how far the writing has come. -/
structure CND (n : Nat) (c1 c2 : Array Value) (i k : Nat) (V : Nat → Value) (N : Nat → Nat) (XS : Nat → List Value) (TL : Nat → Nat) : Prop where
  old : ∀ x, i ≤ x → x < 4 → c1[x]? = some (V x) ∧ c2[x]? = some (V (x + 4)) ∧ N x = TL x ∧ N (x + 4) = TL x
  new : ∀ x, x < i → N x = TL x + 1 ∧ N (x + 4) = TL x + 1
  cell : ∀ x, x < i → (∀ j, j < TL x + 1 → (XS x)[j]? = some (.int .u8 201)) ∧ (∀ j, j < TL x + 1 → (XS (x + 4))[j]? = some (.int .u8 202))
  cur : (∀ j, j < k → (XS i)[j]? = some (.int .u8 201)) ∧ (∀ j, j < k → (XS (i + 4))[j]? = some (.int .u8 202))
  few : ∀ x, TL x ≤ 3001
theorem CND.next {n : Nat} {c1 c2 : Array Value} {i : Nat} {V : Nat → Value} {N : Nat → Nat} {XS : Nat → List Value} {TL : Nat → Nat} (h : CND n c1 c2 i (TL i) V N XS TL) (hi : i < 4) (l1 : (XS i).length = TL i) (l2 : (XS (i + 4)).length = TL i) (v1 v2 : Value) (m2 : Nat) (hm : m2 = TL i + 1) (m1 : Nat) (hm1 : m1 = TL i + 1) :
    CND n c1 c2 (i + 1) 0 (UPF (UPF V i v1) (i + 4) v2) (UPF (UPF N i m1) (i + 4) m2) (UPF (UPF XS i (XS i ++ [.int .u8 201])) (i + 4) (UPF XS i (XS i ++ [.int .u8 201]) (i + 4) ++ [.int .u8 202])) TL := by
  refine ⟨fun x hx hx4 => ?_, fun x hx => ?_, fun x hx => ?_, ⟨fun j hj => by omega, fun j hj => by omega⟩, h.few⟩
  · rw [UPF_other _ _ (by omega), UPF_other _ _ (by omega), UPF_other _ _ (by omega), UPF_other _ _ (by omega), UPF_other _ _ (by omega), UPF_other _ _ (by omega), UPF_other _ _ (by omega), UPF_other _ _ (by omega)]
    exact h.old x (by omega) hx4
  · by_cases e : x = i
    · subst e
      rw [UPF_other _ _ (by omega), UPF_at, UPF_at]
      exact ⟨hm1, hm⟩
    · rw [UPF_other _ _ (by omega), UPF_other _ _ (by omega), UPF_other _ _ (by omega), UPF_other _ _ (by omega)]
      exact h.new x (by omega)
  · by_cases e : x = i
    · subst e
      rw [UPF_other _ _ (by omega), UPF_at, UPF_at, UPF_other _ _ (by omega)]
      refine ⟨fun j hj => ?_, fun j hj => ?_⟩
      · rcases Nat.lt_or_ge j (TL x) with h1 | h1
        · rw [List.getElem?_append_left (by omega)]
          exact h.cur.1 j h1
        · rw [List.getElem?_append_right (by omega), l1, show j - TL x = 0 by omega]
          rfl
      · rcases Nat.lt_or_ge j (TL x) with h1 | h1
        · rw [List.getElem?_append_left (by omega)]
          exact h.cur.2 j h1
        · rw [List.getElem?_append_right (by omega), l2, show j - TL x = 0 by omega]
          rfl
    · rw [UPF_other _ _ (by omega), UPF_other _ _ (by omega), UPF_other _ _ (by omega), UPF_other _ _ (by omega)]
      exact h.cell x (by omega)
theorem bl_alloc {w w' : World} (h : Below w.heap.size w w') (o : Obj) : Below w.heap.size w (w'.alloc o) := h.alloc h.size o
theorem bytes_at (w : World) (m : Nat) (hm : m < 256) (b : Nat) (hb : b = w.heap.size) : Bytes (w.alloc (.cells #[.int .u8 (m : Int)] 5)) (some ⟨b, 0, none⟩) 1 [(m : Int)] := by subst hb; exact HM m hm w
theorem bytes_past {w : World} {a : Option Addr} {n : Nat} {l : List Int} (h : Bytes w a n l) (o : Obj) : Bytes (w.alloc o) a n l := by
  refine ⟨h.1, fun hn => ?_, h.2.2⟩
  obtain ⟨b, off, e, hb, hc⟩ := h.2.1 hn
  exact ⟨b, off, e, by simp; omega, fun j hj => (Below.cell (B := w.heap.size) ((Below.refl _ _).alloc (Nat.le_refl _) o) (p := ⟨b, off + j, none⟩) hb).trans (hc j hj)⟩
theorem cell_at (w : World) (v : Value) (t : TypeId) (b : Nat) (hb : b = w.heap.size) : (w.alloc (.cells #[v] t)).cell? ⟨b, 0, none⟩ = some v := by subst hb; exact (Has.new w _ _).cell 0
theorem cell_past {w : World} {b j : Nat} {v : Value} (h : w.cell? ⟨b, j, none⟩ = some v) (o : Obj) : (w.alloc o).cell? ⟨b, j, none⟩ = some v :=
  (Below.cell (B := w.heap.size) ((Below.refl _ _).alloc (Nat.le_refl _) o) (p := ⟨b, j, none⟩) (World.block_lt_of_cell? w _ h)).trans h
/-- a list of bytes is appended to a list of lists, at a step of a region that draws its order. -/
theorem step_list {ops : Array Oper} {o : Oper} {a : Act} {K : Act → World → Prop} {Q : Exit → Act → World → Prop} {E : Prop} (w : World) (hgd : o.guard = none) (s x : Operand)
    (ho : o.op = .call { callee := .builtin .append, args := #[s, x], argTypes := #[32, 32] })
    (base : Nat) (v : Value) (n : Nat) (xs : List Value) (hs : a.eval s = v) (hown : w.ownsRow base 22 1 v n xs)
    (b c : Nat) (pa : Option Addr) (pn pc : Nat) (hx : a.eval x = .slice (some ⟨b, 0, none⟩) 1 c) (hc0 : w.cell? ⟨b, 0, none⟩ = some (.slice pa pn pc))
    (hb : n ≤ 1000) (hbase : base ≤ w.heap.size)
    (hh : ∀ g cap w', w'.ownsRow base 22 1 (.slice (some ⟨g, 0, none⟩) (n + 1) cap) (n + 1) (xs ++ [.slice pa pn pc]) → w.grownBy w' v.ownBlock → (v.ownBlock = some g ∨ g = w.heap.size) → g < w'.heap.size → K (a.put o.dst (.slice (some ⟨g, 0, none⟩) (n + 1) cap)) w') : if Region.wanted o (yielded ops a.tmps) = true then Oper.wp Tryd.prog o a w K Q else E := by
  obtain ⟨i, hi, h8⟩ := Option.map_eq_some_iff.1 info_part
  simp only [Prod.mk.injEq] at h8
  refine step_append_lies w hgd s x 32 ho base 22 i (.slice none 0 0) 1 24 Tryd.underlying32 hi h8.1 h8.2.1 h8.2.2 rfl (by decide) v n xs hs hown ⟨b, 0, none⟩ 1 c [.slice pa pn pc] hx rfl ?_ (fun u hu => by simp at hu; subst hu; rfl) (by decide) (by simp only [maxLen]; omega) (by omega) hbase w.heap.size rfl hh
  intro j u hj
  cases j with
  | zero =>
    simp only [List.getElem?_cons_zero, Option.some.injEq] at hj
    subst hj
    exact hc0
  | succ j => simp at hj
/-- a byte is appended, at a step of a region that draws its order. -/
theorem step_byte {ops : Array Oper} {o : Oper} {a : Act} {K : Act → World → Prop} {Q : Exit → Act → World → Prop} {E : Prop} (w : World) (hgd : o.guard = none) (s x : Operand)
    (ho : o.op = .call { callee := .builtin .append, args := #[s, x], argTypes := #[22, 22] })
    (base : Nat) (v : Value) (n : Nat) (xs : List Value) (hs : a.eval s = v) (hown : w.ownsRow base 5 1 v n xs)
    (b c : Nat) (z : Int) (hx : a.eval x = .slice (some ⟨b, 0, none⟩) 1 c) (hc0 : w.cell? ⟨b, 0, none⟩ = some (.int .u8 z))
    (hb : n ≤ 100000) (hbase : base ≤ w.heap.size)
    (hh : ∀ g cap w', w'.ownsRow base 5 1 (.slice (some ⟨g, 0, none⟩) (n + 1) cap) (n + 1) (xs ++ [.int .u8 z]) → w.grownBy w' v.ownBlock → (v.ownBlock = some g ∨ g = w.heap.size) → g < w'.heap.size → K (a.put o.dst (.slice (some ⟨g, 0, none⟩) (n + 1) cap)) w') : if Region.wanted o (yielded ops a.tmps) = true then Oper.wp Tryd.prog o a w K Q else E := by
  obtain ⟨i, hi, h8⟩ := Option.map_eq_some_iff.1 info_u8
  simp only [Prod.mk.injEq] at h8
  refine step_append_lies w hgd s x 22 ho base 5 i (.int .u8 0) 1 1 Tryd.underlying22 hi h8.1 h8.2.1 h8.2.2 rfl (by decide) v n xs hs hown ⟨b, 0, none⟩ 1 c [.int .u8 z] hx rfl ?_ (fun u hu => by simp at hu; subst hu; rfl) (by decide) (by simp only [maxLen]; omega) (by omega) hbase w.heap.size rfl hh
  intro j u hj
  cases j with
  | zero =>
    simp only [List.getElem?_cons_zero, Option.some.injEq] at hj
    subst hj
    exact hc0
  | succ j => simp at hj
theorem far_cell {w w' : World} {row : Option Nat} (hg : w.grownBy w' row) {b : Nat} {v : Value} (h : w.cell? ⟨b, 0, none⟩ = some v) (hne : row ≠ some b) : w'.cell? ⟨b, 0, none⟩ = some v :=
  (hg.cell_far ⟨b, 0, none⟩ (World.block_lt_of_cell? _ _ h) (fun e => hne e.symm)).trans h
theorem far_ne1 {ba H b n c : Nat} (h : ba < H) (hb : H ≤ b) : (Value.slice (some ⟨ba, 0, none⟩) n c).ownBlock ≠ some b := fun e => by
  have : ba = b := by simpa [Value.ownBlock] using e
  omega
theorem far_ne2 {H b : Nat} {v : Value} (h : ∀ q, v.ownBlock = some q → q < H) (hb : H ≤ b) : v.ownBlock ≠ some b := fun e => by
  have := h b e
  omega
theorem S2.row1 {w : World} {g n c' Ab Bb Cb : Nat} {l : List Nat} {c1 c2 c3 : Array Value} {V : Nat → Value} {N : Nat → Nat} {XS : Nat → List Value} {sx sy : Value} {i k : Nat} {wx w' : World} (h : S2 w g n c' Ab Bb Cb l c1 c2 c3 V N XS sx sy i i wx) {ba qa g1 q1 : Nat} (hV : V i = .slice (some ⟨ba, 0, none⟩) k qa) (hN : N i = k) (hi : i < 4)
    (own : w'.ownsRow w.heap.size 5 1 (.slice (some ⟨g1, 0, none⟩) (k + 1) q1) (k + 1) (XS i ++ [.int .u8 201])) (grow : wx.grownBy w' (Value.slice (some ⟨ba, 0, none⟩) k qa).ownBlock) (at1 : (Value.slice (some ⟨ba, 0, none⟩) k qa).ownBlock = some g1 ∨ g1 = wx.heap.size) :
    S2 w g n c' Ab Bb Cb l c1 c2 c3 (UPF V i (.slice (some ⟨g1, 0, none⟩) (k + 1) q1)) (UPF N i (k + 1)) (UPF XS i (XS i ++ [.int .u8 201])) sx sy i i w' := by
  subst hN
  exact h.row (by omega) (Nat.le_refl _) (.inl hi) own (by rw [hV]; exact grow) (by rw [hV]; exact at1)
theorem S2.row4 {w : World} {g n c' Ab Bb Cb : Nat} {l : List Nat} {c1 c2 c3 : Array Value} {V : Nat → Value} {N : Nat → Nat} {XS : Nat → List Value} {sx sy : Value} {i k ix iy m1 : Nat} {wx : World} {v1 : Value} {x1 : List Value} (h : S2 w g n c' Ab Bb Cb l c1 c2 c3 (UPF V i v1) (UPF N i m1) (UPF XS i x1) sx sy ix iy wx) {bb qb : Nat} (hV : V (i + 4) = .slice (some ⟨bb, 0, none⟩) k qb) (hN : N (i + 4) = k) (hi : i < 4) :
    wx.ownsRow w.heap.size 5 1 (.slice (some ⟨bb, 0, none⟩) k qb) k (UPF XS i x1 (i + 4)) := by
  have hz := h.fam.row (i + 4) (by omega)
  rw [UPF_other V _ (by omega), UPF_other N _ (by omega), hV, hN] at hz
  exact hz
theorem S2.row5 {w : World} {g n c' Ab Bb Cb : Nat} {l : List Nat} {c1 c2 c3 : Array Value} {V : Nat → Value} {N : Nat → Nat} {XS : Nat → List Value} {sx sy : Value} {i k m1 : Nat} {wx w' : World} {v1 : Value} {x1 : List Value} (h : S2 w g n c' Ab Bb Cb l c1 c2 c3 (UPF V i v1) (UPF N i m1) (UPF XS i x1) sx sy (i + 1) i wx) {bb qb g1 q1 : Nat} (hV : V (i + 4) = .slice (some ⟨bb, 0, none⟩) k qb) (hN : N (i + 4) = k) (hi : i < 4)
    (own : w'.ownsRow w.heap.size 5 1 (.slice (some ⟨g1, 0, none⟩) (k + 1) q1) (k + 1) (UPF XS i x1 (i + 4) ++ [.int .u8 202])) (grow : wx.grownBy w' (Value.slice (some ⟨bb, 0, none⟩) k qb).ownBlock) (at1 : (Value.slice (some ⟨bb, 0, none⟩) k qb).ownBlock = some g1 ∨ g1 = wx.heap.size) :
    S2 w g n c' Ab Bb Cb l c1 c2 c3 (UPF (UPF V i v1) (i + 4) (.slice (some ⟨g1, 0, none⟩) (k + 1) q1)) (UPF (UPF N i m1) (i + 4) (k + 1)) (UPF (UPF XS i x1) (i + 4) (UPF XS i x1 (i + 4) ++ [.int .u8 202])) sx sy (i + 1) i w' := by
  have hV' : UPF V i v1 (i + 4) = .slice (some ⟨bb, 0, none⟩) k qb := (UPF_other V _ (by omega)).trans hV
  have hN' : UPF N i m1 (i + 4) = k := (UPF_other N _ (by omega)).trans hN
  have hz := h.row (r := i + 4) (g1 := g1) (q1 := q1) (u := .int .u8 202) (w' := w') (by omega) (by omega) (.inr (by omega)) (by rw [hN']; exact own) (by rw [hV']; exact grow) (by rw [hV']; exact at1)
  rw [hN'] at hz
  exact hz
/-- is the mark behind the row as it was? -/
theorem marked2_ok (g n c' B : Nat) (l : List Nat) (hl : l.length = n) (hn : n < 2 ^ 40) (hc : n + 1 ≤ c') (w : World) (hr : w.ownsRow B 5 1 (.slice (some ⟨g, 0, none⟩) (n + 1) c') (n + 1) (BY (l ++ [171]))) : Calls Tryd.prog 28 #[.slice (some ⟨g, 0, none⟩) n c'] w fun e w' => e = .returned (.bool true) ∧ w = w' := by
  have x0 : w.cell? ⟨g, n, none⟩ = some (.int .u8 171) := by
    rw [hr.cellAt n (by omega), BY_get _ _ (by rw [List.length_append]; simp; omega), List.getD_eq_getElem?_getD, List.getElem?_append_right (by omega), hl]
    simp
  have e1 : wrap64 ((n : Int) + 1) = ((n + 1 : Nat) : Int) := by unfold wrap64; omega
  have hsl := slice_front (some ⟨g, 0, none⟩) n c' (n + 1) hc
  have h0 : ¬ (n : Int) < 0 := by omega
  have h1 : (n : Int) < ((n + 1 : Nat) : Int) := by omega
  obtain ⟨m, hm⟩ : ∃ m, n + 1 = m := ⟨_, rfl⟩
  rw [hm] at e1 hsl h1
  clear hm hn hr hl hc
  go_enter Tryd.func28, Tryd.ntmps28
  go_wp2
  go_ret
  exact ⟨rfl, rfl⟩
/-- are these all the mark? -/
theorem all_ok (b n c m : Nat) (hn : n < 2 ^ 40) (w : World) (h : ∀ j, j < n → w.cell? ⟨b, j, none⟩ = some (.int .u8 (m : Int))) : Calls Tryd.prog 27 #[.slice (some ⟨b, 0, none⟩) n c, .int .u8 (m : Int)] w fun e w' => e = .returned (.bool true) ∧ w = w' := by
  have H : Aside (n < 2 ^ 40 ∧ ∀ j, j < n → w.cell? ⟨b, j, none⟩ = some (.int .u8 (m : Int))) := ⟨hn, h⟩
  clear hn h
  go_enter Tryd.func27, Tryd.ntmps27
  go_wp2
  go_loopg [5] n (fun gg s5 wx => ∃ k : Nat, s5 = .int .i64 (k : Int) ∧ Aside (k + gg = n) ∧ wx = w)
  case atStart => exact ⟨0, rfl, by unfold Aside; omega, rfl⟩
  case round =>
    obtain ⟨k, rfl, I, hw⟩ := hrel
    subst hw
    cases gk with
    | zero =>
      obtain rfl : k = n := by have := I.out; omega
      have hlt : ¬ (k : Int) < (k : Int) := by omega
      go_wp2
      go_ret
      exact ⟨rfl, rfl⟩
    | succ gg =>
      have hk : k < n := by have := I.out; omega
      have hlt : (k : Int) < (n : Int) := by omega
      have hlt0 : (0 : Int) ≤ (k : Int) := by omega
      have y := H.out.2 k hk
      have hi1 : wrap64 ((k : Int) + 1) = ((k + 1 : Nat) : Int) := by have := H.out.1; unfold wrap64; omega
      go_wp2
      go_roundg gg
      case measure => omega
      case rel => exact ⟨k + 1, by first | rfl | (rw [hi1]), by have := I.out; unfold Aside; omega, rfl⟩
end Go.Proofs.YtlcjknkocbdpoaaDoor
