/- A hasher is cloned; a list of one's own is appended to while another one is. -/
import Derived.Test.YtihdhaamphdljaaDoorHashPiecesState
namespace Go.Proofs.YtihdhaamphdljaaDoor
open Go.RowKit
set_option maxRecDepth 100000

theorem clone_ok (g : Nat) (d : Int) (l : List Nat) (w : World) (hH : HASHER w g d l) : Calls Tryd.prog 13 #[.pointer (some ⟨g, 0, none⟩)] w fun e w' => ∃ g', e = .returned (.pointer (some ⟨g', 0, none⟩)) ∧ w.heap.size ≤ g' ∧ HASHER w' g' d l ∧ Below w.heap.size w w' := by
  have hz98 := zero_hasher
  obtain ⟨b, hHas, hb8, hbl⟩ := hH
  have H : Aside (Has w g (HARR d (STATE d l (l.length / 64)) b l.length) 50 ∧ (∀ i, b i < 256) ∧ ∀ i, i < l.length % 64 → b i = l.getD (64 * (l.length / 64) + i) 0) := ⟨hHas, hb8, hbl⟩
  clear hHas hb8 hbl
  go_enter Tryd.func13, Tryd.ntmps13
  go_wp2_with (first
    | (refine wpList_load_row rfl 50 _ rfl _ rfl 50 (HARR d (STATE d l (l.length / 64)) b l.length) (0, 0) _ H.out.1 Tryd.underlying50 rfl (info_HASHER _ _ _ _) ?_)
    | (refine wpList_store_row rfl 50 _ _ rfl _ _ rfl rfl 50 (HARR 0 (fun _ => 0) (fun _ => 0) 0) (Has.at _ _ _ (by simp)) (info_HASHER _ _ _ _) (by rw [HARR_size, HARR_size]) (HARR_one _ _ _ _) ?_; rw [World.setRow_alloc_new]))
  go_ret
  exact ⟨w.heap.size, rfl, Nat.le_refl _, ⟨b, Has.new _ _ _, H.out.2⟩, (Below.refl _ _).alloc (Nat.le_refl _) _⟩
/-- a list of one's own ahead of an append: with the element in a block of its own, and behind it. -/
def ST1 (H : Nat) (w : World) (B : Nat) (e : TypeId) (v : Value) (n : Nat) (xs : List Value) (b : Nat) (u : Value) : Prop := w.ownsRow B e 1 v n xs ∧ w.cell? ⟨b, 0, none⟩ = some u ∧ H ≤ b ∧ b < w.heap.size
def ST2 (H : Nat) (w : World) (B : Nat) (e : TypeId) (v : Value) (n : Nat) (xs : List Value) (g c : Nat) (u : Value) : Prop := w.ownsRow B e 1 (.slice (some ⟨g, 0, none⟩) (n + 1) c) (n + 1) (xs ++ [u]) ∧ (v.ownBlock = some g ∨ H ≤ g)
/-- all but the two lists is as it was. -/
def KP (W w : World) (v v' : Value) : Prop := W.heap.size ≤ w.heap.size ∧ (∀ b, b < W.heap.size → v.ownBlock ≠ some b → v'.ownBlock ≠ some b → w.heap[b]? = W.heap[b]?) ∧ w.os = W.os ∧ w.tape = W.tape ∧ w.output = W.output
theorem own_alloc {w : World} {B : Nat} {e : TypeId} {v : Value} {n : Nat} {xs : List Value} (h : w.ownsRow B e 1 v n xs) (o : Obj) : (w.alloc o).ownsRow B e 1 v n xs := own_keep h ((Below.refl _ _).alloc (Nat.le_refl _) o)
theorem ST1.alloc {H : Nat} {w : World} {B : Nat} {e : TypeId} {v : Value} {n : Nat} {xs : List Value} {b : Nat} {u : Value} (h : ST1 H w B e v n xs b u) (o : Obj) : ST1 H (w.alloc o) B e v n xs b u :=
  ⟨own_alloc h.1 o, (((Below.refl _ _).alloc (Nat.le_refl _) o).cell (p := ⟨b, 0, none⟩) h.2.2.2).trans h.2.1, h.2.2.1, by simp; have := h.2.2.2; omega⟩
theorem ST2.alloc {H : Nat} {w : World} {B : Nat} {e : TypeId} {v : Value} {n : Nat} {xs : List Value} {g c : Nat} {u : Value} (h : ST2 H w B e v n xs g c u) (o : Obj) : ST2 H (w.alloc o) B e v n xs g c u := ⟨own_alloc h.1 o, h.2⟩
theorem KP.alloc {W w : World} {v v' : Value} (h : KP W w v v') (o : Obj) : KP W (w.alloc o) v v' :=
  ⟨by simp; have := h.1; omega, fun b hb h1 h2 => (((Below.refl _ _).alloc (Nat.le_refl _) o).block b (Nat.lt_of_lt_of_le hb h.1)).trans (h.2.1 b hb h1 h2), h.2.2⟩
theorem ST1.new {H : Nat} {w : World} {B : Nat} {e : TypeId} {v : Value} {n : Nat} {xs : List Value} (h : w.ownsRow B e 1 v n xs) (hH : H ≤ w.heap.size) (u : Value) (t : TypeId) : ST1 H (w.alloc (.cells #[u] t)) B e v n xs w.heap.size u :=
  ⟨own_alloc h _, (Has.new w #[u] t).cell 0, hH, by simp⟩
/-- the other list is appended to: v' is that list, its block is not this one's. -/
theorem own_other {w w' : World} {B : Nat} {e : TypeId} {v v' : Value} {n : Nat} {xs : List Value} (h : w.ownsRow B e 1 v n xs) (hg : w.grownBy w' v'.ownBlock) (hne : ∀ k, v.ownBlock = some k → v'.ownBlock ≠ some k) : w'.ownsRow B e 1 v n xs :=
  own_turn h fun b e1 => hg.block b (h.lt b e1).2 fun e2 => hne b e1 e2.symm
theorem ST1.other {H : Nat} {w w' : World} {B : Nat} {e : TypeId} {v v' : Value} {n : Nat} {xs : List Value} {b : Nat} {u : Value} (h : ST1 H w B e v n xs b u) (hg : w.grownBy w' v'.ownBlock) (hne : ∀ k, v.ownBlock = some k → v'.ownBlock ≠ some k) (hv : ∀ k, v'.ownBlock = some k → k < H) : ST1 H w' B e v n xs b u :=
  ⟨own_other h.1 hg hne, hg.cell h.2.1 (fun e2 => by have := hv b e2.symm; have := h.2.2.1; omega), h.2.2.1, Nat.lt_of_lt_of_le h.2.2.2 hg.size⟩
theorem ST2.other {H : Nat} {w w' : World} {B : Nat} {e : TypeId} {v v' : Value} {n : Nat} {xs : List Value} {g c : Nat} {u : Value} (h : ST2 H w B e v n xs g c u) (hg : w.grownBy w' v'.ownBlock) (hne : ∀ k, v.ownBlock = some k → v'.ownBlock ≠ some k) (hv : ∀ k, v'.ownBlock = some k → k < H) : ST2 H w' B e v n xs g c u := by
  refine ⟨own_other h.1 hg fun k hk e2 => ?_, h.2⟩
  have hk2 : g = k := by simpa [Value.ownBlock] using hk
  subst hk2
  rcases h.2 with h3 | h3
  · exact hne _ h3 e2
  · have := hv _ e2
    omega
theorem KP.grown {W w w' : World} {v v' x : Value} (h : KP W w v v') (hg : w.grownBy w' x.ownBlock) (hx : x = v ∨ x = v') : KP W w' v v' :=
  ⟨Nat.le_trans h.1 hg.size, fun b hb h1 h2 => (hg.block b (Nat.lt_of_lt_of_le hb h.1) (fun e => by rcases hx with rfl | rfl; exact h1 e.symm; exact h2 e.symm)).trans (h.2.1 b hb h1 h2), hg.os.trans h.2.2.1, hg.tape.trans h.2.2.2.1, hg.output.trans h.2.2.2.2⟩
end Go.Proofs.YtihdhaamphdljaaDoor
