/- The law HashWidths returns true. -/
import Derived.Test.YtihdhaamphdljaaDoorHashRow
import Derived.Test.YtihdhaamphdljaaDoorHashEq
namespace Go.Proofs.YtihdhaamphdljaaDoor
open Go.RowKit

theorem NARROW_wid {a b : Int} (h : WID a = WID b) : NARROW a = NARROW b := by
  funext s i
  unfold NARROW
  rw [h]
theorem STATE_wid {a b : Int} (h : WID a = WID b) (l : List Nat) : ∀ k, STATE a l k = STATE b l k
  | 0 => by rw [STATE, STATE, FIRST, FIRST, NARROW_wid h]
  | k + 1 => by rw [STATE, STATE, STATE_wid h l k, COMP, COMP, NARROW_wid h]
theorem HASHOF_wid {a b : Int} (h : WID a = WID b) (l : List Nat) : HASHOF a l = HASHOF b l := by rw [HASHOF, HASHOF, STATE_wid h]
theorem STATE_cut (d : Int) (l : List Nat) (i : Nat) (h : WID d ≤ i) : ∀ k, STATE d l k i = 0
  | 0 => by rw [STATE, FIRST, NARROW, if_neg (by omega)]
  | k + 1 => by rw [STATE, COMP, NARROW, if_neg (by omega)]
theorem HASHOF_cut (d : Int) (l : List Nat) (i : Nat) (h : WID d ≤ i) : HASHOF d l i = 0 := by
  unfold HASHOF
  exact STATE_cut d _ i h _
/-- one slice in a list of slices. -/
theorem one_parts (w : World) (a : Option Addr) (n c : Nat) (l : List Nat) (hT : Text w a n l) (hc : n ≤ c) (hx : ∀ x, a = some x → x.block < w.heap.size) : Parts (w.alloc (.cells #[.slice a n c] 23)) (some ⟨w.heap.size, 0, none⟩) 1 [⟨a, n, c, l⟩] := by
  refine ⟨rfl, fun _ => ⟨w.heap.size, 0, rfl, by simp, fun i p hp => ?_⟩, fun p hp => ?_⟩
  · cases i with
    | zero =>
      simp only [List.getElem?_cons_zero, Option.some.injEq] at hp
      subst hp
      rw [(Has.new w #[.slice a n c] 23).cell]
      rfl
    | succ i => simp at hp
  · simp only [List.mem_singleton] at hp
    subst hp
    exact ⟨hT.below ((Below.refl _ _).alloc (Nat.le_refl _) _), hc, fun x h => by have := hx x h; simp; omega⟩
/-- the hash of one slice. -/
theorem sum_one (d : Int) (w : World) (a : Option Addr) (n c : Nat) (l : List Nat) (hT : Text w a n l) (hc : n ≤ c) (hx : ∀ x, a = some x → x.block < w.heap.size) (hn : n < 2 ^ 60) (h : Tabled w) : Calls Tryd.prog 26 #[.int .i64 d, .slice (some ⟨w.heap.size, 0, none⟩) 1 1] (w.alloc (.cells #[.slice a n c] 23)) fun e w' => e = .returned (.agg (UARR .u8 32 (HASHOF d l))) ∧ Below w.heap.size w w' := by
  have hb : Below w.heap.size w (w.alloc (.cells #[.slice a n c] 23)) := (Below.refl _ _).alloc (Nat.le_refl _) _
  have e : JOIN [⟨a, n, c, l⟩] = l := by simp [JOIN]
  have k := sum_ok d (some ⟨w.heap.size, 0, none⟩) 1 1 _ _ (one_parts w a n c l hT hc hx) (h.below hb) (by rw [e, hT.1]; exact hn) (by decide)
  rw [e] at k
  refine k.mono ?_
  rintro e w' ⟨he, hb'⟩
  exact ⟨he, hb.trans (hb'.mono hb.size)⟩
theorem Text.front {w : World} {a : Option Addr} {n : Nat} {l : List Nat} {x : Nat} (h : Text w a (n + 1) (l ++ [x])) : Text w a n l := by
  have hl : l.length = n := by have := h.1; simp at this; exact this
  refine ⟨hl, fun hn => ?_, fun y hy => h.2.2 y (List.mem_append_left _ hy)⟩
  obtain ⟨b, off, e, hlt, hc⟩ := h.2.1 (by omega)
  refine ⟨b, off, e, hlt, fun i hi => ?_⟩
  rw [hc i (by omega)]
  have e : (l ++ [x]).getD i 0 = l.getD i 0 := by rw [List.getD_eq_getElem?_getD, List.getD_eq_getElem?_getD, List.getElem?_append_left (by omega)]
  rw [e]
theorem tabled_at {w w' : World} (h : Tabled w) (hb : Below w.heap.size w w') : Tabled w' := h.below hb
end Go.Proofs.YtihdhaamphdljaaDoor
