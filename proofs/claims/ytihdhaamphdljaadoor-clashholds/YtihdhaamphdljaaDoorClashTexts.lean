/- A text of one's own with a mark behind it, and whether it is still as it was; the hash of a text that lies in a list of one. -/
import Derived.Test.YtihdhaamphdljaaDoorHashGiven
import Derived.Test.YtihdhaamphdljaaDoorHashSame
import Derived.Test.YtihdhaamphdljaaDoorHashWidthsWalk
import Derived.Test.YtihdhaamphdljaaDoorHashRefSum
namespace Go.Proofs.YtihdhaamphdljaaDoor
open Go.RowKit
set_option maxRecDepth 100000

theorem text9_own (a : Option Addr) (n c : Nat) (l : List Nat) (w : World) (hA : Text w a n l) (hc : a = none → c = 0) (hn : n < 2 ^ 40) : Calls Tryd.prog 15 #[.slice a n c] w fun e w' =>
    ∃ g c', e = .returned (.slice (some ⟨g, 0, none⟩) n c') ∧ w'.ownsRow w.heap.size 5 1 (.slice (some ⟨g, 0, none⟩) (n + 1) c') (n + 1) (BY (l ++ [171])) ∧ Below w.heap.size w w' := by
  have H : Aside (Text w a n l ∧ (a = none → c = 0) ∧ n < 2 ^ 40) := ⟨hA, hc, hn⟩
  clear hA hc hn
  go_enter Tryd.func15, Tryd.ntmps15
  have HE1 : Aside (Bytes (w.alloc (.cells #[] 5)) a n (INTS l)) := (H.out.1.below ((Below.refl _ _).alloc (Nat.le_refl _) _)).bytes
  have HE2 : Aside (∀ w4, (w.alloc (.cells #[] 5)).grownBy w4 (some w.heap.size) → Below w.heap.size w w4) := fun w4 h => ((Below.refl _ _).alloc (Nat.le_refl _) _).grown h (by simp) (fun k e => by cases e; exact Nat.le_refl _)
  have HM : Aside (∀ w4 : World, Bytes (w4.alloc (.cells #[.int .u8 171] 5)) (some ⟨w4.heap.size, 0, none⟩) 1 [171]) := fun w4 => row_bytes w4 1 (fun _ => 171) [171] rfl (fun i hi => by obtain rfl : i = 0 := (by omega); rfl) (fun x hx => by simp at hx; omega)
  go_wp2_with (first | (at_builtin; refine app_any _ rfl (.tmp 3) (.tmp 4) rfl w.heap.size _ 0 [] rfl (own_empty w _ (Nat.le_refl _)) a n c (INTS l) rfl HE1.out H.out.2.1 n (INTS l) (by omega) rfl (by have := H.out.2.2; omega) (by simp) ?_; intro a4 c4 w4 hown4 hgrow4) | (at_builtin; refine app_u8 _ rfl (.tmp 5) (.tmp 6) rfl w.heap.size (.slice a4 n c4) n (INTS l) rfl (hown4.alloc _) w4.heap.size 0 1 1 [171] rfl (HM.out w4) (by decide) (by have := H.out.2.2; omega) (by have := (HE2.out _ hgrow4).size; simp; omega) ?_; intro g5 cap5 w5 hown5 hgrow5 hg5; have hcap5 := (own_bytes_any (l := INTS (l ++ [171])) (by rw [INTS_append]; exact hown5) (INTS_bounds (small_snoc H.out.1.2.2))); have hsl := slice_front (some ⟨g5, 0, none⟩) (n + 1) cap5 n (by have := hcap5.2; omega)))
  have hb4 := HE2.out _ hgrow4
  have hb5 : Below w.heap.size w w5 := (hb4.alloc hb4.size _).grown hgrow5 (by have := hb4.size; simp; omega) (fun k e => (hown4.lt k e).1)
  go_ret
  refine ⟨_, _, rfl, ?_, hb5⟩
  rw [BY_append]
  rw [CELLS_append] at hown5
  exact hown5
/-- a text with the mark behind it, read as the text. -/
theorem text9_text {w : World} {B g n c' : Nat} {l : List Nat} (hl : l.length = n) (hs : Small8 l) (hr : w.ownsRow B 5 1 (.slice (some ⟨g, 0, none⟩) (n + 1) c') (n + 1) (BY (l ++ [171]))) : Text w (some ⟨g, 0, none⟩) n l ∧ n + 1 ≤ c' ∧ g < w.heap.size := by
  refine ⟨⟨hl, fun _ => ⟨g, 0, rfl, (hr.lt g rfl).2, fun i hi => ?_⟩, hs⟩, ?_, (hr.lt g rfl).2⟩
  · rw [Nat.zero_add, hr.cellAt i (by omega), BY_get _ _ (by rw [List.length_append]; simp; omega), List.getD_eq_getElem?_getD, List.getElem?_append_left (by omega), ← List.getD_eq_getElem?_getD]
  · rcases hr.2 with ⟨h, _⟩ | ⟨g2, cap, cur, h, _, _, h2, _⟩
    · cases h
    · cases h; exact h2
theorem still9_ok (g n c' B : Nat) (l : List Nat) (a : Option Addr) (ca : Nat) (w : World) (hA : Text w a n l) (hn : n < 2 ^ 40) (hr : w.ownsRow B 5 1 (.slice (some ⟨g, 0, none⟩) (n + 1) c') (n + 1) (BY (l ++ [171]))) : Calls Tryd.prog 18 #[.slice (some ⟨g, 0, none⟩) n c', .slice a n ca] w fun e w' => e = .returned (.bool true) ∧ Below w.heap.size w w' := by
  obtain ⟨ht, hc, hg⟩ := text9_text hA.1 hA.2.2 hr
  have x0 : ∀ w', Below w.heap.size w w' → w'.cell? ⟨g, n, none⟩ = some (.int .u8 171) := fun w' hb => by
    rw [hb.cell (by exact hg), hr.cellAt n (by omega), BY_get _ _ (by rw [List.length_append, hA.1]; simp), List.getD_eq_getElem?_getD, List.getElem?_append_right (by rw [hA.1]; exact Nat.le_refl _), hA.1]
    simp
  have cs := samebytes_ok (some ⟨g, 0, none⟩) a n n c' ca l l w ht hA hn
  have e1 : wrap64 ((n : Int) + 1) = ((n + 1 : Nat) : Int) := by unfold wrap64; omega
  have hsl := slice_front (some ⟨g, 0, none⟩) n c' (n + 1) hc
  have h1 : (n : Int) < ((n + 1 : Nat) : Int) := by omega
  have HX : Aside (∀ w', Below w.heap.size w w' → w'.cell? ⟨g, n, none⟩ = some (.int .u8 171)) := x0
  obtain ⟨m, hm⟩ : ∃ m, n + 1 = m := ⟨_, rfl⟩
  rw [hm] at e1 hsl h1
  rw [decide_eq_true rfl] at cs
  clear hm hc hn hr ht hA hg x0
  go_enter Tryd.func18, Tryd.ntmps18
  go_wp2_with fail
  refine cs.mono ?_
  rintro e w1 ⟨rfl, hb1, -⟩
  have x0 := HX.out _ hb1
  have R : Aside (Below w.heap.size w w1) := hb1
  clear hb1 HX cs
  go_wp2
  go_ret
  exact ⟨rfl, R.out⟩
/-- a list of one text. -/
theorem parts9 {W : World} {g : Nat} {a : Option Addr} {n c : Nat} {l : List Nat} (hg : Has W g #[.slice a n c] 23) (hT : Text W a n l) (hc : n ≤ c) (hx : ∀ x, a = some x → x.block < W.heap.size) : Parts W (some ⟨g, 0, none⟩) 1 [⟨a, n, c, l⟩] := by
  refine ⟨rfl, fun _ => ⟨g, 0, rfl, hg.lt, fun i p hp => ?_⟩, fun p hp => ?_⟩
  · cases i with
    | zero =>
      simp only [List.getElem?_cons_zero, Option.some.injEq] at hp
      subst hp
      rw [hg.cell]
      rfl
    | succ i => simp at hp
  · simp only [List.mem_singleton] at hp
    subst hp
    exact ⟨hT, hc, hx⟩
theorem sum9 (d : Int) (W : World) (g : Nat) (a : Option Addr) (n c : Nat) (l : List Nat) (hg : Has W g #[.slice a n c] 23) (hT : Text W a n l) (hc : n ≤ c) (hx : ∀ x, a = some x → x.block < W.heap.size) (hn : n < 2 ^ 60) (h : Tabled W) : Calls Tryd.prog 26 #[.int .i64 d, .slice (some ⟨g, 0, none⟩) 1 1] W fun e w' => e = .returned (.agg (UARR .u8 32 (HASHOF d l))) ∧ Below W.heap.size W w' := by
  have e : JOIN [⟨a, n, c, l⟩] = l := by simp [JOIN]
  have k := sum_ok d (some ⟨g, 0, none⟩) 1 1 _ _ (parts9 hg hT hc hx) h (by rw [e, hT.1]; exact hn) (by decide)
  rw [e] at k
  exact k
theorem refsum9 (d : Int) (W : World) (g : Nat) (a : Option Addr) (n c : Nat) (l : List Nat) (hg : Has W g #[.slice a n c] 23) (hT : Text W a n l) (hc : a = none → c = 0) (hn : n < 2 ^ 30) : Calls Tryd.prog 11 #[.int .i64 d, .slice (some ⟨g, 0, none⟩) 1 1] W fun e w' => e = .returned (.agg (UARR .u8 32 (HASHOF d l))) ∧ Below W.heap.size W w' := by
  have e : JOIN [⟨a, n, c, l⟩] = l := by simp [JOIN]
  have k := refsum_ok d (some ⟨g, 0, none⟩) 1 1 [⟨a, n, c, l⟩] W ⟨rfl, fun _ => ⟨g, 0, rfl, hg.lt, fun i p hp => by
    cases i with
    | zero =>
      simp only [List.getElem?_cons_zero, Option.some.injEq] at hp
      subst hp
      rw [hg.cell]
      rfl
    | succ i => simp at hp⟩, fun p hp => by simp only [List.mem_singleton] at hp; subst hp; exact hT⟩ (fun p hp => by simp only [List.mem_singleton] at hp; subst hp; exact hc) (by rw [e, hT.1]; exact hn) (by decide)
  rw [e] at k
  exact k
end Go.Proofs.YtihdhaamphdljaaDoor
