/- clash.Holds and the document's answer to it. -/
import Derived.Test.YtihdhaamphdljaaDoorClashHoldsRegion
import Derived.Test.YtihdhaamphdljaaDoorHashStepEq
import Derived.Test.YtihdhaamphdljaaDoorHashEq
import Derived.Deep.Cut
namespace Go.Proofs.YtihdhaamphdljaaDoor
open Go.RowKit
set_option maxRecDepth 100000

/-- two unlike texts with one hash. -/
def HOLDS (d : Int) (l k : List Nat) : Bool := !decide (l = k) && (List.range 32).all fun i => HASHOF d l i == HASHOF d k i
theorem kept9 {w w' : World} (hb : Below w.heap.size w w') : ∀ (j : Nat) C t, Has w j C t → Has w' j C t := fun _ _ _ h => h.keep hb
theorem HOLDS_eq (d : Int) (l : List Nat) : HOLDS d l l = false := by simp [HOLDS]
theorem HOLDS_ne (d : Int) {l k : List Nat} (h : l ≠ k) : HOLDS d l k = (List.range 32).all fun i => HASHOF d l i == HASHOF d k i := by simp [HOLDS, h]
theorem holds9_ok (d : Int) (a : Option Addr) (n c : Nat) (l : List Nat) (b : Option Addr) (m c' : Nat) (k : List Nat) (w : World) (h1 : Text w a n l) (hc1 : n ≤ c) (hx1 : ∀ x, a = some x → x.block < w.heap.size) (hn : n < 2 ^ 60) (h2 : Text w b m k) (hc2 : m ≤ c') (hx2 : ∀ x, b = some x → x.block < w.heap.size) (hm : m < 2 ^ 60) (hT : Tabled w) : Calls Tryd.prog 16 #[.int .i64 d, .agg #[.slice a n c, .slice b m c']] w fun e w' => e = .returned (.bool (HOLDS d l k)) ∧ Below w.heap.size w w' := by
  have hb0 : Below w.heap.size w (w.alloc (.cells #[.slice a n c, .slice b m c'] 45)) := (Below.refl _ _).alloc (Nat.le_refl _) _
  have hbox : Has (w.alloc (.cells #[.slice a n c, .slice b m c'] 45)) w.heap.size #[.slice a n c, .slice b m c'] 45 := Has.new w _ _
  have H : Aside (Text w a n l ∧ n ≤ c ∧ (∀ x, a = some x → x.block < w.heap.size) ∧ n < 2 ^ 60 ∧ Text w b m k ∧ m ≤ c' ∧ (∀ x, b = some x → x.block < w.heap.size) ∧ m < 2 ^ 60 ∧ Tabled w) := ⟨h1, hc1, hx1, hn, h2, hc2, hx2, hm, hT⟩
  clear h1 hc1 hx1 hn h2 hc2 hx2 hm hT
  have HR : Aside ((l = k → HOLDS d l k = false) ∧ (l ≠ k → HOLDS d l k = (List.range 32).all fun i => HASHOF d l i == HASHOF d k i)) := ⟨fun h => by subst h; exact HOLDS_eq d l, fun h => HOLDS_ne d h⟩
  generalize HOLDS d l k = hr at *
  go_enter Tryd.func16, Tryd.ntmps16
  go_upto_region 1 with fail
  generalize hw1 : w.alloc (.cells #[.slice a n c, .slice b m c'] 45) = w1 at *
  have hs : ∀ W, Below w1.heap.size w1 W → W.cell? ⟨w.heap.size, 0, none⟩ = some (.slice a n c) ∧ W.cell? ⟨w.heap.size, 1, none⟩ = some (.slice b m c') := fun W hb => by
    have h := hbox.keep hb
    exact ⟨(h.cell 0).trans rfl, (h.cell 1).trans rfl⟩
  have hbw : ∀ W, Below w1.heap.size w1 W → Below w.heap.size w W := fun W hb => hb0.trans (hb.mono hb0.size)
  by_cases e : l = k
  · have hr0 := HR.out.1 e
    subst e
    refine HA_off _ _ _ _ _ _ _ _ _ _ _ _ _ _ _ _ _ _ _ _ _ w1 d w.heap.size a n c b m c' (fun W => Below w1.heap.size w1 W) hs (Below.refl _ _).drew (fun W hW => ?_) (fun _ _ _ _ _ h => h) ?_
    · refine (bytesequal_ok a n c l b m c' l W (H.out.1.below (hbw W hW)) (H.out.2.2.2.2.1.below (hbw W hW))).mono ?_
      rintro e w' ⟨rfl, rfl⟩
      exact ⟨by rw [decide_eq_true rfl], hW⟩
    · intro W hW
      have R := hbw W hW
      clear hW hs hbw hbox hb0 hw1
      go_wp2
      go_ret
      exact ⟨by first | rfl | (subst hr0; rfl) | (rw [hr0]; rfl), R⟩
  · have hr0 := HR.out.2 e
    clear HR
    refine HA_on _ _ _ _ _ _ _ _ _ _ _ _ _ _ _ _ _ _ _ _ _ w1 d w.heap.size a n c b m c' (fun W => Below w1.heap.size w1 W) hs (Below.refl _ _).drew (HASHOF d l) (HASHOF d k) ((List.range 32).all fun i => HASHOF d l i == HASHOF d k i) (fun W o hW => hW.alloc hW.size _) (fun W => equal_hash _ _ W) (fun W hW => ?_) (fun W g hW hg => ?_) (fun W g hW hg => ?_) (fun _ _ _ _ _ h => h) ?_
    · refine (bytesequal_ok a n c l b m c' k W (H.out.1.below (hbw W hW)) (H.out.2.2.2.2.1.below (hbw W hW))).mono ?_
      rintro e' w' ⟨rfl, rfl⟩
      exact ⟨by rw [decide_eq_false e], hW⟩
    · have hb := hbw W hW
      refine (sum9 d W g a n c l hg (H.out.1.below hb) H.out.2.1 (fun x hx => Nat.lt_of_lt_of_le (H.out.2.2.1 x hx) hb.size) H.out.2.2.2.1 (H.out.2.2.2.2.2.2.2.2.below hb)).mono ?_
      rintro e' w' ⟨rfl, hb'⟩
      exact ⟨rfl, hW.trans (hb'.mono hW.size), kept9 hb'⟩
    · have hb := hbw W hW
      refine (sum9 d W g b m c' k hg (H.out.2.2.2.2.1.below hb) H.out.2.2.2.2.2.1 (fun x hx => Nat.lt_of_lt_of_le (H.out.2.2.2.2.2.2.1 x hx) hb.size) H.out.2.2.2.2.2.2.2.1 (H.out.2.2.2.2.2.2.2.2.below hb)).mono ?_
      rintro e' w' ⟨rfl, hb'⟩
      exact ⟨rfl, hW.trans (hb'.mono hW.size), kept9 hb'⟩
    · intro g g2 W hW
      have R := hbw W hW
      clear hW hs hbw hbox hb0 hw1 e
      generalize ((List.range 32).all fun i => HASHOF d l i == HASHOF d k i) = r at *
      go_wp2
      go_ret
      exact ⟨by first | rfl | (subst hr0; rfl) | (rw [hr0]; rfl), R⟩
theorem lawholds9_ok (d : Int) (a : Option Addr) (n c : Nat) (l : List Nat) (b : Option Addr) (m c' : Nat) (k : List Nat) (w : World) (h1 : Text w a n l) (hc1 : a = none → c = 0) (hn : n < 2 ^ 30) (h2 : Text w b m k) (hc2 : b = none → c' = 0) (hm : m < 2 ^ 30) : Calls Tryd.prog 17 #[.int .i64 d, .agg #[.slice a n c, .slice b m c']] w fun e w' => e = .returned (.bool (HOLDS d l k)) ∧ Below w.heap.size w w' := by
  have hb0 : Below w.heap.size w (w.alloc (.cells #[.slice a n c, .slice b m c'] 45)) := (Below.refl _ _).alloc (Nat.le_refl _) _
  have hbox : Has (w.alloc (.cells #[.slice a n c, .slice b m c'] 45)) w.heap.size #[.slice a n c, .slice b m c'] 45 := Has.new w _ _
  have H : Aside (Text w a n l ∧ (a = none → c = 0) ∧ n < 2 ^ 30 ∧ Text w b m k ∧ (b = none → c' = 0) ∧ m < 2 ^ 30) := ⟨h1, hc1, hn, h2, hc2, hm⟩
  clear h1 hc1 hn h2 hc2 hm
  have HR : Aside ((l = k → HOLDS d l k = false) ∧ (l ≠ k → HOLDS d l k = (List.range 32).all fun i => HASHOF d l i == HASHOF d k i)) := ⟨fun h => by subst h; exact HOLDS_eq d l, fun h => HOLDS_ne d h⟩
  generalize HOLDS d l k = hr at *
  go_enter Tryd.func17, Tryd.ntmps17
  go_upto_region 1 with fail
  generalize hw1 : w.alloc (.cells #[.slice a n c, .slice b m c'] 45) = w1 at *
  have hs : ∀ W, Below w1.heap.size w1 W → W.cell? ⟨w.heap.size, 0, none⟩ = some (.slice a n c) ∧ W.cell? ⟨w.heap.size, 1, none⟩ = some (.slice b m c') := fun W hb => by
    have h := hbox.keep hb
    exact ⟨(h.cell 0).trans rfl, (h.cell 1).trans rfl⟩
  have hbw : ∀ W, Below w1.heap.size w1 W → Below w.heap.size w W := fun W hb => hb0.trans (hb.mono hb0.size)
  by_cases e : l = k
  · have hr0 := HR.out.1 e
    subst e
    refine HB_off _ _ _ _ _ _ _ _ _ _ _ _ _ _ _ _ _ _ _ _ _ w1 d w.heap.size a n c b m c' (fun W => Below w1.heap.size w1 W) hs (Below.refl _ _).drew (fun W hW => ?_) (fun _ _ _ _ _ h => h) ?_
    · refine (samebytes_ok a b n m c c' l l W (H.out.1.below (hbw W hW)) (H.out.2.2.2.1.below (hbw W hW)) (by have := H.out.2.2.1; omega)).mono ?_
      rintro e w' ⟨rfl, hb', -⟩
      exact ⟨by rw [decide_eq_true rfl], hW.trans (hb'.mono hW.size)⟩
    · intro W hW
      have R := hbw W hW
      clear hW hs hbw hbox hb0 hw1
      go_wp2
      go_ret
      exact ⟨by first | rfl | (subst hr0; rfl) | (rw [hr0]; rfl), R⟩
  · have hr0 := HR.out.2 e
    clear HR
    refine HB_on _ _ _ _ _ _ _ _ _ _ _ _ _ _ _ _ _ _ _ _ _ w1 d w.heap.size a n c b m c' (fun W => Below w1.heap.size w1 W) hs (Below.refl _ _).drew (HASHOF d l) (HASHOF d k) ((List.range 32).all fun i => HASHOF d l i == HASHOF d k i) (fun W o hW => hW.alloc hW.size _) (fun W => equal_hash _ _ W) (fun W hW => ?_) (fun W g hW hg => ?_) (fun W g hW hg => ?_) (fun _ _ _ _ _ h => h) ?_
    · refine (samebytes_ok a b n m c c' l k W (H.out.1.below (hbw W hW)) (H.out.2.2.2.1.below (hbw W hW)) (by have := H.out.2.2.1; omega)).mono ?_
      rintro e' w' ⟨rfl, hb', -⟩
      exact ⟨by rw [decide_eq_false e], hW.trans (hb'.mono hW.size)⟩
    · refine (refsum9 d W g a n c l hg (H.out.1.below (hbw W hW)) H.out.2.1 H.out.2.2.1).mono ?_
      rintro e' w' ⟨rfl, hb'⟩
      exact ⟨rfl, hW.trans (hb'.mono hW.size), kept9 hb'⟩
    · refine (refsum9 d W g b m c' k hg (H.out.2.2.2.1.below (hbw W hW)) H.out.2.2.2.2.1 H.out.2.2.2.2.2).mono ?_
      rintro e' w' ⟨rfl, hb'⟩
      exact ⟨rfl, hW.trans (hb'.mono hW.size), kept9 hb'⟩
    · intro g g2 W hW
      have R := hbw W hW
      clear hW hs hbw hbox hb0 hw1 e
      generalize ((List.range 32).all fun i => HASHOF d l i == HASHOF d k i) = r at *
      go_wp2
      go_ret
      exact ⟨by first | rfl | (subst hr0; rfl) | (rw [hr0]; rfl), R⟩
end Go.Proofs.YtihdhaamphdljaaDoor
