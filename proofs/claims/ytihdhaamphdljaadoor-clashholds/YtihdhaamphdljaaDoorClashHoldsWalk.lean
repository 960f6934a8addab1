/- The law ClashHolds returns true. -/
import Derived.Test.YtihdhaamphdljaaDoorClashAwake
namespace Go.Proofs.YtihdhaamphdljaaDoor
open Go.RowKit
set_option maxRecDepth 100000

theorem clashHolds_long (d : Int) (a : Option Addr) (n c : Nat) (b : Option Addr) (m c' : Nat) (h : (3000 : Int) < (n : Int) ∨ (3000 : Int) < (m : Int)) (w : World) : Calls Tryd.prog 4 #[.int .i64 d, .slice a n c, .slice b m c'] w fun e w' => e = .returned (.bool true) ∧ Below w.heap.size w w' := by
  by_cases h1 : (3000 : Int) < (n : Int)
  · clear h
    go_enter Tryd.func4, Tryd.ntmps4
    go_wp2
    go_ret
    exact ⟨rfl, Below.refl _ _⟩
  · have h2 := h.resolve_left h1
    clear h
    go_enter Tryd.func4, Tryd.ntmps4
    go_wp2
    go_ret
    exact ⟨rfl, Below.refl _ _⟩
set_option maxHeartbeats 4000000 in
theorem clashHolds_walk (d : Int) (a : Option Addr) (n c : Nat) (l : List Nat) (b : Option Addr) (m c' : Nat) (k : List Nat) (w : World) (h1 : Text w a n l) (h1c : a = none → c = 0) (h2 : Text w b m k) (h2c : b = none → c' = 0) (hT : Tabled w) : Calls Tryd.prog 4 #[.int .i64 d, .slice a n c, .slice b m c'] w fun e w' => e = .returned (.bool true) ∧ Below w.heap.size w w' := by
  by_cases hn : (3000 : Int) < (n : Int)
  · exact clashHolds_long d a n c b m c' (.inl hn) w
  by_cases hm : (3000 : Int) < (m : Int)
  · exact clashHolds_long d a n c b m c' (.inr hm) w
  have H : Aside (Text w a n l ∧ (a = none → c = 0) ∧ Text w b m k ∧ (b = none → c' = 0) ∧ Tabled w ∧ n ≤ 3000 ∧ m ≤ 3000) := ⟨h1, h1c, h2, h2c, hT, by omega, by omega⟩
  clear h1 h1c h2 h2c hT
  have cr1 := text9_own a n c l w H.out.1 H.out.2.1 (by have := H.out; omega)
  go_enter Tryd.func4, Tryd.ntmps4
  go_wp2_with fail
  refine cr1.mono ?_
  rintro e w1 ⟨g1, c1, rfl, ho1, hb1⟩
  clear cr1
  have cr2 := text9_own b m c' k w1 (H.out.2.2.1.below hb1) H.out.2.2.2.1 (by have := H.out; omega)
  go_wp2_with fail
  refine cr2.mono ?_
  rintro e w2 ⟨g2, c2, rfl, ho2, hb2⟩
  clear cr2 hn hm
  have hb2' : Below w.heap.size w w2 := hb1.trans (hb2.mono hb1.size)
  have R2 : Aside (Below w.heap.size w w2 ∧ w2.ownsRow w.heap.size 5 1 (.slice (some ⟨g1, 0, none⟩) (n + 1) c1) (n + 1) (BY (l ++ [171])) ∧ w2.ownsRow w1.heap.size 5 1 (.slice (some ⟨g2, 0, none⟩) (m + 1) c2) (m + 1) (BY (k ++ [171]))) := ⟨hb2', own_keep ho1 hb2, ho2⟩
  clear ho1 ho2 hb1 hb2 hb2'
  have step : ∀ {W W' : World}, (Below w.heap.size w W ∧ W.ownsRow w.heap.size 5 1 (.slice (some ⟨g1, 0, none⟩) (n + 1) c1) (n + 1) (BY (l ++ [171])) ∧ W.ownsRow w1.heap.size 5 1 (.slice (some ⟨g2, 0, none⟩) (m + 1) c2) (m + 1) (BY (k ++ [171]))) → Below W.heap.size W W' → (Below w.heap.size w W' ∧ W'.ownsRow w.heap.size 5 1 (.slice (some ⟨g1, 0, none⟩) (n + 1) c1) (n + 1) (BY (l ++ [171])) ∧ W'.ownsRow w1.heap.size 5 1 (.slice (some ⟨g2, 0, none⟩) (m + 1) c2) (m + 1) (BY (k ++ [171]))) := fun h hb => ⟨h.1.trans (hb.mono h.1.size), own_keep h.2.1 hb, own_keep h.2.2 hb⟩
  have ST : Aside (∀ {W W' : World}, (Below w.heap.size w W ∧ W.ownsRow w.heap.size 5 1 (.slice (some ⟨g1, 0, none⟩) (n + 1) c1) (n + 1) (BY (l ++ [171])) ∧ W.ownsRow w1.heap.size 5 1 (.slice (some ⟨g2, 0, none⟩) (m + 1) c2) (m + 1) (BY (k ++ [171]))) → Below W.heap.size W W' → (Below w.heap.size w W' ∧ W'.ownsRow w.heap.size 5 1 (.slice (some ⟨g1, 0, none⟩) (n + 1) c1) (n + 1) (BY (l ++ [171])) ∧ W'.ownsRow w1.heap.size 5 1 (.slice (some ⟨g2, 0, none⟩) (m + 1) c2) (m + 1) (BY (k ++ [171])))) := step
  clear step
  have ch := by
    obtain ⟨t1, tc1, tg1⟩ := text9_text H.out.1.1 H.out.1.2.2 R2.out.2.1
    obtain ⟨t2, tc2, tg2⟩ := text9_text H.out.2.2.1.1 H.out.2.2.1.2.2 R2.out.2.2
    exact holds9_ok d (some ⟨g1, 0, none⟩) n c1 l (some ⟨g2, 0, none⟩) m c2 k w2 t1 (by omega) (fun x hx => by cases hx; exact tg1) (by have := H.out; omega) t2 (by omega) (fun x hx => by cases hx; exact tg2) (by have := H.out; omega) (H.out.2.2.2.2.1.below R2.out.1)
  go_wp2_with fail
  refine ch.mono ?_
  rintro e w3 ⟨rfl, hb3⟩
  clear ch
  have R3 := ST.out R2.out hb3
  have R3 : Aside _ := R3
  clear hb3 R2
  have cl := lawholds9_ok d a n c l b m c' k w3 (H.out.1.below R3.out.1) H.out.2.1 (by have := H.out; omega) (H.out.2.2.1.below R3.out.1) H.out.2.2.2.1 (by have := H.out; omega)
  generalize HOLDS d l k = r at *
  go_wp2_with fail
  refine cl.mono ?_
  rintro e w4 ⟨rfl, hb4⟩
  clear cl
  have R4 := ST.out R3.out hb4
  have R4 : Aside _ := R4
  clear hb4 R3
  have cs := still9_ok g1 n c1 _ l a c w4 (H.out.1.below R4.out.1) (by have := H.out; omega) R4.out.2.1
  have hrr : decide (r = r) = true := by simp
  go_wp2_with fail
  refine cs.mono ?_
  rintro e w5 ⟨rfl, hb5⟩
  clear cs
  have R5 := ST.out R4.out hb5
  have R5 : Aside _ := R5
  clear hb5 R4
  have cs := still9_ok g2 m c2 _ k b c' w5 (H.out.2.2.1.below R5.out.1) (by have := H.out; omega) R5.out.2.2
  go_wp2_with fail
  refine cs.mono ?_
  rintro e w6 ⟨rfl, hb6⟩
  clear cs
  have R6 := ST.out R5.out hb6
  have R6 : Aside _ := R6
  clear hb6 R5
  have ca := awake9_ok w6 (H.out.2.2.2.2.1.below R6.out.1)
  go_wp2_with fail
  refine ca.mono ?_
  rintro e w7 ⟨rfl, hb7⟩
  clear ca
  have R7 : Aside (Below w.heap.size w w7) := R6.out.1.trans (hb7.mono R6.out.1.size)
  clear hb7 R6
  go_wp2
  go_ret
  exact ⟨rfl, R7.out⟩
end Go.Proofs.YtihdhaamphdljaaDoor
