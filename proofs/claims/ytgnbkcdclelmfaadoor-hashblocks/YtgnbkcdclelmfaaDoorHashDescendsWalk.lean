/- The law HashDescends returns true. -/
import Derived.Test.YtgnbkcdclelmfaaDoorHashRefDescend
import Derived.Test.YtgnbkcdclelmfaaDoorHashAwake
import Derived.Test.YtgnbkcdclelmfaaDoorHashGiven
namespace Go.Proofs.YtgnbkcdclelmfaaDoor
open Go.RowKit
set_option maxRecDepth 100000

theorem mark_text (g n c' B : Nat) (l : List Nat) (hl : l.length = n) (hn : n < 2 ^ 40) (hc : n + 1 ≤ c') (w : World) (hr : w.ownsRow B 5 1 (.slice (some ⟨g, 0, none⟩) (n + 1) c') (n + 1) (BY (l ++ [171]))) : Calls Tryd.prog 10 #[.slice (some ⟨g, 0, none⟩) n c'] w fun e w' => e = .returned (.bool true) ∧ w = w' := by
  have x0 : w.cell? ⟨g, n, none⟩ = some (.int .u8 171) := by
    rw [hr.cellAt n (by omega), BY_get _ _ (by rw [List.length_append]; simp; omega), List.getD_eq_getElem?_getD, List.getElem?_append_right (by omega), hl]
    simp
  have e1 : wrap64 ((n : Int) + 1) = ((n + 1 : Nat) : Int) := by unfold wrap64; omega
  have hsl := slice_front (some ⟨g, 0, none⟩) n c' (n + 1) hc
  have h1 : (n : Int) < ((n + 1 : Nat) : Int) := by omega
  obtain ⟨m, hm⟩ : ∃ m, n + 1 = m := ⟨_, rfl⟩
  rw [hm] at e1 hsl h1
  clear hm hc hn hr hl
  go_enter Tryd.func10, Tryd.ntmps10
  go_wp2
  go_ret
  exact ⟨rfl, rfl⟩
theorem row_text {w : World} {B g n c' : Nat} {l : List Nat} (hl : l.length = n) (hs : Small8 l) (hr : w.ownsRow B 5 1 (.slice (some ⟨g, 0, none⟩) (n + 1) c') (n + 1) (BY (l ++ [171]))) : Text w (some ⟨g, 0, none⟩) n l ∧ n + 1 ≤ c' ∧ g < w.heap.size := by
  refine ⟨⟨hl, fun _ => ⟨g, 0, rfl, (hr.lt g rfl).2, fun i hi => ?_⟩, hs⟩, ?_, (hr.lt g rfl).2⟩
  · rw [Nat.zero_add, hr.cellAt i (by omega), BY_get _ _ (by rw [List.length_append]; simp; omega), List.getD_eq_getElem?_getD, List.getElem?_append_left (by omega), ← List.getD_eq_getElem?_getD]
  · rcases hr.2 with ⟨h, _⟩ | ⟨g2, cap, cur, h, _, _, h2, _⟩
    · cases h
    · cases h; exact h2
theorem load_guard {ops : Array Oper} {rest : List Oper} {o : Oper} {a : Act} {w : World} {Q : Exit → Act → World → Prop} (hw : Region.wanted o (yielded ops a.tmps) = true) (ty : TypeId) (x : Operand) (ho : o.op = .load ty x)
    (b k : Nat) (hx : a.eval x = .pointer (some ⟨b, k, none⟩)) (m : Nat) (f : Nat → Nat) (d : TypeDesc) (hc : w.rangeAt b k (ULIST .u8 m f)) (hu : Tryd.prog.underlying ty = some d) (hd : d.isRow = true) (hi : (Tryd.prog.info? ty).map (·.size) = some m)
    (h : wpList Tryd.prog ops Q rest (a.put o.dst (.agg (UARR .u8 m f))) w) : wpList Tryd.prog ops Q (o :: rest) a w :=
  wpList_step fun K hK => by
    rw [if_pos hw]
    exact wp_load_mid ty x ho b k hx (ULIST .u8 m f) d hc hu hd (by rw [ULIST_length]; exact hi) (hK _ _ h)
theorem descends_long (d : Int) (a : Option Addr) (n c : Nat) (b : Option Addr) (m c' : Nat) (h : (3000 : Int) < (n : Int) ∨ (3000 : Int) < (m : Int)) (w : World) : Calls Tryd.prog 4 #[.int .i64 d, .slice a n c, .slice b m c'] w fun e w' => e = .returned (.bool true) ∧ Below w.heap.size w w' := by
  by_cases h1 : (3000 : Int) < (n : Int)
  · clear h
    go_enter Tryd.func4, Tryd.ntmps4
    go_wp2
    go_ret
    exact ⟨rfl, Below.refl _ _⟩
  · have h2 := h.resolve_left h1
    clear h
    go_enter Tryd.func4, Tryd.ntmps4
    go_wp2
    go_ret
    exact ⟨rfl, Below.refl _ _⟩
set_option maxHeartbeats 4000000 in
theorem hashDescends_walk (d : Int) (a : Option Addr) (n c : Nat) (l : List Nat) (b : Option Addr) (m c' : Nat) (k : List Nat) (w : World) (h1 : Text w a n l) (h1c : a = none → c = 0) (h2 : Text w b m k) (h2c : b = none → c' = 0) (hT : Tabled w) : Calls Tryd.prog 4 #[.int .i64 d, .slice a n c, .slice b m c'] w fun e w' => e = .returned (.bool true) ∧ Below w.heap.size w w' := by
  by_cases hn : (3000 : Int) < (n : Int)
  · exact descends_long d a n c b m c' (.inl hn) w
  by_cases hm : (3000 : Int) < (m : Int)
  · exact descends_long d a n c b m c' (.inr hm) w
  have H : Aside (Text w a n l ∧ (a = none → c = 0) ∧ Text w b m k ∧ (b = none → c' = 0) ∧ Tabled w ∧ n ≤ 3000 ∧ m ≤ 3000) := ⟨h1, h1c, h2, h2c, hT, by omega, by omega⟩
  clear h1 h1c h2 h2c hT
  have cr1 := row_own a n c l w H.out.1 H.out.2.1 (by have := H.out; omega)
  have hz := zero192
  go_enter Tryd.func4, Tryd.ntmps4
  go_wp2_with fail
  refine cr1.mono ?_
  rintro e w1 ⟨g1, c1, rfl, ho1, hb1⟩
  clear cr1
  have cr2 := row_own b m c' k w1 (H.out.2.2.1.below hb1) H.out.2.2.2.1 (by have := H.out; omega)
  go_wp2_with fail
  refine cr2.mono ?_
  rintro e w2 ⟨g2, c2, rfl, ho2, hb2⟩
  clear cr2 hn hm
  have hb2' : Below w.heap.size w w2 := hb1.trans (hb2.mono hb1.size)
  have ho1' := own_keep ho1 hb2
  obtain ⟨t1, tc1, tg1⟩ := row_text H.out.1.1 H.out.1.2.2 ho1'
  obtain ⟨t2, tc2, tg2⟩ := row_text H.out.2.2.1.1 H.out.2.2.1.2.2 ho2
  have cd := descend_ok d (some ⟨g1, 0, none⟩) n c1 l (some ⟨g2, 0, none⟩) m c2 k w2 t1 (fun h => by cases h) (by omega) (fun x hx => by cases hx; exact tg1) t2 (fun h => by cases h) (by omega) (fun x hx => by cases hx; exact tg2) (by have := H.out; omega) (by have := H.out; omega) (H.out.2.2.2.2.1.below hb2')
  have R : Aside (w2.ownsRow w.heap.size 5 1 (.slice (some ⟨g1, 0, none⟩) (n + 1) c1) (n + 1) (BY (l ++ [171])) ∧ w2.ownsRow w1.heap.size 5 1 (.slice (some ⟨g2, 0, none⟩) (m + 1) c2) (m + 1) (BY (k ++ [171])) ∧ Below w.heap.size w w2 ∧ n + 1 ≤ c1 ∧ m + 1 ≤ c2) := ⟨ho1', ho2, hb2', tc1, tc2⟩
  clear ho1 ho1' ho2 hb1 hb2 hb2' t1 t2 tc1 tc2 tg1 tg2
  generalize hF : ANSN d l k (DESC d l k) = F at *
  generalize hO : (DESC d l k).isSome = O at *
  have HFO : Aside (ANSN d l k (DESC d l k) = F ∧ (DESC d l k).isSome = O) := ⟨hF, hO⟩
  clear hF hO
  go_wp2_with fail
  refine cd.mono ?_
  rintro e w3 ⟨rfl, hb3⟩
  clear cd
  have hst := run_storeCells_new (P := Tryd.prog) w3 45 (UARR .u8 192 fun _ => 0) (UARR .u8 192 F) (info_step _) (by rw [UARR_size, UARR_size]) (UARR_one _ _ _)
  have hsu := UARR_size .u8 192 F
  obtain ⟨w4, hw4⟩ : ∃ w4, w3.alloc (.cells (UARR .u8 192 F) 45) = w4 := ⟨_, rfl⟩
  have hb4 : Below w2.heap.size w2 w4 := by rw [← hw4]; exact hb3.alloc hb3.size _
  have hX : Has w4 w3.heap.size (UARR .u8 192 F) 45 := by rw [← hw4]; exact Has.new w3 _ _
  have hb4' : Below w.heap.size w w4 := R.out.2.2.1.trans (hb4.mono R.out.2.2.1.size)
  have cd := refdescend_ok d a n c l b m c' k w4 (H.out.1.below hb4') H.out.2.1 (H.out.2.2.1.below hb4') H.out.2.2.2.1 (by have := H.out; omega) (by have := H.out; omega)
  rw [HFO.out.1, HFO.out.2] at cd
  go_wp2_with fail
  refine cd.mono ?_
  rintro e w5 ⟨rfl, hb5⟩
  clear cd hst hw4 hb3
  have hst := run_storeCells_new (P := Tryd.prog) w5 45 (UARR .u8 192 fun _ => 0) (UARR .u8 192 F) (info_step _) (by rw [UARR_size, UARR_size]) (UARR_one _ _ _)
  obtain ⟨w6, hw6⟩ : ∃ w6, w5.alloc (.cells (UARR .u8 192 F) 45) = w6 := ⟨_, rfl⟩
  have hb6 : Below w4.heap.size w4 w6 := by rw [← hw6]; exact hb5.alloc hb5.size _
  have hY : Has w6 w5.heap.size (UARR .u8 192 F) 45 := by rw [← hw6]; exact Has.new w5 _ _
  have hX6 := hX.keep hb6
  have hb6' : Below w2.heap.size w2 w6 := hb4.trans (hb6.mono hb4.size)
  have hb6'' : Below w.heap.size w w6 := R.out.2.2.1.trans (hb6'.mono R.out.2.2.1.size)
  have r1 := own_keep R.out.1 hb6'
  have r2 := own_keep R.out.2.1 hb6'
  obtain ⟨t1, -, -⟩ := row_text H.out.1.1 H.out.1.2.2 r1
  have a1 := H.out.1.below hb6''
  have cs1 := same_ok (some ⟨g1, 0, none⟩) a n n c1 c l l w6 t1 a1 (by have := H.out; omega)
  have hT6 := H.out.2.2.2.2.1.below hb6''
  have q1 := hX6.whole
  have q2 := hY.whole
  have hq := equal_step F F
  have hqq : ((List.range 192).all fun i => F i == F i) = true := by simp
  rw [hqq] at hq
  rw [decide_eq_true rfl] at cs1
  have S : Aside (w6.ownsRow w.heap.size 5 1 (.slice (some ⟨g1, 0, none⟩) (n + 1) c1) (n + 1) (BY (l ++ [171])) ∧ w6.ownsRow w1.heap.size 5 1 (.slice (some ⟨g2, 0, none⟩) (m + 1) c2) (m + 1) (BY (k ++ [171])) ∧ Below w.heap.size w w6 ∧ Tabled w6) := ⟨r1, r2, hb6'', hT6⟩
  clear r1 r2 t1 a1 hT6 hqq hX hY hX6 hb4 hb4' hb5 hb6 hb6' hb6''
  go_wp2_with (first
    | (refine load_guard rfl 45 (.tmp 9) rfl w3.heap.size 0 rfl 192 F _ q1 Tryd.underlying45 rfl (by kernel_rfl) ?_)
    | (refine load_guard rfl 45 (.tmp 11) rfl w5.heap.size 0 rfl 192 F _ q2 Tryd.underlying45 rfl (by kernel_rfl) ?_))
  refine cs1.mono ?_
  rintro e w7 ⟨rfl, hb7, -⟩
  clear cs1 q1 q2 hq hst
  have cm1 := mark_text g1 n c1 w.heap.size l H.out.1.1 (by have := H.out; omega) R.out.2.2.2.1 w7 (own_keep S.out.1 hb7)
  go_wp2_with fail
  refine cm1.mono ?_
  rintro e w8 ⟨rfl, rfl⟩
  clear cm1
  have r2 := own_keep S.out.2.1 hb7
  obtain ⟨t2, -, -⟩ := row_text H.out.2.2.1.1 H.out.2.2.1.2.2 r2
  have hbw7 : Below w.heap.size w w7 := S.out.2.2.1.trans (hb7.mono S.out.2.2.1.size)
  have cs2 := same_ok (some ⟨g2, 0, none⟩) b m m c2 c' k k w7 t2 (H.out.2.2.1.below hbw7) (by have := H.out; omega)
  rw [decide_eq_true rfl] at cs2
  go_wp2_with fail
  refine cs2.mono ?_
  rintro e w9 ⟨rfl, hb9, -⟩
  clear cs2
  have cm2 := mark_text g2 m c2 w1.heap.size k H.out.2.2.1.1 (by have := H.out; omega) R.out.2.2.2.2 w9 (own_keep r2 hb9)
  go_wp2_with fail
  refine cm2.mono ?_
  rintro e w10 ⟨rfl, rfl⟩
  clear cm2
  have hbw9 : Below w.heap.size w w9 := hbw7.trans (hb9.mono hbw7.size)
  have ca := awake_ok w9 (H.out.2.2.2.2.1.below hbw9)
  go_wp2_with fail
  refine ca.mono ?_
  rintro e w11 ⟨rfl, hb11⟩
  clear ca
  go_wp2
  go_ret
  exact ⟨rfl, hbw9.trans (hb11.mono hbw9.size)⟩
end Go.Proofs.YtgnbkcdclelmfaaDoor
