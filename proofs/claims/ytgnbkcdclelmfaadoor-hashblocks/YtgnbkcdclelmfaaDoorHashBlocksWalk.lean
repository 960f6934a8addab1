/- The law HashBlocks returns true. -/
import Derived.Test.YtgnbkcdclelmfaaDoorHashDescendsWalk
import Derived.Test.YtgnbkcdclelmfaaDoorHashBlocksPlain
import Derived.Test.YtgnbkcdclelmfaaDoorHashBlocksRegion
namespace Go.Proofs.YtgnbkcdclelmfaaDoor
open Go.RowKit
set_option maxRecDepth 100000

theorem blocks_long (d : Int) (a : Option Addr) (n c : Nat) (b : Option Addr) (m c' : Nat) (h : (3000 : Int) < (n : Int) ∨ (3000 : Int) < (m : Int)) (w : World) : Calls Tryd.prog 5 #[.int .i64 d, .slice a n c, .slice b m c'] w fun e w' => e = .returned (.bool true) ∧ Below w.heap.size w w' := by
  by_cases h1 : (3000 : Int) < (n : Int)
  · clear h
    go_enter Tryd.func5, Tryd.ntmps5
    go_wp2
    go_ret
    exact ⟨rfl, Below.refl _ _⟩
  · have h2 := h.resolve_left h1
    clear h
    go_enter Tryd.func5, Tryd.ntmps5
    go_wp2
    go_ret
    exact ⟨rfl, Below.refl _ _⟩
set_option maxHeartbeats 4000000 in
theorem hashBlocks_walk (d : Int) (a : Option Addr) (n c : Nat) (l : List Nat) (b : Option Addr) (m c' : Nat) (k : List Nat) (w : World) (h1 : Text w a n l) (h1c : a = none → c = 0) (h2 : Text w b m k) (h2c : b = none → c' = 0) (hT : Tabled w) : Calls Tryd.prog 5 #[.int .i64 d, .slice a n c, .slice b m c'] w fun e w' => e = .returned (.bool true) ∧ Below w.heap.size w w' := by
  by_cases hn : (3000 : Int) < (n : Int)
  · exact blocks_long d a n c b m c' (.inl hn) w
  by_cases hm : (3000 : Int) < (m : Int)
  · exact blocks_long d a n c b m c' (.inr hm) w
  have H : Aside (Text w a n l ∧ (a = none → c = 0) ∧ Text w b m k ∧ (b = none → c' = 0) ∧ Tabled w ∧ n ≤ 3000 ∧ m ≤ 3000) := ⟨h1, h1c, h2, h2c, hT, by omega, by omega⟩
  clear h1 h1c h2 h2c hT
  have cr1 := row_own a n c l w H.out.1 H.out.2.1 (by have := H.out; omega)
  have hz := zero192
  have hbn := build_none
  have hds := desc_some (d := d) (l := l) (k := k) (by rw [H.out.1.1]; exact H.out.2.2.2.2.2.1) (by rw [H.out.2.2.1.1]; exact H.out.2.2.2.2.2.2)
  have HDS : Aside ((DESC d l k).isSome = (!decide (l = k) && ONEHASH d l k)) := hds
  clear hds
  go_enter Tryd.func5, Tryd.ntmps5
  go_wp2_with fail
  refine cr1.mono ?_
  rintro e w1 ⟨g1, c1, rfl, ho1, hb1⟩
  clear cr1
  have cr2 := row_own b m c' k w1 (H.out.2.2.1.below hb1) H.out.2.2.2.1 (by have := H.out; omega)
  go_wp2_with fail
  refine cr2.mono ?_
  rintro e w2 ⟨g2, c2, rfl, ho2, hb2⟩
  clear cr2 hn hm
  have hb2' : Below w.heap.size w w2 := hb1.trans (hb2.mono hb1.size)
  have ho1' := own_keep ho1 hb2
  obtain ⟨t1, tc1, tg1⟩ := row_text H.out.1.1 H.out.1.2.2 ho1'
  obtain ⟨t2, tc2, tg2⟩ := row_text H.out.2.2.1.1 H.out.2.2.1.2.2 ho2
  have cd := descend_ok d (some ⟨g1, 0, none⟩) n c1 l (some ⟨g2, 0, none⟩) m c2 k w2 t1 (fun h => by cases h) (by omega) (fun x hx => by cases hx; exact tg1) t2 (fun h => by cases h) (by omega) (fun x hx => by cases hx; exact tg2) (by have := H.out; omega) (by have := H.out; omega) (H.out.2.2.2.2.1.below hb2')
  clear ho1 ho1' ho2 hb1 hb2 t1 t2 tc1 tc2 tg1 tg2
  generalize hF : ANSN d l k (DESC d l k) = F at *
  generalize hO : (DESC d l k).isSome = O at *
  have HFO : Aside (ANSN d l k (DESC d l k) = F ∧ (DESC d l k).isSome = O) := ⟨hF, hO⟩
  clear hF hO
  go_wp2_with fail
  refine cd.mono ?_
  rintro e w3 ⟨rfl, hb3⟩
  clear cd
  have hst := run_storeCells_new (P := Tryd.prog) w3 45 (UARR .u8 192 fun _ => 0) (UARR .u8 192 F) (info_step _) (by rw [UARR_size, UARR_size]) (UARR_one _ _ _)
  have hsu := UARR_size .u8 192 F
  obtain ⟨w4, hw4⟩ : ∃ w4, w3.alloc (.cells (UARR .u8 192 F) 45) = w4 := ⟨_, rfl⟩
  have hb4 : Below w.heap.size w w4 := by rw [← hw4]; exact (hb2'.trans (hb3.mono hb2'.size)).alloc (Nat.le_trans hb2'.size hb3.size) _
  have hX : Has w4 w3.heap.size (UARR .u8 192 F) 45 := by rw [← hw4]; exact Has.new w3 _ _
  have cs := same_ok a b n m c c' l k w4 (H.out.1.below hb4) (H.out.2.2.1.below hb4) (by have := H.out; omega)
  go_wp2_with fail
  refine cs.mono ?_
  rintro e w5 ⟨rfl, hb5, -⟩
  clear cs hst hw4 hb3 hb2'
  have R : Aside (Below w.heap.size w w5 ∧ Has w5 w3.heap.size (UARR .u8 192 F) 45) := ⟨hb4.trans (hb5.mono hb4.size), hX.keep hb5⟩
  clear hb4 hX hb5
  -- where nothing is told
  have hno : ∀ W, Has W w3.heap.size (UARR .u8 192 F) 45 → Below w.heap.size w W → O = false → F = (fun _ => 0) := fun W _ _ h => by
    have e := HFO.out
    have hd : DESC d l k = none := by
      cases hD : DESC d l k with
      | none => rfl
      | some n => rw [hD] at e; rw [← e.2] at h; cases h
    rw [hd] at e
    exact e.1.symm
  by_cases hlk : l = k
  · have hO : O = false := by have := HDS.out; rw [decide_eq_true hlk] at this; exact this
    have hF := hno _ R.out.2 R.out.1 hO
    rw [decide_eq_true hlk]
    have q1 : w5.rangeAt w3.heap.size 0 (ULIST .u8 192 F) := R.out.2.whole
    have ca := awake_ok w5 (H.out.2.2.2.2.1.below R.out.1)
    have hq : ∀ w, (Op.equalIn 10000 45 (.agg (UARR .u8 192 F)) (.agg (UARR .u8 192 fun _ => 0))).run Tryd.prog w = .ok true w := fun w => by
      rw [equal_step, hF]
      simp
    clear hlk hno hF
    subst hO
    go_wp2_with (first
      | (refine load_guard rfl 45 (.tmp 7) rfl w3.heap.size 0 rfl 192 F _ q1 Tryd.underlying45 rfl (by kernel_rfl) ?_)
      | fail)
    refine ca.mono ?_
    rintro e w6 ⟨rfl, hb6⟩
    clear ca
    go_wp2
    go_ret
    exact ⟨rfl, R.out.1.trans (hb6.mono R.out.1.size)⟩
  · rw [decide_eq_false hlk]
    have hOo : O = ONEHASH d l k := by have := HDS.out; rw [decide_eq_false hlk] at this; exact this
    have HO : Aside (O = ONEHASH d l k ∧ l ≠ k) := ⟨hOo, hlk⟩
    clear hOo hlk
    have cr1 := row_own a n c l w5 (H.out.1.below R.out.1) H.out.2.1 (by have := H.out; omega)
    go_wp2_with fail
    refine cr1.mono ?_
    rintro e w6 ⟨g3, c3, rfl, ho3, hb6⟩
    clear cr1
    have hb6' : Below w.heap.size w w6 := R.out.1.trans (hb6.mono R.out.1.size)
    obtain ⟨t3, tc3, tg3⟩ := row_text H.out.1.1 H.out.1.2.2 ho3
    have cs1 := sum_one d w6 (some ⟨g3, 0, none⟩) n c3 l t3 (by omega) (fun x hx => by cases hx; exact tg3) (by have := H.out; omega) (H.out.2.2.2.2.1.below hb6')
    clear t3 tc3 tg3 ho3
    go_wp2_with fail
    refine cs1.mono ?_
    rintro e w7 ⟨rfl, hb7⟩
    clear cs1
    have hb7' : Below w.heap.size w w7 := hb6'.trans (hb7.mono hb6'.size)
    have cr2 := row_own b m c' k w7 (H.out.2.2.1.below hb7') H.out.2.2.2.1 (by have := H.out; omega)
    go_wp2_with fail
    refine cr2.mono ?_
    rintro e w8 ⟨g4, c4, rfl, ho4, hb8⟩
    clear cr2
    have hb8' : Below w.heap.size w w8 := hb7'.trans (hb8.mono hb7'.size)
    obtain ⟨t4, tc4, tg4⟩ := row_text H.out.2.2.1.1 H.out.2.2.1.2.2 ho4
    have cs2 := sum_one d w8 (some ⟨g4, 0, none⟩) m c4 k t4 (by omega) (fun x hx => by cases hx; exact tg4) (by have := H.out; omega) (H.out.2.2.2.2.1.below hb8')
    clear t4 tc4 tg4 ho4
    go_wp2_with fail
    refine cs2.mono ?_
    rintro e w9 ⟨rfl, hb9⟩
    clear cs2
    have hb9' : Below w.heap.size w w9 := hb8'.trans (hb9.mono hb8'.size)
    have hb59 : Below w5.heap.size w5 w9 := hb6.trans ((hb7.trans ((hb8.trans (hb9.mono hb8.size)).mono hb7.size)).mono hb6.size)
    have hX9 := R.out.2.keep hb59
    have S9 : Aside (Below w.heap.size w w9 ∧ Has w9 w3.heap.size (UARR .u8 192 F) 45) := ⟨hb9', hX9⟩
    clear hb6 hb6' hb7 hb7' hb8 hb8' hb9 hb9' hb59 hX9
    have hq0 := equal_hash (HASHOF d l) (HASHOF d k)
    have hqe : ((List.range 32).all fun i => HASHOF d l i == HASHOF d k i) = O := HO.out.1.symm
    rw [hqe] at hq0
    clear hqe
    have q1 : w9.rangeAt w3.heap.size 0 (ULIST .u8 192 F) := S9.out.2.whole
    cases O with
    | false =>
      have hF := hno _ S9.out.2 S9.out.1 rfl
      have hq : ∀ w, (Op.equalIn 10000 45 (.agg (UARR .u8 192 F)) (.agg (UARR .u8 192 fun _ => 0))).run Tryd.prog w = .ok true w := fun w => by
        rw [equal_step, hF]
        simp
      have ca := awake_ok w9 (H.out.2.2.2.2.1.below S9.out.1)
      clear hno hF
      generalize HASHOF d l = F1 at *
      generalize HASHOF d k = F2 at *
      go_wp2_with (first
        | (refine load_guard rfl 45 (.tmp 7) rfl w3.heap.size 0 rfl 192 F _ q1 Tryd.underlying45 rfl (by kernel_rfl) ?_)
        | fail)
      refine ca.mono ?_
      rintro e w10 ⟨rfl, hb10⟩
      clear ca
      go_wp2
      go_ret
      exact ⟨rfl, S9.out.1.trans (hb10.mono S9.out.1.size)⟩
    | true =>
      clear hno q1
      obtain ⟨N, hN⟩ : ∃ N, DESC d l k = some N := by
        have e := HFO.out.2
        cases hD : DESC d l k with
        | none => rw [hD] at e; cases e
        | some N => exact ⟨N, rfl⟩
      obtain ⟨hu, hone⟩ := one_outcome hN
      rw [UNL_parts] at hu
      have hF : F = STEPN (STATE d (FULL l) (NB l - N)) (STATE d (FULL k) (NB k - N)) (BLK (FULL l) (NB l - N)) (BLK (FULL k) (NB k - N)) := by
        have e := HFO.out.1
        rw [hN] at e
        exact e.symm
      have heq : ((List.range 32).all fun i => COMP d (STATE d (FULL l) (NB l - N)) (BLK (FULL l) (NB l - N)) i == COMP d (STATE d (FULL k) (NB k - N)) (BLK (FULL k) (NB k - N)) i) = true := all_true.2 fun i hi => by rw [hone i hi]; simp
      have b1 := STATE_lt d (FULL l) (NB l - N)
      have b2 := STATE_lt d (FULL k) (NB k - N)
      have b3 := BLK_lt (FULL_small H.out.1.2.2) (NB l - N)
      have b4 := BLK_lt (FULL_small H.out.2.2.1.2.2) (NB k - N)
      clear hN hone HDS HFO
      generalize HASHOF d l = F1 at *
      generalize HASHOF d k = F2 at *
      generalize STATE d (FULL l) (NB l - N) = S1 at *
      generalize STATE d (FULL k) (NB k - N) = S2 at *
      generalize BLK (FULL l) (NB l - N) = B1 at *
      generalize BLK (FULL k) (NB k - N) = B2 at *
      subst hF
      have HEQ : Aside (((List.range 32).all fun i => COMP d S1 B1 i == COMP d S2 B2 i) = true) := heq
      clear heq
      cases h32 : (List.range 32).all fun i => S1 i == S2 i
      · clear hu
        go_upto_region 9 with fail
        refine blocks9true _ _ _ _ _ _ _ _ _ _ _ _ _ _ _ _ _ _ _ _ _ _ _ _ _ _ _ _ _ _ _ _ _ _ _ _ _ _ _ _ _ _ _ _ _ _ _ _ _ _ _ _ _ _ _ _ _ _ _ _ _ _ _ _ _ _ _ _ _ _ _ _ _ _ _ _ _ _ _ _ _ _ _ _ _ _ w9 w3.heap.size S1 S2 B1 B2 S9.out.2 h32 ?_
        dsimp only
        clear h32
        go_upto_region 10 with fail
        refine blocks10 _ _ _ _ _ _ _ _ _ _ _ _ _ _ _ _ _ _ _ _ _ _ _ _ _ _ _ _ _ _ _ _ _ _ _ _ _ _ _ _ _ _ _ _ _ _ _ _ _ _ _ _ _ _ _ _ _ _ _ _ _ _ _ _ _ _ _ _ _ _ _ _ _ _ _ _ _ _ _ _ _ _ _ _ w9 d w3.heap.size S1 S2 B1 B2 (fun _ _ _ _ _ h => h) b1 b2 b3 b4 S9.out.2 (H.out.2.2.2.2.1.below S9.out.1) HEQ.out ?_
        intro w10 hb10
        dsimp only
        go_wp2
        go_ret
        exact ⟨rfl, S9.out.1.trans (hb10.mono S9.out.1.size)⟩
      · have h64 : ((List.range 64).all fun i => B1 i == B2 i) = false := by rw [h32] at hu; simpa using hu
        clear hu
        go_upto_region 9 with fail
        refine blocks9false _ _ _ _ _ _ _ _ _ _ _ _ _ _ _ _ _ _ _ _ _ _ _ _ _ _ _ _ _ _ _ _ _ _ _ _ _ _ _ _ _ _ _ _ _ _ _ _ _ _ _ _ _ _ _ _ _ _ _ _ _ _ _ _ _ _ _ _ _ _ _ _ _ _ _ _ _ _ _ _ _ _ _ _ _ _ w9 w3.heap.size S1 S2 B1 B2 S9.out.2 h32 h64 ?_
        dsimp only
        clear h32 h64
        go_upto_region 10 with fail
        refine blocks10 _ _ _ _ _ _ _ _ _ _ _ _ _ _ _ _ _ _ _ _ _ _ _ _ _ _ _ _ _ _ _ _ _ _ _ _ _ _ _ _ _ _ _ _ _ _ _ _ _ _ _ _ _ _ _ _ _ _ _ _ _ _ _ _ _ _ _ _ _ _ _ _ _ _ _ _ _ _ _ _ _ _ _ _ w9 d w3.heap.size S1 S2 B1 B2 (fun _ _ _ _ _ h => h) b1 b2 b3 b4 S9.out.2 (H.out.2.2.2.2.1.below S9.out.1) HEQ.out ?_
        intro w10 hb10
        dsimp only
        go_wp2
        go_ret
        exact ⟨rfl, S9.out.1.trans (hb10.mono S9.out.1.size)⟩
end Go.Proofs.YtgnbkcdclelmfaaDoor
