/- What the document's Descend answers. -/
import Derived.Test.YtgnbkcdclelmfaaDoorHashDescend
import Derived.Test.YtgnbkcdclelmfaaDoorHashSame
namespace Go.Proofs.YtgnbkcdclelmfaaDoor
open Go.RowKit
set_option maxRecDepth 100000

theorem range_hash {w : World} {base g m cap : Nat} {d : Int} {L : List Nat} (h : w.ownsRow base 35 32 (.slice (some ⟨g, 0, none⟩) (m + 1) cap) (m + 1) (STS d L m)) (t : Nat) (ht : t ≤ m) : w.rangeAt g (t * 32) (ULIST .u8 32 (STATE d L t)) := range_state h t ht
theorem onehash (d : Int) (l k : List Nat) : ONEHASH d l k = (List.range 32).all fun i => STATE d (FULL l) (NB l) i == STATE d (FULL k) (NB k) i := rfl

set_option maxHeartbeats 4000000 in
theorem refdescend_ok (d : Int) (a : Option Addr) (n c : Nat) (l : List Nat) (b : Option Addr) (m c' : Nat) (k : List Nat) (w : World) (h1 : Text w a n l) (h1c : a = none → c = 0) (h2 : Text w b m k) (h2c : b = none → c' = 0) (hn : n < 2 ^ 30) (hm : m < 2 ^ 30) : Calls Tryd.prog 17 #[.int .i64 d, .slice a n c, .slice b m c'] w fun e w' =>
    e = .returned (.tuple #[.agg (UARR .u8 192 (ANSN d l k (DESC d l k))), .bool (DESC d l k).isSome]) ∧ Below w.heap.size w w' := by
  have H : Aside (Text w a n l ∧ (a = none → c = 0) ∧ Text w b m k ∧ (b = none → c' = 0) ∧ n < 2 ^ 30 ∧ m < 2 ^ 30) := ⟨h1, h1c, h2, h2c, hn, hm⟩
  clear h1 h1c h2 h2c hn hm
  have hz := zero192
  have hbn := build_none
  obtain ⟨w0, hw0⟩ : ∃ w0, w.alloc (.cells (UARR .u8 192 fun _ => 0) 45) = w0 := ⟨_, rfl⟩
  have hb0 : Below w.heap.size w w0 := by rw [← hw0]; exact (Below.refl _ _).alloc (Nat.le_refl _) _
  have h60 : Has w0 w.heap.size (UARR .u8 192 fun _ => 0) 45 := by rw [← hw0]; exact Has.new w _ _
  have hsz0 : w.heap.size < w0.heap.size := h60.lt
  have t1 := H.out.1.below hb0
  have t2 := H.out.2.2.1.below hb0
  have ce := samebytes_ok a b n m c c' l k w0 t1 t2 (by have := H.out.2.2.2.2.1; omega)
  have cb1 : ∀ W, Below w0.heap.size w0 W → Calls Tryd.prog 24 #[.slice a n c] W fun e w' => ∃ v, e = .returned v ∧ w'.ownsRow W.heap.size 43 64 v (NB l) (BY (FULL l)) ∧ Below W.heap.size W w' := fun W hW => refblocks_ok a n c l W (t1.below hW) H.out.2.1 H.out.2.2.2.2.1
  have cb2 : ∀ W, Below w0.heap.size w0 W → Calls Tryd.prog 24 #[.slice b m c'] W fun e w' => ∃ v, e = .returned v ∧ w'.ownsRow W.heap.size 43 64 v (NB k) (BY (FULL k)) ∧ Below W.heap.size W w' := fun W hW => refblocks_ok b m c' k W (t2.below hW) H.out.2.2.2.1 H.out.2.2.2.2.2
  have hs1 := FULL_small H.out.1.2.2
  have hs2 := FULL_small H.out.2.2.1.2.2
  have hlt1 := NB_lt l (by rw [H.out.1.1]; exact H.out.2.2.2.2.1)
  have hlt2 := NB_lt k (by rw [H.out.2.2.1.1]; exact H.out.2.2.2.2.2)
  have cst1 := fun v B (W : World) (h : W.ownsRow B 43 64 v (NB l) (BY (FULL l))) => refstates_ok d B v (NB l) (FULL l) W h (NB_full l) hs1 hlt1
  have cst2 := fun v B (W : World) (h : W.ownsRow B 43 64 v (NB k) (BY (FULL k))) => refstates_ok d B v (NB k) (FULL k) W h (NB_full k) hs2 hlt2
  clear t1 t2 hs1 hs2
  by_cases hlk : l = k
  · have hD : DESC d l k = none := by unfold DESC; rw [if_pos hlk]
    obtain ⟨e1, e2⟩ := desc_none hD
    rw [← e1, ← e2]
    rw [decide_eq_true hlk] at ce
    clear e1 e2 hD hlk cb1 cb2 cst1 cst2
    go_enter Tryd.func17, Tryd.ntmps17
    go_wp2_with fail
    refine ce.mono ?_
    rintro e w1 ⟨rfl, hb1, -⟩
    clear ce
    have h61 := h60.keep hb1
    have hst := store_has h61 (fun _ => 0)
    go_wp2
    refine bodyPost_ret (v := .tuple #[.agg (UARR .u8 192 fun _ => 0), .bool false]) ?_ rfl ⟨rfl, below_row (hb0.trans (hb1.mono (by omega))) (Nat.le_refl _) _⟩
    exact results_step rfl _ _ w.heap.size 45 _ (0, 0) _ rfl (h61.row _) _ rfl Tryd.underlying45 (info_step _)
  · rw [decide_eq_false hlk] at ce
    have HL : Aside (l ≠ k) := hlk
    clear hlk
    have hrest : ∀ W, Below w0.heap.size w0 W → Has W w.heap.size (UARR .u8 192 fun _ => 0) 45 := fun W hW => h60.keep hW
    go_enter Tryd.func17, Tryd.ntmps17
    go_wp2_with fail
    refine ce.mono ?_
    rintro e w1 ⟨rfl, hb1, -⟩
    clear ce
    go_wp2_with fail
    refine (cb1 _ hb1).mono ?_
    rintro e w2 ⟨v1, rfl, hown1, hb2⟩
    have hb2' : Below w0.heap.size w0 w2 := hb1.trans (hb2.mono hb1.size)
    go_wp2_with fail
    refine (cb2 _ hb2').mono ?_
    rintro e w3 ⟨v2, rfl, hown2, hb3⟩
    clear cb1 cb2
    have hb3' : Below w0.heap.size w0 w3 := hb2'.trans (hb3.mono hb2'.size)
    have hown1' := own_mono (own_keep hown1 hb3) hb1.size
    have hown2' := own_mono hown2 hb2'.size
    clear hown1 hb2 hb3 hown2
    go_wp2_with fail
    refine (cst1 _ _ _ hown1').mono ?_
    rintro e w4 ⟨v3, rfl, hown3, hb4⟩
    go_wp2_with fail
    refine (cst2 _ _ _ (own_keep hown2' hb4)).mono ?_
    rintro e w5 ⟨v4, rfl, hown4, hb5⟩
    clear cst1 cst2
    have hb45 : Below w3.heap.size w3 w5 := hb4.trans (hb5.mono hb4.size)
    have hb5' : Below w0.heap.size w0 w5 := hb3'.trans (hb45.mono hb3'.size)
    have o1 := own_keep hown1' hb45
    have o2 := own_keep hown2' hb45
    have o3 := own_keep hown3 hb5
    obtain ⟨a1, cp, rfl, hf1⟩ := own_form o1
    obtain ⟨gp, rfl⟩ := hf1 (NB_pos l)
    obtain ⟨a2, cq, rfl, hf2⟩ := own_form o2
    obtain ⟨gq, rfl⟩ := hf2 (NB_pos k)
    obtain ⟨a3, cs, rfl, hf3⟩ := own_form o3
    obtain ⟨gs, rfl⟩ := hf3 (by omega)
    obtain ⟨a4, ct, rfl, hf4⟩ := own_form hown4
    obtain ⟨gt, rfl⟩ := hf4 (by omega)
    have R : Aside (w5.ownsRow w0.heap.size 43 64 (.slice (some ⟨gp, 0, none⟩) (NB l) cp) (NB l) (BY (FULL l)) ∧ w5.ownsRow w0.heap.size 43 64 (.slice (some ⟨gq, 0, none⟩) (NB k) cq) (NB k) (BY (FULL k)) ∧ w5.ownsRow w0.heap.size 35 32 (.slice (some ⟨gs, 0, none⟩) (NB l + 1) cs) (NB l + 1) (STS d (FULL l) (NB l)) ∧ w5.ownsRow w0.heap.size 35 32 (.slice (some ⟨gt, 0, none⟩) (NB k + 1) ct) (NB k + 1) (STS d (FULL k) (NB k)) ∧ Below w0.heap.size w0 w5 ∧ NB l < 2 ^ 30 ∧ NB k < 2 ^ 30) := ⟨o1, o2, own_mono o3 hb3'.size, own_mono hown4 (Nat.le_trans hb3'.size hb4.size), hb5', hlt1, hlt2⟩
    clear o1 o2 o3 hown1' hown2' hown3 hown4 hf1 hf2 hf3 hf4 hb1 hb2' hb3' hb4 hb5 hb45 hb5' hlt1 hlt2
    obtain ⟨A, hA⟩ : ∃ A, NB l = A := ⟨_, rfl⟩
    obtain ⟨B, hB⟩ : ∃ B, NB k = B := ⟨_, rfl⟩
    obtain ⟨A1, hA1⟩ : ∃ A1, A + 1 = A1 := ⟨_, rfl⟩
    obtain ⟨B1, hB1⟩ : ∃ B1, B + 1 = B1 := ⟨_, rfl⟩
    rw [hA, hB, hA1, hB1] at R ⊢
    have HF : Aside (FOUND d l k = FIND (UNL d l k) (min A B) 1 ∧ NB l = A ∧ NB k = B ∧ A + 1 = A1 ∧ B + 1 = B1) := ⟨by rw [← hA, ← hB]; rfl, hA, hB, hA1, hB1⟩
    have xA : (A : Int) < (A1 : Int) := by omega
    have xB : (B : Int) < (B1 : Int) := by omega
    have rs : w5.rangeAt gs (A * 32) (ULIST .u8 32 (STATE d (FULL l) A)) := by subst hA1; exact range_hash R.out.2.2.1 A (Nat.le_refl _)
    have rt : w5.rangeAt gt (B * 32) (ULIST .u8 32 (STATE d (FULL k) B)) := by subst hB1; exact range_hash R.out.2.2.2.1 B (Nat.le_refl _)
    have hoe : ONEHASH d l k = (List.range 32).all fun i => STATE d (FULL l) A i == STATE d (FULL k) B i := by rw [onehash, hA, hB]
    clear hA hB hA1 hB1
    go_upto_region 5 with fail
    refine refdesc5 _ _ _ _ _ _ _ _ _ _ _ _ _ _ _ _ _ _ _ _ _ _ _ _ _ _ _ _ _ _ _ _ _ _ _ _ _ _ _ _ _ _ _ _ _ _ _ _ _ _ _ _ _ _ _ _ _ _ _ _ _ _ _ _ _ _ _ _ _ _ _ _ _ _ _ _ _ _ _ _ _ _ _ _ _ _ _ _ _ _ w5 gp gq gs gt A B A1 B1 cp cq cs ct (STATE d (FULL l) A) (STATE d (FULL k) B) (fun _ _ _ _ _ h => h) xA xB rs rt ?_
    rw [← hoe]
    dsimp only
    clear rs rt hoe
    have hW5 : Below w0.heap.size w0 w5.drew := R.out.2.2.2.2.1.drew
    have h65 := hrest _ hW5
    cases hoh : ONEHASH d l k
    · have hD : DESC d l k = none := by unfold DESC; rw [if_neg HL.out, if_neg (by rw [hoh]; decide)]
      obtain ⟨e1, e2⟩ := desc_none hD
      have E : Aside ((fun _ : Nat => 0) = ANSN d l k (DESC d l k) ∧ false = (DESC d l k).isSome) := ⟨e1, e2⟩
      clear e1 e2 hD hoh
      have hst := store_has h65 (fun _ => 0)
      generalize w5.drew = w6 at *
      go_wp2
      refine bodyPost_ret (v := .tuple #[.agg (UARR .u8 192 fun _ => 0), .bool false]) ?_ rfl ⟨by rw [← E.out.1, ← E.out.2], below_row (hb0.trans (hW5.mono (by omega))) (Nat.le_refl _) _⟩
      exact results_step rfl _ _ w.heap.size 45 _ (0, 0) _ rfl (h65.row _) _ rfl Tryd.underlying45 (info_step _)
    · have hD : DESC d l k = FOUND d l k := by unfold DESC; rw [if_neg HL.out, if_pos hoh]
      have HD : Aside (DESC d l k = FOUND d l k) := hD
      clear hD hoh h65
      have R6 : Aside (w5.drew.ownsRow w0.heap.size 43 64 (.slice (some ⟨gp, 0, none⟩) A cp) A (BY (FULL l)) ∧ w5.drew.ownsRow w0.heap.size 43 64 (.slice (some ⟨gq, 0, none⟩) B cq) B (BY (FULL k)) ∧ w5.drew.ownsRow w0.heap.size 35 32 (.slice (some ⟨gs, 0, none⟩) A1 cs) A1 (STS d (FULL l) A) ∧ w5.drew.ownsRow w0.heap.size 35 32 (.slice (some ⟨gt, 0, none⟩) B1 ct) B1 (STS d (FULL k) B) ∧ A < 2 ^ 30 ∧ B < 2 ^ 30) := ⟨R.out.1.drew, R.out.2.1.drew, R.out.2.2.1.drew, R.out.2.2.2.1.drew, R.out.2.2.2.2.2⟩
      clear R
      have HW : Aside (Below w0.heap.size w0 w5.drew) := hW5
      clear hW5
      generalize w5.drew = w6 at *
      have eA : wrap64 ((A : Int) - 1) = (A : Int) - 1 := by have := R6.out.2.2.2.2.1; unfold wrap64; omega
      have eB : wrap64 ((B : Int) - 1) = (B : Int) - 1 := by have := R6.out.2.2.2.2.2; unfold wrap64; omega
      have n1 : gs ≠ w.heap.size := by have := (R6.out.2.2.1.lt gs rfl).1; omega
      have n2 : gt ≠ w.heap.size := by have := (R6.out.2.2.2.1.lt gt rfl).1; omega
      have n3 : gp ≠ w.heap.size := by have := (R6.out.1.lt gp rfl).1; omega
      have n4 : gq ≠ w.heap.size := by have := (R6.out.2.1.lt gq rfl).1; omega
      have NE : Aside (gs ≠ w.heap.size ∧ gt ≠ w.heap.size ∧ gp ≠ w.heap.size ∧ gq ≠ w.heap.size) := ⟨n1, n2, n3, n4⟩
      clear n1 n2 n3 n4
      go_wp2_with fail
      go_loopg [12, 13] (min A B) (fun g s12 s13 wx => ∃ q : Nat, s12 = .int .i64 ((A : Int) - (q : Int)) ∧ s13 = .int .i64 ((B : Int) - (q : Int)) ∧ Aside (q + g = min A B + 1 ∧ 1 ≤ q ∧ FIND (UNL d l k) g q = FOUND d l k ∧ Below w6.heap.size w6 wx))
      case atStart => exact ⟨1, by simp [eA], by simp [eB], by omega, Nat.le_refl _, HF.out.1.symm, Below.refl _ _⟩
      case round =>
        obtain ⟨q, rfl, rfl, I⟩ := hrel
        have hWr : Below w0.heap.size w0 wr := HW.out.trans (I.out.2.2.2.mono HW.out.size)
        cases gk with
        | zero =>
          have hfn : FOUND d l k = none := by rw [← I.out.2.2.1]; rfl
          obtain ⟨e1, e2⟩ : (fun _ : Nat => 0) = ANSN d l k (DESC d l k) ∧ false = (DESC d l k).isSome := by rw [HD.out, hfn]; exact ⟨rfl, rfl⟩
          have E : Aside ((fun _ : Nat => 0) = ANSN d l k (DESC d l k) ∧ false = (DESC d l k).isSome) := ⟨e1, e2⟩
          clear e1 e2 hfn
          have h6 := hrest _ hWr
          have hst := store_has h6 (fun _ => 0)
          have hqq : ¬ (0 : Int) ≤ (A : Int) - (q : Int) ∨ (0 : Int) ≤ (A : Int) - (q : Int) ∧ ¬ (0 : Int) ≤ (B : Int) - (q : Int) := by have := I.out.1; omega
          clear eA eB xA xB
          generalize (A : Int) - (q : Int) = ai at *
          generalize (B : Int) - (q : Int) = bi at *
          rcases hqq with hqq | ⟨hqq, hqr⟩
          all_goals go_wp2
          all_goals refine bodyPost_ret (v := .tuple #[.agg (UARR .u8 192 fun _ => 0), .bool false]) ?_ rfl ⟨by rw [← E.out.1, ← E.out.2], below_row (hb0.trans (hWr.mono (by omega))) (Nat.le_refl _) _⟩
          all_goals exact results_step rfl _ _ w.heap.size 45 _ (0, 0) _ rfl (h6.row _) _ rfl Tryd.underlying45 (info_step _)
        | succ g =>
          obtain ⟨i1, i2, i3, i4⟩ := I.out
          obtain ⟨x, hx⟩ : ∃ x : Nat, A - q = x := ⟨_, rfl⟩
          obtain ⟨y, hy⟩ : ∃ y : Nat, B - q = y := ⟨_, rfl⟩
          obtain ⟨r1, r2, r3, r4, r5, r6⟩ := R6.out
          have gA : (A : Int) - (q : Int) = (x : Int) := by omega
          have gB : (B : Int) - (q : Int) = (y : Int) := by omega
          have x0 : (0 : Int) ≤ (x : Int) := by omega
          have y0 : (0 : Int) ≤ (y : Int) := by omega
          have x1 : (x : Int) < (A1 : Int) := by omega
          have y1 : (y : Int) < (B1 : Int) := by omega
          have x2 : (x : Int) < (A : Int) := by omega
          have y2 : (y : Int) < (B : Int) := by omega
          have tx : wrap64 ((x : Int) - 1) = (A : Int) - ((q + 1 : Nat) : Int) := by unfold wrap64; omega
          have ty : wrap64 ((y : Int) - 1) = (B : Int) - ((q + 1 : Nat) : Int) := by unfold wrap64; omega
          have rp : wr.rangeAt gp (x * 64) (ULIST .u8 64 (BLK (FULL l) x)) := range_block (own_keep r1 i4) (by rw [NB_full, HF.out.2.1]) x (by omega)
          have rq : wr.rangeAt gq (y * 64) (ULIST .u8 64 (BLK (FULL k) y)) := range_block (own_keep r2 i4) (by rw [NB_full, HF.out.2.2.1]) y (by omega)
          have rs : wr.rangeAt gs (x * 32) (ULIST .u8 32 (STATE d (FULL l) x)) := by have h := own_keep r3 i4; rw [← HF.out.2.2.2.1] at h; exact range_hash h x (by omega)
          have rt : wr.rangeAt gt (y * 32) (ULIST .u8 32 (STATE d (FULL k) y)) := by have h := own_keep r4 i4; rw [← HF.out.2.2.2.2] at h; exact range_hash h y (by omega)
          have hu : UNL d l k q = ((!((List.range 32).all fun i => STATE d (FULL l) x i == STATE d (FULL k) y i)) || !((List.range 64).all fun i => BLK (FULL l) x i == BLK (FULL k) y i)) := by rw [UNL_parts, HF.out.2.1, HF.out.2.2.1, hx, hy]
          have J : Aside ((q + 1 + g = min A B + 1 ∧ 1 ≤ q + 1) ∧ (UNL d l k q = false → FIND (UNL d l k) g (q + 1) = FOUND d l k) ∧ (UNL d l k q = true → STEPN (STATE d (FULL l) x) (STATE d (FULL k) y) (BLK (FULL l) x) (BLK (FULL k) y) = ANSN d l k (DESC d l k) ∧ true = (DESC d l k).isSome)) := by
            refine ⟨⟨by omega, by omega⟩, fun h => ?_, fun h => ?_⟩
            · rw [← i3, FIND, if_neg (by rw [h]; decide)]
            · have hf : FOUND d l k = some q := by rw [← i3, FIND, if_pos h]
              rw [HD.out, hf]
              refine ⟨?_, rfl⟩
              rw [ANSN, HF.out.2.1, HF.out.2.2.1, hx, hy]
          have I4 : Aside (Below w6.heap.size w6 wr.drew) := i4.drew
          rw [gA, gB]
          clear i1 i2 i3 i4 hx hy r1 r2 r3 r4 r5 r6 gA gB eA eB xA xB
          go_upto_region 10 with fail
          cases h32 : (List.range 32).all fun i => STATE d (FULL l) x i == STATE d (FULL k) y i
          · have hun : UNL d l k q = true := by rw [hu, h32]; rfl
            refine refdesc10true _ _ _ _ _ _ _ _ _ _ _ _ _ _ _ _ _ _ _ _ _ _ _ _ _ _ _ _ _ _ _ _ _ _ _ _ _ _ _ _ _ _ _ _ _ _ _ _ _ _ _ _ _ _ _ _ _ _ _ _ _ _ _ _ _ _ _ _ _ _ _ _ _ _ _ _ _ _ _ _ _ _ _ _ _ _ _ _ wr gp gq gs gt A B A1 B1 cp cq cs ct x y (STATE d (FULL l) x) (STATE d (FULL k) y) (BLK (FULL l) x) (BLK (FULL k) y) (fun _ _ _ _ _ h => h) x1 y1 x2 y2 rs rt rp rq h32 ?_
            dsimp only
            clear hu h32
            go_upto_region 11 with fail
            refine refdesc11 _ _ _ _ _ _ _ _ _ _ _ _ _ _ _ _ _ _ _ _ _ _ _ _ _ _ _ _ _ _ _ _ _ _ _ _ _ _ _ _ _ _ _ _ _ _ _ _ _ _ _ _ _ _ _ _ _ _ _ _ _ _ _ _ _ _ _ _ _ _ _ _ _ _ _ _ _ _ _ _ _ _ _ _ _ _ _ wr.drew gp gq gs gt A B A1 B1 cp cq cs ct x y w.heap.size (STATE d (FULL l) x) (STATE d (FULL k) y) (BLK (FULL l) x) (BLK (FULL k) y) (fun _ => 0) (fun _ _ _ _ _ h => h) x1 y1 x2 y2 ((World.rangeAt_drew _ _ _ _).2 rs) ((World.rangeAt_drew _ _ _ _).2 rt) ((World.rangeAt_drew _ _ _ _).2 rp) ((World.rangeAt_drew _ _ _ _).2 rq) (hrest _ hWr.drew) NE.out.1 NE.out.2.1 NE.out.2.2.1 NE.out.2.2.2 ?_
            dsimp only
            have h6r := hrest _ hWr.drew.drew
            clear rs rt rp rq
            go_wp2
            refine bodyPost_ret (v := .tuple #[.agg (UARR .u8 192 (STEPN (STATE d (FULL l) x) (STATE d (FULL k) y) (BLK (FULL l) x) (BLK (FULL k) y))), .bool true]) ?_ rfl ⟨by rw [← (J.out.2.2 hun).1, ← (J.out.2.2 hun).2], below_row (hb0.trans (hWr.drew.drew.mono (by omega))) (Nat.le_refl _) _⟩
            exact results_step rfl _ _ w.heap.size 45 _ (0, 0) _ rfl (h6r.row _) _ rfl Tryd.underlying45 (info_step _)
          · cases h64 : (List.range 64).all fun i => BLK (FULL l) x i == BLK (FULL k) y i
            · have hun : UNL d l k q = true := by rw [hu, h32, h64]; rfl
              refine refdesc10false _ _ _ _ _ _ _ _ _ _ _ _ _ _ _ _ _ _ _ _ _ _ _ _ _ _ _ _ _ _ _ _ _ _ _ _ _ _ _ _ _ _ _ _ _ _ _ _ _ _ _ _ _ _ _ _ _ _ _ _ _ _ _ _ _ _ _ _ _ _ _ _ _ _ _ _ _ _ _ _ _ _ _ _ _ _ _ _ wr gp gq gs gt A B A1 B1 cp cq cs ct x y (STATE d (FULL l) x) (STATE d (FULL k) y) (BLK (FULL l) x) (BLK (FULL k) y) (fun _ _ _ _ _ h => h) x1 y1 x2 y2 rs rt rp rq h32 ?_
              rw [h64]
              dsimp only
              clear hu h32 h64
              go_upto_region 11 with fail
              refine refdesc11 _ _ _ _ _ _ _ _ _ _ _ _ _ _ _ _ _ _ _ _ _ _ _ _ _ _ _ _ _ _ _ _ _ _ _ _ _ _ _ _ _ _ _ _ _ _ _ _ _ _ _ _ _ _ _ _ _ _ _ _ _ _ _ _ _ _ _ _ _ _ _ _ _ _ _ _ _ _ _ _ _ _ _ _ _ _ _ wr.drew gp gq gs gt A B A1 B1 cp cq cs ct x y w.heap.size (STATE d (FULL l) x) (STATE d (FULL k) y) (BLK (FULL l) x) (BLK (FULL k) y) (fun _ => 0) (fun _ _ _ _ _ h => h) x1 y1 x2 y2 ((World.rangeAt_drew _ _ _ _).2 rs) ((World.rangeAt_drew _ _ _ _).2 rt) ((World.rangeAt_drew _ _ _ _).2 rp) ((World.rangeAt_drew _ _ _ _).2 rq) (hrest _ hWr.drew) NE.out.1 NE.out.2.1 NE.out.2.2.1 NE.out.2.2.2 ?_
              dsimp only
              have h6r := hrest _ hWr.drew.drew
              clear rs rt rp rq
              go_wp2
              refine bodyPost_ret (v := .tuple #[.agg (UARR .u8 192 (STEPN (STATE d (FULL l) x) (STATE d (FULL k) y) (BLK (FULL l) x) (BLK (FULL k) y))), .bool true]) ?_ rfl ⟨by rw [← (J.out.2.2 hun).1, ← (J.out.2.2 hun).2], below_row (hb0.trans (hWr.drew.drew.mono (by omega))) (Nat.le_refl _) _⟩
              exact results_step rfl _ _ w.heap.size 45 _ (0, 0) _ rfl (h6r.row _) _ rfl Tryd.underlying45 (info_step _)
            · have hun : UNL d l k q = false := by rw [hu, h32, h64]; rfl
              refine refdesc10false _ _ _ _ _ _ _ _ _ _ _ _ _ _ _ _ _ _ _ _ _ _ _ _ _ _ _ _ _ _ _ _ _ _ _ _ _ _ _ _ _ _ _ _ _ _ _ _ _ _ _ _ _ _ _ _ _ _ _ _ _ _ _ _ _ _ _ _ _ _ _ _ _ _ _ _ _ _ _ _ _ _ _ _ _ _ _ _ wr gp gq gs gt A B A1 B1 cp cq cs ct x y (STATE d (FULL l) x) (STATE d (FULL k) y) (BLK (FULL l) x) (BLK (FULL k) y) (fun _ _ _ _ _ h => h) x1 y1 x2 y2 rs rt rp rq h32 ?_
              rw [h64]
              dsimp only
              have K1 : Aside (q + 1 + g = min A B + 1 ∧ 1 ≤ q + 1 ∧ FIND (UNL d l k) g (q + 1) = FOUND d l k ∧ Below w6.heap.size w6 wr.drew) := ⟨J.out.1.1, J.out.1.2, J.out.2.1 hun, I4.out⟩
              clear hu h32 h64 rs rt rp rq J hun
              go_wp2
              go_roundg g
              case measure => exact Nat.lt_succ_self _
              case rel => exact ⟨q + 1, by first | rfl | rw [tx], by first | rfl | rw [ty], K1⟩
end Go.Proofs.YtgnbkcdclelmfaaDoor
