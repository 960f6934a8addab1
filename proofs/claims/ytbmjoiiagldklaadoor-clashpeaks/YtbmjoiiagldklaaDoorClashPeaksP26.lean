/- Texts of ClashPeaks, one behind the other: ClashFair, ClashKept. -/
import Derived.Test.YtbmjoiiagldklaaDoorClashPeaksP6
import Derived.Test.YtbmjoiiagldklaaDoorClashPeaksP7
import Derived.Test.YtbmjoiiagldklaaDoorClashPeaksP23
import Derived.Test.YtbmjoiiagldklaaDoorClashPeaksP25
/- The walk of massiflaw9.fair. -/
namespace Go.Proofs.YtbmjoiiagldklaaDoor
open Go.RowKit
set_option maxRecDepth 100000

theorem u8_mark {x : Nat} (hx : x < 4) : IntKind.u8.wrap ((201 + x : Nat) : Int) = ((201 + x : Nat) : Int) := by
  rcases (show x = 0 ∨ x = 1 ∨ x = 2 ∨ x = 3 by omega) with rfl | rfl | rfl | rfl <;> decide
set_option maxHeartbeats 1000000 in
theorem fair_none (d : Int) (w : World) : Calls Tryd.prog 8 #[.int .i64 d, .agg #[.slice none 0 0, .slice none 0 0], .agg #[.slice none 0 0, .slice none 0 0], .bool false, .bool false, .bool false] w fun e w' => e = .returned (.bool true) ∧ Below w.heap.size w w' := by
  have hb : Below w.heap.size w ((w.alloc (.cells #[.slice none 0 0, .slice none 0 0] 32)).alloc (.cells #[.slice none 0 0, .slice none 0 0] 32)) := ((Below.refl _ _).alloc (Nat.le_refl _) _).alloc (by simp) _
  have R : Aside (Below w.heap.size w ((w.alloc (.cells #[.slice none 0 0, .slice none 0 0] 32)).alloc (.cells #[.slice none 0 0, .slice none 0 0] 32))) := hb
  clear hb
  go_enter Tryd.func8, Tryd.ntmps8
  go_wp2
  go_ret
  exact ⟨rfl, R.out⟩
theorem four_apart {x y gA gB gC gD : Nat} (h : gA ≠ gB ∧ gA ≠ gC ∧ gA ≠ gD ∧ gB ≠ gC ∧ gB ≠ gD ∧ gC ≠ gD) (hx : x < 4) (hy : y < 4) (hne : x ≠ y) : (if x = 0 then gA else if x = 1 then gB else if x = 2 then gC else gD) ≠ (if y = 0 then gA else if y = 1 then gB else if y = 2 then gC else gD) := by
  rcases (show x = 0 ∨ x = 1 ∨ x = 2 ∨ x = 3 by omega) with rfl | rfl | rfl | rfl <;> rcases (show y = 0 ∨ y = 1 ∨ y = 2 ∨ y = 3 by omega) with rfl | rfl | rfl | rfl <;> simp <;> omega
set_option maxHeartbeats 8000000 in
theorem fair_some (d : Int) (B9 : Nat) (s t : List Nat) (gA cA gB cB gC cC gD cD : Nat) (w : World) (hB : B9 ≤ w.heap.size) (oA : OWNT w B9 gA cA s) (oB : OWNT w B9 gB cB t) (oC : OWNT w B9 gC cC s) (oD : OWNT w B9 gD cD t) (hap : gA ≠ gB ∧ gA ≠ gC ∧ gA ≠ gD ∧ gB ≠ gC ∧ gB ≠ gD ∧ gC ≠ gD) (hH : HX.HOLDS d s t = true) :
    Calls Tryd.prog 8 #[.int .i64 d, .agg #[.slice (some ⟨gA, 0, none⟩) s.length cA, .slice (some ⟨gB, 0, none⟩) t.length cB], .agg #[.slice (some ⟨gC, 0, none⟩) s.length cC, .slice (some ⟨gD, 0, none⟩) t.length cD], .bool true, .bool true, .bool true] w fun e w' => e = .returned (.bool true) ∧ Below B9 w w' := by
  obtain ⟨n, hn⟩ : ∃ n, s.length = n := ⟨_, rfl⟩
  obtain ⟨m, hm⟩ : ∃ m, t.length = m := ⟨_, rfl⟩
  have HA : Aside (B9 ≤ w.heap.size ∧ OWNT w B9 gA cA s ∧ OWNT w B9 gB cB t ∧ OWNT w B9 gC cC s ∧ OWNT w B9 gD cD t ∧ (gA ≠ gB ∧ gA ≠ gC ∧ gA ≠ gD ∧ gB ≠ gC ∧ gB ≠ gD ∧ gC ≠ gD) ∧ s.length = n ∧ t.length = m ∧ HX.HOLDS d s t = true) := ⟨hB, oA, oB, oC, oD, hap, hn, hm, hH⟩
  have hn2 : n ≤ 200 := by rw [← hn]; exact oA.2.2.2
  have hm2 : m ≤ 200 := by rw [← hm]; exact oB.2.2.2
  rw [hn, hm]
  clear hB oA oB oC oD hap hn hm hH
  have l1 : ¬ (200 : Int) < (n : Int) := by omega
  have l2 : ¬ (200 : Int) < (m : Int) := by omega
  obtain ⟨W0, hW0⟩ : ∃ W0, (w.alloc (.cells #[.slice (some ⟨gA, 0, none⟩) n cA, .slice (some ⟨gB, 0, none⟩) m cB] 32)).alloc (.cells #[.slice (some ⟨gC, 0, none⟩) n cC, .slice (some ⟨gD, 0, none⟩) m cD] 32) = W0 := ⟨_, rfl⟩
  obtain ⟨z, hz⟩ : ∃ z, w.heap.size = z := ⟨_, rfl⟩
  have hb0 : Below w.heap.size w W0 := by rw [← hW0]; exact ((Below.refl _ _).alloc (Nat.le_refl _) _).alloc (by simp) _
  have k7 : Has W0 z #[.slice (some ⟨gA, 0, none⟩) n cA, .slice (some ⟨gB, 0, none⟩) m cB] 32 := by rw [← hW0, ← hz]; exact (Has.new _ _ _).alloc _
  have k8 : Has W0 (z + 1) #[.slice (some ⟨gC, 0, none⟩) n cC, .slice (some ⟨gD, 0, none⟩) m cD] 32 := by rw [← hW0, ← hz]; exact Has.at _ _ _ (by simp)
  have hcells : ∀ W, Below W0.heap.size W0 W → W.cell? ⟨z, 0, none⟩ = some (.slice (some ⟨gA, 0, none⟩) n cA) ∧ W.cell? ⟨z, 1, none⟩ = some (.slice (some ⟨gB, 0, none⟩) m cB) ∧ W.cell? ⟨z + 1, 0, none⟩ = some (.slice (some ⟨gC, 0, none⟩) n cC) ∧ W.cell? ⟨z + 1, 1, none⟩ = some (.slice (some ⟨gD, 0, none⟩) m cD) := fun W h => ⟨(k7.keep h).cell 0, (k7.keep h).cell 1, (k8.keep h).cell 0, (k8.keep h).cell 1⟩
  have HC : Aside (∀ W, Below W0.heap.size W0 W → W.cell? ⟨z, 0, none⟩ = some (.slice (some ⟨gA, 0, none⟩) n cA) ∧ W.cell? ⟨z, 1, none⟩ = some (.slice (some ⟨gB, 0, none⟩) m cB) ∧ W.cell? ⟨z + 1, 0, none⟩ = some (.slice (some ⟨gC, 0, none⟩) n cC) ∧ W.cell? ⟨z + 1, 1, none⟩ = some (.slice (some ⟨gD, 0, none⟩) m cD)) := hcells
  obtain ⟨x0, x1, x2, x3⟩ := hcells W0 (Below.refl _ _)
  have ch : Calls Tryd.prog 25 #[.int .i64 d, .agg #[.slice (some ⟨gA, 0, none⟩) n cA, .slice (some ⟨gB, 0, none⟩) m cB]] W0 fun e w' => e = .returned (.bool true) ∧ Below W0.heap.size W0 w' := by
    obtain ⟨q1, q2, q3, q4, q5, q6, q7, q8, q9⟩ := HA.out
    have hA := q2.text
    have hB := q3.text
    rw [q7] at hA
    rw [q8] at hB
    have := HX.lawholds9_ok d (some ⟨gA, 0, none⟩) n cA s (some ⟨gB, 0, none⟩) m cB t W0 (hA.below hb0) (by intro h; cases h) (by omega) (hB.below hb0) (by intro h; cases h) (by omega)
    rw [q9] at this
    exact this
  have CS : Aside (∀ W, Below w.heap.size w W → (Calls Tryd.prog 26 #[.slice (some ⟨gA, 0, none⟩) n cA, .slice (some ⟨gC, 0, none⟩) n cC] W fun e w' => e = .returned (.bool true) ∧ Below W.heap.size W w') ∧ (Calls Tryd.prog 26 #[.slice (some ⟨gB, 0, none⟩) m cB, .slice (some ⟨gD, 0, none⟩) m cD] W fun e w' => e = .returned (.bool true) ∧ Below W.heap.size W w')) := by
    intro W hW
    obtain ⟨q1, q2, q3, q4, q5, q6, q7, q8, q9⟩ := HA.out
    have tA := q2.text
    have tB := q3.text
    have tC := q4.text
    have tD := q5.text
    rw [q7] at tA tC
    rw [q8] at tB tD
    refine ⟨(HX.samebytes_ok _ _ n n cA cC s s W (tA.below hW) (tC.below hW) (by omega)).mono ?_, (HX.samebytes_ok _ _ m m cB cD t t W (tB.below hW) (tD.below hW) (by omega)).mono ?_⟩
    · rintro e w' ⟨rfl, hb', -⟩
      exact ⟨by rw [decide_eq_true rfl], hb'⟩
    · rintro e w' ⟨rfl, hb', -⟩
      exact ⟨by rw [decide_eq_true rfl], hb'⟩
  have R0 : Aside (Below w.heap.size w W0) := hb0
  clear k7 k8 hcells hb0
  go_enter Tryd.func8, Tryd.ntmps8
  go_upto_region 1 with fail
  clear hW0 hz
  go_wp2_with fail
  refine ch.mono ?_
  rintro e w1 ⟨rfl, hb1⟩
  have hbw1 : Below w.heap.size w w1 := R0.out.trans (hb1.mono R0.out.size)
  clear ch x0 x1 x2 x3
  obtain ⟨x0, x1, x2, x3⟩ := HC.out w1 hb1
  have c1 := (CS.out w1 hbw1).1
  go_wp2_with fail
  refine c1.mono ?_
  rintro e w2 ⟨rfl, hb2⟩
  have hb02 : Below W0.heap.size W0 w2 := hb1.trans (hb2.mono hb1.size)
  have hbw2 : Below w.heap.size w w2 := hbw1.trans (hb2.mono hbw1.size)
  clear c1 x0 x1 x2 x3 hb1 hbw1 hb2
  obtain ⟨x0, x1, x2, x3⟩ := HC.out w2 hb02
  have c2 := (CS.out w2 hbw2).2
  go_wp2_with fail
  refine c2.mono ?_
  rintro e w3 ⟨rfl, hb3⟩
  have hb03 : Below W0.heap.size W0 w3 := hb02.trans (hb3.mono hb02.size)
  have hbw3 : Below w.heap.size w w3 := hbw2.trans (hb3.mono hbw2.size)
  clear c2 x0 x1 x2 x3 hb02 hbw2 hb3
  obtain ⟨x0, x1, x2, x3⟩ := HC.out w3 hb03
  have R3 : Aside (Below w.heap.size w w3) := hbw3
  clear hb03 hbw3 CS HC R0
  go_upto_region 9 with fail
  clear x0 x1 x2 x3
  obtain ⟨V, N, c0, hc0, hN, S⟩ : ∃ (V : Nat → Value) (N : Nat → Nat) (c0 : Array Value), c0 = #[.slice (some ⟨gA, 0, none⟩) n cA, .slice (some ⟨gB, 0, none⟩) m cB, .slice (some ⟨gC, 0, none⟩) n cC, .slice (some ⟨gD, 0, none⟩) m cD] ∧ Aside ((∀ x, x < 4 → c0[x]? = some (V x)) ∧ (∀ x, x < 4 → N x ≤ 200)) ∧ Aside (STA w3 B9 w3.heap.size (w3.heap.size + 1) c0 #[.slice none 0 0, .slice none 0 0, .slice none 0 0, .slice none 0 0] V N 0 0 ((w3.alloc (.cells c0 30)).alloc (.cells #[.slice none 0 0, .slice none 0 0, .slice none 0 0, .slice none 0 0] 62))) := by
    obtain ⟨q1, q2, q3, q4, q5, q6, q7, q8, q9⟩ := HA.out
    have hs3 := R3.out.size
    have l2 := q2.lt
    have l3 := q3.lt
    have l4 := q4.lt
    have l5 := q5.lt
    have q2 := q2.at (R3.out.block _ l2.2)
    have q3 := q3.at (R3.out.block _ l3.2)
    have q4 := q4.at (R3.out.block _ l4.2)
    have q5 := q5.at (R3.out.block _ l5.2)
    have r2 := q2.1
    have r3 := q3.1
    have r4 := q4.1
    have r5 := q5.1
    rw [q7] at r2 r4
    rw [q8] at r3 r5
    have FF : FourT w3 B9 (fun g => g = w3.heap.size ∨ g = w3.heap.size + 1) (fun x => .slice (some ⟨if x = 0 then gA else if x = 1 then gB else if x = 2 then gC else gD, 0, none⟩) (if x = 0 ∨ x = 2 then n else m) (if x = 0 then cA else if x = 1 then cB else if x = 2 then cC else cD)) (fun x => if x = 0 ∨ x = 2 then n else m) (fun x => HX.CELLS (HX.INTS (if x = 0 ∨ x = 2 then s else t))) := by
      refine ⟨fun x hx => ?_, fun x y hx hy hne g e1 e2 => ?_, fun x hx g e1 e2 => ?_⟩
      · rcases (show x = 0 ∨ x = 1 ∨ x = 2 ∨ x = 3 by omega) with rfl | rfl | rfl | rfl
        · exact r2
        · exact r3
        · exact r4
        · exact r5
      · simp only [Value.ownBlock, Option.some.injEq] at e1 e2
        exact four_apart q6 hx hy hne (e1.trans e2.symm)
      · simp only [Value.ownBlock, Option.some.injEq] at e1
        have : g < w3.heap.size := by
          rcases (show x = 0 ∨ x = 1 ∨ x = 2 ∨ x = 3 by omega) with rfl | rfl | rfl | rfl <;> simp at e1 <;> omega
        omega
    refine ⟨_, _, _, rfl, ⟨fun x hx => ?_, fun x hx => ?_⟩, _, (FF.alloc _).alloc _, ⟨(Has.new _ _ _).alloc _, Has.at _ _ _ (by simp)⟩, (((Below.refl B9 w3).alloc (by omega) _).alloc (by simp; omega) _), ⟨by omega, by omega, by omega⟩, fun z hz => by omega, fun j hj => by omega⟩
    · rcases (show x = 0 ∨ x = 1 ∨ x = 2 ∨ x = 3 by omega) with rfl | rfl | rfl | rfl <;> rfl
    · split <;> omega
  rw [← hc0]
  clear hc0
  have HW : Aside (Below B9 w w3) := R3.out.mono HA.out.1
  clear HA R3
  generalize (w3.alloc (.cells c0 30)).alloc (.cells #[.slice none 0 0, .slice none 0 0, .slice none 0 0, .slice none 0 0] 62) = w12 at *
  obtain ⟨gb, hgb⟩ : ∃ gb, w3.heap.size + 1 = gb := ⟨_, rfl⟩
  rw [hgb] at S ⊢
  clear hgb
  generalize w3.heap.size = lb at *
  generalize w3 = w2 at *
  obtain ⟨cg0, hcg0⟩ : ∃ cg0 : Array Value, #[.slice none 0 0, .slice none 0 0, .slice none 0 0, .slice none 0 0] = cg0 := ⟨_, rfl⟩
  rw [hcg0] at S
  have HG : Aside (cg0.size = 4) := by rw [← hcg0]; rfl
  clear hcg0 l1 l2 hn2 hm2
  go_wp2_with fail
  go_loopg [15] 4 (fun q s15 wx => ∃ x : Nat, s15 = .int .i64 (x : Int) ∧ Aside (x + q = 4 ∧ STA w2 B9 lb gb c0 cg0 V N x 0 wx))
  case atStart => exact ⟨0, rfl, by omega, S.out⟩
  case round =>
    obtain ⟨x, rfl, A⟩ := hrel
    clear S
    cases gk with
    | zero =>
      obtain rfl : x = 4 := by have := A.out.1; omega
      go_wp2
      obtain ⟨xs, S⟩ : ∃ xs, Aside (STB w2 B9 lb gb c0 0 wr V N xs cg0) := STB.start A.out.2 hN.out.1 hN.out.2 HG.out
      clear A hN
      go_loopg [17] 4 (fun q s17 wx => ∃ x : Nat, s17 = .int .i64 (x : Int) ∧ Aside (x + q = 4 ∧ ∃ V N xs cg, STB w2 B9 lb gb c0 x wx V N xs cg))
      case atStart => exact ⟨0, rfl, by omega, _, _, _, _, S.out⟩
      case round =>
        obtain ⟨x, rfl, A⟩ := hrel
        clear S
        cases gk with
        | zero =>
          obtain rfl : x = 4 := by have := A.out.1; omega
          obtain ⟨V', N', xs', cg, S3⟩ : ∃ V N xs cg, Aside (STB w2 B9 lb gb c0 4 wr V N xs cg) := A.out.2
          clear A
          generalize hw14 : wr = w14 at *
          clear hw14
          go_wp2
          go_loopg [18] 4 (fun q s18 wx => ∃ x : Nat, s18 = .int .i64 (x : Int) ∧ Aside (x + q = 4) ∧ wx = w14)
          case atStart => exact ⟨0, rfl, by unfold Aside; omega, rfl⟩
          case round =>
            obtain ⟨x, rfl, A, hw⟩ := hrel
            subst hw
            cases gk with
            | zero =>
              obtain rfl : x = 4 := by have := A.out; omega
              have R : Aside (Below B9 w2 wr) := S3.out.bel
              clear S3 A
              go_wp2
              go_ret
              exact ⟨rfl, HW.out.trans R.out⟩
            | succ q =>
              have hx4 : x < 4 := by have := A.out; omega
              have hlt : (x : Int) < 4 := by omega
              have hx0 : ¬ (x : Int) < 0 := by omega
              have e1 : wrap64 ((x : Int) + 1) = ((x + 1 : Nat) : Int) := by unfold wrap64; omega
              obtain ⟨a, qq, hv, hpos⟩ := own_slice9 (S3.out.four.row x hx4)
              generalize hw14 : wr = w14 at *
              clear hw14
              have hl : w14.cell? ⟨gb, x, none⟩ = some (.slice a (N' x) qq) := by rw [S3.out.hg.cell x, S3.out.new x hx4, hv]
              have HQ : Aside (V' x = .slice a (N' x) qq ∧ (0 < N' x → ∃ g, a = some ⟨g, 0, none⟩) ∧ N' x ≤ 202) := ⟨hv, fun h => by obtain ⟨g, h1, _⟩ := hpos h; exact ⟨g, h1⟩, S3.out.len x hx4⟩
              clear hv hpos
              go_wp2
              go_loopg [19] (N' x) (fun p s19x wx => ∃ y : Nat, s19x = .int .i64 (y : Int) ∧ Aside (y + p = N' x) ∧ wx = w14)
              case atStart => exact ⟨0, rfl, by unfold Aside; omega, rfl⟩
              case round =>
                obtain ⟨y, rfl, B, hw⟩ := hrel
                subst hw
                cases gk with
                | zero =>
                  obtain rfl : y = N' x := by have := B.out; omega
                  have hylt : ¬ ((N' x : Nat) : Int) < ((N' x : Nat) : Int) := by omega
                  go_wp2
                  go_roundg q
                  case measure => omega
                  case rel => exact ⟨x + 1, by first | rfl | (rw [e1]), by have := A.out; unfold Aside; omega, rfl⟩
                | succ p =>
                  have hyN : y < N' x := by have := B.out; omega
                  have hylt : (y : Int) < ((N' x : Nat) : Int) := by omega
                  have hy0 : ¬ (y : Int) < 0 := by omega
                  have ey : wrap64 ((y : Int) + 1) = ((y + 1 : Nat) : Int) := by have := HQ.out.2.2; unfold wrap64; omega
                  obtain ⟨g, rfl⟩ := HQ.out.2.1 (by omega)
                  have hc : wr.cell? ⟨g, y, none⟩ = some (.int .u8 (201 + (x : Int))) := by
                    have hr := S3.out.four.row x hx4
                    rw [HQ.out.1] at hr
                    rw [hr.cellAt y (by omega), S3.out.cell x hx4 y hyN]
                    rfl
                  go_wp2
                  go_roundg p
                  case measure => omega
                  case rel => exact ⟨y + 1, by first | rfl | (rw [ey]), by have := B.out; unfold Aside; omega, rfl⟩
        | succ q =>
          have hx4 : x < 4 := by have := A.out.1; omega
          have hlt : (x : Int) < 4 := by omega
          have hx0 : ¬ (x : Int) < 0 := by omega
          have e1 : wrap64 ((x : Int) + 1) = ((x + 1 : Nat) : Int) := by unfold wrap64; omega
          obtain ⟨V', N', xs', cg, h3⟩ := A.out.2
          obtain ⟨a, qq, hv, -⟩ := own_slice9 (h3.four.row x hx4)
          have hl : wr.cell? ⟨lb, x, none⟩ = some (.slice a (N' x) qq) := by rw [h3.hl.cell x, h3.old x (Nat.le_refl _) hx4, hv]
          have R : Aside (x + 1 + q = 4 ∧ STB w2 B9 lb gb c0 x wr V' N' xs' cg ∧ V' x = .slice a (N' x) qq ∧ wr.ownsRow B9 5 1 (.slice a (N' x) qq) (N' x) (xs' x) ∧ N' x ≤ 200 ∧ B9 ≤ wr.heap.size) := ⟨by have := A.out.1; omega, h3, hv, by rw [← hv]; exact h3.four.row x hx4, h3.few x (Nat.le_refl _) hx4, Nat.le_trans h3.hB h3.bel.size⟩
          clear A h3 hv
          go_wp2_with (first | (at_builtin; refine app_more9 _ rfl (.tmp 123) (.tmp 127) rfl B9 (.slice a (N' x) qq) (N' x) (xs' x) rfl (R.out.2.2.2.1.alloc _) wr.heap.size 1 (201 + (x : Int)) rfl (by rw [World.cell?_alloc_at _ _ _ _ rfl]; rfl) (by have := R.out.2.2.2.2.1; omega) (by have := R.out.2.2.2.2.2; simp; omega) ?_; intro g1 q1 w5 hown1 hgrow1 hg1 hlt1) | (at_builtin; refine app_more9 _ rfl (.tmp 128) (.tmp 132) rfl B9 (.slice (some ⟨g1, 0, none⟩) (N' x + 1) q1) (N' x + 1) _ rfl (hown1.alloc _) w5.heap.size 1 (201 + (x : Int)) rfl (by rw [World.cell?_alloc_at _ _ _ _ rfl]; rfl) (by have := R.out.2.2.2.2.1; omega) (by have := R.out.2.2.2.2.2; have := hgrow1.size; simp at this ⊢; omega) ?_; intro g2 q2 w6 hown2 hgrow2 hg2 hlt2; have T : Aside (Has w6 gb cg 62 ∧ ∃ V'' N'' xs'', STB w2 B9 lb gb c0 (x + 1) (w6.setCell ⟨gb, x, none⟩ (.slice (some ⟨g2, 0, none⟩) (N' x + 1 + 1) q2)) V'' N'' xs'' (cg.setIfInBounds x (.slice (some ⟨g2, 0, none⟩) (N' x + 1 + 1) q2))) := STB.step R.out.2.1 hx4 _ _ hown1 (by rw [R.out.2.2.1]; exact hgrow1) (by rw [R.out.2.2.1]; exact hg1) hown2 hgrow2 hg2; obtain ⟨u, hu⟩ : ∃ u, cg[x]? = some u := ⟨_, Array.getElem?_eq_getElem (by rw [R.out.2.1.size]; exact hx4)⟩; have y0 : w6.cell? ⟨gb, x, none⟩ = some u := (T.out.1.cell x).trans hu; have z0 : w6.frozen? ⟨gb, x, none⟩ = false := T.out.1.frozen x; clear hown1 hgrow1 hg1 hlt1 hown2 hgrow2 hg2 hlt2 hu))
          go_roundg q
          case measure => omega
          case rel =>
            obtain ⟨V'', N'', xs'', h4⟩ := T.out.2
            exact ⟨x + 1, by first | rfl | (rw [e1]), R.out.1, _, _, _, _, h4⟩
    | succ q =>
      have hx4 : x < 4 := by have := A.out.1; omega
      have hlt : (x : Int) < 4 := by omega
      have hx0 : ¬ (x : Int) < 0 := by omega
      have e1 : wrap64 ((x : Int) + 1) = ((x + 1 : Nat) : Int) := by unfold wrap64; omega
      have e2 : wrap64 (201 + (x : Int)) = ((201 + x : Nat) : Int) := by unfold wrap64; omega
      have e3 : IntKind.u8.wrap ((201 + x : Nat) : Int) = ((201 + x : Nat) : Int) := u8_mark hx4
      obtain ⟨a, qq, hv, hpos⟩ : ∃ a cap, V x = .slice a (N x) cap ∧ (0 < N x → ∃ g, a = some ⟨g, 0, none⟩) := by
        obtain ⟨xs, h1, _⟩ := A.out.2
        obtain ⟨a, cap, h2, h3⟩ := own_slice9 (h1.row x hx4)
        exact ⟨a, cap, h2, fun h => by obtain ⟨g, h4, _⟩ := h3 h; exact ⟨g, h4⟩⟩
      generalize hwo : wr = wo at *
      clear hwo
      go_wp2
      go_loopg [16] (N x) (fun p s16 wx => ∃ y : Nat, s16 = .int .i64 (y : Int) ∧ Aside (y + p = N x ∧ STA w2 B9 lb gb c0 cg0 V N x y wx))
      case atStart => exact ⟨0, rfl, by omega, A.out.2⟩
      case round =>
        obtain ⟨y, rfl, B⟩ := hrel
        have hl : wr.cell? ⟨lb, x, none⟩ = some (.slice a (N x) qq) := by
          obtain ⟨xs, _, h2, _⟩ := B.out.2
          rw [h2.1.cell x, hN.out.1 x hx4, hv]
        have hlz : (x : Int).toNat = x := by omega
        cases gk with
        | zero =>
          obtain rfl : y = N x := by have := B.out.1; omega
          have hylt : ¬ ((N x : Nat) : Int) < ((N x : Nat) : Int) := by omega
          go_wp2
          go_roundg q
          case measure => omega
          case rel => exact ⟨x + 1, by first | rfl | (rw [e1]), by have := A.out.1; omega, B.out.2.next⟩
        | succ p =>
          have hyN : y < N x := by have := B.out.1; omega
          have hylt : (y : Int) < ((N x : Nat) : Int) := by omega
          have hy0 : ¬ (y : Int) < 0 := by omega
          have ey : wrap64 ((y : Int) + 1) = ((y + 1 : Nat) : Int) := by have := hN.out.2 x hx4; unfold wrap64; omega
          obtain ⟨g, rfl⟩ := hpos (by omega)
          obtain ⟨u, hu, hf⟩ : ∃ u, wr.cell? ⟨g, y, none⟩ = some u ∧ wr.frozen? ⟨g, y, none⟩ = false := by
            obtain ⟨xs, h1, _⟩ := B.out.2
            have hr := h1.row x hx4
            rw [hv] at hr
            have hlen : y < (xs x).length := by have := hr.1; omega
            exact ⟨_, (hr.cellAt y (by omega)).trans (List.getElem?_eq_getElem hlen), hr.frozenAt y⟩
          go_wp2
          go_roundg p
          case measure => omega
          case rel =>
            exact ⟨y + 1, by first | rfl | (rw [ey]), by have := B.out.1; omega, B.out.2.store hx4 hyN hv⟩
end Go.Proofs.YtbmjoiiagldklaaDoor

/- Hashes of one's own with a mark behind them; are they as they were? Two texts that clash. -/
namespace Go.Proofs.YtbmjoiiagldklaaDoor
open Go.RowKit
set_option maxRecDepth 100000

theorem load_mid_if9 {ops : Array Oper} {rest : List Oper} {o : Oper} {a : Act} {w : World} {Q : Exit → Act → World → Prop} (hw : Region.wanted o (yielded ops a.tmps) = true) (ty : TypeId) (x : Operand) (ho : o.op = .load ty x)
    (b off : Nat) (hx : a.eval x = .pointer (some ⟨b, off, none⟩)) (cs : List Value) (d : TypeDesc) (hc : w.rangeAt b off cs) (hu : Tryd.prog.underlying ty = some d) (hd : d.isRow = true) (hi : (Tryd.prog.info? ty).map (·.size) = some cs.length)
    (h : wpList Tryd.prog ops Q rest (a.put o.dst (.agg cs.toArray)) w) : wpList Tryd.prog ops Q (o :: rest) a w := by
  simp only [wpList]
  rw [if_pos hw]
  exact .inl (wp_load_mid ty x ho b off hx cs d hc hu hd hi h)
theorem plain_if9 {ops : Array Oper} {rest : List Oper} {o : Oper} {a : Act} {w w' : World} {Q : Exit → Act → World → Prop} {v : Value} (hw : Region.wanted o (yielded ops a.tmps) = true) (hrun : (execOp a.eval o).run Tryd.prog w = .ok (.value v) w') (h : wpList Tryd.prog ops Q rest (a.put o.dst v) w') : wpList Tryd.prog ops Q (o :: rest) a w := by
  simp only [wpList]
  rw [if_pos hw]
  refine .inl ?_
  unfold Oper.wp
  rw [hrun]
  exact h
set_option maxHeartbeats 1000000 in
theorem row9_ok (a : Option Addr) (n c : Nat) (hn : n ≤ 1000) (hc : a = none → c = 0) (l : List Int) (w : World) (hF : Flat w a n l) : Calls Tryd.prog 5 #[.slice a n c] w (ROWED w n l) := by
  have HA : Aside (n ≤ 1000 ∧ (a = none → c = 0) ∧ Flat w a n l) := ⟨hn, hc, hF⟩
  clear hn hc hF
  go_enter Tryd.func5, Tryd.ntmps5
  go_wp2_with (first
    | (at_builtin; refine app_hashes _ rfl (.tmp 3) (.tmp 4) rfl w.heap.size (.slice (some ⟨w.heap.size, 0, none⟩) 0 0) 0 [] rfl (own_empty32 w) a n c l rfl (HA.out.2.2.below ((Below.refl _ _).alloc (Nat.le_refl _) _)) HA.out.2.1 (by have := HA.out.1; omega) (by simp) ?_; rw [Nat.zero_add, List.nil_append]; intro a1 c1 w1 hown1 hgrow1
       have R1 : Aside (w1.ownsRow w.heap.size 26 32 (.slice a1 n c1) n (CELLS l) ∧ Below w.heap.size w w1) := ⟨hown1, ((Below.refl _ w).alloc (Nat.le_refl _) _).grown hgrow1 (by simp) (fun k e => by cases e; exact Nat.le_refl _)⟩
       clear hown1 hgrow1)
    | (rw [← MRK_arr]; refine build_one _ rfl 23 26 (.tmp 6) rfl (CELLS MRK).toArray rfl 32 _ _ Tryd.underlying23 info_hashv (by rfl) rfl (by decide) (by decide) ?_)
    | (at_builtin; refine app_hash _ rfl (.tmp 5) (.tmp 7) rfl w.heap.size (.slice a1 n c1) n (CELLS l) rfl (R1.out.1.alloc _) w1.heap.size 1 MRK rfl rfl (Has.new _ _ _) (by have := HA.out.1; omega) (by have := R1.out.2.size; simp; omega) ?_; intro g2 c2 w2 hown2 hgrow2 hat2 hg2
       obtain ⟨f1, f2, f3, f4⟩ := own_front32 hown2 HA.out.2.2.1 rfl
       have hcap : (n : Int) ≤ (c2 : Int) := by omega
       have R2 : Aside (w2.ownsRow w.heap.size 26 32 (.slice (some ⟨g2, 0, none⟩) n c2) n (CELLS l) ∧ n + 1 ≤ c2 ∧ w2.rangeAt g2 (n * 32) (CELLS MRK) ∧ g2 < w2.heap.size ∧ Below w.heap.size w w2) := ⟨f1, f2, f3, f4, (R1.out.2.alloc R1.out.2.size _).grown hgrow2 (by have := R1.out.2.size; simp; omega) (fun k e => (R1.out.1.lt k e).1)⟩
       clear hown2 hgrow2 hat2 hg2 f1 f2 f3 f4))
  go_ret
  exact ⟨_, _, rfl, R2.out⟩
set_option maxHeartbeats 1000000 in
theorem kept9h_ok (g n cap : Nat) (y : Option Addr) (cy : Nat) (l : List Int) (hn : n ≤ 1000) (hc : n + 1 ≤ cap) (w : World) (hA : Flat w (some ⟨g, 0, none⟩) n l) (hB : Flat w y n l) (hg : g < w.heap.size) (hm : w.rangeAt g (n * 32) (CELLS MRK)) :
    Calls Tryd.prog 10 #[.slice (some ⟨g, 0, none⟩) n cap, .slice y n cy] w fun e w' => e = .returned (.bool true) ∧ Below w.heap.size w w' := by
  have cs := samehashes_ok (some ⟨g, 0, none⟩) y n n cap cy l l w hA hB (by omega)
  rw [decide_eq_true rfl] at cs
  have e1 : wrap64 ((n : Int) + 1) = ((n + 1 : Nat) : Int) := by unfold wrap64; omega
  have k0 : ((n + 1 : Nat) : Int) ≤ (cap : Int) := by omega
  have k1 : (n : Int) + 1 ≤ (cap : Int) := by omega
  have k2 : (n : Int) < (n : Int) + 1 := by omega
  have HM : Aside (g < w.heap.size ∧ w.rangeAt g (n * 32) (CELLS MRK)) := ⟨hg, hm⟩
  have hnq : ∀ x y (W : World), (do eqGuard .eql 26 x y (.agg (CELLS MRK).toArray) (.agg (CELLS MRK).toArray); binOp .eql 26 (.agg (CELLS MRK).toArray) (.agg (CELLS MRK).toArray) : Sem Value).run Tryd.prog W = .ok (.bool true) W := fun x y W => by
    have := eql_hashes (h := MRK) (g := MRK) rfl rfl x y W
    rw [this]
    simp
  clear hn hA hB hg hm
  go_enter Tryd.func10, Tryd.ntmps10
  go_wp2_with fail
  refine cs.mono ?_
  rintro e w1 ⟨rfl, hb1⟩
  have hr1 : w1.rangeAt g (n * 32) (CELLS MRK) := range_below HM.out.2 hb1 HM.out.1
  have FN : Aside (Below w.heap.size w w1) := hb1
  clear cs hb1 HM
  go_wp2_with (first
    | (refine load_mid_if9 (by rfl) 26 (.tmp 16) rfl g (n * 32) rfl (CELLS MRK) _ hr1 Tryd.underlying26 rfl (info_cells rfl) ?_)
    | (rw [← MRK_arr]; refine plain_if9 (by rfl) (run_value9 (hnq _ _ _)) ?_))
  go_ret
  exact ⟨rfl, FN.out⟩
theorem HOLDS_of {d : Int} {s t : List Nat} (hne : s ≠ t) (he : HSHT d s = HSHT d t) : HX.HOLDS d s t = true := by
  rw [HX.HOLDS_ne d hne, List.all_eq_true]
  intro i hi
  have hi : i < 32 := List.mem_range.1 hi
  have e : (HSHT d s)[i]? = (HSHT d t)[i]? := by rw [he]
  simp only [HSHT, LST, List.getElem?_map, List.getElem?_range hi, Option.map_some, Option.some.injEq] at e
  exact beq_iff_eq.2 (by omega)
end Go.Proofs.YtbmjoiiagldklaaDoor
