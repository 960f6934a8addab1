/- The walk of ProofPlaces. -/
import Derived.Test.YtddmfpiflnjmjaaDoorProofLists
namespace Go.Proofs.YtddmfpiflnjmjaaDoor
open Go.RowKit
set_option maxRecDepth 100000

/-- one of the four is another one: no block is shared, nothing else has changed. -/
theorem Four.turn {w w' : World} {B : Nat} {K : Nat → Prop} {v : Nat → Value} {n : Nat → Nat} {xs : Nat → List Value} (h : Four w B K v n xs) {x g m c : Nat} {ys : List Value} (hx : x < 4) (hK : ∀ k, K k → k < w.heap.size)
    (hown : w'.ownsRow B 22 1 (.slice (some ⟨g, 0, none⟩) m c) m ys) (hgrow : w.grownBy w' (v x).ownBlock) (hg : (v x).ownBlock = some g ∨ w.heap.size ≤ g) :
    Four w' B K (UPD v x (.slice (some ⟨g, 0, none⟩) m c)) (UPD n x m) (UPD xs x ys) := by
  refine ⟨fun z hz => ?_, fun y z hy hz hne k hk => ?_, fun z hz k hk => ?_⟩
  · by_cases e : z = x
    · subst e
      rw [UPD_at, UPD_at, UPD_at]
      exact hown
    · rw [UPD_other v _ e, UPD_other n _ e, UPD_other xs _ e]
      refine (h.row z hz).kept hgrow ?_
      cases hb : (v z).ownBlock with
      | none => exact .inl rfl
      | some k => exact .inr fun e2 => h.apart z x hz hx e k hb e2.symm
  · by_cases ey : y = x
    · subst ey
      rw [UPD_at] at hk
      have hkg : g = k := by simpa [Value.ownBlock] using hk
      subst hkg
      rw [UPD_other v _ (fun e => hne e.symm)]
      intro e2
      rcases hg with hg | hg
      · exact h.apart y z hx hz hne g hg e2
      · have := ((h.row z hz).lt g e2).2
        omega
    · rw [UPD_other v _ ey] at hk
      by_cases ez : z = x
      · subst ez
        rw [UPD_at]
        intro e2
        have hkg : g = k := by simpa [Value.ownBlock] using e2
        subst hkg
        rcases hg with hg | hg
        · exact h.apart y z hy hz hne g hk hg
        · have := ((h.row y hy).lt g hk).2
          omega
      · rw [UPD_other v _ ez]
        exact h.apart y z hy hz hne k hk
  · by_cases ez : z = x
    · subst ez
      rw [UPD_at] at hk
      have hkg : g = k := by simpa [Value.ownBlock] using hk
      subst hkg
      rcases hg with hg | hg
      · exact h.off z hz g hg
      · intro hkk
        have := hK g hkk
        omega
    · rw [UPD_other v _ ez] at hk
      exact h.off z hz k hk
/-- the lists that the calls brought, each behind the one before. -/
structure Came7 (w2 : World) (s3 s4 s5 s6 : Nat) (v8 v9 v10 v12 : Value) (P W : List Nat) (wx : World) : Prop where
  bel : Below w2.heap.size w2 wx
  r8 : wx.ownsRow w2.heap.size 22 1 v8 P.length (UCELLS P)
  r9 : wx.ownsRow s3 22 1 v9 P.length (UCELLS P)
  r10 : wx.ownsRow s4 22 1 v10 W.length (UCELLS W)
  r12 : wx.ownsRow s5 22 1 v12 W.length (UCELLS W)
  l8 : ∀ k, v8.ownBlock = some k → k < s3
  l9 : ∀ k, v9.ownBlock = some k → k < s4
  l10 : ∀ k, v10.ownBlock = some k → k < s5
  l12 : ∀ k, v12.ownBlock = some k → k < s6
  o3 : w2.heap.size ≤ s3
  o4 : s3 ≤ s4
  o5 : s4 ≤ s5
  o6 : s5 ≤ s6
  top : s6 ≤ wx.heap.size
theorem Came7.keep {w2 wx wy : World} {s3 s4 s5 s6 : Nat} {v8 v9 v10 v12 : Value} {P W : List Nat} (h : Came7 w2 s3 s4 s5 s6 v8 v9 v10 v12 P W wx) (hb : Below wx.heap.size wx wy) : Came7 w2 s3 s4 s5 s6 v8 v9 v10 v12 P W wy :=
  ⟨h.bel.trans (hb.mono h.bel.size), own_below h.r8 hb, own_below h.r9 hb, own_below h.r10 hb, own_below h.r12 hb, h.l8, h.l9, h.l10, h.l12, h.o3, h.o4, h.o5, h.o6, Nat.le_trans h.top hb.size⟩
theorem Came7.make {w2 w3 w4 w5 w6 : World} {v8 v9 v10 v12 : Value} {P W : List Nat} (b3 : Below w2.heap.size w2 w3) (r8 : w3.ownsRow w2.heap.size 22 1 v8 P.length (UCELLS P)) (b4 : Below w3.heap.size w3 w4) (r9 : w4.ownsRow w3.heap.size 22 1 v9 P.length (UCELLS P))
    (b5 : Below w4.heap.size w4 w5) (r10 : w5.ownsRow w4.heap.size 22 1 v10 W.length (UCELLS W)) (b6 : Below w5.heap.size w5 w6) (r12 : w6.ownsRow w5.heap.size 22 1 v12 W.length (UCELLS W)) : Came7 w2 w3.heap.size w4.heap.size w5.heap.size w6.heap.size v8 v9 v10 v12 P W w6 := by
  have b46 := b5.trans (b6.mono b5.size)
  have b36 := b4.trans (b46.mono b4.size)
  exact ⟨b3.trans (b36.mono b3.size), own_below r8 b36, own_below r9 b46, own_below r10 b6, r12, fun k hk => (r8.lt k hk).2, fun k hk => (r9.lt k hk).2, fun k hk => (r10.lt k hk).2, fun k hk => (r12.lt k hk).2, b3.size, b4.size, b5.size, b6.size, Nat.le_refl _⟩
theorem own_marks {w : World} {B g n c m : Nat} (h : w.ownsRow B 22 1 (.slice (some ⟨g, 0, none⟩) n c) n (List.replicate n (.int .u64 (m : Int)))) : ∀ j, j < n → w.cell? ⟨g, j, none⟩ = some (.int .u64 (m : Int)) := fun j hj => by
  rw [h.cellAt j (by omega), List.getElem?_replicate, if_pos hj]
set_option maxHeartbeats 4000000 in
theorem places_core (i m n : Int) (P W : List Nat) (e1 e2 : Int) (w : World) (hP : P.length ≤ 188) (hW : W.length ≤ 188)
    (c1 : ∀ w, Calls Tryd.prog 8 #[.int .u64 i, .int .u64 n] w fun e w' => ∃ v, e = .returned (.tuple #[v, .int .i64 e1]) ∧ w'.ownsRow w.heap.size 22 1 v P.length (UCELLS P) ∧ Below w.heap.size w w')
    (c2 : ∀ w, Calls Tryd.prog 9 #[.int .u64 m, .int .u64 n] w fun e w' => ∃ v, e = .returned (.tuple #[v, .int .i64 e2]) ∧ w'.ownsRow w.heap.size 22 1 v W.length (UCELLS W) ∧ Below w.heap.size w w')
    (c3 : ∀ W0, Below w.heap.size w W0 → Calls Tryd.prog 10 #[.int .u64 i, .int .u64 n] W0 fun e w' => ∃ v, e = .returned (.tuple #[v, .int .i64 e1]) ∧ w'.ownsRow W0.heap.size 22 1 v P.length (UCELLS P) ∧ Below W0.heap.size W0 w')
    (c4 : ∀ W0, Below w.heap.size w W0 → Calls Tryd.prog 11 #[.int .u64 m, .int .u64 n] W0 fun e w' => ∃ v, e = .returned (.tuple #[v, .int .i64 e2]) ∧ w'.ownsRow W0.heap.size 22 1 v W.length (UCELLS W) ∧ Below W0.heap.size W0 w')
    (ca : ∀ W0, Below w.heap.size w W0 → Calls Tryd.prog 15 #[] W0 fun e w' => e = .returned (.bool true) ∧ Below W0.heap.size W0 w') :
    Calls Tryd.prog 3 #[.int .u64 i, .int .u64 m, .int .u64 n] w fun e w' => e = .returned (.bool true) ∧ Below w.heap.size w w' := by
  have CA : Aside (∀ W0, Below w.heap.size w W0 → Calls Tryd.prog 15 #[] W0 fun e w' => e = .returned (.bool true) ∧ Below W0.heap.size W0 w') := ca
  have C3 : Aside (∀ W0, Below w.heap.size w W0 → Calls Tryd.prog 10 #[.int .u64 i, .int .u64 n] W0 fun e w' => ∃ v, e = .returned (.tuple #[v, .int .i64 e1]) ∧ w'.ownsRow W0.heap.size 22 1 v P.length (UCELLS P) ∧ Below W0.heap.size W0 w') := c3
  have C4 : Aside (∀ W0, Below w.heap.size w W0 → Calls Tryd.prog 11 #[.int .u64 m, .int .u64 n] W0 fun e w' => ∃ v, e = .returned (.tuple #[v, .int .i64 e2]) ∧ w'.ownsRow W0.heap.size 22 1 v W.length (UCELLS W) ∧ Below W0.heap.size W0 w') := c4
  have HL : Aside (P.length ≤ 188 ∧ W.length ≤ 188) := ⟨hP, hW⟩
  clear ca c3 c4 hP hW
  go_enter Tryd.func3, Tryd.ntmps3
  go_wp2_with fail
  refine (c1 _).mono ?_
  rintro e w1 ⟨v5, rfl, hr, hb⟩
  have R : Aside (Below w.heap.size w w1 ∧ Nums w1 v5 P) := ⟨hb, nums_own hr⟩
  clear c1 hr hb
  go_wp2_with fail
  refine (c2 _).mono ?_
  rintro e w2 ⟨v6, rfl, hr, hb⟩
  have R0 : Aside (Below w.heap.size w w2 ∧ Nums w2 v5 P ∧ Nums w2 v6 W) := ⟨R.out.1.trans (hb.mono R.out.1.size), R.out.2.below hb (Nat.le_refl _), nums_own hr⟩
  clear c2 hr hb R
  go_wp2_with fail
  refine (C3.out _ R0.out.1).mono ?_
  rintro e w3 ⟨v8, rfl, hr, hb⟩
  have R1 : Aside (Below w2.heap.size w2 w3 ∧ w3.ownsRow w2.heap.size 22 1 v8 P.length (UCELLS P)) := ⟨hb, hr⟩
  clear hr hb
  go_wp2_with fail
  refine (C3.out _ (R0.out.1.trans (R1.out.1.mono R0.out.1.size))).mono ?_
  rintro e w4 ⟨v9, rfl, hr, hb⟩
  have R2 : Aside (Below w3.heap.size w3 w4 ∧ w4.ownsRow w3.heap.size 22 1 v9 P.length (UCELLS P) ∧ Below w2.heap.size w2 w4) := ⟨hb, hr, R1.out.1.trans (hb.mono R1.out.1.size)⟩
  clear hr hb
  go_wp2_with fail
  refine (C4.out _ (R0.out.1.trans (R2.out.2.2.mono R0.out.1.size))).mono ?_
  rintro e w5 ⟨v10, rfl, hr, hb⟩
  have R3 : Aside (Below w4.heap.size w4 w5 ∧ w5.ownsRow w4.heap.size 22 1 v10 W.length (UCELLS W) ∧ Below w2.heap.size w2 w5) := ⟨hb, hr, R2.out.2.2.trans (hb.mono R2.out.2.2.size)⟩
  clear hr hb
  go_wp2_with fail
  refine (C4.out _ (R0.out.1.trans (R3.out.2.2.mono R0.out.1.size))).mono ?_
  rintro e w6 ⟨v12, rfl, hr, hb⟩
  have M : Aside (Came7 w2 w3.heap.size w4.heap.size w5.heap.size w6.heap.size v8 v9 v10 v12 P W w6) := Came7.make R1.out.1 R1.out.2 R2.out.1 R2.out.2.1 R3.out.1 R3.out.2.1 hb hr
  clear hr hb R1 R2 R3
  generalize w3.heap.size = s3 at *
  generalize w4.heap.size = s4 at *
  generalize w5.heap.size = s5 at *
  generalize w6.heap.size = s6 at *
  go_wp2_with fail
  refine (samenumbers_ok v8 v5 P _ (by have := HL.out.1; omega) (nums_own M.out.r8) (R0.out.2.1.below M.out.bel (Nat.le_refl _))).mono ?_
  rintro e w8 ⟨rfl, hb⟩
  replace M : Aside (Came7 w2 s3 s4 s5 s6 v8 v9 v10 v12 P W w8) := M.out.keep hb
  clear hb
  go_wp2_with fail
  refine (samenumbers_ok v9 v5 P _ (by have := HL.out.1; omega) (nums_own M.out.r9) (R0.out.2.1.below M.out.bel (Nat.le_refl _))).mono ?_
  rintro e w9 ⟨rfl, hb⟩
  replace M : Aside (Came7 w2 s3 s4 s5 s6 v8 v9 v10 v12 P W w9) := M.out.keep hb
  clear hb
  go_wp2_with fail
  refine (samenumbers_ok v10 v6 W _ (by have := HL.out.2; omega) (nums_own M.out.r10) (R0.out.2.2.below M.out.bel (Nat.le_refl _))).mono ?_
  rintro e w10 ⟨rfl, hb⟩
  replace M : Aside (Came7 w2 s3 s4 s5 s6 v8 v9 v10 v12 P W w10) := M.out.keep hb
  clear hb
  go_wp2_with fail
  refine (samenumbers_ok v12 v6 W _ (by have := HL.out.2; omega) (nums_own M.out.r12) (R0.out.2.2.below M.out.bel (Nat.le_refl _))).mono ?_
  rintro e w11 ⟨rfl, hb⟩
  replace M : Aside (Came7 w2 s3 s4 s5 s6 v8 v9 v10 v12 P W w11) := M.out.keep hb
  clear hb
  obtain ⟨V, N, XS, FO, hv0, hv1, hv2, hv3⟩ : ∃ (V : Nat → Value) (N : Nat → Nat) (XS : Nat → List Value), Aside (Four w11 w2.heap.size (fun _ => False) V N XS ∧ Below w2.heap.size w2 w11 ∧ (∀ x, x < 4 → N x ≤ 188)) ∧ v8 = V 0 ∧ v9 = V 1 ∧ v10 = V 2 ∧ v12 = V 3 := by
    obtain ⟨V, N, XS, h1, h2, h3, h4, h5, h6⟩ := Four.of (K := fun _ => False) (b4 := s6) M.out.r8 M.out.r9 M.out.r10 M.out.r12 M.out.l8 M.out.l9 M.out.l10 M.out.l12 M.out.o3 M.out.o4 M.out.o5 M.out.o6 (fun _ h => h.elim)
    refine ⟨V, N, XS, ⟨h1, M.out.bel, fun x hx => ?_⟩, h2.symm, h3.symm, h4.symm, h5.symm⟩
    have := HL.out
    rcases h6 x hx with h | h <;> omega
  subst hv0 hv1 hv2 hv3
  clear M
  go_wp2_with fail
  refine (numbers_ok w2.heap.size (V 0) (N 0) (XS 0) 201 (by have := FO.out.2.2 0 (by decide); omega) _ FO.out.2.1.size (FO.out.1.row 0 (by decide))).mono ?_
  rintro e w12 ⟨g0, q0, rfl, hown, hgrow, hat⟩
  have F1 : Aside (Four w12 w2.heap.size (fun _ => False) (UPD V 0 (.slice (some ⟨g0, 0, none⟩) (N 0 + 1 + 1) q0)) (UPD N 0 (N 0 + 1 + 1)) (UPD XS 0 (List.replicate (N 0 + 1 + 1) (.int .u64 (201 : Int)))) ∧ Below w2.heap.size w2 w12 ∧ (∀ x, x < 4 → N x ≤ 188)) :=
    ⟨FO.out.1.turn (by decide) (fun _ h => h.elim) hown hgrow hat, FO.out.2.1.grown hgrow FO.out.2.1.size (fun k e => ((FO.out.1.row 0 (by decide)).lt k e).1), FO.out.2.2⟩
  clear hown hgrow hat FO
  go_wp2_with fail
  refine (numbers_ok w2.heap.size (V 1) (N 1) (XS 1) 202 (by have := F1.out.2.2 1 (by decide); omega) _ F1.out.2.1.size (by simpa [UPD] using F1.out.1.row 1 (by decide))).mono ?_
  rintro e w13 ⟨g1, q1, rfl, hown, hgrow, hat⟩
  have F2 : Aside (Four w13 w2.heap.size (fun _ => False) (UPD (UPD V 0 (.slice (some ⟨g0, 0, none⟩) (N 0 + 1 + 1) q0)) 1 (.slice (some ⟨g1, 0, none⟩) (N 1 + 1 + 1) q1)) (UPD (UPD N 0 (N 0 + 1 + 1)) 1 (N 1 + 1 + 1)) (UPD (UPD XS 0 (List.replicate (N 0 + 1 + 1) (.int .u64 (201 : Int)))) 1 (List.replicate (N 1 + 1 + 1) (.int .u64 (202 : Int)))) ∧ Below w2.heap.size w2 w13 ∧ (∀ x, x < 4 → N x ≤ 188)) :=
    ⟨F1.out.1.turn (by decide) (fun _ h => h.elim) hown (by simpa [UPD] using hgrow) (by simpa [UPD] using hat), F1.out.2.1.grown hgrow F1.out.2.1.size (fun k e => ((F1.out.1.row 1 (by decide)).lt k (by simpa [UPD] using e)).1), F1.out.2.2⟩
  clear hown hgrow hat F1
  go_wp2_with fail
  refine (numbers_ok w2.heap.size (V 2) (N 2) (XS 2) 203 (by have := F2.out.2.2 2 (by decide); omega) _ F2.out.2.1.size (by simpa [UPD] using F2.out.1.row 2 (by decide))).mono ?_
  rintro e w14 ⟨g2, q2, rfl, hown, hgrow, hat⟩
  have F3 : Aside (Four w14 w2.heap.size (fun _ => False) (UPD (UPD (UPD V 0 (.slice (some ⟨g0, 0, none⟩) (N 0 + 1 + 1) q0)) 1 (.slice (some ⟨g1, 0, none⟩) (N 1 + 1 + 1) q1)) 2 (.slice (some ⟨g2, 0, none⟩) (N 2 + 1 + 1) q2)) (UPD (UPD (UPD N 0 (N 0 + 1 + 1)) 1 (N 1 + 1 + 1)) 2 (N 2 + 1 + 1)) (UPD (UPD (UPD XS 0 (List.replicate (N 0 + 1 + 1) (.int .u64 (201 : Int)))) 1 (List.replicate (N 1 + 1 + 1) (.int .u64 (202 : Int)))) 2 (List.replicate (N 2 + 1 + 1) (.int .u64 (203 : Int)))) ∧ Below w2.heap.size w2 w14 ∧ (∀ x, x < 4 → N x ≤ 188)) :=
    ⟨F2.out.1.turn (by decide) (fun _ h => h.elim) hown (by simpa [UPD] using hgrow) (by simpa [UPD] using hat), F2.out.2.1.grown hgrow F2.out.2.1.size (fun k e => ((F2.out.1.row 2 (by decide)).lt k (by simpa [UPD] using e)).1), F2.out.2.2⟩
  clear hown hgrow hat F2
  go_wp2_with fail
  refine (numbers_ok w2.heap.size (V 3) (N 3) (XS 3) 204 (by have := F3.out.2.2 3 (by decide); omega) _ F3.out.2.1.size (by simpa [UPD] using F3.out.1.row 3 (by decide))).mono ?_
  rintro e w15 ⟨g3, q3, rfl, hown, hgrow, hat⟩
  have hb15 : Below w2.heap.size w2 w15 := F3.out.2.1.grown hgrow F3.out.2.1.size (fun k e => ((F3.out.1.row 3 (by decide)).lt k (by simpa [UPD] using e)).1)
  have F4 := F3.out.1.turn (x := 3) (by decide) (fun _ h => h.elim) hown (by simpa [UPD] using hgrow) (by simpa [UPD] using hat)
  have H : Aside ((∀ j, j < N 0 + 1 + 1 → w15.cell? ⟨g0, j, none⟩ = some (.int .u64 ((201 : Nat) : Int))) ∧ (∀ j, j < N 1 + 1 + 1 → w15.cell? ⟨g1, j, none⟩ = some (.int .u64 ((202 : Nat) : Int))) ∧ (∀ j, j < N 2 + 1 + 1 → w15.cell? ⟨g2, j, none⟩ = some (.int .u64 ((203 : Nat) : Int))) ∧ (∀ j, j < N 3 + 1 + 1 → w15.cell? ⟨g3, j, none⟩ = some (.int .u64 ((204 : Nat) : Int))) ∧ Below w2.heap.size w2 w15 ∧ (∀ x, x < 4 → N x ≤ 188)) :=
    ⟨own_marks (m := 201) (by simpa [UPD] using F4.row 0 (by decide)), own_marks (m := 202) (by simpa [UPD] using F4.row 1 (by decide)), own_marks (m := 203) (by simpa [UPD] using F4.row 2 (by decide)), own_marks (m := 204) (by simpa [UPD] using F4.row 3 (by decide)), hb15, F3.out.2.2⟩
  clear hown hgrow hat F3 F4 hb15
  go_wp2_with fail
  refine (all_ok g0 _ q0 201 (by have := H.out.2.2.2.2.2 0 (by decide); omega) _ H.out.1).mono ?_
  rintro e w' ⟨rfl, rfl⟩
  go_wp2_with fail
  refine (all_ok g1 _ q1 202 (by have := H.out.2.2.2.2.2 1 (by decide); omega) _ H.out.2.1).mono ?_
  rintro e w' ⟨rfl, rfl⟩
  go_wp2_with fail
  refine (all_ok g2 _ q2 203 (by have := H.out.2.2.2.2.2 2 (by decide); omega) _ H.out.2.2.1).mono ?_
  rintro e w' ⟨rfl, rfl⟩
  go_wp2_with fail
  refine (all_ok g3 _ q3 204 (by have := H.out.2.2.2.2.2 3 (by decide); omega) _ H.out.2.2.2.1).mono ?_
  rintro e w' ⟨rfl, rfl⟩
  have RB : Aside (Below w2.heap.size w2 w15) := H.out.2.2.2.2.1
  clear H
  go_wp2_with fail
  refine (C3.out _ (R0.out.1.trans (RB.out.mono R0.out.1.size))).mono ?_
  rintro e w16 ⟨v, rfl, hr, hb⟩
  have R2 : Aside (Below w2.heap.size w2 w16 ∧ Nums w16 v P) := ⟨RB.out.trans (hb.mono RB.out.size), nums_own hr⟩
  clear hr hb RB C3
  go_wp2_with fail
  refine (C4.out _ (R0.out.1.trans (R2.out.1.mono R0.out.1.size))).mono ?_
  rintro e w17 ⟨v', rfl, hr, hb⟩
  have R3 : Aside (Below w2.heap.size w2 w17 ∧ Nums w17 v P ∧ Nums w17 v' W) := ⟨R2.out.1.trans (hb.mono R2.out.1.size), R2.out.2.below hb (Nat.le_refl _), nums_own hr⟩
  clear hr hb R2 C4
  go_wp2_with fail
  refine (samenumbers_ok v v5 P _ (by have := HL.out.1; omega) R3.out.2.1 (R0.out.2.1.below R3.out.1 (Nat.le_refl _))).mono ?_
  rintro e w18 ⟨rfl, hb⟩
  have R4 : Aside (Below w2.heap.size w2 w18 ∧ Nums w18 v' W) := ⟨R3.out.1.trans (hb.mono R3.out.1.size), R3.out.2.2.below hb (Nat.le_refl _)⟩
  clear hb R3
  go_wp2_with fail
  refine (samenumbers_ok v' v6 W _ (by have := HL.out.2; omega) R4.out.2 (R0.out.2.2.below R4.out.1 (Nat.le_refl _))).mono ?_
  rintro e w19 ⟨rfl, hb⟩
  have R5 : Aside (Below w.heap.size w w19) := R0.out.1.trans ((R4.out.1.trans (hb.mono R4.out.1.size)).mono R0.out.1.size)
  clear hb R4
  go_wp2_with fail
  refine (CA.out _ R5.out).mono ?_
  rintro e w20 ⟨rfl, hb⟩
  have R6 : Aside (Below w.heap.size w w20) := R5.out.trans (hb.mono R5.out.size)
  clear hb R5 CA
  go_wp2
  go_ret
  exact ⟨rfl, R6.out⟩
theorem proofPlaces_walk (a0 a1 a2 : Int) (w0 : (Lit.int .u64 a0).wf = true) (w1 : (Lit.int .u64 a1).wf = true) (w2 : (Lit.int .u64 a2).wf = true) (w : World) (hT : Tabled w) (h0 : 0 < w.heap.size) :
    Calls Tryd.prog 3 #[.int .u64 a0, .int .u64 a1, .int .u64 a2] w fun e w' => e = .returned (.bool true) ∧ Below w.heap.size w w' := by
  have b0 := wf_u64 w0
  have b1 := wf_u64 w1
  have b2 := wf_u64 w2
  obtain ⟨i, rfl⟩ : ∃ X : Nat, a0 = (X : Int) := ⟨a0.toNat, by omega⟩
  obtain ⟨m, rfl⟩ : ∃ X : Nat, a1 = (X : Int) := ⟨a1.toNat, by omega⟩
  obtain ⟨n, rfl⟩ : ∃ X : Nat, a2 = (X : Int) := ⟨a2.toNat, by omega⟩
  exact places_core i m n (PLA i n).2 (PPA m n).2 (PLA i n).1 (PPA m n).1 w (PLA_few i n) (PPA_few m n) (fun w => refpla_ok i n w) (fun w => refppa_ok m n w)
    (fun W h => pla_ok i n W (hT.below h0 h) (Nat.lt_of_lt_of_le h0 h.size)) (fun W h => ppa_ok m n W (hT.below h0 h) (Nat.lt_of_lt_of_le h0 h.size)) (fun W h => proofawake_ok W (hT.below h0 h) (Nat.lt_of_lt_of_le h0 h.size))
end Go.Proofs.YtddmfpiflnjmjaaDoor
