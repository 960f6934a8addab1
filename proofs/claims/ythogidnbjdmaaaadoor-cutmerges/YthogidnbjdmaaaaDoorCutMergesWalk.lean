/- The walk of CutMerges. -/
import Derived.Test.YthogidnbjdmaaaaDoorCutMergesPlain
namespace Go.Proofs.YthogidnbjdmaaaaDoor
open Go.RowKit
set_option maxRecDepth 100000

theorem own_block_lt {w : World} {base n : Nat} {v : Value} {xs : List Value} (h : w.ownsRow base 28 2 v n xs) {k : Nat} (hk : v.ownBlock = some k) : base ≤ k ∧ k < w.heap.size := h.lt k hk
/-- the list that was given, and nothing else. -/
def Giv (w : World) (g n c : Nat) (l : List (Nat × Nat)) (wx : World) : Prop := Below w.heap.size w wx ∧ wx.ownsRow w.heap.size 28 2 (.slice (some ⟨g, 0, none⟩) (n + 1) c) (n + 1) (SCELLS (l ++ [(171, 0)]))
theorem Giv.keep {w : World} {g n c : Nat} {l : List (Nat × Nat)} {wx wy : World} (h : Giv w g n c l wx) (hb : Below wx.heap.size wx wy) : Giv w g n c l wy := ⟨h.1.trans (hb.mono h.1.size), own_below h.2 hb⟩
theorem Giv.store {w : World} {g n c i h k k' : Nat} {l : List (Nat × Nat)} {wx : World} (hg : Giv w g n c l wx) (e : l[i]? = some (h, k)) : Giv w g n c (l.set i (h, k')) (wx.setCell ⟨g, i * 2 + 1, none⟩ (.int .u64 (k' : Int))) := by
  have hi := (List.getElem?_eq_some_iff.1 e).1
  refine ⟨hg.1.setCell (p := ⟨g, i * 2 + 1, none⟩) (hg.2.lt g rfl).1 _, ?_⟩
  have := (hg.2.stored (i * 2 + 1) (.int .u64 (k' : Int))).1
  rw [SCELLS_set (l := l ++ [(171, 0)]) (i := i) (h := h) (k := k) (by rw [List.getElem?_append_left hi]; exact e), List.set_append_left _ _ hi] at this
  exact this
theorem merges_long (a : Option Addr) (n c : Nat) (h : (400 : Int) < (n : Int)) (w : World) : Calls Tryd.prog 4 #[.slice a n c] w fun e w' => e = .returned (.bool true) ∧ Below w.heap.size w w' := by
  go_enter Tryd.func4, Tryd.ntmps4
  go_wp2
  go_ret
  exact ⟨rfl, Below.refl _ _⟩
set_option maxHeartbeats 4000000 in
theorem merges_core (a : Option Addr) (n c : Nat) (l : List (Nat × Nat)) (hl : l.length = n) (hn : n ≤ 400) (w : World) (hL : Lie w a l) (hc : a = none → c = 0) (h256 : ∀ x ∈ l, x.1 < 256 ∧ x.2 < 2 ^ 64) (hT : Tabled w) (h0 : 0 < w.heap.size) :
    Calls Tryd.prog 4 #[.slice a n c] w fun e w' => e = .returned (.bool true) ∧ Below w.heap.size w w' := by
  have hnn : ¬ (400 : Int) < (n : Int) := by omega
  obtain ⟨A, B, t, hO⟩ := overs l
  obtain ⟨P, q, hP, hM⟩ := merges l
  obtain ⟨P2, q2, hP2, hM2⟩ := merges (TX n l)
  have cr := row_ok a n c l hl w hL hc (by omega)
  have H : Aside (l.length = n ∧ n ≤ 400 ∧ Lie w a l ∧ (a = none → c = 0) ∧ (∀ x ∈ l, x.1 < 256) ∧ (∀ x ∈ l, x.2 < 2 ^ 64) ∧ Tabled w ∧ 0 < w.heap.size ∧ P.length ≤ 124 ∧ P2.length ≤ 124) := ⟨hl, hn, hL, hc, fun x hx => (h256 x hx).1, fun x hx => (h256 x hx).2, hT, h0, hP, hP2⟩
  have HO : Aside (∀ (n cap : Nat) (a : Option Addr) (w : World), l.length = n → n ≤ 1000 → Lie w a l →
    (Calls Tryd.prog 12 #[.slice a n cap] w fun e w' => e = .returned (.tuple #[.int .u64 (A : Int), .int .u64 (B : Int), .bool t]) ∧ Below w.heap.size w w') ∧
    ((∀ x ∈ l, x.1 < 256) → Calls Tryd.prog 13 #[.slice a n cap] w fun e w' => e = .returned (.tuple #[.int .u64 (A : Int), .int .u64 (B : Int), .bool t]) ∧ Below w.heap.size w w')) := hO
  have HM : Aside (∀ (n cap : Nat) (a : Option Addr) (w : World), l.length = n → n ≤ 1000 → Lie w a l →
    (Calls Tryd.prog 15 #[.slice a n cap] w fun e w' => ∃ v, e = .returned (.tuple #[v, .bool q]) ∧ w'.ownsRow w.heap.size 28 2 v P.length (SCELLS P) ∧ Below w.heap.size w w') ∧
    ((∀ x ∈ l, x.1 < 256) → (a = none → cap = 0) → Calls Tryd.prog 14 #[.slice a n cap] w fun e w' => ∃ v, e = .returned (.tuple #[v, .bool q]) ∧ w'.ownsRow w.heap.size 28 2 v P.length (SCELLS P) ∧ Below w.heap.size w w')) := hM
  have HM2 : Aside (∀ (n' cap : Nat) (a : Option Addr) (w : World), (TX n l).length = n' → n' ≤ 1000 → Lie w a (TX n l) →
    (Calls Tryd.prog 15 #[.slice a n' cap] w fun e w' => ∃ v, e = .returned (.tuple #[v, .bool q2]) ∧ w'.ownsRow w.heap.size 28 2 v P2.length (SCELLS P2) ∧ Below w.heap.size w w') ∧
    ((∀ x ∈ TX n l, x.1 < 256) → (a = none → cap = 0) → Calls Tryd.prog 14 #[.slice a n' cap] w fun e w' => ∃ v, e = .returned (.tuple #[v, .bool q2]) ∧ w'.ownsRow w.heap.size 28 2 v P2.length (SCELLS P2) ∧ Below w.heap.size w w')) := hM2
  clear hO hM hM2 hl hn hL hc h256 hT h0 hP hP2
  go_enter Tryd.func4, Tryd.ntmps4
  go_wp2_with fail
  refine cr.mono ?_
  rintro e w1 ⟨g, c', rfl, hc', hown, hb⟩
  have G1 : Aside (Giv w g n c' l w1 ∧ n + 1 ≤ c') := ⟨⟨hb, hown⟩, hc'⟩
  clear cr hown hb hc'
  go_wp2_with fail
  refine (HO.out n c' (some ⟨g, 0, none⟩) w1 H.out.1 (by have := H.out.2.1; omega) (given_lie H.out.1 G1.out.1.2)).1.mono ?_
  rintro e w2 ⟨rfl, hb⟩
  have G2 : Aside (Giv w g n c' l w2) := G1.out.1.keep hb
  clear hb
  go_wp2_with fail
  refine ((HO.out n c a w2 H.out.1 (by have := H.out.2.1; omega) (H.out.2.2.1.below G2.out.1)).2 H.out.2.2.2.2.1).mono ?_
  rintro e w3 ⟨rfl, hb⟩
  have G3 : Aside (Giv w g n c' l w3) := G2.out.keep hb
  clear hb G2 HO
  go_wp2_with fail
  refine ((HM.out n c a w3 H.out.1 (by have := H.out.2.1; omega) (H.out.2.2.1.below G3.out.1)).2 H.out.2.2.2.2.1 H.out.2.2.2.1).mono ?_
  rintro e w4 ⟨v10, rfl, hr, hb⟩
  have G4 : Aside (Giv w g n c' l w4 ∧ Lies w4 v10 P) := ⟨G3.out.keep hb, lies_own rfl hr⟩
  clear hb hr G3
  go_wp2_with fail
  refine (HM.out n c' (some ⟨g, 0, none⟩) w4 H.out.1 (by have := H.out.2.1; omega) (given_lie H.out.1 G4.out.1.2)).1.mono ?_
  rintro e w5 ⟨v12, rfl, hr, hb⟩
  have G5 : Aside (Giv w g n c' l w5 ∧ Lies w5 v10 P ∧ w5.ownsRow w4.heap.size 28 2 v12 P.length (SCELLS P) ∧ g < w4.heap.size ∧ w.heap.size ≤ w4.heap.size) := ⟨G4.out.1.keep hb, G4.out.2.below hb (Nat.le_refl _), hr, (G4.out.1.2.lt g rfl).2, G4.out.1.1.size⟩
  clear hb hr G4
  go_wp2_with fail
  refine (HM.out n c' (some ⟨g, 0, none⟩) w5 H.out.1 (by have := H.out.2.1; omega) (given_lie H.out.1 G5.out.1.2)).1.mono ?_
  rintro e w6 ⟨v14, rfl, hr, hb⟩
  have G6 : Aside (Held w g n c' l v12 v14 P.length P.length (SCELLS P) (SCELLS P) w6 ∧ Lies w6 v10 P) := by
    obtain ⟨h1, h2, h3, h4, h5⟩ := G5.out
    have h6 := h1.keep hb
    refine ⟨⟨h6.1, h6.2, own_mono (own_below h3 hb) h5, own_mono hr h1.1.size, fun k hk hk2 => ?_, fun e => ?_, fun e => ?_⟩, h2.below hb (Nat.le_refl _)⟩
    · have i1 := (h3.lt k hk).2
      have i2 := (hr.lt k hk2).1
      omega
    · have i1 := (h3.lt g e).1
      omega
    · have i1 := (hr.lt g e).1
      have i2 := hb.size
      have i3 := (h1.2.lt g rfl).2
      omega
  clear hb hr G5 HM
  go_wp2_with fail
  refine (same2_ok v12 v10 P _ (by have := H.out.2.2.2.2.2.2.2.2.1; omega) (lies_own rfl G6.out.1.rx) G6.out.2).mono ?_
  rintro e w7 ⟨rfl, hb⟩
  have G7 : Aside (Held w g n c' l v12 v14 P.length P.length (SCELLS P) (SCELLS P) w7 ∧ Lies w7 v10 P) := ⟨G6.out.1.keep hb, G6.out.2.below hb (Nat.le_refl _)⟩
  clear hb G6
  go_wp2_with fail
  refine (same2_ok v14 v10 P _ (by have := H.out.2.2.2.2.2.2.2.2.1; omega) (lies_own rfl G7.out.1.ry) G7.out.2).mono ?_
  rintro e w8 ⟨rfl, hb⟩
  have G8 : Aside (Held w g n c' l v12 v14 P.length P.length (SCELLS P) (SCELLS P) w8) := G7.out.1.keep hb
  clear hb G7
  go_wp2_with fail
  refine (same_ok (some ⟨g, 0, none⟩) a n c' c l H.out.1 (by have := H.out.2.1; omega) w8 (G8.out.lie H.out.1) (H.out.2.2.1.below G8.out.bel)).mono ?_
  rintro e w9 ⟨rfl, hb⟩
  have G9 : Aside (Held w g n c' l v12 v14 P.length P.length (SCELLS P) (SCELLS P) w9) := G8.out.keep hb
  clear hb G8
  go_wp2_with fail
  refine (marked_ok g n c' l H.out.1 (by have := H.out.2.1; omega) G1.out.2 w.heap.size w9 G9.out.giv).mono ?_
  rintro e w10 ⟨rfl, hb⟩
  obtain ⟨a12, q12, rfl, hp12⟩ := sown_slice G9.out.rx
  obtain ⟨a14, q14, rfl, hp14⟩ := sown_slice G9.out.ry
  obtain ⟨N, hN⟩ : ∃ N, P.length = N := ⟨_, rfl⟩
  rw [hN] at G9 hp12 hp14
  have G10 : Aside (Held w g n c' l (.slice a12 N q12) (.slice a14 N q14) N N (SCELLS P) (SCELLS P) w10 ∧ N ≤ 124 ∧ (0 < N → ∃ g, a12 = some ⟨g, 0, none⟩) ∧ (0 < N → ∃ g, a14 = some ⟨g, 0, none⟩)) := ⟨G9.out.keep hb, by have := H.out.2.2.2.2.2.2.2.2.1; omega, fun h => by obtain ⟨g, e, _⟩ := hp12 h; exact ⟨g, e⟩, fun h => by obtain ⟨g, e, _⟩ := hp14 h; exact ⟨g, e⟩⟩
  rw [hN]
  clear hb G9 hp12 hp14 hN
  go_wp2
  go_loopg [16] N (fun gg s16 wx => ∃ i : Nat, s16 = .int .i64 (i : Int) ∧ Aside (i + gg = N ∧ ∃ xs ys, Held w g n c' l (.slice a12 N q12) (.slice a14 N q14) N N xs ys wx ∧ (∀ j, j < i → xs[j * 2 + 1]? = some (.int .u64 201)) ∧ (∀ j, j < i → ys[j * 2 + 1]? = some (.int .u64 202))))
  case atStart => exact ⟨0, rfl, by omega, _, _, G10.out.1, fun j h => by omega, fun j h => by omega⟩
  case round =>
    obtain ⟨i, rfl, I⟩ := hrel
    cases gk with
    | succ gg =>
      have hN := G10.out.2.1
      have hi := I.out.1
      have hlt : (i : Int) < (N : Int) := by omega
      have hlt0 : (0 : Int) ≤ (i : Int) := by omega
      obtain ⟨bx, rfl⟩ := G10.out.2.2.1 (by omega)
      obtain ⟨by', rfl⟩ := G10.out.2.2.2 (by omega)
      obtain ⟨xs, ys, h1, h2, h3⟩ := I.out.2
      have lx : (xs).length = N * 2 := h1.rx.1.trans (by omega)
      have ly : (ys).length = N * 2 := h1.ry.1.trans (by omega)
      have hne : ¬ bx = by' := fun e => h1.xy bx rfl (by rw [e]; rfl)
      have hne2 : ¬ by' = bx := fun e => hne e.symm
      have x0 : wr.cell? ⟨bx, i * 2, none⟩ = some (xs[i * 2]'(by omega)) := (h1.rx.cellAt (i * 2) (by omega)).trans (List.getElem?_eq_getElem (by omega))
      have x1 : wr.cell? ⟨bx, i * 2 + 1, none⟩ = some (xs[i * 2 + 1]'(by omega)) := (h1.rx.cellAt (i * 2 + 1) (by omega)).trans (List.getElem?_eq_getElem (by omega))
      have y0 : wr.cell? ⟨by', i * 2, none⟩ = some (ys[i * 2]'(by omega)) := (h1.ry.cellAt (i * 2) (by omega)).trans (List.getElem?_eq_getElem (by omega))
      have y1 : wr.cell? ⟨by', i * 2 + 1, none⟩ = some (ys[i * 2 + 1]'(by omega)) := (h1.ry.cellAt (i * 2 + 1) (by omega)).trans (List.getElem?_eq_getElem (by omega))
      have zx0 : wr.frozen? ⟨bx, i * 2, none⟩ = false := h1.rx.frozenAt (i * 2)
      have zx1 : wr.frozen? ⟨bx, i * 2 + 1, none⟩ = false := h1.rx.frozenAt (i * 2 + 1)
      have zy0 : wr.frozen? ⟨by', i * 2, none⟩ = false := h1.ry.frozenAt (i * 2)
      have zy1 : wr.frozen? ⟨by', i * 2 + 1, none⟩ = false := h1.ry.frozenAt (i * 2 + 1)
      have R : Aside (∃ xs ys, Held w g n c' l (.slice (some ⟨bx, 0, none⟩) N q12) (.slice (some ⟨by', 0, none⟩) N q14) N N xs ys ((((wr.setCell ⟨bx, i * 2, none⟩ (.int .u8 0)).setCell ⟨bx, i * 2 + 1, none⟩ (.int .u64 201)).setCell ⟨by', i * 2, none⟩ (.int .u8 0)).setCell ⟨by', i * 2 + 1, none⟩ (.int .u64 202)) ∧ (∀ j, j < i + 1 → xs[j * 2 + 1]? = some (.int .u64 201)) ∧ (∀ j, j < i + 1 → ys[j * 2 + 1]? = some (.int .u64 202))) := by
        refine ⟨_, _, ((((h1.storeX (i * 2) (.int .u8 0)).storeX (i * 2 + 1) (.int .u64 201)).flip.storeX (i * 2) (.int .u8 0)).storeX (i * 2 + 1) (.int .u64 202)).flip, fun j hj => ?_, fun j hj => ?_⟩
        · rw [List.getElem?_set]
          split
          · rw [if_pos (by rw [List.length_set]; omega)]
          · rw [List.getElem?_set, if_neg (by omega)]
            exact h2 j (by omega)
        · rw [List.getElem?_set]
          split
          · rw [if_pos (by rw [List.length_set]; omega)]
          · rw [List.getElem?_set, if_neg (by omega)]
            exact h3 j (by omega)
      have hi1 : wrap64 ((i : Int) + 1) = ((i + 1 : Nat) : Int) := wrap_succ i (by omega)
      generalize xs[i * 2]'(by omega) = ux0 at x0
      generalize xs[i * 2 + 1]'(by omega) = ux1 at x1
      generalize ys[i * 2]'(by omega) = uy0 at y0
      generalize ys[i * 2 + 1]'(by omega) = uy1 at y1
      have HI : Aside (i + 1 + gg = N) := by unfold Aside; omega
      clear h1 h2 h3 lx ly hN hi I
      go_wp2
      go_roundg gg
      case measure => omega
      case rel => exact ⟨i + 1, by first | rfl | (rw [hi1]), HI.out, R.out⟩
    | zero =>
      obtain rfl : i = N := by have := I.out.1; omega
      have hlt : ¬ (i : Int) < (i : Int) := by omega
      obtain ⟨xs, ys, J⟩ : ∃ xs ys, Aside (Held w g n c' l (.slice a12 i q12) (.slice a14 i q14) i i xs ys wr ∧ (∀ j, j < i → xs[j * 2 + 1]? = some (.int .u64 201)) ∧ (∀ j, j < i → ys[j * 2 + 1]? = some (.int .u64 202)) ∧ i ≤ 124) := by
        obtain ⟨xs, ys, h1, h2, h3⟩ := I.out.2
        exact ⟨xs, ys, h1, h2, h3, G10.out.2.1⟩
      clear I G10
      go_wp2_with (first
        | (at_builtin; refine app_spot_at _ rfl (.tmp 113) (.tmp 115) rfl w.heap.size (.slice a12 i q12) i xs rfl (J.out.1.rx.alloc _) wr.heap.size 1 0 201 rfl ((Has.new wr _ _).cell 0) ((Has.new wr _ _).cell 1) (by have := J.out.2.2.2; omega) (by have := J.out.1.bel.size; simp; omega) ?_; intro g1 p1 w11 hown1 hgrow1 hg1 hlt1; have K1 : Aside (Held w g n c' l (.slice (some ⟨g1, 0, none⟩) (i + 1) p1) (.slice a14 i q14) (i + 1) i (xs ++ [.int .u8 0, .int .u64 201]) ys w11) := (J.out.1.keep ((Below.refl _ _).alloc (Nat.le_refl _) _)).appX hown1 hgrow1 hg1; clear hown1 hgrow1 hg1 hlt1)
        | (at_builtin; refine app_spot_at _ rfl (.tmp 117) (.tmp 119) rfl w.heap.size (.slice a14 i q14) i ys rfl (K1.out.ry.alloc _) w11.heap.size 1 0 202 rfl ((Has.new w11 _ _).cell 0) ((Has.new w11 _ _).cell 1) (by have := J.out.2.2.2; omega) (by have := K1.out.bel.size; simp; omega) ?_; intro g2 p2 w12 hown2 hgrow2 hg2 hlt2; have K2 : Aside (Held w g n c' l (.slice (some ⟨g1, 0, none⟩) (i + 1) p1) (.slice (some ⟨g2, 0, none⟩) (i + 1) p2) (i + 1) (i + 1) (xs ++ [.int .u8 0, .int .u64 201]) (ys ++ [.int .u8 0, .int .u64 202]) w12) := ((K1.out.keep ((Below.refl _ _).alloc (Nat.le_refl _) _)).flip.appX hown2 hgrow2 hg2).flip; clear hown2 hgrow2 hg2 hlt2))
      obtain ⟨N, hN⟩ : ∃ N, i + 1 = N := ⟨_, rfl⟩
      have L2 : Aside (N ≤ 125 ∧ (∀ j, j < N → w12.cell? ⟨g1, j * 2 + 1, none⟩ = some (.int .u64 201) ∧ w12.cell? ⟨g2, j * 2 + 1, none⟩ = some (.int .u64 202)) ∧ Giv w g n c' l w12) := by
        obtain ⟨j1, j2, j3, j4⟩ := J.out
        have k2 := K2.out
        have lx : xs.length = i * 2 := j1.rx.1.trans (by omega)
        have ly : ys.length = i * 2 := j1.ry.1.trans (by omega)
        refine ⟨by omega, fun j hj => ⟨?_, ?_⟩, k2.bel, k2.giv⟩
        · rw [k2.rx.cellAt (j * 2 + 1) (by omega)]
          rcases Nat.lt_or_ge j i with h | h
          · rw [List.getElem?_append_left (by omega)]
            exact j2 j h
          · obtain rfl : j = i := by omega
            rw [List.getElem?_append_right (by omega), lx, show j * 2 + 1 - j * 2 = 1 by omega]
            rfl
        · rw [k2.ry.cellAt (j * 2 + 1) (by omega)]
          rcases Nat.lt_or_ge j i with h | h
          · rw [List.getElem?_append_left (by omega)]
            exact j3 j h
          · obtain rfl : j = i := by omega
            rw [List.getElem?_append_right (by omega), ly, show j * 2 + 1 - j * 2 = 1 by omega]
            rfl
      rw [hN]
      clear J K1 K2 hN hlt
      go_loopg [17] N (fun gg s17 wx => ∃ i : Nat, s17 = .int .i64 (i : Int) ∧ Aside (i + gg = N) ∧ wx = w12)
      case atStart => exact ⟨0, rfl, by unfold Aside; omega, rfl⟩
      case round =>
        obtain ⟨j, rfl, I, hw⟩ := hrel
        subst hw
        cases gk with
        | succ gg =>
          have hN := L2.out.1
          have hi := I.out
          have hlt : (j : Int) < (N : Int) := by omega
          have hlt0 : (0 : Int) ≤ (j : Int) := by omega
          obtain ⟨y0, y1⟩ := L2.out.2.1 j (by omega)
          have hi1 : wrap64 ((j : Int) + 1) = ((j + 1 : Nat) : Int) := wrap_succ j (by omega)
          clear hN
          go_wp2
          go_roundg gg
          case measure => omega
          case rel => exact ⟨j + 1, by first | rfl | (rw [hi1]), by unfold Aside; omega, rfl⟩
        | zero =>
          obtain rfl : j = N := by have := I.out; omega
          have hlt : ¬ (j : Int) < (j : Int) := by omega
          have G13 : Aside (Giv w g n c' l wr) := L2.out.2.2
          clear L2 I
          go_wp2_with fail
          refine (same_ok (some ⟨g, 0, none⟩) a n c' c l H.out.1 (by have := H.out.2.1; omega) _ (given_lie H.out.1 G13.out.2) (H.out.2.2.1.below G13.out.1)).mono ?_
          rintro e w14 ⟨rfl, hb⟩
          have G14 : Aside (Giv w g n c' l w14) := G13.out.keep hb
          clear hb G13
          go_wp2_with fail
          refine (marked_ok g n c' l H.out.1 (by have := H.out.2.1; omega) G1.out.2 w.heap.size w14 G14.out.2).mono ?_
          rintro e w15 ⟨rfl, hb⟩
          have G15 : Aside (Giv w g n c' l w15) := G14.out.keep hb
          clear hb G14
          go_wp2
          go_loopg [18] n (fun gg s18 wx => ∃ i : Nat, s18 = .int .i64 (i : Int) ∧ Aside (i + gg = n ∧ Giv w g n c' (TX i l) wx))
          case atStart => exact ⟨0, rfl, by omega, by rw [TX_zero]; exact G15.out⟩
          case round =>
            clear G15
            obtain ⟨i, rfl, I⟩ := hrel
            cases gk with
            | succ gg =>
              have hn4 := H.out.2.1
              have hi := I.out.1
              have hlt : (i : Int) < (n : Int) := by omega
              have hlt0 : (0 : Int) ≤ (i : Int) := by omega
              obtain ⟨h, k, eh⟩ := at_lt (l := l) (i := i) (by rw [H.out.1]; omega)
              have hG := I.out.2
              have eT := TX_at eh
              have hk := H.out.2.2.2.2.2.1 (h, k) (List.mem_of_getElem? eh)
              have hx := xor_one k hk
              have e2 : (TX i l ++ [(171, 0)])[i]? = some (h, k) := by rw [List.getElem?_append_left (List.getElem?_eq_some_iff.1 eT).1]; exact eT
              have y1 : wr.cell? ⟨g, i * 2 + 1, none⟩ = some (.int .u64 (k : Int)) := (hG.2.cellAt (i * 2 + 1) (by omega)).trans (SCELLS_at _ i h k e2).2
              have z1 : wr.frozen? ⟨g, i * 2 + 1, none⟩ = false := hG.2.frozenAt (i * 2 + 1)
              have R : Aside (i + 1 + gg = n ∧ Giv w g n c' (TX (i + 1) l) (wr.setCell ⟨g, i * 2 + 1, none⟩ (.int .u64 ((SIB k : Nat) : Int)))) := ⟨by omega, by rw [TX_next eh]; exact hG.store eT⟩
              have hi1 : wrap64 ((i : Int) + 1) = ((i + 1 : Nat) : Int) := wrap_succ i (by omega)
              clear hG eT hk e2 eh I hn4 hi
              generalize SIB k = s at *
              go_wp2
              go_roundg gg
              case measure => omega
              case rel => exact ⟨i + 1, by first | rfl | (rw [hi1]), R.out⟩
            | zero =>
              obtain rfl : i = n := by have := I.out.1; omega
              have hlt : ¬ (i : Int) < (i : Int) := by omega
              have G16 : Aside (Giv w g i c' (TX i l) wr ∧ Lie wr (some ⟨g, 0, none⟩) (TX i l) ∧ (TX i l).length = i ∧ Lie (wr.alloc (.cells #[] 28)) (some ⟨g, 0, none⟩) (TX i l)) := by
                have hG := I.out.2
                have hl : (TX i l).length = i := by rw [TX_length]; exact H.out.1
                have := given_lie hl hG.2
                exact ⟨hG, this, hl, this.below ((Below.refl _ _).alloc (Nat.le_refl _) _)⟩
              clear I
              go_wp2_with (first
                | (at_builtin; refine app_spots _ rfl (.tmp 167) (.tmp 168) rfl wr.heap.size (.slice (some ⟨wr.heap.size, 0, none⟩) 0 0) 0 [] rfl (own_lit_at _ _ _ rfl (Nat.le_refl _)) (some ⟨g, 0, none⟩) i _ (TX i l) G16.out.2.2.1 rfl G16.out.2.2.2 (by simp) (by have := H.out.2.1; omega) (by simp) ?_; rw [Nat.zero_add, List.nil_append]; intro a9 c9 w9 hown9 hgrow9))
              have G17 : Aside (Giv w g i c' (TX i l) w9 ∧ Lie w9 a9 (TX i l) ∧ (a9 = none → c9 = 0)) := by
                have hb : Below wr.heap.size wr w9 := ((Below.refl _ _).alloc (Nat.le_refl _) _).grown hgrow9 (by simp) (fun k e => by cases e; exact Nat.le_refl _)
                obtain ⟨ad, cp, e, hL⟩ := lie_own G16.out.2.2.1 hown9
                cases e
                exact ⟨G16.out.1.keep hb, hL, own_zero hown9⟩
              clear hown9 hgrow9
              refine ((HM2.out i c9 a9 w9 G16.out.2.2.1 (by have := H.out.2.1; omega) G17.out.2.1).2 (TX_small H.out.2.2.2.2.1 i) G17.out.2.2).mono ?_
              rintro e w17 ⟨v10', rfl, hr, hb⟩
              have G18 : Aside (Giv w g i c' (TX i l) w17 ∧ Lies w17 v10' P2) := ⟨G17.out.1.keep hb, lies_own rfl hr⟩
              clear hb hr G17
              go_wp2_with fail
              refine (HM2.out i c' (some ⟨g, 0, none⟩) w17 G16.out.2.2.1 (by have := H.out.2.1; omega) (given_lie G16.out.2.2.1 G18.out.1.2)).1.mono ?_
              rintro e w18 ⟨v19, rfl, hr, hb⟩
              have G19 : Aside (Below w.heap.size w w18 ∧ Lies w18 v10' P2 ∧ Lies w18 v19 P2) := ⟨(G18.out.1.keep hb).1, G18.out.2.below hb (Nat.le_refl _), lies_own rfl hr⟩
              clear hb hr G18
              go_wp2_with fail
              refine (same2_ok v19 v10' P2 _ (by have := H.out.2.2.2.2.2.2.2.2.2; omega) G19.out.2.2 G19.out.2.1).mono ?_
              rintro e w19 ⟨rfl, hb⟩
              have G20 : Aside (Below w.heap.size w w19) := G19.out.1.trans (hb.mono G19.out.1.size)
              clear hb G19
              go_wp2_with fail
              refine (cutawake_ok w19 (H.out.2.2.2.2.2.2.1.below H.out.2.2.2.2.2.2.2.1 G20.out) (Nat.lt_of_lt_of_le H.out.2.2.2.2.2.2.2.1 G20.out.size)).mono ?_
              rintro e w20 ⟨rfl, hb⟩
              have G21 : Aside (Below w.heap.size w w20) := G20.out.trans (hb.mono G20.out.size)
              clear hb G20
              go_wp2
              go_ret
              exact ⟨rfl, G21.out⟩
end Go.Proofs.YthogidnbjdmaaaaDoor
