/- The walk of the law CutCovers. -/
import Derived.Test.YtjlflmideajdjaaDoorCutAwake
import Derived.Test.YtjlflmideajdjaaDoorCutUni
namespace Go.Proofs.YtjlflmideajdjaaDoor
open Go.RowKit

theorem wrap_it (j : Nat) (h : j < 2 ^ 40) : wrap64 (j : Int) = (j : Int) := by unfold wrap64; omega
theorem wrap_back (j : Nat) (h : j < 2 ^ 40) : wrap64 ((j : Int) + 1 - 1) = (j : Int) := by unfold wrap64; omega
theorem wrap_one (j : Nat) (h : j < 2 ^ 40) : wrap64 ((j : Int) + 1) = ((j + 1 : Nat) : Int) := by unfold wrap64; omega
theorem wrap_two (j : Nat) (h : j < 2 ^ 40) : wrap64 ((j : Int) + 1 + 1) = ((j + 1 + 1 : Nat) : Int) := by unfold wrap64; omega
theorem own_nocap {w : World} {base : Nat} {t : TypeId} {s : Nat} {ad : Option Addr} {n cap : Nat} {xs : List Value} (h : w.ownsRow base t s (.slice ad n cap) n xs) : ad = none → cap = 0 := by
  intro e
  subst e
  rcases h.2 with ⟨e, _⟩ | ⟨g, c, cur, e, _⟩
  · cases e
    rfl
  · cases e
set_option maxHeartbeats 1000000 in
theorem covers_none (a b : Nat) (ad : Option Addr) (cap : Nat) (hc : ad = none → cap = 0) (w : World) (hT : Tabled w) (h0 : 0 < w.heap.size) (hd : b ≤ a ∨ 4611686018427387904 < b)
    (cs : Calls Tryd.prog 11 #[.int .u64 (a : Int), .int .u64 (b : Int)] w fun e w' => e = .returned (.slice ad 0 cap) ∧ Below w.heap.size w w') :
    Calls Tryd.prog 5 #[.int .u64 (a : Int), .int .u64 (b : Int)] w fun e w' => e = .returned (.bool true) ∧ Below w.heap.size w w' := by
  have H : Aside (Tabled w ∧ 0 < w.heap.size) := ⟨hT, h0⟩
  have hg1 : b ≤ a ∨ (¬ b ≤ a ∧ (4611686018427387904 : Int) < (b : Int)) := by
    by_cases h : b ≤ a
    · exact .inl h
    · exact .inr ⟨h, by omega⟩
  have cr := fun w => row_ok ad 0 cap [] rfl w (fun h => absurd h (by simp)) hc (by omega)
  have ca := fun w hT h0 => cutawake_ok w hT h0
  clear hT h0 hd hc
  rcases hg1 with hg1 | ⟨hg1, hg2⟩
  all_goals
    go_enter Tryd.func5, Tryd.ntmps5
    go_wp2_with fail
    refine cs.mono ?_
    rintro e w1 ⟨rfl, hb1⟩
    clear cs
    go_wp2_with fail
    refine (cr _).mono ?_
    rintro e w2 ⟨g2, c2, rfl, _, _, hb2⟩
    clear cr
    have hb2 : Below w.heap.size w w2 := hb1.trans (hb2.mono hb1.size)
    go_wp2_with fail
    refine (over_none c2 _ _).mono ?_
    rintro e w3 ⟨rfl, rfl⟩
    go_wp2_with fail
    refine (ca _ (H.out.1.below H.out.2 hb2) (Nat.lt_of_lt_of_le H.out.2 hb2.size)).mono ?_
    rintro e w4 ⟨rfl, hb4⟩
    clear ca
    go_wp2
    go_ret
    exact ⟨rfl, hb2.trans (hb4.mono hb2.size)⟩
set_option maxHeartbeats 2000000 in
theorem covers_some (a b : Nat) (hab : a < b) (hb : b ≤ 4611686018427387904) (w : World) (hT : Tabled w) (h0 : 0 < w.heap.size) :
    Calls Tryd.prog 5 #[.int .u64 (a : Int), .int .u64 (b : Int)] w fun e w' => e = .returned (.bool true) ∧ Below w.heap.size w w' := by
  have cs := span_ok a b (by omega) hb w hT h0
  have ht := tile_span hb (Nat.le_of_lt hab)
  obtain ⟨l, hl⟩ : ∃ l, SPAN a b = l := ⟨_, rfl⟩
  rw [hl] at cs ht
  obtain ⟨n, hn⟩ : ∃ n, l.length = n := ⟨_, rfl⟩
  have hn1 : 0 < n := by
    rw [← hn, ← hl, SPAN_step hab]
    simp
  have hn2 : n ≤ 124 := by
    rw [← hn, ← hl]
    exact SPAN_length hb
  have H : Aside (Tabled w ∧ 0 < w.heap.size ∧ SPAN a b = l ∧ l.length = n ∧ n ≤ 124 ∧ Tile a l b ∧ b ≤ 4611686018427387904 ∧ a < b) := ⟨hT, h0, hl, hn, hn2, ht, hb, hab⟩
  have hg1 : ¬ b ≤ a := by omega
  have hg2 : ¬ (4611686018427387904 : Int) < (b : Int) := by omega
  have hg3 : ¬ (124 : Int) < (n : Int) := by omega
  rw [hn] at cs
  clear hT h0 hl hn hn2 ht hb hab
  go_enter Tryd.func5, Tryd.ntmps5
  go_wp2_with fail
  refine cs.mono ?_
  rintro e w1 ⟨v, rfl, hown, hb1⟩
  clear cs
  obtain ⟨g, cap, rfl, _, _⟩ := hown.form (by omega)
  obtain ⟨ad', cap', e, hL⟩ := lie_own H.out.2.2.2.1 hown
  cases e
  have O : Aside (w1.ownsRow w.heap.size 28 2 (.slice (some ⟨g, 0, none⟩) n cap) n (SCELLS l) ∧ Below w.heap.size w w1 ∧ Lie w1 (some ⟨g, 0, none⟩) l) := ⟨hown, hb1, hL⟩
  clear hown hb1 hL
  go_wp2_with fail
  refine (row_ok (some ⟨g, 0, none⟩) n cap l H.out.2.2.2.1 _ O.out.2.2 (by simp) (by have := H.out.2.2.2.2.1; omega)).mono ?_
  rintro e w2 ⟨g2, c2, rfl, _, hown2, hb2⟩
  have hL2 : Lie w2 (some ⟨g2, 0, none⟩) l := by
    obtain ⟨ad', cap', e, hL⟩ := lie_own H.out.2.2.2.1 (own_cut hown2 H.out.2.2.2.1)
    cases e
    exact hL
  have hbb : Below w.heap.size w w2 := O.out.2.1.trans (hb2.mono O.out.2.1.size)
  have O2 : Aside (Lie w2 (some ⟨g, 0, none⟩) l ∧ Lie w2 (some ⟨g2, 0, none⟩) l ∧ Below w.heap.size w w2) := ⟨O.out.2.2.below hb2, hL2, hbb⟩
  clear hown2 hL2 hb2 hbb O
  go_wp2_with fail
  refine (over_some n c2 (some ⟨g2, 0, none⟩) l H.out.2.2.2.1 hn1 (by have := H.out.2.2.2.2.1; omega) _ O2.out.2.1).mono ?_
  rintro e w3 ⟨h | ⟨hno, rfl⟩, hb3⟩
  rotate_left
  · exact absurd ⟨a, b, by intro e; have := H.out.2.2.2.1; rw [e] at this; simp at this; omega, H.out.2.2.2.2.2.1⟩ hno
  obtain ⟨x, y, ht2, rfl⟩ := h
  obtain ⟨rfl, rfl⟩ := Tile.same (by intro e; have := H.out.2.2.2.1; rw [e] at this; simp at this; omega) H.out.2.2.2.2.2.1 ht2
  have O3 : Aside (Lie w3 (some ⟨g, 0, none⟩) l ∧ Below w.heap.size w w3) := ⟨O2.out.1.below hb3, O2.out.2.2.trans (hb3.mono O2.out.2.2.size)⟩
  clear hb3 O2 ht2
  have hl3 : g < w3.heap.size := by
    obtain ⟨g', o', e, h, _⟩ := O3.out.1 (by have := H.out.2.2.2.1; omega)
    cases e
    exact h
  go_wp2
  go_loopg [9, 10] (n - 1) (fun gg s9 s10 wx => ∃ i : Nat, s10 = .int .i64 (i : Int) ∧ s9 = .bool (FELL a b i) ∧ Aside (1 ≤ i ∧ i + gg = n ∧ Below w3.heap.size w3 wx))
  case atStart => exact ⟨1, rfl, by simp [FELL], by omega, by omega, Below.refl _ _⟩
  case round =>
    obtain ⟨i, rfl, rfl, A⟩ := hrel
    cases gk with
    | zero =>
      obtain ⟨r1, r2, r3⟩ := A.out
      obtain rfl : i = n := by omega
      have hlt : ¬ (i : Int) < (i : Int) := by omega
      have O4 : Aside (Lie wr (some ⟨g, 0, none⟩) l ∧ Below w.heap.size w wr) := ⟨O3.out.1.below r3, O3.out.2.trans (r3.mono O3.out.2.size)⟩
      clear r1 r2 r3 A O3
      generalize FELL a b i = fe at *
      go_wp2_with fail
      refine (row_ok (some ⟨g, 0, none⟩) i cap l H.out.2.2.2.1 _ O4.out.1 (by simp) (by have := H.out.2.2.2.2.1; omega)).mono ?_
      rintro e w5 ⟨g5, c5, rfl, _, hown5, hb5⟩
      have hL5 : Lie w5 (some ⟨g5, 0, none⟩) l := by
        obtain ⟨ad', cap', e, hL⟩ := lie_own H.out.2.2.2.1 (own_cut hown5 H.out.2.2.2.1)
        cases e
        exact hL
      have O5 : Aside (Lie w5 (some ⟨g, 0, none⟩) l ∧ Lie w5 (some ⟨g5, 0, none⟩) l ∧ Below w.heap.size w w5) := ⟨O4.out.1.below hb5, hL5, O4.out.2.trans (hb5.mono O4.out.2.size)⟩
      clear hown5 hb5 hL5 O4
      go_wp2_with fail
      refine (merge_ok i c5 (some ⟨g5, 0, none⟩) l a b H.out.2.2.2.1 hn1 (by have := H.out.2.2.2.2.1; omega) _ O5.out.2.1 H.out.2.2.2.2.2.1).mono ?_
      rintro e w6 ⟨v6, rfl, hown6, hb6⟩
      rw [H.out.2.2.1, H.out.2.2.2.1] at hown6
      obtain ⟨a6, c6, rfl, hL6⟩ := lie_own H.out.2.2.2.1 hown6
      have O6 : Aside (Lie w6 (some ⟨g, 0, none⟩) l ∧ Lie w6 a6 l ∧ Below w.heap.size w w6) := ⟨O5.out.1.below hb6, hL6, O5.out.2.2.trans (hb6.mono O5.out.2.2.size)⟩
      clear hown6 hb6 hL6 O5
      go_wp2_with fail
      refine (same_ok a6 (some ⟨g, 0, none⟩) i c6 cap l H.out.2.2.2.1 (by have := H.out.2.2.2.2.1; omega) _ O6.out.2.1 O6.out.1).mono ?_
      rintro e w7 ⟨rfl, hb7⟩
      have hb7' := O6.out.2.2.trans (hb7.mono O6.out.2.2.size)
      go_wp2_with fail
      refine (cutawake_ok _ (H.out.1.below H.out.2.1 hb7') (Nat.lt_of_lt_of_le H.out.2.1 hb7'.size)).mono ?_
      rintro e w8 ⟨rfl, hb8⟩
      go_wp2
      go_ret
      exact ⟨rfl, hb7'.trans (hb8.mono hb7'.size)⟩
    | succ gg =>
      obtain ⟨r1, r2, r3⟩ := A.out
      have hlt : (i : Int) < (n : Int) := by omega
      have hlen := H.out.2.2.2.1
      have hbm := H.out.2.2.2.2.2.2.1
      obtain ⟨j, hj⟩ : ∃ j, i = j + 1 := ⟨i - 1, by omega⟩
      have hs := H.out.2.2.1
      have e0 := SHK_at (a := a) (b := b) (i := j) (by rw [hs]; omega)
      have e1 := SHK_at (a := a) (b := b) (i := i) (by rw [hs]; omega)
      have hap := SPAN_apart hbm j a _ _ (SH a b i) (SK a b i) e0 (by rw [← hj]; exact e1)
      have hf1 := FELL_down (a := a) (b := b) (i := i)
      have hf2 := FELL_not (a := a) (b := b) (i := i) hbm (by rw [hs]; omega)
      rw [show i - 1 = j by omega] at hf1 hf2
      rw [hs] at e0 e1
      obtain ⟨g', o', e, _, hc⟩ := (O3.out.1.below r3) (by omega)
      cases e
      have x0 := hc j _ _ e0
      have x1 := hc i _ _ e1
      rw [Nat.zero_add] at x0 x1
      generalize SH a b j = ph at *
      generalize SK a b j = pk at *
      generalize SH a b i = qh at *
      generalize SK a b i = qk at *
      obtain ⟨x0, y0⟩ := x0
      obtain ⟨x1, y1⟩ := x1
      have hj40 : i < 2 ^ 40 := by have := H.out.2.2.2.2.1; omega
      have hz0 : (0 : Int) ≤ (j : Int) := Int.natCast_nonneg j
      have hz1 : (j : Int) < (n : Int) := Int.ofNat_lt.2 (by omega)
      have hz3 : (0 : Int) ≤ (i : Int) := Int.natCast_nonneg i
      have hgl : g < wr.heap.size := Nat.lt_of_lt_of_le hl3 r3.size
      have R : Aside (i + 1 + gg = n ∧ Below w3.heap.size w3 wr ∧ (qh < ph → FELL a b (i + 1) = true) ∧ (¬ qh < ph → FELL a b (i + 1) = false)) := ⟨by omega, r3, fun h => hf1 h (by omega), fun h => (hf2 h (by omega)).2⟩
      have hff : ¬ qh < ph → FELL a b i = false := fun h => (hf2 h (by omega)).1
      have hcase : (ph = qh ∧ ¬ pk / 2 = qk / 2 ∧ ((pk : Int) / 2 == (qk : Int) / 2) = false ∧ ((pk : Int).tdiv 2 == (qk : Int).tdiv 2) = false) ∨ ((((ph : Nat) : Int) == ((qh : Nat) : Int)) = false ∧ ¬ ph = qh) := by
        by_cases hhe : ph = qh
        · have h1 : ((pk : Int) / 2 == (qk : Int) / 2) = false := by
            have h2 : ¬ pk / 2 = qk / 2 := fun h => hap ⟨hhe, h⟩
            simp
            omega
          refine .inl ⟨hhe, fun h => hap ⟨hhe, h⟩, h1, ?_⟩
          rw [Int.tdiv_eq_ediv_of_nonneg (Int.natCast_nonneg pk), Int.tdiv_eq_ediv_of_nonneg (Int.natCast_nonneg qk)]
          exact h1
        · exact .inr ⟨by simp; omega, hhe⟩
      have hn0 := (Tile.node H.out.2.2.2.2.2.1 e0).index_lt
      have hn1' := (Tile.node H.out.2.2.2.2.2.1 e1).index_lt
      have hu0 : IntKind.u64.wrap ((pk : Int) / 2) = (pk : Int) / 2 := by rw [wrapU]; omega
      have hu1 : IntKind.u64.wrap ((qk : Int) / 2) = (qk : Int) / 2 := by rw [wrapU]; omega
      clear hn0 hn1'
      have hw : wrap64 ((i : Int) - 1) = (j : Int) := by rw [hj]; exact wrap_back j (by omega)
      have hw2 : IntKind.i64.wrap ((i : Int) - 1) = (j : Int) := (IntWalk.i64_left _).trans hw
      have HI : Aside (wrap64 ((i : Int) + 1) = ((i + 1 : Nat) : Int)) := wrap_one i hj40
      clear r1 r2 r3 hap hf1 hf2 A e0 e1 hc hlen hbm hs hj40 hj
      generalize hfe : FELL a b i = fe at *
      rcases hcase with ⟨hhe, hp0, hp1, hp2⟩ | ⟨hp1, hhe⟩
      · subst hhe
        have hff : fe = false := hff (Nat.lt_irrefl _)
        subst hff
        go_wp2
        go_region_held3 (fun W : World => W.cell? ⟨g, j * 2, none⟩ = some (.int .u8 (ph : Int)) ∧ W.cell? ⟨g, j * 2 + 1, none⟩ = some (.int .u64 (pk : Int)) ∧ W.cell? ⟨g, i * 2, none⟩ = some (.int .u8 (ph : Int)) ∧ W.cell? ⟨g, i * 2 + 1, none⟩ = some (.int .u64 (qk : Int))) (go_keep) (fail)
        all_goals
          go_wp2
          go_roundg gg
          case measure => exact Nat.lt_succ_self _
          case rel =>
            obtain ⟨t1, t2, t3, t4⟩ := R.out
            exact ⟨i + 1, by first | rfl | rw [HI.out], by rw [t4 (Nat.lt_irrefl _)], Nat.le_add_left _ _, t1, ((t2.alloc t2.size _).alloc (Nat.le_trans t2.size (by simp)) _).drew⟩
      · by_cases hq : qh < ph
        · have hq' : (qh : Int) < (ph : Int) := Int.ofNat_lt.2 hq
          go_wp2
          go_region_held3 (fun W : World => W.cell? ⟨g, j * 2, none⟩ = some (.int .u8 (ph : Int)) ∧ W.cell? ⟨g, j * 2 + 1, none⟩ = some (.int .u64 (pk : Int)) ∧ W.cell? ⟨g, i * 2, none⟩ = some (.int .u8 (qh : Int)) ∧ W.cell? ⟨g, i * 2 + 1, none⟩ = some (.int .u64 (qk : Int))) (go_keep) (fail)
          all_goals
            go_wp2
            go_roundg gg
            case measure => exact Nat.lt_succ_self _
            case rel =>
              obtain ⟨t1, t2, t3, t4⟩ := R.out
              exact ⟨i + 1, by first | rfl | rw [HI.out], by rw [t3 hq], Nat.le_add_left _ _, t1, ((t2.alloc t2.size _).alloc (Nat.le_trans t2.size (by simp)) _).drew⟩
        · have hq' : ¬ (qh : Int) < (ph : Int) := fun h => hq (Int.ofNat_lt.1 h)
          have hff : fe = false := hff hq
          subst hff
          go_wp2
          go_region_held3 (fun W : World => W.cell? ⟨g, j * 2, none⟩ = some (.int .u8 (ph : Int)) ∧ W.cell? ⟨g, j * 2 + 1, none⟩ = some (.int .u64 (pk : Int)) ∧ W.cell? ⟨g, i * 2, none⟩ = some (.int .u8 (qh : Int)) ∧ W.cell? ⟨g, i * 2 + 1, none⟩ = some (.int .u64 (qk : Int))) (go_keep) (fail)
          all_goals
            go_wp2
            go_roundg gg
            case measure => exact Nat.lt_succ_self _
            case rel =>
              obtain ⟨t1, t2, t3, t4⟩ := R.out
              exact ⟨i + 1, by first | rfl | rw [HI.out], by rw [t4 hq], Nat.le_add_left _ _, t1, ((t2.alloc t2.size _).alloc (Nat.le_trans t2.size (by simp)) _).drew⟩
theorem covers_nil (a b : Nat) (w : World) (hT : Tabled w) (h0 : 0 < w.heap.size) (hd : b ≤ a) (hs : Calls Tryd.prog 11 #[.int .u64 (a : Int), .int .u64 (b : Int)] w fun e w' => ∃ v, e = .returned v ∧ w'.ownsRow w.heap.size 28 2 v 0 (SCELLS []) ∧ Below w.heap.size w w') :
    Calls Tryd.prog 5 #[.int .u64 (a : Int), .int .u64 (b : Int)] w fun e w' => e = .returned (.bool true) ∧ Below w.heap.size w w' := by
  have H : Aside (Tabled w ∧ 0 < w.heap.size) := ⟨hT, h0⟩
  clear hT h0
  go_enter Tryd.func5, Tryd.ntmps5
  go_wp2_with fail
  refine hs.mono ?_
  rintro e w1 ⟨v, rfl, hown, hb1⟩
  obtain ⟨ad, cap, rfl, _, _⟩ := own_shape hown
  have hc := own_nocap hown
  clear hs hown
  go_wp2_with fail
  refine (row_ok ad 0 cap [] rfl w1 (fun h => absurd h (by simp)) hc (by omega)).mono ?_
  rintro e w2 ⟨g2, c2, rfl, _, _, hb2⟩
  have hb2 : Below w.heap.size w w2 := hb1.trans (hb2.mono hb1.size)
  go_wp2_with fail
  refine (over_none c2 _ _).mono ?_
  rintro e w3 ⟨rfl, rfl⟩
  go_wp2_with fail
  refine (cutawake_ok _ (H.out.1.below H.out.2 hb2) (Nat.lt_of_lt_of_le H.out.2 hb2.size)).mono ?_
  rintro e w4 ⟨rfl, hb4⟩
  go_wp2
  go_ret
  exact ⟨rfl, hb2.trans (hb4.mono hb2.size)⟩
theorem cutCovers_walk (a0 a1 : Int) (w0 : (Lit.int .u64 a0).wf = true) (w1 : (Lit.int .u64 a1).wf = true) (w : World) (hT : Tabled w) (h0 : 0 < w.heap.size) :
    Calls Tryd.prog 5 #[.int .u64 a0, .int .u64 a1] w fun e w' => e = .returned (.bool true) ∧ Below w.heap.size w w' := by
  have b0 := wf_u64 w0
  have b1 := wf_u64 w1
  obtain ⟨a, rfl⟩ : ∃ X : Nat, a0 = (X : Int) := ⟨a0.toNat, by omega⟩
  obtain ⟨b, rfl⟩ : ∃ X : Nat, a1 = (X : Int) := ⟨a1.toNat, by omega⟩
  by_cases hb : b ≤ 4611686018427387904
  · by_cases hab : a < b
    · exact covers_some a b hab hb w hT h0
    · obtain hs := span_ok a b (by omega) hb w hT h0
      rw [SPAN_end (by omega)] at hs
      refine covers_nil a b w hT h0 (by omega) hs
  · refine covers_none a b none 0 (fun _ => rfl) w hT h0 (.inr (by omega)) ((span_not a b (by omega) w).mono ?_)
    rintro e w' ⟨rfl, rfl⟩
    exact ⟨rfl, Below.refl _ _⟩
end Go.Proofs.YtjlflmideajdjaaDoor
