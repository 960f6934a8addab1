/- The walk of the law CutBreaks. -/
import Derived.Test.YtjlflmideajdjaaDoorCutTopsWalk
namespace Go.Proofs.YtjlflmideajdjaaDoor
open Go.RowKit

/-- a spot of a list is broken into its kids. -/
theorem Tile.broken {L : List (Nat × Nat)} {k h x a b : Nat} (ht : Tile a L b) (e : L[k]? = some (h + 1, x)) : Tile a ((L.take k ++ [(h, 2 * x), (h, 2 * x + 1)]) ++ L.drop (k + 1)) b ∧ ((L.take k ++ [(h, 2 * x), (h, 2 * x + 1)]) ++ L.drop (k + 1)).length = L.length + 1 := by
  obtain ⟨t1, _⟩ := take_at e
  have hk := (List.getElem?_eq_some_iff.1 e).1
  refine ⟨?_, by simp; omega⟩
  rw [t1] at ht
  obtain ⟨c, h1, h2⟩ := ht.split
  rw [show (h + 1, x) :: L.drop (k + 1) = [(h + 1, x)] ++ L.drop (k + 1) from rfl] at h2
  obtain ⟨d, h3, h4⟩ := h2.split
  exact (h1.append h3.kids).append h4
theorem tmod_bounds (z : Int) (M : Nat) (hM : 0 < M) : z.tmod (M : Int) < (M : Int) ∧ -(M : Int) < z.tmod (M : Int) := by
  have h1 := fun x : Int => Int.emod_nonneg x (b := (M : Int)) (by omega)
  have h2 := fun x : Int => Int.emod_lt_of_pos x (b := (M : Int)) (by omega)
  rcases Int.le_total 0 z with h | h
  · rw [Int.tmod_eq_emod_of_nonneg h]
    have := h1 z
    have := h2 z
    omega
  · have e : z.tmod (M : Int) = -((-z) % (M : Int)) := by rw [← Int.tmod_eq_emod_of_nonneg (by omega : 0 ≤ -z), Int.neg_tmod, Int.neg_neg]
    rw [e]
    have := h1 (-z)
    have := h2 (-z)
    omega
theorem wrap_near (x : Int) (h0 : 0 ≤ x) (h1 : x < 2 ^ 40) : wrap64 x = x := by unfold wrap64; omega
theorem own_lit_at (w : World) (base g : Nat) (hg : w.heap.size = g) (hb : base ≤ g) : (w.alloc (.cells #[] 28)).ownsRow base 28 2 (.slice (some ⟨g, 0, none⟩) 0 0) 0 (SCELLS []) := by
  subst hg
  exact own_lit0 w base hb
theorem Lie.take {w : World} {a : Option Addr} {L : List (Nat × Nat)} (h : Lie w a L) (k : Nat) : Lie w a (L.take k) := fun h0 => by
  have hl : 0 < L.length := by
    rw [List.length_take] at h0
    omega
  obtain ⟨g, o, e, hg, hc⟩ := h hl
  refine ⟨g, o, e, hg, fun j x y he => hc j x y ?_⟩
  rw [List.getElem?_take] at he
  split at he
  · exact he
  · cases he
theorem Lie.drop {w : World} {g k : Nat} {L : List (Nat × Nat)} (hL : Lie w (some ⟨g, 0, none⟩) L) : Lie w (some ⟨g, k * 2, none⟩) (L.drop k) := fun h0 => by
  rw [List.length_drop] at h0
  obtain ⟨g', o', e, hg, hc⟩ := hL (by omega)
  cases e
  refine ⟨g, k * 2, rfl, hg, fun j x y e => ?_⟩
  rw [List.getElem?_drop] at e
  have := hc (k + j) x y e
  rw [Nat.zero_add, Nat.add_mul] at this
  exact this
theorem lie_two (w : World) (a b c d : Nat) : Lie (w.alloc (.cells #[.int .u8 (a : Int), .int .u64 (b : Int), .int .u8 (c : Int), .int .u64 (d : Int)] 28)) (some ⟨w.heap.size, 0, none⟩) [(a, b), (c, d)] := fun _ => by
  refine ⟨w.heap.size, 0, rfl, by simp, fun j x y e => ?_⟩
  have hH := Has.new w #[.int .u8 (a : Int), .int .u64 (b : Int), .int .u8 (c : Int), .int .u64 (d : Int)] 28
  match j, e with
  | 0, e =>
    simp at e
    obtain ⟨rfl, rfl⟩ := e
    exact ⟨hH.cell 0, hH.cell 1⟩
  | 1, e =>
    simp at e
    obtain ⟨rfl, rfl⟩ := e
    exact ⟨hH.cell 2, hH.cell 3⟩
  | j + 2, e => simp at e
set_option maxRecDepth 100000 in
set_option maxHeartbeats 2000000 in
theorem breaks_ok (n m c3 : Nat) (a3 : Option Addr) (z : Nat → Int) (hn0 : 0 < n) (hn : n ≤ 4611686018427387904) (hm : m ≤ 400) (w : World) (hT : Tabled w) (h0 : 0 < w.heap.size)
    (hz : 0 < m → ∃ cb co, a3 = some ⟨cb, co, none⟩ ∧ cb < w.heap.size ∧ ∀ i, i < m → w.cell? ⟨cb, co + i, none⟩ = some (.int .i64 (z i)) ∧ -(2 ^ 63) ≤ z i ∧ z i < 2 ^ 63) :
    Calls Tryd.prog 8 #[.int .u64 (n : Int), .slice a3 m c3] w fun e w' => e = .returned (.bool true) ∧ Below w.heap.size w w' := by
  have hlen : (SPAN 0 n).length ≤ 64 := by
    rw [SPAN_zero_length hn]
    exact PC_lt_pow 64 n (by omega)
  have hpos : 0 < (SPAN 0 n).length := by
    rw [SPAN_step hn0]
    simp
  have ht := tile_span hn (Nat.zero_le n)
  have hE : Below w.heap.size w (w.alloc (.cells #[] 28)) := (Below.refl _ _).alloc (Nat.le_refl _) _
  have LB : Aside (∀ W, Below w.heap.size w W → Tabled W ∧ 0 < W.heap.size) := fun W hW => ⟨hT.below h0 hW, Nat.lt_of_lt_of_le h0 hW.size⟩
  have cs := span_ok 0 n (by omega) hn (w.alloc (.cells #[] 28)) (LB.out _ hE).1 (LB.out _ hE).2
  have cs2 := fun w hT h0 => span_ok 0 n (by omega) hn w hT h0
  obtain ⟨l, hl⟩ : ∃ l, SPAN 0 n = l := ⟨_, rfl⟩
  obtain ⟨N, hN⟩ : ∃ N, l.length = N := ⟨_, rfl⟩
  rw [hl] at hlen hpos ht cs cs2
  rw [hN] at hlen hpos cs cs2
  have H : Aside (SPAN 0 n = l ∧ l.length = N ∧ N ≤ 64 ∧ 0 < N ∧ Tile 0 l n ∧ m ≤ 400) := ⟨hl, hN, hlen, hpos, ht, hm⟩
  have HZ : Aside (0 < m → ∃ cb co, a3 = some ⟨cb, co, none⟩ ∧ cb < w.heap.size ∧ ∀ i, i < m → w.cell? ⟨cb, co + i, none⟩ = some (.int .i64 (z i)) ∧ -(2 ^ 63) ≤ z i ∧ z i < 2 ^ 63) := hz
  have hg1 : ¬ (4611686018427387904 : Int) < (n : Int) := by omega
  have hg2 : ((n : Int) == 0) = false := by simp; omega
  have hg3 : ¬ (400 : Int) < (m : Int) := by omega
  have hN0 : ((N : Int) == 0) = false := by simp; omega
  clear hlen hpos ht hT h0 hz hl hN hn0 hm hn
  go_enter Tryd.func8, Tryd.ntmps8
  go_wp2_with fail
  refine cs.mono ?_
  rintro e w4 ⟨v4, rfl, hown4, hb4⟩
  clear cs
  obtain ⟨a4, c4, rfl, hL4⟩ := lie_own H.out.2.1 hown4
  have O4 : Aside (Lie w4 a4 l ∧ Below w.heap.size w w4 ∧ w4.ownsRow w.heap.size 28 2 (.slice (some ⟨w.heap.size, 0, none⟩) 0 0) 0 (SCELLS []) ∧ (a4 = none → c4 = 0)) := ⟨hL4, hE.trans (hb4.mono hE.size), own_below (own_lit0 w _ (Nat.le_refl _)) hb4, own_zero hown4⟩
  clear hown4 hL4 hE hb4
  go_wp2_with (at_builtin; refine app_spots _ rfl (.tmp 26) (.tmp 28) rfl w.heap.size _ 0 [] rfl O4.out.2.2.1 a4 N c4 l H.out.2.1 rfl O4.out.1 O4.out.2.2.2 (by have := H.out.2.2.1; omega) O4.out.2.1.size ?_; rw [Nat.zero_add, List.nil_append]; intro a5 c5 w5 hown5 hgrow5)
  have hb5 : Below w.heap.size w w5 := O4.out.2.1.grown hgrow5 O4.out.2.1.size (fun k e => (O4.out.2.2.1.lt k e).1)
  have O5 : Aside (Below w.heap.size w w5 ∧ w5.ownsRow w.heap.size 28 2 (.slice a5 N c5) N (SCELLS l)) := ⟨hb5, hown5⟩
  clear hown5 hgrow5 O4 hb5
  go_loopg [5, 6] m (fun gg s5 s6 wx => ∃ (i M : Nat) (L : List (Nat × Nat)) (ad : Option Addr) (cp : Nat), s6 = .int .i64 (i : Int) ∧ s5 = .slice ad M cp ∧ Aside (i + gg = m ∧ L.length = M ∧ 0 < M ∧ M ≤ 64 + i ∧ Tile 0 L n ∧ wx.ownsRow w.heap.size 28 2 (.slice ad M cp) M (SCELLS L) ∧ Below w.heap.size w wx))
  case atStart => exact ⟨0, N, l, a5, c5, rfl, rfl, by omega, H.out.2.1, H.out.2.2.2.1, by have := H.out.2.2.1; omega, H.out.2.2.2.2.1, O5.out.2, O5.out.1⟩
  case round =>
    obtain ⟨i, M, L, ad, cp, rfl, rfl, A⟩ := hrel
    obtain ⟨r1, r2, r3, r4, r5, r6, r7⟩ := A.out
    cases gk with
    | zero =>
      obtain rfl : i = m := by omega
      have hlt : ¬ (i : Int) < (i : Int) := by omega
      obtain ⟨ad', cap', e, hL⟩ := lie_own r2 r6
      cases e
      have hcz := own_zero r6
      have hM1 : M ≤ 1000 := by have := H.out.2.2.2.2.2; omega
      have LW : Aside (∀ W, Below wr.heap.size wr W → Below w.heap.size w W ∧ Tabled W ∧ 0 < W.heap.size ∧ Lie W ad L) := fun W hW => ⟨r7.trans (hW.mono r7.size), (LB.out _ (r7.trans (hW.mono r7.size))).1, (LB.out _ (r7.trans (hW.mono r7.size))).2, hL.below hW⟩
      have R : Aside (L.length = M ∧ 0 < M ∧ Tile 0 L n ∧ M ≤ 1000) := ⟨r2, r3, r5, hM1⟩
      clear r1 r2 r3 r4 r5 r6 r7 A hL hM1
      go_wp2_with fail
      refine (row_ok ad M cp L R.out.1 wr (LW.out _ (Below.refl _ _)).2.2.2 hcz R.out.2.2.2).mono ?_
      rintro e w6 ⟨g6, c6, rfl, _, hown6, hb6⟩
      obtain ⟨ad', cap', e, hL6⟩ := lie_own R.out.1 (own_cut hown6 R.out.1)
      cases e
      clear hown6
      go_wp2_with fail
      refine (merge_ok M c6 (some ⟨g6, 0, none⟩) L 0 n R.out.1 R.out.2.1 R.out.2.2.2 w6 hL6 R.out.2.2.1).mono ?_
      rintro e w7 ⟨v7, rfl, hown7, hb7⟩
      rw [H.out.1, H.out.2.1] at hown7
      obtain ⟨a7, c7, rfl, hL7⟩ := lie_own H.out.2.1 hown7
      have hb7' := hb6.trans (hb7.mono hb6.size)
      clear hown7 hL6 hb6 hb7
      go_wp2_with fail
      refine (row_ok ad M cp L R.out.1 w7 (LW.out _ hb7').2.2.2 hcz R.out.2.2.2).mono ?_
      rintro e w8 ⟨g8, c8, rfl, _, hown8, hb8⟩
      obtain ⟨ad', cap', e, hL8⟩ := lie_own R.out.1 (own_cut hown8 R.out.1)
      cases e
      have hL7 := hL7.below hb8
      have hb8' := hb7'.trans (hb8.mono hb7'.size)
      clear hown8 hb7' hb8
      go_wp2_with fail
      refine (over_some M c8 (some ⟨g8, 0, none⟩) L R.out.1 R.out.2.1 (Nat.lt_of_le_of_lt R.out.2.2.2 (by decide)) w8 hL8).mono ?_
      have hLn : L ≠ [] := by intro e; have := R.out.1; rw [e] at this; have := R.out.2.1; simp at *; omega
      rintro e w9 ⟨h | ⟨hno, rfl⟩, hb9⟩
      rotate_left
      · exact absurd ⟨0, n, hLn, R.out.2.2.1⟩ hno
      obtain ⟨x, y, ht2, rfl⟩ := h
      obtain ⟨rfl, rfl⟩ := Tile.same hLn R.out.2.2.1 ht2
      have hL7 := hL7.below hb9
      have hb9' := hb8'.trans (hb9.mono hb8'.size)
      clear hL8 hb8' hb9 ht2
      go_wp2_with fail
      refine (cs2 w9 (LW.out _ hb9').2.1 (LW.out _ hb9').2.2.1).mono ?_
      rintro e w10 ⟨v10, rfl, hown10, hb10⟩
      obtain ⟨a10, c10, rfl, hL10⟩ := lie_own H.out.2.1 hown10
      have hL7 := hL7.below hb10
      have hb10' := hb9'.trans (hb10.mono hb9'.size)
      clear hown10 hb10 hb9'
      go_wp2_with fail
      refine (same_ok a7 a10 N c7 c10 l H.out.2.1 (Nat.lt_of_le_of_lt H.out.2.2.1 (by decide)) w10 hL7 hL10).mono ?_
      rintro e w11 ⟨rfl, hb11⟩
      have hb11' := hb10'.trans (hb11.mono hb10'.size)
      clear hL7 hL10 hb11 hb10'
      go_wp2_with fail
      refine (cutawake_ok w11 (LW.out _ hb11').2.1 (LW.out _ hb11').2.2.1).mono ?_
      rintro e w12 ⟨rfl, hb12⟩
      have hbX := (LW.out _ hb11').1
      go_wp2
      go_ret
      exact ⟨rfl, hbX.trans (hb12.mono hbX.size)⟩
    | succ gg =>
      have hlt : (i : Int) < (m : Int) := by omega
      have hm4 := H.out.2.2.2.2.2
      obtain ⟨cb, co, rfl, hcb, hcz⟩ := HZ.out (by omega)
      obtain ⟨q1, q2, q3⟩ := hcz i (by omega)
      have x0 : wr.cell? ⟨cb, co + i, none⟩ = some (.int .i64 (z i)) := (r7.cell (p := ⟨cb, co + i, none⟩) hcb).trans q1
      generalize z i = zi at *
      obtain ⟨g, c', e, hgl, hgs⟩ := r6.form r3
      cases e
      have hMM : ((M : Int) == 0) = false := by simp; omega
      have R : Aside (i + 1 + gg = m ∧ L.length = M ∧ 0 < M ∧ M ≤ 64 + i ∧ Tile 0 L n ∧ wr.ownsRow w.heap.size 28 2 (.slice (some ⟨g, 0, none⟩) M cp) M (SCELLS L) ∧ Below w.heap.size w wr ∧ m ≤ 400) := ⟨by omega, r2, r3, r4, r5, r6, r7, hm4⟩
      obtain ⟨r, hr⟩ : ∃ r, zi.tmod (M : Int) = r := ⟨_, rfl⟩
      have hr1 : r < (M : Int) ∧ -(M : Int) < r := by
        rw [← hr]
        exact tmod_bounds zi M r3
      have hcase : (∃ kk : Nat, r = (kk : Int) ∧ ¬ (kk : Int) < 0 ∧ kk < M) ∨ (∃ kk : Nat, r < 0 ∧ Aside (wrap64 (-r) = (kk : Int)) ∧ kk < M) := by
        by_cases h : r < 0
        · refine .inr ⟨(-r).toNat, h, ?_, by omega⟩
          exact (wrap_near (-r) (by omega) (by omega)).trans (by omega)
        · exact .inl ⟨r.toNat, by omega, by omega, by omega⟩
      clear r1 r2 r3 r4 r5 r6 r7 q1 q2 q3 hcz hcb hgl hgs hm4 A hr1
      rcases hcase with ⟨kk, rfl, hk0, hkM⟩ | ⟨kk, hneg, HW, hkM⟩
      all_goals
        obtain ⟨t1, t2, t3, t4, t5, t6, t7, t8⟩ := R.out
        obtain ⟨ad', cap', e, hL⟩ := lie_own t2 t6
        cases e
        obtain ⟨hh, x, eh⟩ := at_lt (l := L) (i := kk) (by omega)
        obtain ⟨g', o', e, hgs, hc⟩ := hL (by omega)
        cases e
        obtain ⟨y0, y1⟩ := hc kk hh x eh
        rw [Nat.zero_add] at y0 y1
        have hNd := t5.node eh
        have hx62 := hNd.index_lt
        have hz0 : (0 : Int) ≤ (kk : Int) := Int.natCast_nonneg kk
        have hz1 : (kk : Int) < (M : Int) := Int.ofNat_lt.2 hkM
        have HI : Aside (wrap64 ((i : Int) + 1) = ((i + 1 : Nat) : Int)) := wrap_succ i (by omega)
        by_cases hh0 : hh = 0
        · subst hh0
          clear t1 t2 t3 t4 t5 t6 t7 t8 hL hc eh hNd hx62
          try have hw := HW.out
          go_wp2
          go_roundg gg
          case measure => exact Nat.lt_succ_self _
          case rel =>
            obtain ⟨t1, t2, t3, t4, t5, t6, t7, t8⟩ := R.out
            exact ⟨i + 1, M, L, _, cp, by first | rfl | rw [HI.out], rfl, t1, t2, t3, by omega, t5, t6.alloc _, t7.alloc t7.size _⟩
        · obtain ⟨h1, hh1⟩ : ∃ h1, hh = h1 + 1 := ⟨hh - 1, by omega⟩
          obtain ⟨x2, hx2⟩ : ∃ x2, 2 * x = x2 := ⟨_, rfl⟩
          obtain ⟨x3, hx3⟩ : ∃ x3, x2 + 1 = x3 := ⟨_, rfl⟩
          have hk1 := hNd.1
          have hbr := t5.broken (k := kk) (h := h1) (x := x) (by rw [← hh1]; exact eh)
          rw [hx2, hx3] at hbr
          have hz8 : ((hh : Int) == 0) = false := by simp; exact hh0
          have hkc : M ≤ cp := by
            obtain ⟨_, _, e, h, _⟩ := own_shape t6
            cases e
            exact h
          have hsl := slice_front (some ⟨g, 0, none⟩) M cp kk (by omega)
          have hLd : Lie wr (some ⟨g, (kk + 1) * 2, none⟩) (L.drop (kk + 1)) := hL.drop
          have hLe : M = kk + 1 → ∀ ad, Lie wr ad (L.drop (kk + 1)) := fun e ad h => by rw [List.length_drop] at h; omega
          have HLt := hL.take kk
          have HLl : (L.take kk).length = kk := by rw [List.length_take]; omega
          have HLm : (L.drop (kk + 1)).length = M - (kk + 1) := by rw [List.length_drop]; omega
          have hbW : ∀ W, Below wr.heap.size wr W → Below w.heap.size w W ∧ Lie W (some ⟨g, 0, none⟩) (L.take kk) ∧ Lie W (some ⟨g, (kk + 1) * 2, none⟩) (L.drop (kk + 1)) ∧ (cp = kk + 1 → ∀ ad, Lie W ad (L.drop (kk + 1))) := fun W hW => ⟨t7.trans (hW.mono t7.size), HLt.below hW, hLd.below hW, fun e ad h => by rw [List.length_drop] at h; omega⟩
          have V : Aside ((∀ W, Below wr.heap.size wr W → Below w.heap.size w W ∧ Lie W (some ⟨g, 0, none⟩) (L.take kk) ∧ Lie W (some ⟨g, (kk + 1) * 2, none⟩) (L.drop (kk + 1)) ∧ (cp = kk + 1 → ∀ ad, Lie W ad (L.drop (kk + 1)))) ∧ (L.take kk).length = kk ∧ (L.drop (kk + 1)).length = M - (kk + 1) ∧ Tile 0 ((L.take kk ++ [(h1, x2), (h1, x3)]) ++ L.drop (kk + 1)) n ∧ M ≤ 464 ∧ kk < M ∧ 0 + kk ≤ 100000 ∧ kk + 2 ≤ 100000 ∧ kk + 2 + (M - (kk + 1)) ≤ 100000 ∧ kk + 2 + (M - (kk + 1)) = M + 1) := ⟨hbW, HLl, HLm, hbr.1, by omega, hkM, by omega, by omega, by omega, by omega⟩
          have hk40 : kk < 2 ^ 40 := by omega
          have HS : Aside (IntKind.u8.wrap ((hh : Int) - 1) = (h1 : Int) ∧ ((hh : Int) - 1) % 256 = (h1 : Int) ∧ IntKind.u64.wrap (2 * (x : Int)) = (x2 : Int) ∧ IntKind.u64.wrap ((x2 : Int) + 1) = (x3 : Int) ∧ True) := ⟨by rw [wrap8]; omega, by omega, by rw [wrapU]; omega, by rw [wrapU]; omega, trivial⟩
          clear t1 t2 t3 t4 t5 t6 t7 t8 hL hc eh hNd hx62 hbr hkc hLd HLt HLl HLm hbW hk1 hh1 hx2 hx3 hgs
          have wa : Aside (Below wr.heap.size wr (wr.alloc (.cells #[.int .u8 (hh : Int), .int .u64 (x : Int)] 28)) ∧ Below wr.heap.size wr ((wr.alloc (.cells #[.int .u8 (hh : Int), .int .u64 (x : Int)] 28)).alloc (.cells #[] 28))) := ⟨(Below.refl _ _).alloc (Nat.le_refl _) _, ((Below.refl _ _).alloc (Nat.le_refl _) _).alloc (by simp) _⟩
          have hs1 := HS.out.1
          have hs2 := HS.out.2.1
          have hs3 := HS.out.2.2.1
          have hs4 := HS.out.2.2.2.1
          try have hw := HW.out
          have hcpc : (cp = kk + 1) ∨ (¬ cp = kk + 1 ∧ ¬ kk + 1 = cp) := by
            by_cases h : cp = kk + 1
            · exact .inl h
            · exact .inr ⟨h, fun e => h e.symm⟩
          rcases hcpc with rfl | ⟨hc1, hc2⟩
          all_goals go_wp2_with (first | (at_builtin; refine app_spots _ rfl (.tmp 57) (.tmp 60) rfl wr.heap.size (.slice (some ⟨wr.heap.size + 1, 0, none⟩) 0 0) 0 [] rfl (own_lit_at _ _ _ (by simp) (Nat.le_succ _)) (some ⟨g, 0, none⟩) kk _ (L.take kk) V.out.2.1 rfl (V.out.1 _ wa.out.2).2.1 (by simp) V.out.2.2.2.2.2.2.1 wa.out.2.size ?_; rw [Nat.zero_add, List.nil_append]; intro a9 c9 w9 hown9 hgrow9; have hH9 := ((Has.new wr #[.int .u8 (hh : Int), .int .u64 (x : Int)] 28).alloc _).grew hgrow9 (by simp [Value.ownBlock]); have y2 : w9.cell? ⟨wr.heap.size, 0, none⟩ = some (.int .u8 (hh : Int)) := hH9.cell 0; have y3 : w9.cell? ⟨wr.heap.size, 1, none⟩ = some (.int .u64 (x : Int)) := hH9.cell 1; have hb9 : Below wr.heap.size wr w9 := wa.out.2.grown hgrow9 wa.out.2.size (fun k e => by cases e; exact Nat.le_succ _); have O9 : Aside (Below wr.heap.size wr w9 ∧ w9.ownsRow wr.heap.size 28 2 (.slice a9 kk c9) kk (SCELLS (L.take kk))) := ⟨hb9, hown9⟩; clear hown9 hgrow9 hb9 wa y0 y1 hH9) | (at_builtin; refine app_spots _ rfl (.tmp 62) (.tmp 78) rfl wr.heap.size _ kk (L.take kk) rfl (O9.out.2.alloc _) (some ⟨w9.heap.size, 0, none⟩) 2 2 [(h1, x2), (h1, x3)] rfl rfl (lie_two w9 h1 x2 h1 x3) (by simp) V.out.2.2.2.2.2.2.2.1 (Nat.le_trans O9.out.1.size (by simp)) ?_; intro a10 c10 w10 hown10 hgrow10; have hb10 : Below wr.heap.size wr w10 := (O9.out.1.alloc O9.out.1.size _).grown hgrow10 (Nat.le_trans O9.out.1.size (by simp)) (fun k e => (O9.out.2.lt k e).1); have O10 : Aside (Below wr.heap.size wr w10 ∧ w10.ownsRow wr.heap.size 28 2 (.slice a10 (kk + 2) c10) (kk + 2) (SCELLS (L.take kk ++ [(h1, x2), (h1, x3)]))) := ⟨hb10, hown10⟩; clear hown10 hgrow10 hb10 y2 y3 O9 hs1 hs2 hs3 hs4) | (at_builtin; refine app_spots _ rfl (.tmp 80) (.tmp 84) rfl wr.heap.size _ (kk + 2) (L.take kk ++ [(h1, x2), (h1, x3)]) rfl O10.out.2 _ (M - (kk + 1)) _ (L.drop (kk + 1)) V.out.2.2.1 rfl (by first | exact (V.out.1 _ O10.out.1).2.2.1 | exact (V.out.1 _ O10.out.1).2.2.2 rfl _) (by simp) V.out.2.2.2.2.2.2.2.2.1 O10.out.1.size ?_; intro a11 c11 w11 hown11 hgrow11))
          all_goals
            go_roundg gg
            case measure => exact Nat.lt_succ_self _
            case rel =>
              obtain ⟨t1, t2, t3, t4, t5, t6, t7, t8⟩ := R.out
              have hb11 : Below wr.heap.size wr w11 := O10.out.1.grown hgrow11 O10.out.1.size (fun k e => (O10.out.2.lt k e).1)
              have v2 := V.out.2.1
              have v3 := V.out.2.2.1
              have v4 := V.out.2.2.2.1
              have v9 := V.out.2.2.2.2.2.2.2.2.2
              have hl11 : ((L.take kk ++ [(h1, x2), (h1, x3)]) ++ L.drop (kk + 1)).length = kk + 2 + (M - (kk + 1)) := by
                rw [List.length_append, List.length_append, v2, v3]
                rfl
              refine ⟨i + 1, _, _, a11, c11, by first | rfl | rw [HI.out], rfl, t1, hl11, by omega, ?_, v4, own_mono hown11 t7.size, (V.out.1 _ hb11).1⟩
              clear hl11 HI hown11 hgrow11
              omega
theorem breaks_great (n : Int) (a : Option Addr) (m c : Nat) (hn : 4611686018427387904 < n) (w : World) : Calls Tryd.prog 8 #[.int .u64 n, .slice a m c] w fun e w' => e = .returned (.bool true) ∧ Below w.heap.size w w' := by
  go_enter Tryd.func8, Tryd.ntmps8
  go_wp2
  go_ret
  exact ⟨rfl, Below.refl _ _⟩
theorem breaks_zero (a : Option Addr) (m c : Nat) (w : World) : Calls Tryd.prog 8 #[.int .u64 0, .slice a m c] w fun e w' => e = .returned (.bool true) ∧ Below w.heap.size w w' := by
  go_enter Tryd.func8, Tryd.ntmps8
  go_wp2
  go_ret
  exact ⟨rfl, Below.refl _ _⟩
theorem breaks_long (n : Int) (a : Option Addr) (m c : Nat) (h1 : ¬ 4611686018427387904 < n) (h2 : (n == 0) = false) (h3 : (400 : Int) < (m : Int)) (w : World) : Calls Tryd.prog 8 #[.int .u64 n, .slice a m c] w fun e w' => e = .returned (.bool true) ∧ Below w.heap.size w w' := by
  go_enter Tryd.func8, Tryd.ntmps8
  go_wp2
  go_ret
  exact ⟨rfl, Below.refl _ _⟩
theorem cutBreaks_walk (a0 : Int) (a1 : Option Addr) (len1 cap1 : Nat) (z : Nat → Int) (w0 : (Lit.int .u64 a0).wf = true) (w : World)
    (hz : 0 < len1 → ∃ cb co, a1 = some ⟨cb, co, none⟩ ∧ cb < w.heap.size ∧ ∀ i, i < len1 → w.cell? ⟨cb, co + i, none⟩ = some (.int .i64 (z i)) ∧ -(2 ^ 63) ≤ z i ∧ z i < 2 ^ 63) (hT : Tabled w) (h0 : 0 < w.heap.size) :
    Calls Tryd.prog 8 #[.int .u64 a0, .slice a1 len1 cap1] w fun e w' => e = .returned (.bool true) ∧ Below w.heap.size w w' := by
  have b0 := wf_u64 w0
  obtain ⟨n, rfl⟩ : ∃ X : Nat, a0 = (X : Int) := ⟨a0.toNat, by omega⟩
  by_cases hn : n ≤ 4611686018427387904
  · by_cases hn0 : n = 0
    · subst hn0
      exact breaks_zero a1 len1 cap1 w
    · by_cases hm : len1 ≤ 400
      · exact breaks_ok n len1 cap1 a1 z (by omega) hn hm w hT h0 hz
      · exact breaks_long _ a1 len1 cap1 (by omega) (by simp; omega) (by omega) w
  · exact breaks_great _ a1 len1 cap1 (by omega) w
end Go.Proofs.YtjlflmideajdjaaDoor
