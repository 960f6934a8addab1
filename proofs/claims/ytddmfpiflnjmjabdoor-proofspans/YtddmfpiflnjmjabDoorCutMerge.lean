/- What Merge answers. -/
import Derived.Test.YtddmfpiflnjmjabDoorCutOver
import Derived.Deep.RegionHeld3
import Derived.WalkMore
namespace Go.Proofs.YtddmfpiflnjmjabDoor
open Go.RowKit

theorem own_shape {w : World} {base : Nat} {t : TypeId} {s : Nat} {v : Value} {n : Nat} {xs : List Value} (h : w.ownsRow base t s v n xs) : ∃ ad cap, v = .slice ad n cap ∧ n ≤ cap ∧ (0 < n → ∃ g, ad = some ⟨g, 0, none⟩ ∧ base ≤ g ∧ g < w.heap.size) := by
  rcases h.2 with ⟨rfl, h0⟩ | ⟨g, cap, cur, rfl, hb, hg, r⟩
  · subst h0
    exact ⟨none, 0, rfl, Nat.le_refl _, fun h => by omega⟩
  · exact ⟨_, cap, rfl, r.1, fun _ => ⟨g, rfl, hb, (Array.getElem?_eq_some_iff.1 hg).1⟩⟩
theorem own_cut {w : World} {base : Nat} {g n cap : Nat} {st : List (Nat × Nat)} {x : Nat × Nat} (h : w.ownsRow base 36 2 (.slice (some ⟨g, 0, none⟩) (n + 1) cap) (n + 1) (SCELLS (st ++ [x]))) (hl : st.length = n) : w.ownsRow base 36 2 (.slice (some ⟨g, 0, none⟩) n cap) n (SCELLS st) := by
  rcases h.2 with ⟨h1, _⟩ | ⟨g', cap', cur, e, hb, hg, h1, h2, h3, h4⟩
  · cases h1
  · cases e
    have hlen : (SCELLS st).length = n * 2 := by
      rw [← hl]
      clear h h4 hl
      induction st with
      | nil => rfl
      | cons y st ih => simp only [SCELLS, List.flatMap_cons, List.length_append, List.length_cons, List.length_nil] at ih ⊢; omega
    refine ⟨hlen, .inr ⟨g, cap, cur, rfl, hb, hg, by omega, h2, h3, ?_⟩⟩
    have h5 := congrArg (List.take (n * 2)) h4
    rw [List.take_take, show min (n * 2) ((n + 1) * 2) = n * 2 by omega] at h5
    rw [h5, SCELLS_snoc, List.take_left' hlen]
theorem grown_cell (W : World) (b j : Nat) (v : Value) : W.grownBy (W.setCell ⟨b, j, none⟩ v) (some b) :=
  ⟨rfl, rfl, rfl, (KeepsWalks.setCell W _ v).size, fun k _ hk => Below.heap_setCell _ _ _ k (fun e => hk (by rw [e]))⟩
theorem below_grown {w wr w1 : World} {o : Obj} {t : TypeId} {s n : Nat} {v : Value} {xs : List Value} (h : Below w.heap.size w wr) (hg : (wr.alloc o).grownBy w1 v.ownBlock) (ho : wr.ownsRow w.heap.size t s v n xs) : Below w.heap.size w w1 :=
  (h.alloc h.size _).grown hg (by have := h.size; simp; omega) (fun k e => (ho.lt k e).1)
theorem wrap8 (x : Int) : IntKind.u8.wrap x = x % 256 := by simp [IntKind.wrap, IntKind.bits, IntKind.signed]
theorem merge_none (cap : Nat) (a : Option Addr) (w : World) : Calls Tryd.prog 13 #[.slice a 0 cap] w fun e w' => e = .returned (.tuple #[.slice none 0 0, .bool true]) ∧ w = w' := by
  go_enter Tryd.func13, Tryd.ntmps13
  go_wp2
  go_step3
  go_wp2
  rw [Exit.noGoto_ret]
  go_ret2
  exact ⟨rfl, rfl⟩
theorem merge_not (n cap : Nat) (a : Option Addr) (l : List (Nat × Nat)) (hl : l.length = n) (hn : 0 < n) (hn2 : n < 2 ^ 40) (w : World) (hL : Lie w a l) (hno : ¬ ∃ x y, l ≠ [] ∧ Tile x l y) : Calls Tryd.prog 13 #[.slice a n cap] w fun e w' => e = .returned (.tuple #[.slice none 0 0, .bool false]) ∧ Below w.heap.size w w' := by
  have co := over_some n cap a l hl hn hn2 w hL
  have h0 : l ≠ [] := by intro e; rw [e] at hl; simp at hl; omega
  have HN : Aside (l ≠ [] ∧ ¬ ∃ x y, l ≠ [] ∧ Tile x l y) := ⟨h0, hno⟩
  have hn0 : ((n : Int) == 0) = false := by simp; omega
  clear hl hn2 hL hno h0
  go_enter Tryd.func13, Tryd.ntmps13
  go_wp2
  go_step3
  go_wp2_with fail
  refine co.mono ?_
  rintro e w1 ⟨h | ⟨_, rfl⟩, hb⟩
  · obtain ⟨x, y, ht, rfl⟩ := h
    exact absurd ⟨x, y, HN.out.1, ht⟩ HN.out.2
  · clear co
    go_wp2
    rw [Exit.noGoto_ret]
    go_ret2
    exact ⟨rfl, hb⟩
set_option maxHeartbeats 2000000 in
theorem merge_ok (n cap : Nat) (a : Option Addr) (l : List (Nat × Nat)) (A B : Nat) (hl : l.length = n) (hn : 0 < n) (hn2 : n ≤ 1000) (w : World) (hL : Lie w a l) (hT : Tile A l B) : Calls Tryd.prog 13 #[.slice a n cap] w fun e w' =>
    ∃ v, e = .returned (.tuple #[v, .bool true]) ∧ w'.ownsRow w.heap.size 36 2 v (SPAN A B).length (SCELLS (SPAN A B)) ∧ Below w.heap.size w w' := by
  have co := over_some n cap a l hl hn (by omega) w hL
  obtain ⟨g, o, rfl, hg, hc⟩ := hL (by omega)
  have h0 : l ≠ [] := by intro e; rw [e] at hl; simp at hl; omega
  have HA : Aside (l.length = n ∧ g < w.heap.size ∧ n ≤ 1000 ∧ Tile A l B ∧ ∀ (j h k : Nat), l[j]? = some (h, k) → w.cell? ⟨g, o + j * 2, none⟩ = some (.int .u8 (h : Int)) ∧ w.cell? ⟨g, o + j * 2 + 1, none⟩ = some (.int .u64 (k : Int))) := ⟨hl, hg, hn2, hT, hc⟩
  have HN : Aside (l ≠ []) := h0
  have hn0 : ((n : Int) == 0) = false := by simp; omega
  clear hl hg hc hn2 hL hT h0
  go_enter Tryd.func13, Tryd.ntmps13
  go_wp2
  go_step3
  go_wp2_with fail
  refine co.mono ?_
  rintro e w1 ⟨h | ⟨hno, rfl⟩, hb⟩
  rotate_left
  · exact absurd ⟨A, B, HN.out, HA.out.2.2.2.1⟩ hno
  obtain ⟨x, y, ht, rfl⟩ := h
  have B1 : Aside (Below w.heap.size w w1) := hb
  clear co hb ht HN
  go_wp2
  go_step3
  go_wp2
  go_loopg [7, 24] n (fun gg s7 s24 wx => ∃ (i c : Nat) (st : List (Nat × Nat)), s24 = .int .i64 (i : Int) ∧ Aside (i + gg = n ∧ Tile A st c ∧ Irr st ∧ Tile c (l.drop i) B ∧ st.length ≤ i ∧ wx.ownsRow w.heap.size 36 2 s7 st.length (SCELLS st) ∧ Below w.heap.size w wx))
  case atStart => exact ⟨0, A, [], rfl, by omega, rfl, trivial, by rw [List.drop_zero]; exact HA.out.2.2.2.1, Nat.le_refl _, World.ownsRow_nil _ _ _ _, B1.out⟩
  case round =>
    obtain ⟨i, c, st, rfl, I⟩ := hrel
    obtain ⟨a1, a2, a3, a4, a5⟩ := HA.out
    obtain ⟨i1, i2, i3, i4, i5, i6, i7⟩ := I.out
    cases gk with
    | zero =>
      obtain rfl : i = n := by omega
      have hlt : ¬ (i : Int) < (i : Int) := by omega
      rw [List.drop_of_length_le (by omega)] at i4
      have i4' : c = B := i4
      subst i4'
      have e := span_only i2 i3
      subst e
      have R : Aside (wr.ownsRow w.heap.size 36 2 u7 (SPAN A c).length (SCELLS (SPAN A c)) ∧ Below w.heap.size w wr) := ⟨i6, i7⟩
      clear i1 i2 i3 i4 i5 i6 i7 a1 a2 a3 a4 a5 HA I
      go_wp2
      go_ret2
      exact ⟨u7, rfl, R.out⟩
    | succ gg =>
      have hlt : (i : Int) < (n : Int) := by omega
      obtain ⟨h, k, eh⟩ := at_lt (l := l) (i := i) (by omega)
      obtain ⟨hx0, hx1⟩ := a5 i h k eh
      have hy0 : wr.cell? ⟨g, o + i * 2, none⟩ = some (.int .u8 (h : Int)) := (i7.cell (p := ⟨g, o + i * 2, none⟩) a2).trans hx0
      have hy1 : wr.cell? ⟨g, o + i * 2 + 1, none⟩ = some (.int .u64 (k : Int)) := (i7.cell (p := ⟨g, o + i * 2 + 1, none⟩) a2).trans hx1
      have hi1 : wrap64 ((i : Int) + 1) = ((i + 1 : Nat) : Int) := by unfold wrap64; omega
      have hd : l.drop i = (h, k) :: l.drop (i + 1) := by
        obtain ⟨hi, e2⟩ := List.getElem?_eq_some_iff.1 eh
        rw [← e2, List.getElem_cons_drop]
      rw [hd] at i4
      obtain ⟨j1, j2, j3⟩ := i4
      dsimp only at j1 j2 j3
      subst j2
      obtain ⟨E, hE⟩ : ∃ E, (k + 1) * 2 ^ h = E := ⟨_, rfl⟩
      rw [hE] at j3
      have R : Aside (i + 1 + gg = n ∧ Tile A st (k * 2 ^ h) ∧ Irr st ∧ Node h k ∧ (k + 1) * 2 ^ h = E ∧ Tile E (l.drop (i + 1)) B ∧ st.length ≤ i ∧ i < 1000 ∧ wr.ownsRow w.heap.size 36 2 u7 st.length (SCELLS st) ∧ Below w.heap.size w wr) := ⟨by omega, i2, i3, j1, hE, j3, i5, by omega, i6, i7⟩
      clear i1 i2 i3 i5 i6 i7 j1 hE j3 a1 a2 a3 a4 a5 hx0 hx1 eh hd I HA
      go_wp2
      obtain ⟨pb, hpb⟩ : ∃ pb, wr.heap.size = pb := ⟨_, rfl⟩
      obtain ⟨r1, r2, r3, r4, r5, r6, r7, r8, r9, r10⟩ := R.out
      have S : Aside (i + 1 + gg = n ∧ Tile E (l.drop (i + 1)) B ∧ i < 1000 ∧ w.heap.size ≤ pb) := ⟨r1, r6, r8, by rw [← hpb]; exact r10.size⟩
      have S0 : Aside (Tile A st (k * 2 ^ h) ∧ Irr st ∧ Node h k ∧ (k + 1) * 2 ^ h = E ∧ st.length ≤ i ∧ (wr.alloc (.cells #[.int .u8 (h : Int), .int .u64 (k : Int)] 36)).ownsRow w.heap.size 36 2 u7 st.length (SCELLS st) ∧ Below w.heap.size w (wr.alloc (.cells #[.int .u8 (h : Int), .int .u64 (k : Int)] 36)) ∧ Has (wr.alloc (.cells #[.int .u8 (h : Int), .int .u64 (k : Int)] 36)) pb #[.int .u8 (h : Int), .int .u64 (k : Int)] 36 ∧ u7.ownBlock ≠ some pb) := by
        refine ⟨r2, r3, r4, r5, r7, r9.alloc _, r10.alloc r10.size _, Has.at _ _ _ hpb.symm, fun e => ?_⟩
        have := (r9.lt _ e).2
        omega
      clear r1 r2 r3 r4 r5 r6 r7 r8 r9 r10 R hy0 hy1
      rw [hpb]
      generalize wr.alloc (.cells #[.int .u8 (h : Int), .int .u64 (k : Int)] 36) = wa at *
      clear hpb
      go_loopg [7] st.length (fun gm s7 wx => ∃ (h k : Nat) (st : List (Nat × Nat)), Aside (gm = st.length ∧ Tile A st (k * 2 ^ h) ∧ Irr st ∧ Node h k ∧ (k + 1) * 2 ^ h = E ∧ st.length ≤ i ∧ wx.ownsRow w.heap.size 36 2 s7 st.length (SCELLS st) ∧ Below w.heap.size w wx ∧ Has wx pb #[.int .u8 (h : Int), .int .u64 (k : Int)] 36 ∧ s7.ownBlock ≠ some pb))
      case atStart => exact ⟨h, k, st, rfl, S0.out⟩
      case round =>
        clear S0
        obtain ⟨h', k', s', I⟩ := hrel
        obtain ⟨q1, q2, q3, q4, q5, q6, q7, q8, q9, q10⟩ := I.out
        obtain ⟨ad, cp, rfl, hcp, had⟩ := own_shape q7
        have hz0 : wr.cell? ⟨pb, 0, none⟩ = some (.int .u8 (h' : Int)) := q9.cell 0
        have hz1 : wr.cell? ⟨pb, 1, none⟩ = some (.int .u64 (k' : Int)) := q9.cell 1
        rcases List.eq_nil_or_concat s' with rfl | ⟨s0, ⟨ph, pk⟩, rfl⟩
        · simp only [List.length_nil] at *
          have hm : wrap64 ((0 : Int) - 1) = -1 := by unfold wrap64; omega
          have T : Aside (A = k' * 2 ^ h' ∧ Node h' k' ∧ (k' + 1) * 2 ^ h' = E ∧ wr.ownsRow w.heap.size 36 2 (.slice ad 0 cp) 0 (SCELLS []) ∧ Below w.heap.size w wr) := ⟨q2, q4, q5, q7, q8⟩
          clear q1 q2 q3 q4 q5 q6 q7 q8 q9 q10 hcp had I
          go_wp2
          go_quiet (fail)
          go_wp2_with (at_builtin; refine app_spot _ rfl (.tmp 42) (.tmp 44) rfl w.heap.size (.slice ad 0 cp) 0 [] rfl (T.out.2.2.2.1.alloc _) wr.heap.size 1 h' k' rfl ((Has.at _ _ _ (by simp)).cell 0) ((Has.at _ _ _ (by simp)).cell 1) (by omega) (by have := T.out.2.2.2.2.size; simp; omega) ?_; intro g' cap w1 hown hgrow hg)
          go_roundg gg
          case measure => omega
          case rel =>
            obtain ⟨s1, s2, s3, s4⟩ := S.out
            obtain ⟨t1, t2, t3, t4, t5⟩ := T.out
            exact ⟨i + 1, E, [(h', k')], by first | rfl | (rw [hi1]), s1, ⟨t2, t1.symm, t3⟩, ⟨by simp, trivial⟩, s2, by simp, hown, (below_grown (below_drewN t5 _) hgrow t4)⟩
        · rw [List.concat_eq_append] at *
          simp only [List.length_append, List.length_cons, List.length_nil, Nat.zero_add] at q1 q6 q7 had hcp ⊢
          obtain ⟨m, hm⟩ : ∃ m, s0.length = m := ⟨_, rfl⟩
          rw [hm] at q1 q6 q7 had hcp ⊢
          obtain ⟨g2, rfl, hg2, hg3⟩ := had (by omega)
          obtain ⟨c0, z1, z2, z3, z4⟩ := q2.split
          dsimp only at z2 z3
          have z4' : (pk + 1) * 2 ^ ph = k' * 2 ^ h' := z4
          have cs := fun w => siblings_ok ph pk h' k' (by have := z2.index_lt; simp at this; omega) z4' w
          have hat : (s0 ++ [(ph, pk)])[m]? = some (ph, pk) := by rw [← hm]; simp
          have hat := SCELLS_at _ m ph pk hat
          have hv0 := (q7.cellAt (m * 2) (by omega)).trans hat.1
          have hv1 := (q7.cellAt (m * 2 + 1) (by omega)).trans hat.2
          have hm1 : wrap64 (m : Int) = (m : Int) := by have := S.out.2.2.1; unfold wrap64; omega
          have hm2 : decide ((m : Int) < 0) = false := by simp
          have hb0 : (0 : Int) ≤ (m : Int) := Int.natCast_nonneg m
          have hb1 : (m : Int) < (m : Int) + 1 := Int.lt_succ (m : Int)
          have hne : g2 ≠ pb := fun e => q10 (by rw [e]; rfl)
          have hpl := q9.lt
          obtain ⟨bb, hbb⟩ : ∃ bb, decide (Sibs (ph, pk) (h', k')) = bb := ⟨_, rfl⟩
          rw [hbb] at cs
          have T : Aside (gk = m + 1 ∧ Tile A (s0 ++ [(ph, pk)]) (k' * 2 ^ h') ∧ Irr (s0 ++ [(ph, pk)]) ∧ Node h' k' ∧ (k' + 1) * 2 ^ h' = E ∧ m + 1 ≤ i ∧ wr.ownsRow w.heap.size 36 2 (.slice (some ⟨g2, 0, none⟩) (m + 1) cp) (m + 1) (SCELLS (s0 ++ [(ph, pk)])) ∧ Below w.heap.size w wr ∧ Has wr pb #[.int .u8 (h' : Int), .int .u64 (k' : Int)] 36 ∧ g2 ≠ pb ∧ s0.length = m ∧ decide (Sibs (ph, pk) (h', k')) = bb ∧ m + 1 ≤ cp ∧ g2 < wr.heap.size) := ⟨q1, q2, q3, q4, q5, q6, q7, q8, q9, hne, hm, hbb, hcp, hg3⟩
          clear q1 q2 q3 q4 q5 q6 q7 q8 q9 q10 hcp had I z1 z2 z3 z4 z4' hat hbb hm hg2
          go_wp2
          go_region_held3 (fun W : World => W.cell? ⟨pb, 0, none⟩ = some (.int .u8 (h' : Int)) ∧ W.cell? ⟨pb, 1, none⟩ = some (.int .u64 (k' : Int)) ∧ W.cell? ⟨g2, m * 2, none⟩ = some (.int .u8 (ph : Int)) ∧ W.cell? ⟨g2, m * 2 + 1, none⟩ = some (.int .u64 (pk : Int))) (go_keep) ((go_at_call 26; refine (cs _).mono ?_; rintro e w24 ⟨rfl, hb⟩; have y0 := (hb.cell (p := ⟨pb, 0, none⟩) hpl).trans hz0; have y1 := (hb.cell (p := ⟨pb, 1, none⟩) hpl).trans hz1; have y2 := (hb.cell (p := ⟨g2, m * 2, none⟩) hg3).trans hv0; have y3 := (hb.cell (p := ⟨g2, m * 2 + 1, none⟩) hg3).trans hv1))
          have hgb : Below wr.heap.size wr w24 := by first | exact (below_drewN (Below.refl _ _) _).trans hb | exact (Below.refl _ _).drew.trans hb
          obtain ⟨t1, t2, t3, t4, t5, t6, t7, t8, t9, t10, t11, t12, t13, t14⟩ := T.out
          have U : Aside (gk = m + 1 ∧ Tile A (s0 ++ [(ph, pk)]) (k' * 2 ^ h') ∧ Irr (s0 ++ [(ph, pk)]) ∧ Node h' k' ∧ (k' + 1) * 2 ^ h' = E ∧ m + 1 ≤ i ∧ w24.ownsRow w.heap.size 36 2 (.slice (some ⟨g2, 0, none⟩) (m + 1) cp) (m + 1) (SCELLS (s0 ++ [(ph, pk)])) ∧ Below w.heap.size w w24 ∧ Has w24 pb #[.int .u8 (h' : Int), .int .u64 (k' : Int)] 36 ∧ g2 ≠ pb ∧ s0.length = m ∧ decide (Sibs (ph, pk) (h', k')) = bb) := ⟨t1, t2, t3, t4, t5, t6, own_below t7 hgb, t8.trans (hgb.mono t8.size), t9.keep hgb, t10, t11, t12⟩
          clear t1 t2 t3 t4 t5 t6 t7 t8 t9 t10 t11 t12 t14 T hgb hb hv0 hv1 hz0 hz1 y2 y3 cs hpl hg3 hne
          cases bb with
          | false =>
            go_wp2_with (at_builtin; refine app_spot _ rfl (.tmp 42) (.tmp 44) rfl w.heap.size (.slice (some ⟨g2, 0, none⟩) (m + 1) cp) (m + 1) (s0 ++ [(ph, pk)]) rfl (U.out.2.2.2.2.2.2.1.alloc _) w24.heap.size 1 h' k' rfl ((Has.at _ _ _ (by simp)).cell 0) ((Has.at _ _ _ (by simp)).cell 1) (by have := U.out.2.2.2.2.2.1; have := S.out.2.2.1; omega) (by have := U.out.2.2.2.2.2.2.2.1.size; simp; omega) ?_; intro g' cap w1 hown hgrow hg)
            go_roundg gg
            case measure => omega
            case rel =>
              obtain ⟨s1, s2, s3, s4⟩ := S.out
              obtain ⟨t1, t2, t3, t4, t5, t6, t7, t8, t9, t10, t11, t12⟩ := U.out
              refine ⟨i + 1, E, (s0 ++ [(ph, pk)]) ++ [(h', k')], by first | rfl | (rw [hi1]), s1, t2.append ⟨t4, rfl, t5⟩, t3.snoc ?_, s2, ?_, ?_, below_grown t8 hgrow t7⟩
              · intro y hy
                simp at hy
                subst hy
                exact of_decide_eq_false t12
              · simp
                omega
              · rw [List.length_append, List.length_append, t11]
                exact hown
          | true =>
            obtain ⟨t1, t2, t3, t4, t5, t6, t7, t8, t9, t10, t11, t12⟩ := U.out
            obtain ⟨e1, e2, e3⟩ := of_decide_eq_true t12
            dsimp only at e1 e2 e3
            obtain ⟨c0, z1, z2⟩ := t2.split
            subst e1 e3
            have z3 := Tile.pair (h := ph) (k := pk) (z2.append ⟨t4, rfl, t5⟩) e2
            obtain ⟨h1, hh1⟩ : ∃ h1, ph + 1 = h1 := ⟨_, rfl⟩
            obtain ⟨kh, hkh⟩ : ∃ kh, pk / 2 = kh := ⟨_, rfl⟩
            obtain ⟨v1, v2, v3, v4⟩ := z3
            dsimp only at v2 v3
            rw [hh1, hkh] at v2 v3
            have v4' : (pk / 2 + 1) * 2 ^ (ph + 1) = E := v4
            rw [hh1, hkh] at v4'
            have cpar := fun w => cutup_raw ph (pk + 1) (h1 : Int) (kh : Int) w (by rw [← hh1, wrap8]; omega) (by omega)
            have hpl := t9.lt
            have hcp : (m : Int) ≤ (cp : Int) := by omega
            have V : Aside (gk = m + 1 ∧ Tile A s0 (kh * 2 ^ h1) ∧ Irr s0 ∧ Node h1 kh ∧ (kh + 1) * 2 ^ h1 = E ∧ m ≤ i ∧ w24.ownsRow w.heap.size 36 2 (.slice (some ⟨g2, 0, none⟩) m cp) m (SCELLS s0) ∧ Below w.heap.size w w24 ∧ Has w24 pb #[.int .u8 (ph : Int), .int .u64 ((pk + 1 : Nat) : Int)] 36 ∧ g2 ≠ pb ∧ s0.length = m) := ⟨t1, by rw [v3]; exact z1, t3.init, v2, v4', by omega, own_cut t7 t11, t8, t9, t10, t11⟩
            clear t1 t2 t3 t4 t5 t6 t7 t8 t9 t10 t11 t12 t13 U z1 z2 v1 v2 v3 v4 v4' e2 hh1 hkh
            go_wp2
            go_region_with ((go_at_call 27; refine (cpar _).mono ?_; rintro e w25 ⟨rfl, hb⟩; have x0 := (hb.cell (p := ⟨pb, 0, none⟩) hpl).trans y0; have x1 := (hb.cell (p := ⟨pb, 1, none⟩) hpl).trans y1; have hHb : Has w25 pb #[.int .u8 (ph : Int), .int .u64 ((pk + 1 : Nat) : Int)] 36 := (hb.block pb hpl).trans V.out.2.2.2.2.2.2.2.2.1; have f0 := hHb.frozen 0; have f1 := hHb.frozen 1))
            have hgb : Below w24.heap.size w24 w25 := by first | exact (below_drewN (Below.refl _ _) _).trans hb | exact (Below.refl _ _).drew.trans hb
            clear hb x0 x1 f0 f1 y0 y1 cpar
            go_wp2
            go_roundg m
            case measure => have := V.out.1; omega
            case rel =>
              obtain ⟨t1, t2, t3, t4, t5, t6, t7, t8, t9, t10, t11⟩ := V.out
              have b1 := t8.trans (hgb.mono t8.size)
              have hpw : w.heap.size ≤ pb := S.out.2.2.2
              refine ⟨h1, kh, s0, t11.symm, t2, t3, t4, t5, by omega, ?_, (b1.setCell (p := ⟨pb, 0, none⟩) hpw _).setCell (p := ⟨pb, 1, none⟩) hpw _, (hHb.set 0 _).set 1 _, by simpa [Value.ownBlock] using t10⟩
              rw [t11]
              have o1 := own_below t7 hgb
              have o2 := o1.kept (grown_cell w25 pb 0 (.int .u8 (h1 : Int))) (.inr (by simpa [Value.ownBlock] using t10))
              exact o2.kept (grown_cell _ pb 1 (.int .u64 (kh : Int))) (.inr (by simpa [Value.ownBlock] using t10))
end Go.Proofs.YtddmfpiflnjmjabDoor
