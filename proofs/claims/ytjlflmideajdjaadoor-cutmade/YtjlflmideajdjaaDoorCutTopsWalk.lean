/- The walk of the law CutTops. -/
import Derived.Test.YtjlflmideajdjaaDoorCutAwake
import Derived.Test.YtjlflmideajdjaaDoorCutTopsPlain
import Derived.Test.YtjlflmideajdjaaDoorPosPeaksCall
import Derived.Test.YtjlflmideajdjaaDoorPosAwake
namespace Go.Proofs.YtjlflmideajdjaaDoor
open Go.RowKit

theorem wrap_succ (j : Nat) (h : j < 2 ^ 40) : wrap64 ((j : Int) + 1) = ((j + 1 : Nat) : Int) := by unfold wrap64; omega
theorem own_zero {w : World} {base : Nat} {t : TypeId} {s : Nat} {ad : Option Addr} {n cap : Nat} {xs : List Value} (h : w.ownsRow base t s (.slice ad n cap) n xs) : ad = none → cap = 0 := by
  intro e
  subst e
  rcases h.2 with ⟨e, _⟩ | ⟨g, c, cur, e, _⟩
  · cases e
    rfl
  · cases e
theorem tops_not (m n : Nat) (hn : 4611686018427387904 < n) (w : World) (hT : Tabled w) (h0 : 0 < w.heap.size) :
    Calls Tryd.prog 6 #[.int .u64 (m : Int), .int .u64 (n : Int)] w fun e w' => e = .returned (.bool true) ∧ Below w.heap.size w w' := by
  have cs := span_not 0 n (by omega) w
  have ca := cutawake_ok w hT h0
  have hg : (4611686018427387904 : Int) < (n : Int) := by omega
  clear hT h0 hn
  go_enter Tryd.func6, Tryd.ntmps6
  go_wp2_with fail
  refine cs.mono ?_
  rintro e w1 ⟨rfl, rfl⟩
  clear cs
  go_wp2_with fail
  refine ca.mono ?_
  rintro e w1 ⟨rfl, hb⟩
  clear ca
  go_wp2
  go_ret
  exact ⟨rfl, hb⟩
/-- Merge of any list that lies over the leaves from A to B - 1, none or some. -/
theorem merge_any (n cap : Nat) (a : Option Addr) (l : List (Nat × Nat)) (A B : Nat) (hl : l.length = n) (hn2 : n ≤ 1000) (w : World) (hL : Lie w a l) (hT : Tile A l B) : Calls Tryd.prog 19 #[.slice a n cap] w fun e w' =>
    ∃ v, e = .returned (.tuple #[v, .bool true]) ∧ w'.ownsRow w.heap.size 28 2 v (SPAN A B).length (SCELLS (SPAN A B)) ∧ Below w.heap.size w w' := by
  rcases Nat.eq_zero_or_pos n with h | h
  · subst h
    have hl0 := List.length_eq_zero_iff.1 hl
    subst hl0
    have e : A = B := hT
    subst e
    refine (merge_none cap a w).mono ?_
    rintro e w' ⟨rfl, rfl⟩
    refine ⟨_, rfl, ?_, Below.refl _ _⟩
    rw [SPAN_end (Nat.le_refl _)]
    exact World.ownsRow_nil _ _ _ _
  · exact merge_ok n cap a l A B hl h hn2 w hL hT
set_option maxHeartbeats 2000000 in
theorem tops_ok (m k n : Nat) (hn : n ≤ 4611686018427387904) (hk : (n < m ∧ n = k) ∨ (m ≤ n ∧ m = k)) (w : World) (hT : Tabled w) (h0 : 0 < w.heap.size) :
    Calls Tryd.prog 6 #[.int .u64 (m : Int), .int .u64 (n : Int)] w fun e w' => e = .returned (.bool true) ∧ Below w.heap.size w w' := by
  have hkn : k ≤ n := by omega
  have cs := span_ok 0 n (by omega) hn w hT h0
  have hlen := SPAN_zero_length hn
  have hpk := fun w hT h0 => peaks_ok n hn w hT h0
  have hat := fun i (hi : i < PC n) => SPAN_zero_at hn hi
  have hpn := fun i (hi : i < PC n) => PEAK_node hn hi
  have hpa := fun i (hi : i < PC n) => PEAKS_at (n := n) (i := i) (by omega) hi
  have cs1 := fun w hT h0 => span_ok 0 k (by omega) (Nat.le_trans hkn hn) w hT h0
  have cs2 := fun w hT h0 => span_ok k n (by omega) hn w hT h0
  have hl1 := SPAN_length (a := 0) (b := k) (Nat.le_trans hkn hn)
  have hl2 := SPAN_length (a := k) hn
  have ht := (tile_span (a := 0) (Nat.le_trans hkn hn) (Nat.zero_le k)).append (tile_span hn hkn)
  obtain ⟨l, hl⟩ : ∃ l, SPAN 0 n = l := ⟨_, rfl⟩
  obtain ⟨l1, he1⟩ : ∃ l1, SPAN 0 k = l1 := ⟨_, rfl⟩
  obtain ⟨l2, he2⟩ : ∃ l2, SPAN k n = l2 := ⟨_, rfl⟩
  obtain ⟨N, hN⟩ : ∃ N, PC n = N := ⟨_, rfl⟩
  have hPL : (PEAKS n).length = N := by rw [← hN]; exact PEAKS_length (by omega)
  have hN64 : N < 2 ^ 40 := by
    have := PC_lt_pow 64 n (by omega)
    omega
  rw [hl, hN] at hlen
  rw [hl, hlen] at cs
  rw [hl] at hat
  rw [hN] at hat hpn hpa hpk
  rw [he1] at cs1 hl1 ht
  rw [he2] at cs2 hl2 ht
  have H : Aside (Tabled w ∧ 0 < w.heap.size ∧ l.length = N ∧ N < 2 ^ 40 ∧ Tile 0 (l1 ++ l2) n ∧ SPAN 0 n = l ∧ l1.length ≤ 124 ∧ l2.length ≤ 124) := ⟨hT, h0, hlen, hN64, ht, hl, hl1, hl2⟩
  have HP : Aside ((∀ i, i < N → l[i]? = some (HGT n i, KGT n i)) ∧ (∀ i, i < N → Node (HGT n i) (KGT n i)) ∧ (∀ i, i < N → (PEAKS n).getD i 0 = PLC (HGT n i) (KGT n i)) ∧ (PEAKS n).length = N) := ⟨hat, hpn, hpa, hPL⟩
  have hg : ¬ (4611686018427387904 : Int) < (n : Int) := by omega
  clear hlen hat hpn hpa hPL hl1 hl2 ht hl hn hkn hT h0 hN64
  go_enter Tryd.func6, Tryd.ntmps6
  rcases hk with ⟨hk, rfl⟩ | ⟨hk, rfl⟩
  all_goals
    have hk' := hk
    have hk2 : (n : Int) < (m : Int) ∨ (m : Int) ≤ (n : Int) := by omega
    clear hk hk2
    go_wp2_with fail
    refine cs.mono ?_
    rintro e w1 ⟨v, rfl, hown, hb1⟩
    clear cs
    obtain ⟨ad, cap, rfl, hL⟩ := lie_own H.out.2.2.1 hown
    have O1 : Aside (Lie w1 ad l ∧ Below w.heap.size w w1) := ⟨hL, hb1⟩
    clear hown hL hb1
    go_wp2_with fail
    refine (hpk w1 (H.out.1.below H.out.2.1 O1.out.2) (Nat.lt_of_lt_of_le H.out.2.1 O1.out.2.size)).mono ?_
    rintro e w2 ⟨gp, cp, rfl, hpo, hb2⟩
    clear hpk
    have hgp : gp < w2.heap.size := (hpo.lt gp rfl).2
    have O2 : Aside (Lie w2 ad l ∧ Below w.heap.size w w2 ∧ (∀ i, i < N → w2.cell? ⟨gp, i, none⟩ = some (.int .u64 (((PEAKS n).getD i 0 : Nat) : Int)))) := ⟨O1.out.1.below hb2, O1.out.2.trans (hb2.mono O1.out.2.size), fun i hi => row_at hpo i (by rw [HP.out.2.2.2]; exact hi)⟩
    clear hpo hb2 O1
    go_wp2
    go_loopg [7] N (fun gg s7 wx => ∃ i : Nat, s7 = .int .i64 (i : Int) ∧ Aside (i + gg = N ∧ Below w2.heap.size w2 wx))
    case atStart => exact ⟨0, rfl, by omega, Below.refl _ _⟩
    case round =>
      obtain ⟨i, rfl, A⟩ := hrel
      obtain ⟨r1, r2⟩ := A.out
      cases gk with
      | zero =>
        obtain rfl : i = N := by omega
        have hlt : ¬ (i : Int) < (i : Int) := by omega
        have O3 : Aside (Lie wr ad l ∧ Below w.heap.size w wr) := ⟨O2.out.1.below r2, O2.out.2.1.trans (r2.mono O2.out.2.1.size)⟩
        clear r1 r2 A O2 HP
        have LB : Aside (∀ W, Below wr.heap.size wr W → Below w.heap.size w W ∧ Tabled W ∧ 0 < W.heap.size ∧ Lie W ad l) := fun W hW => ⟨O3.out.2.trans (hW.mono O3.out.2.size), H.out.1.below H.out.2.1 (O3.out.2.trans (hW.mono O3.out.2.size)), Nat.lt_of_lt_of_le H.out.2.1 (O3.out.2.trans (hW.mono O3.out.2.size)).size, O3.out.1.below hW⟩
        clear O3
        have hE : Below wr.heap.size wr (wr.alloc (.cells #[] 28)) := (Below.refl _ _).alloc (Nat.le_refl _) _
        have cs1 := cs1 (wr.alloc (.cells #[] 28)) (LB.out _ hE).2.1 (LB.out _ hE).2.2.1
        go_wp2_with fail
        refine cs1.mono ?_
        rintro e w4 ⟨v4, rfl, hown4, hb4⟩
        clear cs1
        obtain ⟨a4, c4, rfl, hL4⟩ := lie_own rfl hown4
        have O4 : Aside (Lie w4 a4 l1 ∧ Below wr.heap.size wr w4 ∧ w4.ownsRow wr.heap.size 28 2 (.slice (some ⟨wr.heap.size, 0, none⟩) 0 0) 0 (SCELLS []) ∧ (a4 = none → c4 = 0)) := ⟨hL4, hE.trans (hb4.mono hE.size), own_below (own_lit0 wr _ (Nat.le_refl _)) hb4, own_zero hown4⟩
        clear hown4 hL4 hE hb4
        go_wp2_with (at_builtin; refine app_spots _ rfl (.tmp 59) (.tmp 61) rfl wr.heap.size _ 0 [] rfl O4.out.2.2.1 a4 l1.length c4 l1 rfl rfl O4.out.1 O4.out.2.2.2 (by have := H.out.2.2.2.2.2.2.1; omega) O4.out.2.1.size ?_; rw [Nat.zero_add, List.nil_append]; intro a5 c5 w5 hown5 hgrow5)
        have hb5 : Below wr.heap.size wr w5 := O4.out.2.1.grown hgrow5 O4.out.2.1.size (fun k e => (O4.out.2.2.1.lt k e).1)
        have O5 : Aside (Below wr.heap.size wr w5 ∧ w5.ownsRow wr.heap.size 28 2 (.slice a5 l1.length c5) l1.length (SCELLS l1)) := ⟨hb5, hown5⟩
        clear hown5 hgrow5 O4
        refine (cs2 w5 (LB.out _ hb5).2.1 (LB.out _ hb5).2.2.1).mono ?_
        rintro e w6 ⟨v6, rfl, hown6, hb6⟩
        clear cs2 hb5
        obtain ⟨a6, c6, rfl, hL6⟩ := lie_own rfl hown6
        have O6 : Aside (Lie w6 a6 l2 ∧ Below wr.heap.size wr w6 ∧ w6.ownsRow wr.heap.size 28 2 (.slice a5 l1.length c5) l1.length (SCELLS l1) ∧ (a6 = none → c6 = 0)) := ⟨hL6, O5.out.1.trans (hb6.mono O5.out.1.size), own_below O5.out.2 hb6, own_zero hown6⟩
        clear hown6 hL6 O5 hb6
        go_wp2_with (at_builtin; refine app_spots _ rfl (.tmp 62) (.tmp 65) rfl wr.heap.size _ l1.length l1 rfl O6.out.2.2.1 a6 l2.length c6 l2 rfl rfl O6.out.1 O6.out.2.2.2 (by have := H.out.2.2.2.2.2.2.1; have := H.out.2.2.2.2.2.2.2; omega) O6.out.2.1.size ?_; intro a7 c7 w7 hown7 hgrow7)
        have hb7 : Below wr.heap.size wr w7 := O6.out.2.1.grown hgrow7 O6.out.2.1.size (fun k e => (O6.out.2.2.1.lt k e).1)
        obtain ⟨ad7, cp7, e7, hL7⟩ := lie_own (l := l1 ++ l2) (by rw [List.length_append]) hown7
        cases e7
        clear hown7 hgrow7 O6
        refine (merge_any (l1.length + l2.length) c7 a7 (l1 ++ l2) 0 n (by rw [List.length_append]) (by have := H.out.2.2.2.2.2.2.1; have := H.out.2.2.2.2.2.2.2; omega) w7 hL7 H.out.2.2.2.2.1).mono ?_
        rintro e w8 ⟨v8, rfl, hown8, hb8⟩
        clear hL7
        rw [H.out.2.2.2.2.2.1, H.out.2.2.1] at hown8
        obtain ⟨a8, c8, rfl, hL8⟩ := lie_own H.out.2.2.1 hown8
        have hb8' := hb7.trans (hb8.mono hb7.size)
        clear hown8 hb8 hb7
        go_wp2_with fail
        refine (same_ok a8 ad i c8 cap l H.out.2.2.1 H.out.2.2.2.1 w8 hL8 (LB.out _ hb8').2.2.2).mono ?_
        rintro e w9 ⟨rfl, hb9⟩
        have hb9' := hb8'.trans (hb9.mono hb8'.size)
        clear hL8 hb9 hb8'
        go_wp2_with fail
        refine (cutawake_ok w9 (LB.out _ hb9').2.1 (LB.out _ hb9').2.2.1).mono ?_
        rintro e w10 ⟨rfl, hb10⟩
        have hbX := (LB.out _ hb9').1
        go_wp2
        go_ret
        exact ⟨rfl, hbX.trans (hb10.mono hbX.size)⟩
      | succ gg =>
        have hlt : (i : Int) < (N : Int) := by omega
        obtain ⟨h1, h2, h3, h4⟩ := HP.out
        obtain ⟨g', o', rfl, hg', hc⟩ := (O2.out.1.below r2) (by have := H.out.2.2.1; omega)
        have e1 := h1 i (by omega)
        obtain ⟨x0, x1⟩ := hc i _ _ e1
        have x2 : wr.cell? ⟨gp, i, none⟩ = some (.int .u64 (((PEAKS n).getD i 0 : Nat) : Int)) := (r2.cell (p := ⟨gp, i, none⟩) hgp).trans (O2.out.2.2 i (by omega))
        rw [h3 i (by omega)] at x2
        have cp := fun w => place_ok _ _ (h2 i (by omega)) w
        have hgr : gp < wr.heap.size := Nat.lt_of_lt_of_le hgp r2.size
        have HI : Aside (wrap64 ((i : Int) + 1) = ((i + 1 : Nat) : Int)) := wrap_succ i (by have := H.out.2.2.2.1; omega)
        generalize HGT n i = ph at *
        generalize KGT n i = pk at *
        generalize PLC ph pk = pp at *
        have R : Aside (i + 1 + gg = N ∧ Below w2.heap.size w2 wr) := ⟨by omega, r2⟩
        clear r1 r2 A h1 h2 h3 h4 hc e1
        go_wp2_with fail
        refine (cp _).mono ?_
        rintro e w4 ⟨rfl, hb4⟩
        have x2' : w4.cell? ⟨gp, i, none⟩ = some (.int .u64 (pp : Int)) := (hb4.cell (p := ⟨gp, i, none⟩) hgr).trans x2
        clear x0 x1 x2 cp
        go_wp2
        go_roundg gg
        case measure => exact Nat.lt_succ_self _
        case rel => exact ⟨i + 1, by first | rfl | rw [HI.out], R.out.1, R.out.2.trans (hb4.mono R.out.2.size)⟩
theorem cutTops_walk (a0 a1 : Int) (w0 : (Lit.int .u64 a0).wf = true) (w1 : (Lit.int .u64 a1).wf = true) (w : World) (hT : Tabled w) (h0 : 0 < w.heap.size) :
    Calls Tryd.prog 6 #[.int .u64 a0, .int .u64 a1] w fun e w' => e = .returned (.bool true) ∧ Below w.heap.size w w' := by
  have b0 := wf_u64 w0
  have b1 := wf_u64 w1
  obtain ⟨m, rfl⟩ : ∃ X : Nat, a0 = (X : Int) := ⟨a0.toNat, by omega⟩
  obtain ⟨n, rfl⟩ : ∃ X : Nat, a1 = (X : Int) := ⟨a1.toNat, by omega⟩
  by_cases hn : n ≤ 4611686018427387904
  · rcases Nat.lt_or_ge n m with h | h
    · exact tops_ok m n n hn (.inl ⟨h, rfl⟩) w hT h0
    · exact tops_ok m m n hn (.inr ⟨h, rfl⟩) w hT h0
  · exact tops_not m n (by omega) w hT h0
end Go.Proofs.YtjlflmideajdjaaDoor
