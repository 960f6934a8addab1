/- Texts of VerifyReaches, one behind the other: VerifyHanded, VerifyPeaks. -/
import Derived.Test.YtkcfhgflgkejoaaGreatDoorVerifyReachesP6
import Derived.Test.YtkcfhgflgkejoaaGreatDoorVerifyReachesP7
import Derived.Test.YtkcfhgflgkejoaaGreatDoorVerifyReachesP10
import Derived.Test.YtkcfhgflgkejoaaGreatDoorVerifyReachesP17
/- What handed and join of package verify do. -/
namespace Go.Proofs.YtkcfhgflgkejoaaGreatDoor
open Go.RowKit
set_option maxRecDepth 100000

/-- the first i nodes, at their spots. -/
def HAND (ss : List (Nat × Nat)) (l : List Int) : Nat → Nat → Nat → List Int
  | 0 => fun _ _ => ZND
  | i + 1 => MPUT (HAND ss l i) (ss.getD i (0, 0)).1 (ss.getD i (0, 0)).2 (HSH l i)
theorem handed_not (v : Value) (N : Nat) (hv : ∃ a' c', v = .slice a' N c') (a : Option Addr) (n c : Nat) (hn : n ≠ N) (w : World) : Calls Tryz.prog 35 #[v, .slice a n c] w fun e w' => e = .returned (.tuple #[.map none, .int .i64 70]) ∧ w = w' := by
  obtain ⟨a', c', rfl⟩ := hv
  have h1 : ¬ (n : Int) = (N : Int) := by omega
  clear hn
  go_enter Tryz.func35, Tryz.ntmps35
  go_wp2
  go_ret2
  exact ⟨rfl, rfl⟩
/-- what a map is made of. -/
def MADEM (w : World) (n : Nat) (M : Nat → Nat → List Int) (e : Ending) (w' : World) : Prop := ∃ b, e = .returned (.tuple #[.map (some b), .int .i64 0]) ∧ SMAP w' b n M ∧ w.heap.size ≤ b ∧ Below w.heap.size w w'
theorem range_keep {w w' : World} {g o : Nat} {cs : List Value} (h : w.rangeAt g o cs) (hb : w'.heap[g]? = w.heap[g]?) : w'.rangeAt g o cs := fun j v hv => (World.cell?_of_block (a := ⟨g, o + j, none⟩) hb).trans (h j v hv)
theorem has_range {w : World} {g : Nat} {l : List Int} {t : TypeId} (h : Has w g (CELLS l).toArray t) : w.rangeAt g 0 (CELLS l) := fun j v hv => by rw [Nat.zero_add, h.cell, List.getElem?_toArray]; exact hv
set_option maxHeartbeats 2000000 in
theorem handed_ok (ss : List (Nat × Nat)) (hN : ∀ s ∈ ss, Node s.1 s.2) (B n : Nat) (hss : ss.length = n) (hn : n ≤ 1000) (v : Value) (a : Option Addr) (c : Nat) (l : List Int) (w : World) (hv : w.ownsRow B 24 1 v n (UCELLS (PLCS ss))) (hF : Flat w a n l) :
    Calls Tryz.prog 35 #[v, .slice a n c] w (MADEM w n (HAND ss l n)) := by
  obtain ⟨ap, cp, rfl, hap⟩ := own_slice hv
  have HA : Aside ((∀ s ∈ ss, Node s.1 s.2) ∧ ss.length = n ∧ n ≤ 1000 ∧ Flat w a n l ∧ (0 < n → ∃ g, ap = some ⟨g, 0, none⟩ ∧ g < w.heap.size) ∧ w.ownsRow B 24 1 (.slice ap n cp) n (UCELLS (PLCS ss))) := ⟨hN, hss, hn, hF, fun h => by obtain ⟨g, e, h1, _⟩ := hap h; exact ⟨g, e, h1⟩, hv⟩
  have M0 : Aside (SMAP (w.alloc (.map #[] 0)) w.heap.size 0 (HAND ss l 0) ∧ Below w.heap.size w (w.alloc (.map #[] 0))) := ⟨SMAP.made w, (Below.refl _ _).alloc (Nat.le_refl _) _⟩
  have hmk : (Instr.makeMap 69 none).run Tryz.prog w = .ok (.map (some w.heap.size)) (w.alloc (.map #[] 0)) := rfl
  clear hN hss hn hF hap hv
  go_enter Tryz.func35, Tryz.ntmps35
  go_wp2_with fail
  go_loopg [19] n (fun q s19 wx => ∃ i : Nat, s19 = .int .i64 (i : Int) ∧ Aside (i + q = n ∧ Below w.heap.size w wx ∧ SMAP wx w.heap.size i (HAND ss l i)))
  case atStart => exact ⟨0, rfl, by omega, M0.out.2, M0.out.1⟩
  case round =>
    obtain ⟨i, rfl, A⟩ := hrel
    clear M0
    cases gk with
    | zero =>
      obtain rfl : i = n := by have := A.out.1; omega
      have hlt : ¬ (i : Int) < (i : Int) := by omega
      have R : Aside (SMAP wr w.heap.size i (HAND ss l i) ∧ Below w.heap.size w wr) := ⟨A.out.2.2, A.out.2.1⟩
      clear A HA
      go_wp2
      go_ret2
      exact ⟨_, rfl, R.out.1, Nat.le_refl _, R.out.2⟩
    | succ q =>
      obtain ⟨a1, a2, a3⟩ := A.out
      obtain ⟨h1, h2, h3, h4, h5, h6⟩ := HA.out
      have hlt : (i : Int) < (n : Int) := by omega
      obtain ⟨gp, rfl, hgp⟩ := h5 (by omega)
      obtain ⟨gn, o, rfl, hgn, hcn⟩ := h4.2.1 (by omega)
      obtain ⟨⟨h, k⟩, hs⟩ : ∃ s, ss[i]? = some s := ⟨_, List.getElem?_eq_getElem (by omega)⟩
      have hNd : Node h k := h1 (h, k) (List.mem_of_getElem? hs)
      have hcp : wr.cell? ⟨gp, i, none⟩ = some (.int .u64 ((PLC h k : Nat) : Int)) := by
        refine (a2.cell (p := ⟨gp, i, none⟩) hgp).trans ?_
        rw [h6.cellAt i (by omega)]
        simp [UCELLS, PLCS, hs]
      have hat := (h4.below a2).at (show i < n by omega)
      have h32 := HSH_length h4.1 (show i < n by omega)
      have hnx : HAND ss l (i + 1) = MPUT (HAND ss l i) h k (HSH l i) := by rw [HAND, List.getD_eq_getElem?_getD, hs]; rfl
      have R : Aside (i + 1 + q = n ∧ Below w.heap.size w wr ∧ SMAP wr w.heap.size i (HAND ss l i) ∧ gn < w.heap.size ∧ Node h k ∧ HAND ss l (i + 1) = MPUT (HAND ss l i) h k (HSH l i) ∧ n ≤ 1000 ∧ wr.rangeAt gn (o + i * 32) (CELLS (HSH l i))) := ⟨by omega, a2, a3, hgn, hNd, hnx, h3, hat⟩
      have cS := spot_ok h k hNd wr
      have E1 : Aside (wrap64 ((i : Int) + 1) = ((i + 1 : Nat) : Int)) := by show wrap64 ((i : Int) + 1) = ((i + 1 : Nat) : Int); unfold wrap64; omega
      clear a1 a2 a3 h1 h2 h3 h4 h5 h6 hgp hgn hcn hs hNd hat hnx A HA
      generalize PLC h k = pl at *
      go_wp2_with fail
      refine cS.mono ?_
      rintro e w1 ⟨rfl, hb1⟩
      clear cS hcp
      have hbx : Below w1.heap.size w1 (w1.alloc (.cells #[.int .u8 (h : Int), .int .u64 (k : Int)] 64)) := (Below.refl _ _).alloc (Nat.le_refl _) _
      obtain ⟨b9, hb9⟩ : ∃ b9, b9 = w1.heap.size := ⟨_, rfl⟩
      have R2 : Aside (Below w.heap.size w (w1.alloc (.cells #[.int .u8 (h : Int), .int .u64 (k : Int)] 64)) ∧ SMAP (w1.alloc (.cells #[.int .u8 (h : Int), .int .u64 (k : Int)] 64)) w.heap.size i (HAND ss l i) ∧ Has (w1.alloc (.cells #[.int .u8 (h : Int), .int .u64 (k : Int)] 64)) b9 #[.int .u8 (h : Int), .int .u64 (k : Int)] 64 ∧ (w1.alloc (.cells #[.int .u8 (h : Int), .int .u64 (k : Int)] 64)).rangeAt gn (o + i * 32) (CELLS (HSH l i)) ∧ w.heap.size < b9) := by
        obtain ⟨r1, r2, r3, r4, r5, r6, r7, r8⟩ := R.out
        have t1 := r2.trans (hb1.mono r2.size)
        refine ⟨t1.trans (hbx.mono t1.size), (r3.below hb1).below hbx, by rw [hb9]; exact Has.new _ _ _, ?_, ?_⟩
        · exact range_keep (range_keep r8 (hb1.block gn (by have := r2.size; omega))) (hbx.block gn (by have := t1.size; omega))
        · rw [hb9]
          exact (r3.below hb1).lt
      go_upto_region 8 with fail
      rw [← hb9]
      clear hb1 hbx hb9
      generalize w1.alloc (.cells #[.int .u8 (h : Int), .int .u64 (k : Int)] 64) = w2 at *
      refine handed_region _ _ _ _ _ _ _ _ _ _ _ _ _ _ _ _ _ _ _ _ _ _ _ _ _ _ _ _ _ _ _ _ _ _ w.heap.size b9 gn o n c i h k (HSH l i) h32 hlt (fun W => Below w.heap.size w W ∧ SMAP W w.heap.size i (HAND ss l i) ∧ Has W b9 #[.int .u8 (h : Int), .int .u64 (k : Int)] 64 ∧ W.rangeAt gn (o + i * 32) (CELLS (HSH l i))) (fun W => Below w.heap.size w W ∧ SMAP W w.heap.size (i + 1) (HAND ss l (i + 1)) ∧ Has W b9 #[.int .u8 (h : Int), .int .u64 (k : Int)] 64 ∧ W.rangeAt gn (o + i * 32) (CELLS (HSH l i)))
        (fun W ⟨_, _, p, q⟩ => ⟨p.cell 0, p.cell 1, q⟩) (fun W ⟨_, _, p, q⟩ => ⟨p.cell 0, p.cell 1, q⟩) ?_ ⟨R2.out.1.drew, R2.out.2.1.at rfl, R2.out.2.2.1, range_keep R2.out.2.2.2.1 rfl⟩ (fun _ _ _ _ _ h => h) ?_
      · rintro W ⟨p1, p2, p3, p4⟩
        obtain ⟨r1, r2, r3, r4, r5, r6, r7, r8⟩ := R.out
        obtain ⟨w', q1, q2, q3⟩ := p2.store (h := h) (k := k) (by omega) (by have := r5.1; omega) (by have := r5.index_lt; omega) (HSH l i)
        have hb9' := R2.out.2.2.2.2
        refine ⟨w', q1, p1.grown q3 p1.size (fun k e => by cases e; exact Nat.le_refl _), by rw [r6]; exact q2, (q3.block b9 p3.lt (by simp; omega)).trans p3, range_keep p4 (q3.block gn (by have := p1.size; omega) (by simp; omega))⟩
      · rintro W ⟨p1, p2, p3, p4⟩
        have Z : Aside (i + 1 + q = n ∧ Below w.heap.size w W ∧ SMAP W w.heap.size (i + 1) (HAND ss l (i + 1))) := ⟨R.out.1, p1, p2⟩
        clear p1 p2 p3 p4 R R2 h32
        have e1 := E1.out
        go_wp2
        go_roundg q
        case measure => exact Nat.lt_succ_self _
        case rel => exact ⟨i + 1, by first | rfl | (rw [E1.out]), Z.out⟩
set_option maxHeartbeats 2000000 in
theorem join_ok (mb n h h1 k : Nat) (d : Int) (M : Nat → Nat → List Int) (hh : h = h1 + 1) (hh2 : h < 200) (hk : 2 * k + 1 < 2 ^ 64) (hn : n ≤ 10000) (w : World) (hM : SMAP w mb n M) (hL : IsH (M h1 (2 * k))) (hR : IsH (M h1 (2 * k + 1))) (hT : HX.Tabled w) (hmb : 2 < mb) :
    Calls Tryz.prog 37 #[.map (some mb), .int .i64 d, .agg #[.int .u8 (h : Int), .int .u64 (k : Int)]] w fun e w' => e = .returned (.tuple #[]) ∧ SMAP w' mb (n + 1) (MPUT M h k (NODEH d (M h1 (2 * k)) (M h1 (2 * k + 1)))) ∧ w.grownBy w' (some mb) := by
  obtain ⟨L, hLe⟩ : ∃ L, M h1 (2 * k) = L := ⟨_, rfl⟩
  obtain ⟨R, hRe⟩ : ∃ R, M h1 (2 * k + 1) = R := ⟨_, rfl⟩
  rw [hLe] at hL ⊢
  rw [hRe] at hR ⊢
  obtain ⟨k2, hk2⟩ : ∃ k2, 2 * k = k2 := ⟨_, rfl⟩
  obtain ⟨k3, hk3⟩ : ∃ k3, k2 + 1 = k3 := ⟨_, rfl⟩
  have e1 : IntKind.u8.wrap ((h : Int) - 1) = (h1 : Int) := by simp [IntKind.wrap, IntKind.bits, IntKind.signed]; omega
  have e2 : IntKind.u64.wrap (2 * (k : Int)) = (k2 : Int) := by rw [wrapU]; omega
  have e3 : IntKind.u64.wrap ((k2 : Int) + 1) = (k3 : Int) := by rw [wrapU]; omega
  have HA : Aside (h < 200 ∧ h1 < 200 ∧ (k2 < 2 ^ 64 ∧ k3 < 2 ^ 64) ∧ k < 2 ^ 64 ∧ n ≤ 10000 ∧ SMAP w mb n M ∧ M h1 k2 = L ∧ M h1 k3 = R ∧ IsH L ∧ IsH R ∧ HX.Tabled w ∧ 2 < mb) := ⟨hh2, by omega, by omega, by omega, hn, hM, by rw [← hk2]; exact hLe, by rw [← hk3, ← hk2]; exact hRe, hL, hR, hT, hmb⟩
  have l32 : L.length = 32 := hL.1
  have r32 : R.length = 32 := hR.1
  have LK : Aside (∀ W, Below w.heap.size w W → (Instr.lookup 69 (.map (some mb)) (.agg #[.int .u8 (h1 : Int), .int .u64 (k2 : Int)]) false).run Tryz.prog W = .ok (.agg (CELLS L).toArray) W ∧ (Instr.lookup 69 (.map (some mb)) (.agg #[.int .u8 (h1 : Int), .int .u64 (k3 : Int)]) false).run Tryz.prog W = .ok (.agg (CELLS R).toArray) W) := fun W hb => by
    have h1' := (HA.out.2.2.2.2.2.1.below hb).look (h := h1) (k := k2) (by have := HA.out; omega) (by have := HA.out; omega)
    have h2' := (HA.out.2.2.2.2.2.1.below hb).look (h := h1) (k := k3) (by have := HA.out; omega) (by have := HA.out; omega)
    rw [HA.out.2.2.2.2.2.2.1] at h1'
    rw [HA.out.2.2.2.2.2.2.2.1] at h2'
    exact ⟨h1', h2'⟩
  clear hh hh2 hk hn hM hLe hRe hk2 hk3 hL hR hT hmb
  go_enter Tryz.func37, Tryz.ntmps37
  go_upto_region 1 with fail
  obtain ⟨b5, hb5⟩ : ∃ b5, b5 = w.heap.size := ⟨_, rfl⟩
  have R1 : Aside (Below w.heap.size w (w.alloc (.cells #[.int .u8 (h : Int), .int .u64 (k : Int)] 64)) ∧ Has (w.alloc (.cells #[.int .u8 (h : Int), .int .u64 (k : Int)] 64)) b5 #[.int .u8 (h : Int), .int .u64 (k : Int)] 64 ∧ w.heap.size ≤ b5) := ⟨(Below.refl _ _).alloc (Nat.le_refl _) _, by rw [hb5]; exact Has.new _ _ _, by rw [hb5]; exact Nat.le_refl _⟩
  rw [← hb5]
  clear hb5
  generalize w.alloc (.cells #[.int .u8 (h : Int), .int .u64 (k : Int)] 64) = W1 at *
  have lk1 := (LK.out _ R1.out.1).1
  have hz0 : W1.cell? ⟨b5, 0, none⟩ = some (.int .u8 (h : Int)) := R1.out.2.1.cell 0
  have hz1 : W1.cell? ⟨b5, 1, none⟩ = some (.int .u64 (k : Int)) := R1.out.2.1.cell 1
  go_upto_region 2 with (refine wpList_store_row rfl 23 (.tmp 6) (.tmp 16) rfl _ _ rfl rfl 23 _ (Has.new W1 _ _) (info_arr l32) (by simp [CELLS, l32]) (cells_one L) ?_; rw [World.setRow_alloc_new])
  obtain ⟨b6, hb6⟩ : ∃ b6, b6 = W1.heap.size := ⟨_, rfl⟩
  have R2 : Aside (Below w.heap.size w (W1.alloc (.cells (CELLS L).toArray 23)) ∧ Has (W1.alloc (.cells (CELLS L).toArray 23)) b5 #[.int .u8 (h : Int), .int .u64 (k : Int)] 64 ∧ w.heap.size ≤ b5 ∧ Has (W1.alloc (.cells (CELLS L).toArray 23)) b6 (CELLS L).toArray 23 ∧ w.heap.size ≤ b6) := ⟨R1.out.1.alloc R1.out.1.size _, R1.out.2.1.alloc _, R1.out.2.2, by rw [hb6]; exact Has.new _ _ _, by rw [hb6]; exact R1.out.1.size⟩
  rw [← hb6]
  clear hb6 lk1 hz0 hz1 R1
  generalize W1.alloc (.cells (CELLS L).toArray 23) = W2 at *
  have lk2 := (LK.out _ R2.out.1).2
  have hz0 : W2.cell? ⟨b5, 0, none⟩ = some (.int .u8 (h : Int)) := R2.out.2.1.cell 0
  have hz1 : W2.cell? ⟨b5, 1, none⟩ = some (.int .u64 (k : Int)) := R2.out.2.1.cell 1
  go_upto_region 3 with (refine wpList_store_row rfl 23 (.tmp 7) (.tmp 26) rfl _ _ rfl rfl 23 _ (Has.new W2 _ _) (info_arr r32) (by simp [CELLS, r32]) (cells_one R) ?_; rw [World.setRow_alloc_new])
  obtain ⟨b7, hb7⟩ : ∃ b7, b7 = W2.heap.size := ⟨_, rfl⟩
  have R3 : Aside (Below w.heap.size w (W2.alloc (.cells (CELLS R).toArray 23)) ∧ Has (W2.alloc (.cells (CELLS R).toArray 23)) b5 #[.int .u8 (h : Int), .int .u64 (k : Int)] 64 ∧ w.heap.size ≤ b5 ∧ Has (W2.alloc (.cells (CELLS R).toArray 23)) b6 (CELLS L).toArray 23 ∧ w.heap.size ≤ b6 ∧ Has (W2.alloc (.cells (CELLS R).toArray 23)) b7 (CELLS R).toArray 23 ∧ w.heap.size ≤ b7) := ⟨R2.out.1.alloc R2.out.1.size _, R2.out.2.1.alloc _, R2.out.2.2.1, R2.out.2.2.2.1.alloc _, R2.out.2.2.2.2, by rw [hb7]; exact Has.new _ _ _, by rw [hb7]; exact R2.out.1.size⟩
  rw [← hb7]
  clear hb7 lk2 hz0 hz1 R2
  generalize W2.alloc (.cells (CELLS R).toArray 23) = W3 at *
  refine join_region _ _ _ _ _ _ _ _ _ _ _ _ _ _ _ _ _ _ _ _ _ _ _ _ _ _ _ _ _ mb b5 b6 b7 h k d L R l32 r32 (fun W => Below w.heap.size w W ∧ Has W b5 #[.int .u8 (h : Int), .int .u64 (k : Int)] 64 ∧ Has W b6 (CELLS L).toArray 23 ∧ Has W b7 (CELLS R).toArray 23) (fun X W => X = .agg (CELLS (NODEH d L R)).toArray ∧ Below w.heap.size w W ∧ Has W b5 #[.int .u8 (h : Int), .int .u64 (k : Int)] 64 ∧ Has W b6 (CELLS L).toArray 23 ∧ Has W b7 (CELLS R).toArray 23) (fun _ W => SMAP W mb (n + 1) (MPUT M h k (NODEH d L R)) ∧ w.grownBy W (some mb) ∧ Has W b5 #[.int .u8 (h : Int), .int .u64 (k : Int)] 64 ∧ Has W b6 (CELLS L).toArray 23 ∧ Has W b7 (CELLS R).toArray 23)
    (fun W ⟨_, p, q, r⟩ => ⟨p.cell 0, p.cell 1, has_range q, has_range r⟩) (fun X W ⟨_, _, p, q, r⟩ => ⟨p.cell 0, p.cell 1, has_range q, has_range r⟩) (fun X W ⟨_, _, p, q, r⟩ => ⟨p.cell 0, p.cell 1, has_range q, has_range r⟩) ?_ ?_ ⟨R3.out.1.drew, R3.out.2.1, R3.out.2.2.2.1, R3.out.2.2.2.2.2.1⟩ (fun _ _ _ _ _ h => h) ?_
  · rintro W ⟨p1, p2, p3, p4⟩
    obtain ⟨a1, a2, a3, a4, a5, a6, a7, a8, a9, a10, a11, a12⟩ := HA.out
    refine (nodeh_ok d L R a9 a10 W (a11.below p1)).mono ?_
    rintro e w' ⟨rfl, hb⟩
    exact ⟨_, rfl, rfl, p1.trans (hb.mono p1.size), p2.keep hb, p3.keep hb, p4.keep hb⟩
  · rintro X W ⟨rfl, p1, p2, p3, p4⟩
    obtain ⟨a1, a2, a3, a4, a5, a6, a7, a8, a9, a10, a11, a12⟩ := HA.out
    have hml := a6.lt
    have r := R3.out
    obtain ⟨w', q1, q2, q3⟩ := (a6.below p1).store (h := h) (k := k) (by omega) (by omega) a4 (NODEH d L R)
    refine ⟨w', q1, q2, ⟨q3.os.trans p1.os, q3.tape.trans p1.tape, q3.output.trans p1.output, Nat.le_trans p1.size q3.size, fun j hj hne => (q3.block j (by have := p1.size; omega) hne).trans (p1.block j hj)⟩, (q3.block b5 p2.lt (by simp; omega)).trans p2, (q3.block b6 p3.lt (by simp; omega)).trans p3, (q3.block b7 p4.lt (by simp; omega)).trans p4⟩
  · rintro X W ⟨p1, p2, p3, p4, p5⟩
    have Z : Aside (SMAP W mb (n + 1) (MPUT M h k (NODEH d L R)) ∧ w.grownBy W (some mb)) := ⟨p1, p2⟩
    clear p1 p2 p3 p4 p5 R3 LK HA
    go_wp2
    exact bodyPost_end (v := .tuple #[]) (by simp [results, Tryz.f37]) rfl ⟨rfl, Z.out⟩
end Go.Proofs.YtkcfhgflgkejoaaGreatDoor

/- What peaks of package verify answers. -/
namespace Go.Proofs.YtkcfhgflgkejoaaGreatDoor
open Go.RowKit
set_option maxRecDepth 100000

/-- hashes, one behind the other. -/
def CAT (M : Nat → Nat → List Int) (ss : List (Nat × Nat)) : List Int := ss.flatMap fun s => M s.1 s.2
theorem CAT_next {M : Nat → Nat → List Int} {ss : List (Nat × Nat)} {i h k : Nat} (hs : ss[i]? = some (h, k)) : CAT M (ss.take (i + 1)) = CAT M (ss.take i) ++ M h k := by
  rw [List.take_add_one, hs]
  simp [CAT]
set_option maxHeartbeats 2000000 in
theorem cpeaks_ok (mb N n : Nat) (hn : n ≤ 4611686018427387904) (M : Nat → Nat → List Int) (w : World) (hM : SMAP w mb N M) (hH : ∀ s ∈ SPAN 0 n, (M s.1 s.2).length = 32) (hT : Tabled w) (h0 : 0 < w.heap.size) :
    Calls Tryz.prog 38 #[.map (some mb), .int .u64 (n : Int)] w fun e w' => ∃ a c, e = .returned (.slice a (PC n) c) ∧ w'.ownsRow w.heap.size 23 32 (.slice a (PC n) c) (PC n) (CELLS (CAT M (SPAN 0 n))) ∧ Below w.heap.size w w' := by
  have cP := peaks_ok n hn w hT h0
  have hpl := PEAKS_spots hn
  have hlen : (SPAN 0 n).length = PC n := by
    have := PEAKS_length (n := n) (by omega)
    rw [hpl] at this
    simpa [PLCS] using this
  have hnd : ∀ i h k, (SPAN 0 n)[i]? = some (h, k) → Node h k := fun i h k e => (tile_span hn (Nat.zero_le n)).node e
  have hpc : PC n ≤ 64 := PC_lt_pow 64 n (by omega)
  rw [hpl] at cP
  generalize SPAN 0 n = ss at *
  generalize PC n = m at *
  have HA : Aside (ss.length = m ∧ m ≤ 64 ∧ (∀ i h k, ss[i]? = some (h, k) → Node h k) ∧ (∀ s ∈ ss, (M s.1 s.2).length = 32) ∧ SMAP w mb N M) := ⟨hlen, hpc, hnd, hH, hM⟩
  clear hlen hpc hnd hH hM hpl hT h0 hn
  go_enter Tryz.func38, Tryz.ntmps38
  go_wp2_with fail
  refine cP.mono ?_
  rintro e w1 ⟨gp, cp, rfl, hrow, hb⟩
  clear cP
  obtain ⟨cur, hcs, hmk⟩ := make_nodes m (by have := HA.out; omega) w1
  have hgp := (hrow.lt gp rfl).2
  have R0 : Aside ((w1.alloc (.cells cur 23)).ownsRow w.heap.size 23 32 (.slice (some ⟨w1.heap.size, 0, none⟩) 0 m) 0 (CELLS (CAT M (ss.take 0))) ∧ Below w.heap.size w (w1.alloc (.cells cur 23)) ∧ (∀ i, i < m → (w1.alloc (.cells cur 23)).cell? ⟨gp, i, none⟩ = (UCELLS (PLCS ss))[i]?) ∧ gp < (w1.alloc (.cells cur 23)).heap.size ∧ gp ≠ w1.heap.size ∧ w1.heap.size < (w1.alloc (.cells cur 23)).heap.size) := by
    refine ⟨own_mono (World.ownsRow_made w1 cur m (Nat.le_refl _) (by simp [maxLen]; have := HA.out; omega) hcs) hb.size, hb.alloc hb.size _, fun i hi => ?_, by simp; omega, by omega, by simp⟩
    have hbx : Below w1.heap.size w1 (w1.alloc (.cells cur 23)) := (Below.refl _ _).alloc (Nat.le_refl _) _
    exact (hbx.cell (p := ⟨gp, i, none⟩) hgp).trans (hrow.cellAt i (by omega))
  clear hrow hb hcs hgp
  go_wp2_with fail
  obtain ⟨gl, hgl⟩ : ∃ gl, gl = w1.heap.size := ⟨_, rfl⟩
  rw [← hgl] at R0 ⊢
  clear hgl hmk
  generalize w1.alloc (.cells cur 23) = w2 at *
  go_loopg [6, 18] m (fun q s6 s18 wx => ∃ i : Nat, s18 = .int .i64 (i : Int) ∧ Aside (i + q = m ∧ wx.ownsRow w.heap.size 23 32 s6 i (CELLS (CAT M (ss.take i))) ∧ Below w.heap.size w wx ∧ (∀ i, i < m → wx.cell? ⟨gp, i, none⟩ = (UCELLS (PLCS ss))[i]?) ∧ gp < wx.heap.size ∧ s6.ownBlock ≠ some gp))
  case atStart => exact ⟨0, rfl, by omega, R0.out.1, R0.out.2.1, R0.out.2.2.1, R0.out.2.2.2.1, fun e => R0.out.2.2.2.2.1 (by simpa [Value.ownBlock] using e.symm)⟩
  case round =>
    obtain ⟨i, rfl, A⟩ := hrel
    clear R0
    cases gk with
    | zero =>
      obtain rfl : i = m := by have := A.out.1; omega
      have hlt : ¬ (i : Int) < (i : Int) := by omega
      have R : Aside (∃ a c, u6 = .slice a i c ∧ wr.ownsRow w.heap.size 23 32 (.slice a i c) i (CELLS (CAT M ss)) ∧ Below w.heap.size w wr) := by
        obtain ⟨_, h1, h2, _⟩ := A.out
        rw [List.take_of_length_le (by have := HA.out; omega)] at h1
        obtain ⟨a, c, rfl, _⟩ := own_shapeh h1
        exact ⟨a, c, rfl, h1, h2⟩
      clear A HA
      go_wp2
      go_ret
      obtain ⟨a, c, e, h1, h2⟩ := R.out
      exact ⟨a, c, by rw [e]; rfl, h1, h2⟩
    | succ q =>
      obtain ⟨a1, a2, a3, a4, a5, a6⟩ := A.out
      obtain ⟨h1, h2, h3, h4, h5⟩ := HA.out
      have hlt : (i : Int) < (m : Int) := by omega
      obtain ⟨⟨h, k⟩, hs⟩ : ∃ s, ss[i]? = some s := ⟨_, List.getElem?_eq_getElem (by omega)⟩
      have hN := h3 i h k hs
      have hc : wr.cell? ⟨gp, i, none⟩ = some (.int .u64 ((PLC h k : Nat) : Int)) := by rw [a4 i (by omega)]; simp [UCELLS, PLCS, hs]
      have cS := spot_ok h k hN wr
      have h32 : (M h k).length = 32 := h4 (h, k) (List.mem_of_getElem? hs)
      have R : Aside (i + 1 + q = m ∧ wr.ownsRow w.heap.size 23 32 u6 i (CELLS (CAT M (ss.take i))) ∧ Below w.heap.size w wr ∧ (∀ i, i < m → wr.cell? ⟨gp, i, none⟩ = (UCELLS (PLCS ss))[i]?) ∧ gp < wr.heap.size ∧ u6.ownBlock ≠ some gp ∧ CAT M (ss.take (i + 1)) = CAT M (ss.take i) ++ M h k ∧ m ≤ 64 ∧ Node h k ∧ SMAP w mb N M) := ⟨by omega, a2, a3, a4, a5, a6, CAT_next hs, h2, hN, h5⟩
      have E1 : Aside (wrap64 ((i : Int) + 1) = ((i + 1 : Nat) : Int)) := by show wrap64 ((i : Int) + 1) = ((i + 1 : Nat) : Int); unfold wrap64; omega
      clear a1 a2 a3 a4 a5 a6 h1 h2 h3 h4 h5 hs hN A HA
      generalize PLC h k = pl at *
      go_wp2_with fail
      refine cS.mono ?_
      rintro e w3 ⟨rfl, hb3⟩
      clear cS hc
      have R3 : Aside (w3.ownsRow w.heap.size 23 32 u6 i (CELLS (CAT M (ss.take i))) ∧ Below w.heap.size w w3 ∧ (∀ i, i < m → w3.cell? ⟨gp, i, none⟩ = (UCELLS (PLCS ss))[i]?) ∧ gp < w3.heap.size) := ⟨own_below R.out.2.1 hb3, R.out.2.2.1.trans (hb3.mono R.out.2.2.1.size), fun i hi => (hb3.cell (p := ⟨gp, i, none⟩) R.out.2.2.2.2.1).trans (R.out.2.2.2.1 i hi), Nat.lt_of_lt_of_le R.out.2.2.2.2.1 hb3.size⟩
      clear hb3
      have lk : (Instr.lookup 69 (.map (some mb)) (.agg #[.int .u8 (h : Int), .int .u64 (k : Int)]) false).run Tryz.prog (w3.alloc (.cells #[.int .u8 (h : Int), .int .u64 (k : Int)] 64)) = .ok (.agg (CELLS (M h k)).toArray) (w3.alloc (.cells #[.int .u8 (h : Int), .int .u64 (k : Int)] 64)) := by
        have hb4 := R3.out.2.1.alloc (o := .cells #[.int .u8 (h : Int), .int .u64 (k : Int)] 64) R3.out.2.1.size
        obtain ⟨_, _, _, _, _, _, _, _, r9, r10⟩ := R.out
        exact (r10.below hb4).look (by have := r9.1; omega) (by have := r9.index_lt; omega)
      generalize M h k = H at *
      go_wp2_with (first
        | (refine build_one _ rfl 32 23 (.tmp 30) rfl (CELLS H).toArray rfl 32 _ _ Tryz.underlying32 info_hashv (by simp [CELLS, h32]) rfl (by decide) (by decide) ?_)
        | (at_builtin; refine app_hash _ rfl (.tmp 27) (.tmp 31) rfl w.heap.size u6 i _ rfl ((R3.out.1.alloc _).alloc _) _ 1 H h32 rfl (Has.new _ _ _) (by have := R.out; omega) (by have := R3.out.2.1.size; simp; omega) ?_; intro g4 c4 w4 hown hgrow hat hg))
      have Z : Aside (i + 1 + q = m ∧ w4.ownsRow w.heap.size 23 32 (.slice (some ⟨g4, 0, none⟩) (i + 1) c4) (i + 1) (CELLS (CAT M (ss.take (i + 1)))) ∧ Below w.heap.size w w4 ∧ (∀ i, i < m → w4.cell? ⟨gp, i, none⟩ = (UCELLS (PLCS ss))[i]?) ∧ gp < w4.heap.size ∧ (Value.slice (some ⟨g4, 0, none⟩) (i + 1) c4).ownBlock ≠ some gp) := by
        obtain ⟨r1, r2, r3, r4, r5, r6, r7, r8, r9, r10⟩ := R.out
        obtain ⟨t1, t2, t3, t4⟩ := R3.out
        have hsz := grown_size hgrow
        simp at hsz
        refine ⟨r1, by rw [r7, CELLS_append]; exact hown, ((t2.alloc t2.size _).alloc (by have := t2.size; simp; omega) _).grown hgrow (by have := t2.size; simp; omega) (fun k e => (t1.lt k e).1), fun j hj => ?_, by omega, fun e => ?_⟩
        · rw [← t3 j hj]
          have hbx : Below w3.heap.size w3 ((w3.alloc (.cells #[.int .u8 (h : Int), .int .u64 (k : Int)] 64)).alloc (.cells (CELLS H).toArray 23)) := ((Below.refl _ _).alloc (Nat.le_refl _) _).alloc (by simp) _
          exact (World.cell?_of_block (a := ⟨gp, j, none⟩) (hgrow.block gp (by simp; omega) fun e => r6 e.symm)).trans (hbx.cell (p := ⟨gp, j, none⟩) t4)
        · have e : g4 = gp := by simpa [Value.ownBlock] using e
          rcases hat with h' | h'
          · exact r6 (by rw [h', e])
          · simp at h'
            omega
      clear hown hgrow hat hg R R3 lk h32
      have e1 := E1.out
      go_wp2
      go_roundg q
      case measure => exact Nat.lt_succ_self _
      case rel => exact ⟨i + 1, by first | rfl | (rw [E1.out]), Z.out⟩
end Go.Proofs.YtkcfhgflgkejoaaGreatDoor
