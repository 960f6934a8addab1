/- Texts of MmrGrows, one behind the other: MmrBag, PosBackward, PosPeaksCall. -/
import Derived.RangeFuncBox
import Derived.RangeFuncLeaves
import Derived.RangeFuncCalls
import Derived.Shelf.Abstract
import Derived.Shelf.RegionOpen
import Derived.WalkKit
import Derived.OwnWalkIn
import Derived.TacticsInMore
import Derived.LoopNIn
import Derived.LoopIn
import Derived.Maps.AppendAt
import Derived.RangeFuncNested
import Derived.Test.YtdmbmphdiaepdaaGreatDoorMmrGrowsP9
import Derived.Test.YtdmbmphdiaepdaaGreatDoorMmrGrowsP20
import Derived.Test.YtdmbmphdiaepdaaGreatDoorMmrGrowsP21
import Derived.Test.YtdmbmphdiaepdaaGreatDoorMmrGrowsP23
/- folded and Bag of package mmr, hashes as functions. -/
namespace Go.Proofs.YtdmbmphdiaepdaaGreatDoor.HX
open Go.RowKit
set_option maxRecDepth 100000

/-- a slice of hashes lies there. -/
def HASHES (w : World) (a : Option Addr) (n : Nat) (hs : Nat → Nat → Nat) : Prop := 0 < n → ∃ b o, a = some ⟨b, o, none⟩ ∧ b < w.heap.size ∧ ∀ i, i < n → w.rangeAt b (o + i * 32) (ULIST .u8 32 (hs i))
theorem HASHES.below {w w' : World} {a : Option Addr} {n : Nat} {hs : Nat → Nat → Nat} (h : HASHES w a n hs) (hb : Below w.heap.size w w') : HASHES w' a n hs := fun hn => by
  obtain ⟨b, o, e, hl, hc⟩ := h hn
  exact ⟨b, o, e, Nat.lt_of_lt_of_le hl hb.size, fun i hi => range_below (hc i hi) hb hl⟩
def FOLDF (d : Int) (l r : Nat → Nat) : Nat → Nat := HASHOF d (2 :: ((List.range 32).map l ++ (List.range 32).map r))
def ROOTF (d : Int) (n : Nat) (r : Nat → Nat) : Nat → Nat := HASHOF d (3 :: (BE8 n ++ (List.range 32).map r))
theorem FOLDF_lt (d : Int) (l r : Nat → Nat) (i : Nat) : FOLDF d l r i < 256 := STATE_lt d _ _ i
theorem ROOTF_lt (d : Int) (n : Nat) (r : Nat → Nat) (i : Nat) : ROOTF d n r i < 256 := STATE_lt d _ _ i
/-- the last one, and k more of n folded into it. -/
def FAF (d : Int) (hs : Nat → Nat → Nat) (n : Nat) : Nat → Nat → Nat
  | 0 => hs (n - 1)
  | k + 1 => FOLDF d (hs (n - 2 - k)) (FAF d hs n k)
def FLDF (d : Int) (hs : Nat → Nat → Nat) (n : Nat) : Nat → Nat := if n = 0 then fun _ => 0 else FAF d hs n (n - 1)
theorem FAF_lt {d : Int} {hs : Nat → Nat → Nat} {n : Nat} (hb : ∀ i, i < n → ∀ j, hs i j < 256) (hn : 0 < n) : ∀ k j, FAF d hs n k j < 256
  | 0, j => hb _ (by omega) j
  | k + 1, j => FOLDF_lt _ _ _ j
theorem FLDF_lt {d : Int} {hs : Nat → Nat → Nat} {n : Nat} (hb : ∀ i, i < n → ∀ j, hs i j < 256) (j : Nat) : FLDF d hs n j < 256 := by
  unfold FLDF
  split
  · show (0 : Nat) < 256
    decide
  · exact FAF_lt hb (by omega) _ j
set_option maxHeartbeats 4000000 in
theorem foldedf_ok (d : Int) (a : Option Addr) (n c : Nat) (hn : n ≤ 1000) (hs : Nat → Nat → Nat) (w : World) (hH : HASHES w a n hs) (h8 : ∀ i, i < n → ∀ j, hs i j < 256) (hX : Tabled w) :
    Calls Tryz.prog 20 #[.int .i64 d, .slice a n c] w fun e w' => e = .returned (.agg (UARR .u8 32 (FLDF d hs n))) ∧ Below w.heap.size w w' := by
  have hz := zeroHash
  have hbn := buildHash
  obtain ⟨w0, hw0⟩ : ∃ w0, w.alloc (.cells (UARR .u8 32 fun _ => 0) 26) = w0 := ⟨_, rfl⟩
  have hb0 : Below w.heap.size w w0 := by rw [← hw0]; exact (Below.refl _ _).alloc (Nat.le_refl _) _
  have h40 : Has w0 w.heap.size (UARR .u8 32 fun _ => 0) 26 := by rw [← hw0]; exact Has.new w _ _
  by_cases h0 : n = 0
  · subst h0
    have e : FLDF d hs 0 = fun _ => 0 := rfl
    rw [e]
    clear hH hX hn e h8
    have hst2 := store_cells32 h40 (fun _ => 0)
    have hsu := UARR_size .u8 32 (fun _ => 0)
    go_enter Tryz.func20, Tryz.ntmps20
    go_wp2
    refine bodyPost_ret (v := .agg (UARR .u8 32 fun _ => 0)) (results_cell rfl _ _ w.heap.size 26 _ (0, 0) _ _ rfl (h40.row _) Tryz.underlying26 (info_HASH _)) rfl ⟨rfl, below_row hb0 (Nat.le_refl _) _⟩
  · obtain ⟨m, hm⟩ : ∃ m, n = m + 1 := ⟨n - 1, by omega⟩
    obtain ⟨gn, o, rfl, hgn, hcn⟩ := hH (by omega)
    have hz0 : ((n : Int) == 0) = false := beq_eq_false_iff_ne.2 (by omega)
    have e1 : wrap64 ((n : Int) - 1) = (m : Int) := by unfold wrap64; omega
    have hml : (m : Int) < (n : Int) := by omega
    have e : FLDF d hs n = FAF d hs n m := by unfold FLDF; rw [if_neg h0, show n - 1 = m by omega]
    rw [e]
    have hat : w0.rangeAt gn (o + m * 32) (ULIST .u8 32 (FAF d hs n 0)) := by
      have h2 : FAF d hs n 0 = hs m := by rw [FAF, show n - 1 = m by omega]
      rw [h2]
      exact range_below (hcn m (by omega)) hb0 hgn
    have HA : Aside (n = m + 1 ∧ n ≤ 1000 ∧ (∀ i, i < n → w.rangeAt gn (o + i * 32) (ULIST .u8 32 (hs i))) ∧ Tabled w ∧ gn < w.heap.size ∧ (∀ k j, FAF d hs n k j < 256) ∧ (∀ i, i < n → ∀ j, hs i j < 256)) := ⟨hm, hn, hcn, hX, hgn, FAF_lt h8 (by omega), h8⟩
    clear hm hn hX hgn hcn h0 e hH h8
    generalize hA0 : FAF d hs n 0 = A0 at *
    have hst := run_storeCells_new (P := Tryz.prog) w0 26 (UARR .u8 32 fun _ => 0) (UARR .u8 32 A0) (info_HASH _) (by rw [UARR_size, UARR_size]) (UARR_one _ _ _)
    have hsu := UARR_size .u8 32 A0
    go_enter Tryz.func20, Tryz.ntmps20
    go_wp2_with (first
      | (refine wpList_load_mid rfl 26 (.tmp 17) rfl gn (o + m * 32) rfl (ULIST .u8 32 A0) _ hat Tryz.underlying26 rfl (by rw [ULIST_length]; exact info_hash) ?_; rw [← UARR_list]))
    have R1 : Aside (Below w.heap.size w (w0.alloc (.cells (UARR .u8 32 A0) 26)) ∧ Has (w0.alloc (.cells (UARR .u8 32 A0) 26)) w.heap.size (UARR .u8 32 fun _ => 0) 26 ∧ Has (w0.alloc (.cells (UARR .u8 32 A0) 26)) w0.heap.size (UARR .u8 32 (FAF d hs n 0)) 26 ∧ w.heap.size < w0.heap.size) := ⟨hb0.alloc hb0.size _, h40.alloc _, by rw [hA0]; exact Has.new _ _ _, h40.lt⟩
    clear hat hst hsu hA0 hw0 hb0 h40
    generalize w0.alloc (.cells (UARR .u8 32 A0) 26) = W1 at *
    generalize w0.heap.size = b6 at *
    clear w0
    have K : Aside (w.heap.size < b6) := R1.out.2.2.2
    have E0 : Aside (wrap64 ((m : Int) - 1) = (m : Int) - 1) := by have := HA.out.1; have := HA.out.2.1; show wrap64 ((m : Int) - 1) = (m : Int) - 1; unfold wrap64; omega
    go_loopg [7] m (fun q s7 wx => ∃ x : Int, s7 = .int .i64 x ∧ Aside (q ≤ m ∧ x = (q : Int) - 1 ∧ Below w.heap.size w wx ∧ Has wx w.heap.size (UARR .u8 32 fun _ => 0) 26 ∧ Has wx b6 (UARR .u8 32 (FAF d hs n (m - q))) 26))
    case atStart => exact ⟨_, rfl, Nat.le_refl _, E0.out, R1.out.1, R1.out.2.1, by rw [Nat.sub_self]; exact R1.out.2.2.1⟩
    case round =>
      obtain ⟨x, rfl, A⟩ := hrel
      clear R1 E0 e1
      cases gk with
      | zero =>
        obtain rfl : x = -1 := by have := A.out.2.1; omega
        have hH4 := A.out.2.2.2.1
        have hH6 : Has wr b6 (UARR .u8 32 (FAF d hs n m)) 26 := A.out.2.2.2.2
        have hb := A.out.2.2.1
        clear A HA
        generalize hY0 : FAF d hs n m = Y at *
        have hst2 := store_cells32 hH4 Y
        have hsu := UARR_size .u8 32 Y
        go_wp2_with (first
          | (refine wpList_load_row rfl 26 (.tmp 6) rfl b6 rfl 26 (UARR .u8 32 Y) (0, 0) _ hH6 Tryz.underlying26 rfl (info_HASH _) ?_)
          | fail)
        refine bodyPost_ret (v := .agg (UARR .u8 32 Y)) (results_cell rfl _ _ w.heap.size 26 _ (0, 0) _ _ rfl (hH4.row _) Tryz.underlying26 (info_HASH _)) rfl ⟨by rw [hY0], below_row hb (Nat.le_refl _) _⟩
      | succ q =>
        obtain rfl : x = (q : Int) := by have := A.out.2.1; omega
        have hq0 : (0 : Int) ≤ (q : Int) := by omega
        obtain ⟨h1, h2, h3, h4, h5, h6, h7⟩ := HA.out
        have hqm : q + 1 ≤ m := A.out.1
        have hb1 : (q : Int) < (n : Int) := by omega
        have eY : FAF d hs n (m - q) = FOLDF d (hs q) (FAF d hs n (m - (q + 1))) := by
          rw [show m - q = (m - (q + 1)) + 1 by omega, FAF, show n - 2 - (m - (q + 1)) = q by omega]
        have hr := h6 (m - (q + 1))
        have hl := h7 q (by omega)
        have hE1 : Aside (wrap64 ((q : Int) - 1) = (q : Int) - 1) := by show wrap64 ((q : Int) - 1) = (q : Int) - 1; unfold wrap64; omega
        have hb := A.out.2.2.1
        have H2 : Aside (w.rangeAt gn (o + q * 32) (ULIST .u8 32 (hs q)) ∧ gn < w.heap.size ∧ Tabled w ∧ (∀ j, hs q j < 256) ∧ (∀ j, FAF d hs n (m - (q + 1)) j < 256) ∧ FAF d hs n (m - q) = FOLDF d (hs q) (FAF d hs n (m - (q + 1))) ∧ Below w.heap.size w wr ∧ Has wr w.heap.size (UARR .u8 32 fun _ => 0) 26 ∧ Has wr b6 (UARR .u8 32 (FAF d hs n (m - (q + 1)))) 26 ∧ q ≤ m) := ⟨h3 q (by omega), h5, h4, hl, hr, eY, hb, A.out.2.2.2.1, A.out.2.2.2.2, by omega⟩
        clear h1 h2 h3 h4 h5 h6 h7 eY hb hr hl A HA hqm
        go_upto_region 8 with fail
        refine folded_next wr gn o n c b6 q d (hs q) (FAF d hs n (m - (q + 1))) (FAF d hs n (m - q)) hb1 (fun V => Below wr.heap.size wr V) (Below.refl _ _).drew (fun V hV => ?_) (fun V hV => ?_) (fun V hV => ?_) (fun _ _ _ _ _ h => h) ?_
        · exact ⟨range_below (range_below H2.out.1 H2.out.2.2.2.2.2.2.1 H2.out.2.1) hV (Nat.lt_of_lt_of_le H2.out.2.1 H2.out.2.2.2.2.2.2.1.size), H2.out.2.2.2.2.2.2.2.2.1.keep hV⟩
        · have hV2 : Below w.heap.size w V := H2.out.2.2.2.2.2.2.1.trans (hV.mono H2.out.2.2.2.2.2.2.1.size)
          exact range_below H2.out.1 (below_row hV2 (Nat.le_of_lt K.out) _) H2.out.2.1
        · have hV2 : Below w.heap.size w V := H2.out.2.2.2.2.2.2.1.trans (hV.mono H2.out.2.2.2.2.2.2.1.size)
          refine (fold_ok d (hs q) (FAF d hs n (m - (q + 1))) H2.out.2.2.2.1 H2.out.2.2.2.2.1 V (H2.out.2.2.1.below hV2)).mono ?_
          rintro e V' ⟨rfl, hb⟩
          exact ⟨by rw [H2.out.2.2.2.2.2.1]; rfl, hV.trans (hb.mono hV.size)⟩
        · intro W3 hW3
          obtain ⟨w0', hw0', hW3⟩ := hW3
          have Z : Aside (q ≤ m ∧ Below w.heap.size w W3 ∧ Has W3 w.heap.size (UARR .u8 32 fun _ => 0) 26 ∧ Has W3 b6 (UARR .u8 32 (FAF d hs n (m - q))) 26) := by
            have hV2 : Below w.heap.size w w0' := H2.out.2.2.2.2.2.2.1.trans (hw0'.mono H2.out.2.2.2.2.2.2.1.size)
            rw [hW3]
            exact ⟨H2.out.2.2.2.2.2.2.2.2.2, below_row hV2 (Nat.le_of_lt K.out) _, (H2.out.2.2.2.2.2.2.2.1.keep hw0').row_other (by have := K.out; omega) _, (H2.out.2.2.2.2.2.2.2.2.1.keep hw0').row _⟩
          clear hW3 hw0' H2
          have e1 := hE1.out
          go_wp2
          go_roundg q
          case measure => exact Nat.lt_succ_self _
          case rel => exact ⟨_, rfl, Z.out.1, by first | rfl | exact hE1.out, Z.out.2⟩
end Go.Proofs.YtdmbmphdiaepdaaGreatDoor.HX

/- slices.Backward over a list of heights: the heights come from the last to the first. -/
namespace Go.Proofs.YtdmbmphdiaepdaaGreatDoor
open Go.RowKit Go.Shelf

attribute [local go_sem] Oper.semAt_some

/-- what has come when k rounds are over. -/
def UPTO {α : Type} (f : Nat → α) (k : Nat) : List α := (List.range k).map f
theorem UPTO_succ {α : Type} (f : Nat → α) (k : Nat) : UPTO f (k + 1) = UPTO f k ++ [f k] := by simp [UPTO, List.range_succ]
theorem UPTO_length {α : Type} (f : Nat → α) (k : Nat) : (UPTO f k).length = k := by simp [UPTO]

/-- what a round keeps: what lies below n₀, and the list's own box. -/
def KB (n₀ Bs : Nat) (A B : World) : Prop := Below n₀ A B ∧ B.cell? ⟨Bs, 0, none⟩ = A.cell? ⟨Bs, 0, none⟩
theorem KB.t {n₀ Bs : Nat} {A B C : World} (h : KB n₀ Bs A B) (k : KB n₀ Bs B C) : KB n₀ Bs A C := ⟨h.1.trans k.1, k.2.trans h.2⟩
theorem KB.b {n₀ Bs : Nat} {w : World} (hn : n₀ ≤ w.heap.size) (hB : Bs < w.heap.size) (W : World) (l : Nat) (o o' : Obj) (hl : w.heap.size ≤ l) (h : W.heap[l]? = some o) (h1 : o.isCells = false) (h2 : o.isWalk = false) : KB n₀ Bs W (W.putObj l o') :=
  ⟨belowK_b hn W l o o' hl h h1 h2, (belowK_b (Nat.le_refl w.heap.size) W l o o' hl h h1 h2).cell (p := ⟨Bs, 0, none⟩) hB⟩

/-- the pair that comes in round j: the index, and the height there. -/
def BACK (len : Nat) (f : Nat → Fin 64) (j : Nat) : Nat × Fin 64 := (len - 1 - j, f (len - 1 - j))

set_option maxRecDepth 100000 in
set_option maxHeartbeats 2000000 in
theorem backward1_in (F : Fence) (n : Nat) (hF : F.fn 103) (hro : F.round = none) (hn : 1 ≤ n) (l Bs n₀ b len cap : Nat) (f : Nat → Fin 64) (hreach : len ≤ 64) (hb : b < n₀) (J Jx : List (Nat × Fin 64) → World → Prop)
    (hY : ∀ pre x W, J pre W → pre.length < len → YieldAt F (n - 1) Tryz.prog l #[.int .i64 (x.1 : Int), .int .i64 (x.2.val : Int)] W fun e W' =>
      (e = .returned (.bool true) ∧ J (pre ++ [x]) W' ∧ KB n₀ Bs W W') ∨ (e = .returned (.bool false) ∧ Jx (pre ++ [x]) W'))
    (W : World) (hBs : W.cell? ⟨Bs, 0, none⟩ = some (.slice (some ⟨b, 0, none⟩) len cap)) (hc : ∀ j, j < len → W.cell? ⟨b, j, none⟩ = some (.int .i64 ((f j).val : Int))) (h0 : J [] W) :
    CallsIn F n Tryz.prog 103 #[.func (.yield l) #[] #[], .pointer (some ⟨Bs, 0, none⟩)] W fun e W' => (∃ v, e = .returned v) ∧
      ((∃ ys, ys = UPTO (BACK len f) len ∧ J ys W') ∨ (∃ pre, (∃ k, k ≤ len ∧ pre = UPTO (BACK len f) k) ∧ Jx pre W')) := by
  refine callsIn_of_wp Tryz.func103 rfl hF ?_ hro
  simp only [Tryz.ntmps103, List.size_toArray, List.length_cons, List.length_nil, Nat.reduceAdd, Nat.reduceSub, Array.replicate_succ, Array.replicate_zero, List.push_toArray, List.append_toArray, List.nil_append, List.cons_append]
  have e1 : wrap64 ((len : Int) - 1) = (len : Int) - 1 := by unfold wrap64; omega
  gi_wp2
  gi_loopw [3] (fun i wr => ∃ k : Nat, k ≤ len ∧ i = .int .i64 ((len : Int) - 1 - (k : Int)) ∧ J (UPTO (BACK len f) k) wr ∧ KB n₀ Bs W wr)
    (fun i _ => (intOf i + 1).toNat)
  case atStart => exact ⟨0, Nat.zero_le _, by simp, h0, Below.refl _ _, rfl⟩
  case round =>
    obtain ⟨k, hk, rfl, hJs, hnx⟩ := hrel
    by_cases hlt : k < len
    · obtain ⟨j, hj⟩ : ∃ j : Nat, (len : Int) - 1 - (k : Int) = (j : Int) := ⟨len - 1 - k, by omega⟩
      have hjl : j < len := by omega
      have hbk : BACK len f k = (j, f j) := by
        unfold BACK
        rw [show len - 1 - k = j by omega]
      have hcx : wr.cell? ⟨b, j, none⟩ = some (.int .i64 ((f j).val : Int)) := (hnx.1.cell (p := ⟨b, j, none⟩) hb).trans (hc j hjl)
      have hcs : wr.cell? ⟨Bs, 0, none⟩ = some (.slice (some ⟨b, 0, none⟩) len cap) := hnx.2.trans hBs
      obtain ⟨fn, tmps, assign, body, hy, hR⟩ := hY _ (j, f j) wr hJs (by rw [UPTO_length]; exact hlt)
      dsimp only at hy
      rw [hj]
      have e2 : wrap64 ((j : Int) - 1) = (j : Int) - 1 := by unfold wrap64; omega
      have hJ' : Aside ((len : Int) - 1 - (k : Int) = (j : Int)) := hj
      have hjl' : (j : Int) < (len : Int) := by omega
      clear hj
      gi_wp2
      refine hR.mono ?_
      rintro e W3 (⟨rfl, hJ3, hk3⟩ | ⟨rfl, hJx3⟩)
      · gi_wp2
        go_roundw
        case rel => exact ⟨k + 1, by omega, by have := hJ'.out; congr 1; omega, by rw [UPTO_succ, hbk]; exact hJ3, hnx.t hk3⟩
        case measure => simp [intOf]
      · gi_wp2
        refine bodyPost_ret (results_none rfl _ _ _) rfl ?_
        exact ⟨⟨_, rfl⟩, .inr ⟨_, ⟨k + 1, by omega, by rw [UPTO_succ, hbk]⟩, hJx3⟩⟩
    · obtain rfl : k = len := by omega
      rw [show (k : Int) - 1 - (k : Int) = -1 by omega]
      gi_wp2
      go_end0
      exact ⟨⟨_, rfl⟩, .inl ⟨_, rfl, hJs⟩⟩

set_option maxHeartbeats 1000000 in
theorem backward_in (F : Fence) (n : Nat) (hF : F.fn 76) (hro : F.round = none) (a : Option Addr) (len cap : Nat) (w : World) :
    CallsIn F n Tryz.prog 76 #[.slice a len cap] w fun e w' => e = .returned (.func (.func 103) #[] #[.pointer (some ⟨w.heap.size, 0, none⟩)]) ∧ w' = w.alloc (.cells #[.slice a len cap] 113) := by
  refine callsIn_of_wp Tryz.func76 rfl hF ?_ hro
  simp only [Tryz.ntmps76, List.size_toArray, List.length_cons, List.length_nil, Nat.reduceAdd, Nat.reduceSub, Array.replicate_succ, Array.replicate_zero, List.push_toArray, List.append_toArray, List.nil_append, List.cons_append]
  gi_wp2
  go_ret
  exact ⟨rfl, rfl⟩

theorem backward_stops (F : Fence) (n : Nat) (hF : F.fn 103) (hro : F.round = none) (hn : 1 ≤ n) (Bs n₀ b len cap : Nat) (f : Nat → Fin 64) (hreach : len ≤ 64) (hb : b < n₀) (w : World) (hBs : Bs < w.heap.size) (hn₀ : n₀ ≤ w.heap.size)
    (hc : w.cell? ⟨Bs, 0, none⟩ = some (.slice (some ⟨b, 0, none⟩) len cap)) (hI : ∀ j, j < len → w.cell? ⟨b, j, none⟩ = some (.int .i64 ((f j).val : Int))) :
    SeqStopsK F n Tryz.prog 103 #[.pointer (some ⟨Bs, 0, none⟩)] (fun x : Nat × Fin 64 => #[Value.int .i64 (x.1 : Int), Value.int .i64 (x.2.val : Int)]) (KB n₀ Bs) (fun ys => ys = UPTO (BACK len f) len)
      (fun pre => ∃ k, k ≤ len ∧ pre = UPTO (BACK len f) k) len w := fun l J Jx W hW _ _ hY h0 =>
  backward1_in F n hF hro hn l Bs n₀ b len cap f hreach hb J Jx hY W ((hW.cell (p := ⟨Bs, 0, none⟩) hBs).trans hc) (fun j hj => (hW.cell (p := ⟨b, j, none⟩) (by show b < _; omega)).trans (hI j hj)) h0
end Go.Proofs.YtdmbmphdiaepdaaGreatDoor

/- What Peaks answers: the places of the peaks, in a list of its own. -/
namespace Go.Proofs.YtdmbmphdiaepdaaGreatDoor
open Go.RowKit Go.Shelf

attribute [local go_sem] Oper.semAt_some

/-- numbers as cells. -/
def UCELLS (l : List Nat) : List Value := l.map fun (x : Nat) => Value.int .u64 (x : Int)
theorem UCELLS_snoc (l : List Nat) (x : Nat) : UCELLS (l ++ [x]) = UCELLS l ++ [.int .u64 (x : Int)] := by simp [UCELLS]
theorem UCELLS_length (l : List Nat) : (UCELLS l).length = l.length := by simp [UCELLS]
theorem info_u64 : (Tryz.prog.info? 22).map (fun i => (i.zero, i.size, i.bytes)) = some (some (.int .u64 0), 1, 8) := by kernel_rfl
theorem make_u64 (n : Nat) (hn : n ≤ 64) (w : World) : ∃ cur : Array Value, cur.size = n ∧ (Instr.makeSlice 94 (.int .i64 0) (.int .i64 (n : Int))).run Tryz.prog w = .ok (.slice (some ⟨w.heap.size, 0, none⟩) 0 n) (w.alloc (.cells cur 22)) := by
  obtain ⟨i, hi, hz, hs1, hby⟩ := info_parts info_u64
  have h := run_make (P := Tryz.prog) w 94 22 i (.int .u64 0) Tryz.underlying94 hi hz .i64 .i64 0 n (by omega) (by omega) (by rw [hby]; omega) (by omega)
  refine ⟨_, ?_, h⟩
  rw [size_madeCells, hs1]
  omega
/-- the heights that have come. -/
def HTS (pre : List (Nat × Fin 64)) : List Nat := pre.map fun x => x.2.val
theorem HTS_snoc (pre : List (Nat × Fin 64)) (x : Nat × Fin 64) : HTS (pre ++ [x]) = HTS pre ++ [x.2.val] := by simp [HTS]
theorem ST_length (l : List Nat) : (ST l).2.length = l.length := by
  have key : ∀ (l : List Nat) (s : Nat × List Nat), (l.foldl (fun s h => ((s.1 + TREE h) % 2 ^ 64, s.2 ++ [((s.1 + TREE h) % 2 ^ 64 + (2 ^ 64 - 1)) % 2 ^ 64])) s).2.length = s.2.length + l.length := by
    intro l
    induction l with
    | nil => intro s; simp
    | cons h l ih =>
      intro s
      rw [List.foldl_cons, ih]
      simp
      omega
  have := key l (0, [])
  simpa [ST] using this
theorem ST_lt (l : List Nat) : (ST l).1 < 2 ^ 64 := by
  rcases List.eq_nil_or_concat l with rfl | ⟨i, x, rfl⟩
  · simp [ST]
  · rw [List.concat_eq_append, ST_snoc]
    exact Nat.mod_lt _ (by decide)
theorem HTS_back (X : Nat) (f : Nat → Fin 64) (hf : ∀ j, j < POP X → (f j).val = PLACE X j) : HTS (UPTO (BACK (POP X) f) (POP X)) = (PLACES X).reverse := by
  apply List.ext_getElem?
  intro j
  by_cases hj : j < POP X
  · rw [List.getElem?_reverse (by rw [PLACES_length]; exact hj), PLACES_length, PLACE_at (by omega), ← hf _ (by omega)]
    simp [HTS, UPTO, BACK, hj]
  · rw [List.getElem?_eq_none (by simp [HTS, UPTO]; omega), List.getElem?_eq_none (by rw [List.length_reverse, PLACES_length]; omega)]

theorem peaks_not (n : Int) (hn : 4611686018427387904 < n) (w : World) : Calls Tryz.prog 62 #[.int .u64 n] w fun e w' => e = .returned (.slice none 0 0) ∧ w = w' := by
  go_enter Tryz.func62, Tryz.ntmps62
  go_wp2
  go_ret
  exact ⟨rfl, rfl⟩

theorem own_mono {w : World} {base base' : Nat} {t : TypeId} {s : Nat} {v : Value} {n : Nat} {xs : List Value} (h : w.ownsRow base t s v n xs) (hb : base' ≤ base) : w.ownsRow base' t s v n xs :=
  ⟨h.1, h.2.imp id fun ⟨g, c, cur, a, b, r⟩ => ⟨g, c, cur, a, Nat.le_trans hb b, r⟩⟩
set_option maxRecDepth 100000 in
set_option maxHeartbeats 2000000 in
theorem peaks_ok (X : Nat) (hX : X ≤ 4611686018427387904) (w : World) (hT : Tabled w) (h0 : 0 < w.heap.size) : Calls Tryz.prog 62 #[.int .u64 (X : Int)] w fun e w' =>
    ∃ g cap, e = .returned (.slice (some ⟨g, 0, none⟩) (PC X) cap) ∧ w'.ownsRow w.heap.size 22 1 (.slice (some ⟨g, 0, none⟩) (PC X) cap) (PC X) (UCELLS (PEAKS X)) ∧ Below w.heap.size w w' := by
  obtain ⟨i0, hi, hz0, hz1, hz2⟩ := info_parts info_u64
  have cb := bits_ok X (by omega) w hT h0
  have hle := POP_le X
  obtain ⟨f, hf⟩ : ∃ f : Nat → Fin 64, ∀ j, j < POP X → (f j).val = PLACE X j := ⟨fun j => if h : j < POP X then ⟨PLACE X j, by have := PLACE_le h; omega⟩ else 0, fun j hj => by simp [hj]⟩
  have hba := HTS_back X f hf
  have hplc := fun (w' : World) (base g n cap : Nat) (h : w'.ownsRow base 3 1 (.slice (some ⟨g, 0, none⟩) n cap) n (ICELLS (PLACES X))) => places_at h
  have hpc : POP X = PC X := POP_PC (by omega)
  generalize POP X = p at *
  obtain ⟨L, hL⟩ : ∃ L, ICELLS (PLACES X) = L := ⟨_, rfl⟩
  simp only [hL] at hplc cb
  have HA : Aside (HTS (UPTO (BACK p f) p) = (PLACES X).reverse ∧ p = PC X ∧ X ≤ 4611686018427387904) := ⟨hba, hpc, hX⟩
  clear hba hpc hX hL hT h0
  have hd : ¬ (4611686018427387904 : Int) < (X : Int) := by have := HA.out.2.2; omega
  refine (callsIn_wide (n := 5)).1 ?_
  refine callsIn_of_wp_marks Tryz.func62 rfl trivial ?_ rfl
  simp only [Tryz.ntmps62, List.size_toArray, List.length_cons, List.length_nil, Nat.reduceAdd, Nat.reduceSub, Array.replicate_succ, Array.replicate_zero, List.push_toArray, List.append_toArray, List.nil_append, List.cons_append]
  gi_wp2_with fail
  refine ⟨trivial, (callsIn_wide.2 cb).mono ?_⟩
  rintro e w1 ⟨g, cap, rfl, hrow, hg, hb⟩
  clear cb
  obtain ⟨cur, hcs, hmk⟩ := make_u64 p hle w1
  gi_wp2_with fail
  refine ⟨trivial, (backward_in Fence.wide 4 trivial rfl _ _ _ _).mono ?_⟩
  rintro e w2 ⟨rfl, rfl⟩
  obtain ⟨s1, hs1⟩ : ∃ s1, w1.heap.size = s1 := ⟨_, rfl⟩
  have bO := Boxed.new (w1.alloc (.cells cur 22)) 94 (.slice (some ⟨w1.heap.size, 0, none⟩) 0 p)
  have bM := Boxed.new ((w1.alloc (.cells cur 22)).alloc (.cells #[.slice (some ⟨w1.heap.size, 0, none⟩) 0 p] 94)) 22 (.int .u64 0)
  have bN := Boxed.new (((w1.alloc (.cells cur 22)).alloc (.cells #[.slice (some ⟨w1.heap.size, 0, none⟩) 0 p] 94)).alloc (.cells #[.int .u64 0] 22)) 113 (.slice (some ⟨g, 0, none⟩) p cap)
  have hr0 : (w1.alloc (.cells cur 22)).ownsRow s1 22 1 (.slice (some ⟨s1, 0, none⟩) 0 p) 0 [] := by
    rw [← hs1]
    exact World.ownsRow_made w1 cur p (Nat.le_refl _) (by simp only [maxLen]; omega) (by rw [hcs]; omega)
  simp only [World.size_alloc, hs1] at bO bM bN ⊢
  have bO := (bO.alloc (.cells #[.int .u64 0] 22)).alloc (.cells #[.slice (some ⟨g, 0, none⟩) p cap] 113)
  have bM := bM.alloc (.cells #[.slice (some ⟨g, 0, none⟩) p cap] 113)
  have hr0 := ((hr0.alloc (.cells #[.slice (some ⟨s1, 0, none⟩) 0 p] 94)).alloc (.cells #[.int .u64 0] 22)).alloc (.cells #[.slice (some ⟨g, 0, none⟩) p cap] 113)
  have hB1 : Below s1 w1 ((((w1.alloc (.cells cur 22)).alloc (.cells #[.slice (some ⟨s1, 0, none⟩) 0 p] 94)).alloc (.cells #[.int .u64 0] 22)).alloc (.cells #[.slice (some ⟨g, 0, none⟩) p cap] 113)) :=
    ((((Below.refl _ w1).alloc (by omega) _).alloc (by simp; omega) _).alloc (by simp; omega) _).alloc (by simp; omega) _
  have hgs : g < s1 := by omega
  have hcg : ∀ j, j < p → w1.cell? ⟨g, j, none⟩ = some (.int .i64 ((f j).val : Int)) := fun j hj => by rw [hf j hj]; exact hplc _ _ _ _ _ hrow j hj
  have hsz : ((((w1.alloc (.cells cur 22)).alloc (.cells #[.slice (some ⟨s1, 0, none⟩) 0 p] 94)).alloc (.cells #[.int .u64 0] 22)).alloc (.cells #[.slice (some ⟨g, 0, none⟩) p cap] 113)).heap.size = s1 + 4 := by simp; omega
  obtain ⟨W0, hW0⟩ : ∃ W0, ((((w1.alloc (.cells cur 22)).alloc (.cells #[.slice (some ⟨s1, 0, none⟩) 0 p] 94)).alloc (.cells #[.int .u64 0] 22)).alloc (.cells #[.slice (some ⟨g, 0, none⟩) p cap] 113)) = W0 := ⟨_, rfl⟩
  rw [hW0] at bO bM bN hr0 hB1 hsz ⊢
  have hbw : Below w.heap.size w W0 := hb.trans (hB1.mono (by have := hb.size; omega))
  clear hW0
  gi_wp2_with fail
  refine wpIn_rangeFunc_ownG rfl (by omega) (gf := 103) (lb := #[.pointer (some ⟨s1 + 1 + 1 + 1, 0, none⟩)]) rfl trivial (enters_of Tryz.func103 (by kernel_rfl) rfl)
    (backward_stops Fence.wide (5 - 1) trivial rfl (by omega) (s1 + 1 + 1 + 1) s1 g p cap f hle hgs W0 (by omega) (by omega) bN.cell (fun j hj => (hB1.cell (p := ⟨g, j, none⟩) hgs).trans (hcg j hj)))
    KB.t (KB.b (by omega) (by omega)) (Below.refl _ _) (fun _ => rfl)
    (fun pre W => ((∃ v, Boxed W (s1 + 1) 94 v ∧ W.ownsRow s1 22 1 v pre.length (UCELLS (ST (HTS pre)).2) ∧ v = .slice (some ⟨s1, 0, none⟩) pre.length p) ∧ Boxed W (s1 + 1 + 1) 22 (.int .u64 ((ST (HTS pre)).1 : Int)) ∧ Boxed W (s1 + 1 + 1 + 1) 113 (.slice (some ⟨g, 0, none⟩) p cap)) ∧ Below w.heap.size w W)
    (fun _ _ _ => False)
    (OwnFrom.and (OwnFrom.and (Own.from (holdsRow_own s1 (s1 + 1) 94 22 1 (fun pre => pre.length) (fun pre => UCELLS (ST (HTS pre)).2) (fun pre v => v = .slice (some ⟨s1, 0, none⟩) pre.length p)) _) (OwnFrom.and (Own.from (boxed_own _ _ _) _) (Own.from (boxed_own _ _ _) _))) (ownFrom_below (Nat.le_refl _) (by have := hb.size; omega)))
    (fun _ _ _ _ _ hs _ _ => hs)
    ⟨⟨⟨_, bO, hr0, rfl⟩, bM, bN⟩, hbw⟩
    (fun x => { tmps := #[.int .u64 (X : Int), undef, .slice none 0 0, .slice (some ⟨g, 0, none⟩) p cap, .pointer (some ⟨s1 + 1, 0, none⟩), .pointer (some ⟨s1 + 1 + 1, 0, none⟩), undef, .int .i64 (x.2.val : Int), .int .u64 (X : Int), .bool false, .int .u64 (X : Int), .slice (some ⟨g, 0, none⟩) p cap, .slice (some ⟨g, 0, none⟩) p cap, .int .i64 (p : Int), .slice (some ⟨s1, 0, none⟩) 0 p, .slice (some ⟨g, 0, none⟩) p cap, .func (.func 103) #[] #[.pointer (some ⟨s1 + 1 + 1 + 1, 0, none⟩)], .int .i64 (x.1 : Int), .int .i64 (x.2.val : Int), undef, undef, undef, undef, undef, undef, undef, undef, undef, undef], defers := [] }) ?assign ?body ?done ?stop
  case assign =>
    intro l x W K hK
    gi_wp2
    exact hK
  case body =>
    rintro l pre x W ⟨⟨⟨v, bO, hrow, rfl⟩, bM, bN⟩, hB⟩ hlt
    have hsn := ST_snoc (HTS pre) x.2.val
    have hml := ST_lt (HTS pre)
    have hsl := ST_length (HTS pre)
    rw [show (HTS pre).length = pre.length by simp [HTS]] at hsl
    obtain ⟨m, hm⟩ : ∃ m, (ST (HTS pre)).1 = m := ⟨_, rfl⟩
    obtain ⟨ls, hls⟩ : ∃ ls, (ST (HTS pre)).2 = ls := ⟨_, rfl⟩
    have ct := fun w => tree_ok x.2.val (by omega) w
    obtain ⟨t, ht⟩ : ∃ t, TREE x.2.val = t := ⟨_, rfl⟩
    rw [hm, hls, ht] at hsn
    rw [hm] at hml bM
    rw [hls] at hsl hrow
    rw [ht] at ct
    obtain ⟨m2, hm2⟩ : ∃ m2, (m + t) % 2 ^ 64 = m2 := ⟨_, rfl⟩
    obtain ⟨q, hq⟩ : ∃ q, (m2 + (2 ^ 64 - 1)) % 2 ^ 64 = q := ⟨_, rfl⟩
    rw [hm2, hq] at hsn
    have e1 : IntKind.u64.wrap ((m : Int) + (t : Int)) = (m2 : Int) := by rw [wrapU]; omega
    have e2 : IntKind.u64.wrap ((m2 : Int) - 1) = (q : Int) := by rw [wrapU]; omega
    have R : Aside (ST (HTS (pre ++ [x])) = (m2, ls ++ [q]) ∧ ls.length = pre.length ∧ pre.length < p) := ⟨by rw [HTS_snoc]; exact hsn, hsl, hlt⟩
    clear hsn hml hsl hlt hm hls ht hm2 hq
    have hc4 := bO.cell
    have hc5 := bM.cell
    have hf5 := bM.frozen
    have hmx : Tryz.prog.follows .mixedOrders = true := by kernel_rfl
    clear hplc hf hcg hz0 hz2
    have hsW : s1 + 4 ≤ W.heap.size := by have := bN.lt; omega
    obtain ⟨W5, hW5⟩ : ∃ W5, (W.setCell ⟨s1 + 1 + 1, 0, none⟩ (.int .u64 (m2 : Int))).drew = W5 := ⟨_, rfl⟩
    have bO5 : Boxed W5 (s1 + 1) 94 (.slice (some ⟨s1, 0, none⟩) pre.length p) := by rw [← hW5]; exact bO.other (by omega) _
    have bM5 : Boxed W5 (s1 + 1 + 1) 22 (.int .u64 (m2 : Int)) := by rw [← hW5]; exact bM.set _
    have bN5 : Boxed W5 (s1 + 1 + 1 + 1) 113 (.slice (some ⟨g, 0, none⟩) p cap) := by rw [← hW5]; exact bN.other (by omega) _
    have hrow5 : W5.ownsRow s1 22 1 (.slice (some ⟨s1, 0, none⟩) pre.length p) pre.length (UCELLS ls) := by rw [← hW5]; exact (hrow.kept (grownBy_setCell' W (s1 + 1 + 1) (.int .u64 (m2 : Int))) (.inr (by simp [Value.ownBlock]; omega))).drew
    have hk5 : KeepsOthers W W5 := by rw [← hW5]; exact (KeepsOthers.setCell _ _ _).trans (KeepsOthers.drew _)
    have hb5 : Below s1 W W5 := by rw [← hW5]; exact ((Below.refl s1 W).setCell (p := ⟨s1 + 1 + 1, 0, none⟩) (by show s1 ≤ s1 + 1 + 1; omega) _).drew
    have hs5 : s1 + 4 ≤ W5.heap.size := by have := bN5.lt; omega
    have hcN : W.cell? ⟨s1 + 1 + 1 + 1, 0, none⟩ = some (.slice (some ⟨g, 0, none⟩) p cap) := bN.cell
    gi_wp2
    gi_region_with_o (refine ⟨trivial, ?_⟩; gi_at_call 65; refine (CallsIn.inRound l (callsIn_wide.2 (ct _))).mono ?_; rintro e w' ⟨rfl, rfl⟩)
    all_goals clear hc4 hc5 hf5 bO bM bN hrow ct
    all_goals have hc4 := bO5.cell
    all_goals have hc5 := bM5.cell
    all_goals gi_wp2_with (gi_at_builtin; refine wpListIn_append_fits _ rfl _ _ 94 rfl s1 22 i0 1 Tryz.underlying94 hi hz1 s1 pre.length p (UCELLS ls) rfl (hrow5.alloc _) ⟨W5.heap.size, 0, none⟩ 1 1 [.int .u64 (q : Int)] rfl rfl (cell_one_new _ _ _) (by simp [Value.oneCell']) (by have := R.out.2.2; omega) ?_; intro w1' hown' hgrow; obtain ⟨hv1, hv2, hr2, hk2, hb2⟩ := bO5.appended (by decide) hrow5 (by omega) (by omega) hown' hgrow; have hc1 := hv1.cell; have hf1 := hv1.frozen)
    all_goals have bN6 := ((bN5.alloc (.cells #[.int .u64 (q : Int)] 22)).kept hgrow (by simp; omega)).other (B' := s1 + 1) (by omega) (.slice (some ⟨s1, 0, none⟩) (pre.length + 1) p)
    all_goals have bM6 := ((bM5.alloc (.cells #[.int .u64 (q : Int)] 22)).kept hgrow (by simp; omega)).other (B' := s1 + 1) (by omega) (.slice (some ⟨s1, 0, none⟩) (pre.length + 1) p)
    all_goals obtain ⟨r1, r2, r3⟩ := R.out
    all_goals refine ⟨(hk5.trans hk2).from _, ⟨hb5.trans hb2, bN6.cell.trans hcN.symm⟩, ⟨⟨_, hv2, ?_, by simp⟩, ?_, bN6⟩, hB.trans ((hb5.trans hb2).mono (by have := hb.size; omega))⟩
    all_goals rw [r1]
    all_goals first | exact bM6 | (rw [UCELLS_snoc, List.length_append]; exact hr2)
  case done =>
    rintro D ys W hD hys ⟨⟨⟨v, bO, hrow, rfl⟩, bM, bN⟩, hB⟩ hK
    have hc := bO.cell
    gi_wp2
    refine ⟨by simp, .inl ⟨_, _, rfl, run_takeDeferred hK, ?_⟩⟩
    have hys' : ys = UPTO (BACK p f) p := hys
    subst hys'
    obtain ⟨a1, a2, a3⟩ := HA.out
    have hl : (UPTO (BACK p f) p).length = p := UPTO_length _ _
    rw [hl, a1, ← HS_zero, ST_all a3] at hrow
    refine ⟨_, results_tmp rfl _ _ _, s1, p, ?_, ?_, hB.trans (belowK_b (w := w) (Nat.le_refl _) W D _ _ (by have := hb.size; omega) hK rfl rfl)⟩
    · rw [← a2, hl]
      rfl
    · rw [← a2]
      exact ownsRow_putObj (own_mono hrow (by have := hb.size; omega)) _ hK rfl
  case stop =>
    rintro D c pre W _ _ h _
    exact h.elim
end Go.Proofs.YtdmbmphdiaepdaaGreatDoor
