/- Texts of MmrInstalls, one behind the other: MmrBag, MmrInstall, MmrAppendPlain. -/
import Derived.Test.YtdmbmphdiaepdaaDoorMmrInstallsP9
import Derived.Test.YtdmbmphdiaepdaaDoorMmrInstallsP19
import Derived.Test.YtdmbmphdiaepdaaDoorMmrInstallsP20
import Derived.Test.YtdmbmphdiaepdaaDoorMmrInstallsP23
/- folded and Bag of package mmr, hashes as functions. -/
namespace Go.Proofs.YtdmbmphdiaepdaaDoor.HX
open Go.RowKit
set_option maxRecDepth 100000

/-- a slice of hashes lies there. -/
def HASHES (w : World) (a : Option Addr) (n : Nat) (hs : Nat → Nat → Nat) : Prop := 0 < n → ∃ b o, a = some ⟨b, o, none⟩ ∧ b < w.heap.size ∧ ∀ i, i < n → w.rangeAt b (o + i * 32) (ULIST .u8 32 (hs i))
theorem HASHES.below {w w' : World} {a : Option Addr} {n : Nat} {hs : Nat → Nat → Nat} (h : HASHES w a n hs) (hb : Below w.heap.size w w') : HASHES w' a n hs := fun hn => by
  obtain ⟨b, o, e, hl, hc⟩ := h hn
  exact ⟨b, o, e, Nat.lt_of_lt_of_le hl hb.size, fun i hi => range_below (hc i hi) hb hl⟩
def FOLDF (d : Int) (l r : Nat → Nat) : Nat → Nat := HASHOF d (2 :: ((List.range 32).map l ++ (List.range 32).map r))
def ROOTF (d : Int) (n : Nat) (r : Nat → Nat) : Nat → Nat := HASHOF d (3 :: (BE8 n ++ (List.range 32).map r))
theorem FOLDF_lt (d : Int) (l r : Nat → Nat) (i : Nat) : FOLDF d l r i < 256 := STATE_lt d _ _ i
theorem ROOTF_lt (d : Int) (n : Nat) (r : Nat → Nat) (i : Nat) : ROOTF d n r i < 256 := STATE_lt d _ _ i
/-- the last one, and k more of n folded into it. -/
def FAF (d : Int) (hs : Nat → Nat → Nat) (n : Nat) : Nat → Nat → Nat
  | 0 => hs (n - 1)
  | k + 1 => FOLDF d (hs (n - 2 - k)) (FAF d hs n k)
def FLDF (d : Int) (hs : Nat → Nat → Nat) (n : Nat) : Nat → Nat := if n = 0 then fun _ => 0 else FAF d hs n (n - 1)
theorem FAF_lt {d : Int} {hs : Nat → Nat → Nat} {n : Nat} (hb : ∀ i, i < n → ∀ j, hs i j < 256) (hn : 0 < n) : ∀ k j, FAF d hs n k j < 256
  | 0, j => hb _ (by omega) j
  | k + 1, j => FOLDF_lt _ _ _ j
theorem FLDF_lt {d : Int} {hs : Nat → Nat → Nat} {n : Nat} (hb : ∀ i, i < n → ∀ j, hs i j < 256) (j : Nat) : FLDF d hs n j < 256 := by
  unfold FLDF
  split
  · show (0 : Nat) < 256
    decide
  · exact FAF_lt hb (by omega) _ j
set_option maxHeartbeats 4000000 in
theorem foldedf_ok (d : Int) (a : Option Addr) (n c : Nat) (hn : n ≤ 1000) (hs : Nat → Nat → Nat) (w : World) (hH : HASHES w a n hs) (h8 : ∀ i, i < n → ∀ j, hs i j < 256) (hX : Tabled w) :
    Calls Tryd.prog 50 #[.int .i64 d, .slice a n c] w fun e w' => e = .returned (.agg (UARR .u8 32 (FLDF d hs n))) ∧ Below w.heap.size w w' := by
  have hz := zeroHash
  have hbn := buildHash
  obtain ⟨w0, hw0⟩ : ∃ w0, w.alloc (.cells (UARR .u8 32 fun _ => 0) 30) = w0 := ⟨_, rfl⟩
  have hb0 : Below w.heap.size w w0 := by rw [← hw0]; exact (Below.refl _ _).alloc (Nat.le_refl _) _
  have h40 : Has w0 w.heap.size (UARR .u8 32 fun _ => 0) 30 := by rw [← hw0]; exact Has.new w _ _
  by_cases h0 : n = 0
  · subst h0
    have e : FLDF d hs 0 = fun _ => 0 := rfl
    rw [e]
    clear hH hX hn e h8
    have hst2 := store_cells32 h40 (fun _ => 0)
    have hsu := UARR_size .u8 32 (fun _ => 0)
    go_enter Tryd.func50, Tryd.ntmps50
    go_wp2
    refine bodyPost_ret (v := .agg (UARR .u8 32 fun _ => 0)) (results_cell rfl _ _ w.heap.size 30 _ (0, 0) _ _ rfl (h40.row _) Tryd.underlying30 (info_HASH _)) rfl ⟨rfl, below_row hb0 (Nat.le_refl _) _⟩
  · obtain ⟨m, hm⟩ : ∃ m, n = m + 1 := ⟨n - 1, by omega⟩
    obtain ⟨gn, o, rfl, hgn, hcn⟩ := hH (by omega)
    have hz0 : ((n : Int) == 0) = false := beq_eq_false_iff_ne.2 (by omega)
    have e1 : wrap64 ((n : Int) - 1) = (m : Int) := by unfold wrap64; omega
    have hml : (m : Int) < (n : Int) := by omega
    have e : FLDF d hs n = FAF d hs n m := by unfold FLDF; rw [if_neg h0, show n - 1 = m by omega]
    rw [e]
    have hat : w0.rangeAt gn (o + m * 32) (ULIST .u8 32 (FAF d hs n 0)) := by
      have h2 : FAF d hs n 0 = hs m := by rw [FAF, show n - 1 = m by omega]
      rw [h2]
      exact range_below (hcn m (by omega)) hb0 hgn
    have HA : Aside (n = m + 1 ∧ n ≤ 1000 ∧ (∀ i, i < n → w.rangeAt gn (o + i * 32) (ULIST .u8 32 (hs i))) ∧ Tabled w ∧ gn < w.heap.size ∧ (∀ k j, FAF d hs n k j < 256) ∧ (∀ i, i < n → ∀ j, hs i j < 256)) := ⟨hm, hn, hcn, hX, hgn, FAF_lt h8 (by omega), h8⟩
    clear hm hn hX hgn hcn h0 e hH h8
    generalize hA0 : FAF d hs n 0 = A0 at *
    have hst := run_storeCells_new (P := Tryd.prog) w0 30 (UARR .u8 32 fun _ => 0) (UARR .u8 32 A0) (info_HASH _) (by rw [UARR_size, UARR_size]) (UARR_one _ _ _)
    have hsu := UARR_size .u8 32 A0
    go_enter Tryd.func50, Tryd.ntmps50
    go_wp2_with (first
      | (refine wpList_load_mid rfl 30 (.tmp 17) rfl gn (o + m * 32) rfl (ULIST .u8 32 A0) _ hat Tryd.underlying30 rfl (by rw [ULIST_length]; exact info_hash) ?_; rw [← UARR_list]))
    have R1 : Aside (Below w.heap.size w (w0.alloc (.cells (UARR .u8 32 A0) 30)) ∧ Has (w0.alloc (.cells (UARR .u8 32 A0) 30)) w.heap.size (UARR .u8 32 fun _ => 0) 30 ∧ Has (w0.alloc (.cells (UARR .u8 32 A0) 30)) w0.heap.size (UARR .u8 32 (FAF d hs n 0)) 30 ∧ w.heap.size < w0.heap.size) := ⟨hb0.alloc hb0.size _, h40.alloc _, by rw [hA0]; exact Has.new _ _ _, h40.lt⟩
    clear hat hst hsu hA0 hw0 hb0 h40
    generalize w0.alloc (.cells (UARR .u8 32 A0) 30) = W1 at *
    generalize w0.heap.size = b6 at *
    clear w0
    have K : Aside (w.heap.size < b6) := R1.out.2.2.2
    have E0 : Aside (wrap64 ((m : Int) - 1) = (m : Int) - 1) := by have := HA.out.1; have := HA.out.2.1; show wrap64 ((m : Int) - 1) = (m : Int) - 1; unfold wrap64; omega
    go_loopg [7] m (fun q s7 wx => ∃ x : Int, s7 = .int .i64 x ∧ Aside (q ≤ m ∧ x = (q : Int) - 1 ∧ Below w.heap.size w wx ∧ Has wx w.heap.size (UARR .u8 32 fun _ => 0) 30 ∧ Has wx b6 (UARR .u8 32 (FAF d hs n (m - q))) 30))
    case atStart => exact ⟨_, rfl, Nat.le_refl _, E0.out, R1.out.1, R1.out.2.1, by rw [Nat.sub_self]; exact R1.out.2.2.1⟩
    case round =>
      obtain ⟨x, rfl, A⟩ := hrel
      clear R1 E0 e1
      cases gk with
      | zero =>
        obtain rfl : x = -1 := by have := A.out.2.1; omega
        have hH4 := A.out.2.2.2.1
        have hH6 : Has wr b6 (UARR .u8 32 (FAF d hs n m)) 30 := A.out.2.2.2.2
        have hb := A.out.2.2.1
        clear A HA
        generalize hY0 : FAF d hs n m = Y at *
        have hst2 := store_cells32 hH4 Y
        have hsu := UARR_size .u8 32 Y
        go_wp2_with (first
          | (refine wpList_load_row rfl 30 (.tmp 6) rfl b6 rfl 30 (UARR .u8 32 Y) (0, 0) _ hH6 Tryd.underlying30 rfl (info_HASH _) ?_)
          | fail)
        refine bodyPost_ret (v := .agg (UARR .u8 32 Y)) (results_cell rfl _ _ w.heap.size 30 _ (0, 0) _ _ rfl (hH4.row _) Tryd.underlying30 (info_HASH _)) rfl ⟨by rw [hY0], below_row hb (Nat.le_refl _) _⟩
      | succ q =>
        obtain rfl : x = (q : Int) := by have := A.out.2.1; omega
        have hq0 : (0 : Int) ≤ (q : Int) := by omega
        obtain ⟨h1, h2, h3, h4, h5, h6, h7⟩ := HA.out
        have hqm : q + 1 ≤ m := A.out.1
        have hb1 : (q : Int) < (n : Int) := by omega
        have eY : FAF d hs n (m - q) = FOLDF d (hs q) (FAF d hs n (m - (q + 1))) := by
          rw [show m - q = (m - (q + 1)) + 1 by omega, FAF, show n - 2 - (m - (q + 1)) = q by omega]
        have hr := h6 (m - (q + 1))
        have hl := h7 q (by omega)
        have hE1 : Aside (wrap64 ((q : Int) - 1) = (q : Int) - 1) := by show wrap64 ((q : Int) - 1) = (q : Int) - 1; unfold wrap64; omega
        have hb := A.out.2.2.1
        have H2 : Aside (w.rangeAt gn (o + q * 32) (ULIST .u8 32 (hs q)) ∧ gn < w.heap.size ∧ Tabled w ∧ (∀ j, hs q j < 256) ∧ (∀ j, FAF d hs n (m - (q + 1)) j < 256) ∧ FAF d hs n (m - q) = FOLDF d (hs q) (FAF d hs n (m - (q + 1))) ∧ Below w.heap.size w wr ∧ Has wr w.heap.size (UARR .u8 32 fun _ => 0) 30 ∧ Has wr b6 (UARR .u8 32 (FAF d hs n (m - (q + 1)))) 30 ∧ q ≤ m) := ⟨h3 q (by omega), h5, h4, hl, hr, eY, hb, A.out.2.2.2.1, A.out.2.2.2.2, by omega⟩
        clear h1 h2 h3 h4 h5 h6 h7 eY hb hr hl A HA hqm
        go_upto_region 8 with fail
        refine folded_next wr gn o n c b6 q d (hs q) (FAF d hs n (m - (q + 1))) (FAF d hs n (m - q)) hb1 (fun V => Below wr.heap.size wr V) (Below.refl _ _).drew (fun V hV => ?_) (fun V hV => ?_) (fun V hV => ?_) (fun _ _ _ _ _ h => h) ?_
        · exact ⟨range_below (range_below H2.out.1 H2.out.2.2.2.2.2.2.1 H2.out.2.1) hV (Nat.lt_of_lt_of_le H2.out.2.1 H2.out.2.2.2.2.2.2.1.size), H2.out.2.2.2.2.2.2.2.2.1.keep hV⟩
        · have hV2 : Below w.heap.size w V := H2.out.2.2.2.2.2.2.1.trans (hV.mono H2.out.2.2.2.2.2.2.1.size)
          exact range_below H2.out.1 (below_row hV2 (Nat.le_of_lt K.out) _) H2.out.2.1
        · have hV2 : Below w.heap.size w V := H2.out.2.2.2.2.2.2.1.trans (hV.mono H2.out.2.2.2.2.2.2.1.size)
          refine (fold_ok d (hs q) (FAF d hs n (m - (q + 1))) H2.out.2.2.2.1 H2.out.2.2.2.2.1 V (H2.out.2.2.1.below hV2)).mono ?_
          rintro e V' ⟨rfl, hb⟩
          exact ⟨by rw [H2.out.2.2.2.2.2.1]; rfl, hV.trans (hb.mono hV.size)⟩
        · intro W3 hW3
          obtain ⟨w0', hw0', hW3⟩ := hW3
          have Z : Aside (q ≤ m ∧ Below w.heap.size w W3 ∧ Has W3 w.heap.size (UARR .u8 32 fun _ => 0) 30 ∧ Has W3 b6 (UARR .u8 32 (FAF d hs n (m - q))) 30) := by
            have hV2 : Below w.heap.size w w0' := H2.out.2.2.2.2.2.2.1.trans (hw0'.mono H2.out.2.2.2.2.2.2.1.size)
            rw [hW3]
            exact ⟨H2.out.2.2.2.2.2.2.2.2.2, below_row hV2 (Nat.le_of_lt K.out) _, (H2.out.2.2.2.2.2.2.2.1.keep hw0').row_other (by have := K.out; omega) _, (H2.out.2.2.2.2.2.2.2.2.1.keep hw0').row _⟩
          clear hW3 hw0' H2
          have e1 := hE1.out
          go_wp2
          go_roundg q
          case measure => exact Nat.lt_succ_self _
          case rel => exact ⟨_, rfl, Z.out.1, by first | rfl | exact hE1.out, Z.out.2⟩
end Go.Proofs.YtdmbmphdiaepdaaDoor.HX

/- Install of package mmr. -/
namespace Go.Proofs.YtdmbmphdiaepdaaDoor.HX
open Go.RowKit
set_option maxRecDepth 100000

/-- i nodes have been pushed. -/
structure INST (w wx : World) (B g : Nat) (d : Int) (log n i : Nat) (C Ci : CHUNKS) (hs : Nat → Nat → Nat) : Prop where
  store : STORE wx B g log (NODES n + i) (NODES n + i) (NODES n + i) Ci
  width : wx.cell? ⟨g, 5, none⟩ = some (.int .i64 d)
  size : wx.cell? ⟨g, 6, none⟩ = some (.int .u64 (n : Int))
  old : ∀ p, p < NODES n → AT Ci log p = AT C log p
  new : ∀ j, j < i → AT Ci log (NODES n + j) = some (hs j)
  step : TSTEP w wx g C Ci
  below : Below B w wx
theorem INST.keep {w wx w' : World} {B g : Nat} {d : Int} {log n i : Nat} {C Ci : CHUNKS} {hs : Nat → Nat → Nat} (h : INST w wx B g d log n i C Ci hs) (hB : B ≤ wx.heap.size) (hb : Below wx.heap.size wx w') : INST w w' B g d log n i C Ci hs :=
  ⟨h.store.below hb, (hb.cell (p := ⟨g, 5, none⟩) h.store.lt).trans h.width, (hb.cell (p := ⟨g, 6, none⟩) h.store.lt).trans h.size, h.old, h.new, h.step.trans (STEP.below h.store hb).tree, h.below.trans (hb.mono hB)⟩
theorem INST.pushed {w wx w' : World} {B g : Nat} {d : Int} {log n i : Nat} {C Ci : CHUNKS} {hs : Nat → Nat → Nat} (h : INST w wx B g d log n i C Ci hs) (hP : PUSHED wx B g log (NODES n + i) (NODES n + i) (NODES n + i) Ci (hs i) w') : ∃ C', INST w w' B g d log n (i + 1) C C' hs := by
  obtain ⟨C', s1, s2, s3, s4⟩ := hP
  refine ⟨C', ⟨s1, (s3.pins 5 (by decide)).trans h.width, (s3.pins 6 (by decide)).trans h.size, fun p hp => ?_, fun j hj => ?_, h.step.trans s3.tree, h.below.trans s4⟩⟩
  · rw [s2, if_neg (by omega)]
    exact h.old p hp
  · by_cases e : j = i
    · subst e
      rw [s2, if_pos rfl]
    · rw [s2, if_neg (by omega)]
      exact h.new j (by omega)
theorem node_under {n h k : Nat} (hp : PLC h k < NODES n) : (k + 1) * 2 ^ h ≤ n := by
  rcases Nat.lt_or_ge n ((k + 1) * 2 ^ h) with h1 | h1
  · have h2 := PLC_last h k
    have h3 : NODES n ≤ NODES ((k + 1) * 2 ^ h - 1) := NODES_le (by omega)
    omega
  · exact h1
/-- the nodes are those of the leaves f. -/
def MADEOF (d : Int) (n m : Nat) (f hs : Nat → Nat → Nat) : Prop := ∀ h k, (k + 1) * 2 ^ h ≤ m → NODES n ≤ PLC h k → hs (PLC h k - NODES n) = VAL d f h k
theorem INST.done {w wx : World} {B g : Nat} {d : Int} {log n k i : Nat} {C Ci : CHUNKS} {f f' hs : Nat → Nat → Nat} (h : INST w wx B g d log n i C Ci hs) (hi : NODES n + i = NODES (n + k)) (hF : FOREST w B g d log n C f) (hff : ∀ j, j < n → f' j = f j) (h8 : ∀ j, j < n + k → ∀ t, f' j t < 256) (hk : n + k ≤ 2 ^ 20) (hm : MADEOF d n (n + k) f' hs) :
    ∃ C', FOREST (wx.setCell ⟨g, 6, none⟩ (.int .u64 ((n + k : Nat) : Int))) B g d log (n + k) C' f' ∧ TSTEP w (wx.setCell ⟨g, 6, none⟩ (.int .u64 ((n + k : Nat) : Int))) g C C' ∧ Below B w (wx.setCell ⟨g, 6, none⟩ (.int .u64 ((n + k : Nat) : Int))) := by
  obtain ⟨s1, s2⟩ := h.store.side 6 (by decide) (.int .u64 ((n + k : Nat) : Int))
  rw [hi] at s1
  refine ⟨Ci, ⟨s1, (set_off (by decide) _).trans h.width, World.cell?_setCell_same _ _ _ h.size, s1.live 6 (by decide), fun h1 k1 hk1 => ?_, h8, hk, hF.base⟩, h.step.trans s2, h.below.setCell (p := ⟨g, 6, none⟩) hF.base _⟩
  by_cases hp : PLC h1 k1 < NODES n
  · have hu := node_under hp
    rw [h.old _ hp, hF.node h1 k1 hu, VAL_congr (fun j hj => (hff j hj).symm) h1 k1 hu]
  · have h2 := PLC_under hk1
    have h3 := h.new (PLC h1 k1 - NODES n) (by omega)
    rw [show NODES n + (PLC h1 k1 - NODES n) = PLC h1 k1 by omega] at h3
    rw [h3, hm h1 k1 hk1 (by omega)]
theorem u64_sum {n k : Nat} (h : n + k < 2 ^ 40) : IntKind.u64.wrap ((n : Int) + (k : Int)) = ((n + k : Nat) : Int) := by
  rw [wrapU]; omega
theorem u64_less {n k : Nat} (h : k ≤ n) (hn : n < 2 ^ 64) : IntKind.u64.wrap ((n : Int) - (k : Int)) = ((n - k : Nat) : Int) := by
  rw [wrapU]; omega
theorem u64_left {n : Nat} (h : n ≤ 4611686018427387904) : IntKind.u64.wrap (4611686018427387904 - (n : Int)) = ((4611686018427387904 - n : Nat) : Int) := by
  rw [wrapU]; omega
theorem u64_fits {n : Nat} (h : n < 2 ^ 40) : IntKind.u64.wrap (n : Int) = (n : Int) := by
  rw [wrapU]; omega
set_option maxHeartbeats 4000000 in
theorem install_count {w : World} {B g : Nat} {d : Int} {log n : Nat} {C : CHUNKS} {f : Nat → Nat → Nat} (hF : FOREST w B g d log n C f) (a : Option Addr) (m c k : Nat) (hk : n + k ≤ 2 ^ 20) (hm : m < 2 ^ 40) (hne : m ≠ NODES (n + k) - NODES n) :
    Calls Tryd.prog 7 #[.pointer (some ⟨g, 0, none⟩), .slice a m c, .int .u64 (k : Int)] w fun e w' => e = .returned (.int .i64 70) ∧ w = w' := by
  have c6 := hF.size
  have e1 := u64_left (n := n) (by omega)
  have h1 : ¬ ((4611686018427387904 - n : Nat) : Int) < (k : Int) := by omega
  have e2 := u64_sum (n := n) (k := k) (by omega)
  have e3 := u64_fits hm
  have cn := nodes_ok n (by omega) w
  have cm := nodes_ok (n + k) (by omega) w
  have hle : NODES n ≤ NODES (n + k) := NODES_le (by omega)
  have hb : NODES (n + k) < 2 ^ 22 := NODES_bound (h := 21) (by omega)
  have e4 := u64_less hle (by omega)
  have h5 : ¬ (m : Int) = ((NODES (n + k) - NODES n : Nat) : Int) := by omega
  clear hF hk hm hne hle hb
  generalize NODES (n + k) - NODES n = M at *
  generalize NODES (n + k) = N2 at *
  generalize NODES n = N1 at *
  generalize 4611686018427387904 - n = L at *
  generalize n + k = nk at *
  go_enter Tryd.func7, Tryd.ntmps7
  go_wp2_with fail
  refine cn.mono ?_
  rintro e w1 ⟨rfl, rfl⟩
  clear cn
  go_wp2_with fail
  refine cm.mono ?_
  rintro e w1 ⟨rfl, rfl⟩
  clear cm
  go_wp2_with fail
  go_ret
  exact ⟨rfl, rfl⟩
set_option maxHeartbeats 4000000 in
theorem install_ok {w : World} {B g : Nat} {d : Int} {log n : Nat} {C : CHUNKS} {f : Nat → Nat → Nat} (hF : FOREST w B g d log n C f) (a : Option Addr) (m c k : Nat) (f' hs : Nat → Nat → Nat) (hk : n + k ≤ 2 ^ 20) (hm : NODES n + m = NODES (n + k)) (hH : HASHES w a m hs) (hs8 : ∀ i, i < m → ∀ j, hs i j < 256) (hoff : ∀ x, a = some x → x.block ≠ g ∧ ¬ FOOT w g C x.block) (hff : ∀ j, j < n → f' j = f j) (h8 : ∀ j, j < n + k → ∀ t, f' j t < 256) (hmo : MADEOF d n (n + k) f' hs) (hB : B ≤ w.heap.size) :
    Calls Tryd.prog 7 #[.pointer (some ⟨g, 0, none⟩), .slice a m c, .int .u64 (k : Int)] w fun e w' => e = .returned (.int .i64 0) ∧ ∃ C', FOREST w' B g d log (n + k) C' f' ∧ TSTEP w w' g C C' ∧ Below B w w' := by
  have c6 := hF.size
  have e1 := u64_left (n := n) (by omega)
  have h1 : ¬ ((4611686018427387904 - n : Nat) : Int) < (k : Int) := by omega
  have e2 := u64_sum (n := n) (k := k) (by omega)
  have cn := nodes_ok n (by omega) w
  have cm := nodes_ok (n + k) (by omega) w
  have hle : NODES n ≤ NODES (n + k) := NODES_le (by omega)
  have hb : NODES (n + k) < 2 ^ 22 := NODES_bound (h := 21) (by omega)
  have e3 := u64_fits (n := m) (by omega)
  have e4 := u64_less hle (by omega)
  have e5 : NODES (n + k) - NODES n = m := by omega
  rw [e5] at e4
  have I0 : INST w w B g d log n 0 C C hs := ⟨hF.store, hF.width, hF.size, fun _ _ => rfl, fun j hj => by omega, (STEP.below hF.store (Below.refl _ _)).tree, Below.refl _ _⟩
  have A1 : Aside (FOREST w B g d log n C f ∧ HASHES w a m hs ∧ (∀ x, a = some x → x.block ≠ g ∧ ¬ FOOT w g C x.block) ∧ (∀ i, i < m → ∀ j, hs i j < 256) ∧ B ≤ w.heap.size ∧ NODES n + m < 2 ^ 22 ∧ (∀ wx Ci, INST w wx B g d log n m C Ci hs → ∃ C', FOREST (wx.setCell ⟨g, 6, none⟩ (.int .u64 ((n + k : Nat) : Int))) B g d log (n + k) C' f' ∧ TSTEP w (wx.setCell ⟨g, 6, none⟩ (.int .u64 ((n + k : Nat) : Int))) g C C' ∧ Below B w (wx.setCell ⟨g, 6, none⟩ (.int .u64 ((n + k : Nat) : Int))))) := ⟨hF, hH, hoff, hs8, hB, by omega, fun wx Ci hI => hI.done hm hF hff h8 hk hmo⟩
  clear hF hk hm hH hs8 hoff hff h8 hmo hB hle hb e5
  have I1 : Aside (INST w w B g d log n 0 C C hs) := I0
  clear I0
  have hz := zeroHash
  generalize NODES (n + k) = N2 at *
  generalize hN1 : NODES n = N1 at cn e4
  generalize 4611686018427387904 - n = L at *
  go_enter Tryd.func7, Tryd.ntmps7
  go_wp2_with fail
  refine cn.mono ?_
  rintro e w1 ⟨rfl, rfl⟩
  clear cn
  go_wp2_with fail
  refine cm.mono ?_
  rintro e w1 ⟨rfl, rfl⟩
  clear cm c6
  go_wp2_with fail
  clear e1 h1 e3 e4
  go_loopg [47] m (fun r s47 wx => ∃ (i : Nat) (Ci : CHUNKS), s47 = .int .i64 (i : Int) ∧ Aside (i + r = m ∧ INST w wx B g d log n i C Ci hs))
  case atStart => exact ⟨0, C, rfl, by omega, I1.out⟩
  case round =>
    obtain ⟨i, Ci, rfl, A⟩ := hrel
    clear I1
    cases gk with
    | zero =>
      obtain rfl : i = m := by have := A.out.1; omega
      have hlt : ¬ (i : Int) < (i : Int) := by omega
      have c6 := A.out.2.size
      have f6 := A.out.2.store.live 6 (by decide)
      have FIN := A1.out.2.2.2.2.2.2 wr Ci A.out.2
      have FN : Aside (∃ C', FOREST (wr.setCell ⟨g, 6, none⟩ (.int .u64 ((n + k : Nat) : Int))) B g d log (n + k) C' f' ∧ TSTEP w (wr.setCell ⟨g, 6, none⟩ (.int .u64 ((n + k : Nat) : Int))) g C C' ∧ Below B w (wr.setCell ⟨g, 6, none⟩ (.int .u64 ((n + k : Nat) : Int)))) := FIN
      clear FIN A A1
      go_wp2_with fail
      go_ret
      exact ⟨rfl, FN.out⟩
    | succ r =>
      have hin : i < m := by have := A.out.1; omega
      have hlt : (i : Int) < (m : Int) := by omega
      have hi0 : ¬ (i : Int) < 0 := by omega
      obtain ⟨lb, lo, rfl, hlb, hlr⟩ := A1.out.2.1 (by omega)
      obtain ⟨o1, o2⟩ := A1.out.2.2.1 _ rfl
      have hblk : wr.heap[lb]? = w.heap[lb]? := A.out.2.step.same lb hlb o1 o2
      have hrg : wr.rangeAt lb (lo + i * 32) (ULIST .u8 32 (hs i)) := fun j v hv => (World.cell?_of_block (w := w) (by exact hblk)).trans (hlr i hin j v hv)
      have ei : wrap64 ((i : Int) + 1) = ((i + 1 : Nat) : Int) := by have := A1.out.2.2.2.2.2.1; unfold wrap64; omega
      have hst := run_storeCells_new (P := Tryd.prog) wr 30 (UARR .u8 32 fun _ => 0) (UARR .u8 32 (hs i)) (info_HASH _) (by rw [UARR_size, UARR_size]) (UARR_one _ _ _)
      have hsu := UARR_size .u8 32 (hs i)
      have hBr : B ≤ wr.heap.size := Nat.le_trans A1.out.2.2.2.2.1 A.out.2.step.size
      have hb0 : Below wr.heap.size wr (wr.alloc (.cells (UARR .u8 32 (hs i)) 30)) := (Below.refl _ _).alloc (Nat.le_refl _) _
      have A2 : Aside (i + 1 + r = m ∧ INST w (wr.alloc (.cells (UARR .u8 32 (hs i)) 30)) B g d log n i C Ci hs ∧ Has (wr.alloc (.cells (UARR .u8 32 (hs i)) 30)) wr.heap.size (UARR .u8 32 (hs i)) 30 ∧ wr.heap.size ≠ g ∧ ¬ FOOT (wr.alloc (.cells (UARR .u8 32 (hs i)) 30)) g Ci wr.heap.size ∧ B ≤ (wr.alloc (.cells (UARR .u8 32 (hs i)) 30)).heap.size ∧ (∀ j, hs i j < 256)) := by
        refine ⟨by have := A.out.1; clear ei; omega, A.out.2.keep hBr hb0, Has.new _ _ _, fun e => ?_, fun hf => ?_, Nat.le_trans hBr hb0.size, A1.out.2.2.2.1 i hin⟩
        · have := A.out.2.store.lt
          omega
        · exact Nat.lt_irrefl _ (A.out.2.store.foot_lt (A.out.2.store.foot_below hb0 hf))
      clear hlr hlb hblk o1 o2 A hBr hb0 hin
      go_upto_region 10 with (refine wpList_load_mid rfl 30 (.tmp 49) rfl lb (lo + i * 32) rfl (ULIST .u8 32 (hs i)) _ hrg Tryd.underlying30 rfl (by rw [ULIST_length]; exact info_hash) ?_; rw [← UARR_list])
      clear hst hsu hrg
      generalize wr.alloc (.cells (UARR .u8 32 (hs i)) 30) = W1 at *
      generalize wr.heap.size = b at *
      refine install_push W1 g b (NODES n + i) (hs i) (fun W => W = W1.drew) (fun W => PUSHED W1.drew B g log (NODES n + i) (NODES n + i) (NODES n + i) Ci (hs i) W) rfl (fun W e => by rw [e]; exact (show Has W1.drew b _ _ from A2.out.2.2.1).whole) (fun W hP => ?_) (fun W e => ?_) (fun _ _ _ _ _ h => h) ?_
      · obtain ⟨C', s1, s2, s3, s4⟩ := hP
        exact (show Has W b (UARR .u8 32 (hs i)) 30 from (s3.same b A2.out.2.2.1.lt A2.out.2.2.2.1 A2.out.2.2.2.2.1).trans A2.out.2.2.1).whole
      · subst e
        have hlt2 := A1.out.2.2.2.2.2.1
        have him := A2.out.1
        exact push_ok (A2.out.2.1.store.below (Below.refl _ _).drew) (hs i) A2.out.2.2.2.2.2.2 (by clear ei hlt; omega) (by clear ei hlt; omega) A1.out.1.base (by clear ei hlt; omega)
      · intro W hP
        have hG := (A2.out.2.1.keep A2.out.2.2.2.2.2.1 (Below.refl _ _).drew).pushed hP
        obtain ⟨C', hG⟩ := hG
        have A3 : Aside (i + 1 + r = m ∧ INST w W B g d log n (i + 1) C C' hs) := ⟨A2.out.1, hG⟩
        clear hP hG A2
        go_wp2_with fail
        go_roundg r
        case measure => exact Nat.lt_succ_self _
        case rel => exact ⟨i + 1, C', by first | rfl | (rw [ei]), A3.out⟩
end Go.Proofs.YtdmbmphdiaepdaaDoor.HX

/- What lies in memory while a leaf is appended. -/
namespace Go.Proofs.YtdmbmphdiaepdaaDoor.HX
open Go.RowKit
set_option maxRecDepth 100000

/-- the leaf and j nodes above it have been pushed; the last one's hash lies at b. -/
structure GROWING (w wx : World) (B g : Nat) (d : Int) (log n j b : Nat) (C Cj : CHUNKS) (f : Nat → Nat → Nat) : Prop where
  store : STORE wx B g log (NODES n + 1 + j) (NODES n + 1 + j) (NODES n + 1 + j) Cj
  width : wx.cell? ⟨g, 5, none⟩ = some (.int .i64 d)
  size : wx.cell? ⟨g, 6, none⟩ = some (.int .u64 ((n + 1 : Nat) : Int))
  free : wx.frozen? ⟨g, 6, none⟩ = false
  old : ∀ h k, (k + 1) * 2 ^ h ≤ n → AT Cj log (PLC h k) = some (VAL d f h k)
  new : ∀ i, i ≤ j → AT Cj log (NODES n + i) = some (VAL d f i (n / 2 ^ i))
  ones : ONES n j
  held : Has wx b (UARR .u8 32 (VAL d f j (n / 2 ^ j))) 30
  off : ¬ FOOT wx g Cj b
  step : TSTEP w wx g C Cj
  below : Below B w wx
  base : w.heap.size ≤ b
theorem GROWING.lt {w wx : World} {B g : Nat} {d : Int} {log n j b : Nat} {C Cj : CHUNKS} {f : Nat → Nat → Nat} (h : GROWING w wx B g d log n j b C Cj f) : b ≠ g ∧ b < wx.heap.size ∧ g < wx.heap.size := by
  refine ⟨fun e => ?_, h.held.lt, h.store.lt⟩
  obtain ⟨cs, t, fr, k1, _, _, k4⟩ := h.store.kind
  have h1 := h.held
  unfold Has at h1
  rw [e, k1] at h1
  cases Option.some.inj h1
  exact k4 rfl
/-- only new memory. -/
theorem GROWING.keep {w wx w' : World} {B g : Nat} {d : Int} {log n j b : Nat} {C Cj : CHUNKS} {f : Nat → Nat → Nat} (h : GROWING w wx B g d log n j b C Cj f) (hBx : B ≤ wx.heap.size) (hb : Below wx.heap.size wx w') : GROWING w w' B g d log n j b C Cj f := by
  have hg := h.store.lt
  have hst := STEP.below h.store hb
  refine ⟨h.store.below hb, (hb.cell (p := ⟨g, 5, none⟩) hg).trans h.width, (hb.cell (p := ⟨g, 6, none⟩) hg).trans h.size, (World.frozen?_of_block (w := wx) (by exact hb.block g hg)).trans h.free, h.old, h.new, h.ones, h.held.keep hb, fun hf => ?_, h.step.trans hst.tree, h.below.trans (hb.mono hBx), h.base⟩
  rcases hst.foot b hf with h1 | h1
  · exact h.off h1
  · have := h.lt.2.1
    omega
/-- the held hash lies elsewhere now. -/
theorem GROWING.moved {w wx : World} {B g : Nat} {d : Int} {log n j b : Nat} {C Cj : CHUNKS} {f : Nat → Nat → Nat} (h : GROWING w wx B g d log n j b C Cj f) (hBx : B ≤ wx.heap.size) :
    GROWING w (wx.alloc (.cells (UARR .u8 32 (VAL d f j (n / 2 ^ j))) 30)) B g d log n j wx.heap.size C Cj f := by
  have hk := h.keep hBx ((Below.refl _ _).alloc (Nat.le_refl _) (.cells (UARR .u8 32 (VAL d f j (n / 2 ^ j))) 30))
  refine ⟨hk.store, hk.width, hk.size, hk.free, hk.old, hk.new, hk.ones, Has.new _ _ _, fun hf => ?_, hk.step, hk.below, h.step.size⟩
  exact absurd (h.store.foot_lt (h.store.foot_below ((Below.refl wx.heap.size wx).alloc (Nat.le_refl _) _) hf)) (Nat.lt_irrefl _)
/-- the held hash is written over: the next node's. -/
theorem GROWING.off_row {w wx : World} {B g : Nat} {d : Int} {log n j b : Nat} {C Cj : CHUNKS} {f : Nat → Nat → Nat} (h : GROWING w wx B g d log n j b C Cj f) (hBw : B ≤ w.heap.size) (y : Nat → Nat) :
    STORE (wx.setRow b (UARR .u8 32 y)) B g log (NODES n + 1 + j) (NODES n + 1 + j) (NODES n + 1 + j) Cj ∧ (∀ i, (wx.setRow b (UARR .u8 32 y)).cell? ⟨g, i, none⟩ = wx.cell? ⟨g, i, none⟩) ∧ (wx.setRow b (UARR .u8 32 y)).frozen? ⟨g, 6, none⟩ = false ∧ Has (wx.setRow b (UARR .u8 32 y)) b (UARR .u8 32 y) 30 ∧ ¬ FOOT (wx.setRow b (UARR .u8 32 y)) g Cj b ∧ TSTEP w (wx.setRow b (UARR .u8 32 y)) g C Cj ∧ Below B w (wx.setRow b (UARR .u8 32 y)) := by
  have hblk : ∀ x, x ≠ b → (wx.setRow b (UARR .u8 32 y)).heap[x]? = wx.heap[x]? := fun x hx => setRow_other wx b x _ hx
  have hsz : (wx.setRow b (UARR .u8 32 y)).heap.size = wx.heap.size := by simp
  obtain ⟨hbg, hbl, hgl⟩ := h.lt
  obtain ⟨s1, s2, s3⟩ := h.store.same (b := b) (fun x _ hx => hblk x hx) h.off (fun e => hbg e.symm)
  refine ⟨s1, s3, (World.frozen?_of_block (w := wx) (by exact hblk g (fun e => hbg e.symm))).trans h.free, h.held.row _, fun hf => h.off (s2 b hf), ⟨fun x hx => h.step.foot x (s2 x hx), fun x hx hxg hf => ?_, by rw [hsz]; exact h.step.size⟩, below_row h.below (Nat.le_trans hBw h.base) _⟩
  have hxb : x ≠ b := fun e => by have := h.base; omega
  exact (hblk x hxb).trans (h.step.same x hx hxg hf)
/-- the next node is pushed. -/
theorem growing_pushed {w wx w' : World} {B g : Nat} {d : Int} {log n j b : Nat} {C Cj : CHUNKS} {f : Nat → Nat → Nat} {y : Nat → Nat}
    (hw5 : wx.cell? ⟨g, 5, none⟩ = some (.int .i64 d)) (hw6 : wx.cell? ⟨g, 6, none⟩ = some (.int .u64 ((n + 1 : Nat) : Int)))
    (hold : ∀ h k, (k + 1) * 2 ^ h ≤ n → AT Cj log (PLC h k) = some (VAL d f h k)) (hnew : ∀ i, i ≤ j → AT Cj log (NODES n + i) = some (VAL d f i (n / 2 ^ i))) (hones : ONES n (j + 1))
    (hheld : Has wx b (UARR .u8 32 y) 30) (hy : y = VAL d f (j + 1) (n / 2 ^ (j + 1))) (hoff : ¬ FOOT wx g Cj b) (hbg : b ≠ g) (hstep : TSTEP w wx g C Cj) (hbel : Below B w wx) (hbase : w.heap.size ≤ b)
    (hP : PUSHED wx B g log (NODES n + 1 + j) (NODES n + 1 + j) (NODES n + 1 + j) Cj y w') : ∃ C', GROWING w w' B g d log n (j + 1) b C C' f := by
  obtain ⟨C', s1, s2, s3, s4⟩ := hP
  have hbl := hheld.lt
  refine ⟨C', ⟨s1, (s3.pins 5 (by decide)).trans hw5, (s3.pins 6 (by decide)).trans hw6, s1.live 6 (by decide), fun h k hk => ?_, fun i hi => ?_, hones, ?_, fun hf => ?_, hstep.trans s3.tree, hbel.trans s4, hbase⟩⟩
  · rw [s2, if_neg ?_]
    · exact hold h k hk
    · have h1 := PLC_under hk
      omega
  · by_cases e : i = j + 1
    · subst e
      rw [s2, if_pos (by omega), hy]
    · rw [s2, if_neg (by omega)]
      exact hnew i (by omega)
  · rw [← hy]
    exact (s3.same b hbl hbg hoff).trans hheld
  · rcases s3.foot b hf with h1 | h1
    · exact hoff h1
    · omega
end Go.Proofs.YtdmbmphdiaepdaaDoor.HX
