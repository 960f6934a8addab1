/- Texts of PartOne, one behind the other: MmrBag, StoreHashList, MmrPeaks, MmrOldCalls, MmrAwakeRegion, MmrAwake, MmrOldState, PartPairs. -/
import Derived.Great.BuildSlice
import Derived.Test.YtnplhejopmoopaaDoorPartOneP26
/- folded and Bag of package mmr, hashes as functions. -/
namespace Go.Proofs.YtnplhejopmoopaaDoor.HX
open Go.RowKit
set_option maxRecDepth 100000

/-- a slice of hashes lies there. -/
def HASHES (w : World) (a : Option Addr) (n : Nat) (hs : Nat → Nat → Nat) : Prop := 0 < n → ∃ b o, a = some ⟨b, o, none⟩ ∧ b < w.heap.size ∧ ∀ i, i < n → w.rangeAt b (o + i * 32) (ULIST .u8 32 (hs i))
theorem HASHES.below {w w' : World} {a : Option Addr} {n : Nat} {hs : Nat → Nat → Nat} (h : HASHES w a n hs) (hb : Below w.heap.size w w') : HASHES w' a n hs := fun hn => by
  obtain ⟨b, o, e, hl, hc⟩ := h hn
  exact ⟨b, o, e, Nat.lt_of_lt_of_le hl hb.size, fun i hi => range_below (hc i hi) hb hl⟩
def FOLDF (d : Int) (l r : Nat → Nat) : Nat → Nat := HASHOF d (2 :: ((List.range 32).map l ++ (List.range 32).map r))
def ROOTF (d : Int) (n : Nat) (r : Nat → Nat) : Nat → Nat := HASHOF d (3 :: (BE8 n ++ (List.range 32).map r))
theorem FOLDF_lt (d : Int) (l r : Nat → Nat) (i : Nat) : FOLDF d l r i < 256 := STATE_lt d _ _ i
/-- the last one, and k more of n folded into it. -/
def FAF (d : Int) (hs : Nat → Nat → Nat) (n : Nat) : Nat → Nat → Nat
  | 0 => hs (n - 1)
  | k + 1 => FOLDF d (hs (n - 2 - k)) (FAF d hs n k)
def FLDF (d : Int) (hs : Nat → Nat → Nat) (n : Nat) : Nat → Nat := if n = 0 then fun _ => 0 else FAF d hs n (n - 1)
theorem FAF_lt {d : Int} {hs : Nat → Nat → Nat} {n : Nat} (hb : ∀ i, i < n → ∀ j, hs i j < 256) (hn : 0 < n) : ∀ k j, FAF d hs n k j < 256
  | 0, j => hb _ (by omega) j
  | k + 1, j => FOLDF_lt _ _ _ j
theorem FLDF_lt {d : Int} {hs : Nat → Nat → Nat} {n : Nat} (hb : ∀ i, i < n → ∀ j, hs i j < 256) (j : Nat) : FLDF d hs n j < 256 := by
  unfold FLDF
  split
  · show (0 : Nat) < 256
    decide
  · exact FAF_lt hb (by omega) _ j
set_option maxHeartbeats 4000000 in
theorem foldedf_ok (d : Int) (a : Option Addr) (n c : Nat) (hn : n ≤ 1000) (hs : Nat → Nat → Nat) (w : World) (hH : HASHES w a n hs) (h8 : ∀ i, i < n → ∀ j, hs i j < 256) (hX : Tabled w) :
    Calls Tryd.prog 62 #[.int .i64 d, .slice a n c] w fun e w' => e = .returned (.agg (UARR .u8 32 (FLDF d hs n))) ∧ Below w.heap.size w w' := by
  have hz := zeroHash
  have hbn := buildHash
  obtain ⟨w0, hw0⟩ : ∃ w0, w.alloc (.cells (UARR .u8 32 fun _ => 0) 27) = w0 := ⟨_, rfl⟩
  have hb0 : Below w.heap.size w w0 := by rw [← hw0]; exact (Below.refl _ _).alloc (Nat.le_refl _) _
  have h40 : Has w0 w.heap.size (UARR .u8 32 fun _ => 0) 27 := by rw [← hw0]; exact Has.new w _ _
  by_cases h0 : n = 0
  · subst h0
    have e : FLDF d hs 0 = fun _ => 0 := rfl
    rw [e]
    clear hH hX hn e h8
    have hst2 := store_cells32 h40 (fun _ => 0)
    have hsu := UARR_size .u8 32 (fun _ => 0)
    go_enter Tryd.func62, Tryd.ntmps62
    go_wp2
    refine bodyPost_ret (v := .agg (UARR .u8 32 fun _ => 0)) (results_cell rfl _ _ w.heap.size 27 _ (0, 0) _ _ rfl (h40.row _) Tryd.underlying27 (info_HASH _)) rfl ⟨rfl, below_row hb0 (Nat.le_refl _) _⟩
  · obtain ⟨m, hm⟩ : ∃ m, n = m + 1 := ⟨n - 1, by omega⟩
    obtain ⟨gn, o, rfl, hgn, hcn⟩ := hH (by omega)
    have hz0 : ((n : Int) == 0) = false := beq_eq_false_iff_ne.2 (by omega)
    have e1 : wrap64 ((n : Int) - 1) = (m : Int) := by unfold wrap64; omega
    have hml : (m : Int) < (n : Int) := by omega
    have e : FLDF d hs n = FAF d hs n m := by unfold FLDF; rw [if_neg h0, show n - 1 = m by omega]
    rw [e]
    have hat : w0.rangeAt gn (o + m * 32) (ULIST .u8 32 (FAF d hs n 0)) := by
      have h2 : FAF d hs n 0 = hs m := by rw [FAF, show n - 1 = m by omega]
      rw [h2]
      exact range_below (hcn m (by omega)) hb0 hgn
    have HA : Aside (n = m + 1 ∧ n ≤ 1000 ∧ (∀ i, i < n → w.rangeAt gn (o + i * 32) (ULIST .u8 32 (hs i))) ∧ Tabled w ∧ gn < w.heap.size ∧ (∀ k j, FAF d hs n k j < 256) ∧ (∀ i, i < n → ∀ j, hs i j < 256)) := ⟨hm, hn, hcn, hX, hgn, FAF_lt h8 (by omega), h8⟩
    clear hm hn hX hgn hcn h0 e hH h8
    generalize hA0 : FAF d hs n 0 = A0 at *
    have hst := run_storeCells_new (P := Tryd.prog) w0 27 (UARR .u8 32 fun _ => 0) (UARR .u8 32 A0) (info_HASH _) (by rw [UARR_size, UARR_size]) (UARR_one _ _ _)
    have hsu := UARR_size .u8 32 A0
    go_enter Tryd.func62, Tryd.ntmps62
    go_wp2_with (first
      | (refine wpList_load_mid rfl 27 (.tmp 17) rfl gn (o + m * 32) rfl (ULIST .u8 32 A0) _ hat Tryd.underlying27 rfl (by rw [ULIST_length]; exact info_hash) ?_; rw [← UARR_list]))
    have R1 : Aside (Below w.heap.size w (w0.alloc (.cells (UARR .u8 32 A0) 27)) ∧ Has (w0.alloc (.cells (UARR .u8 32 A0) 27)) w.heap.size (UARR .u8 32 fun _ => 0) 27 ∧ Has (w0.alloc (.cells (UARR .u8 32 A0) 27)) w0.heap.size (UARR .u8 32 (FAF d hs n 0)) 27 ∧ w.heap.size < w0.heap.size) := ⟨hb0.alloc hb0.size _, h40.alloc _, by rw [hA0]; exact Has.new _ _ _, h40.lt⟩
    clear hat hst hsu hA0 hw0 hb0 h40
    generalize w0.alloc (.cells (UARR .u8 32 A0) 27) = W1 at *
    generalize w0.heap.size = b6 at *
    clear w0
    have K : Aside (w.heap.size < b6) := R1.out.2.2.2
    have E0 : Aside (wrap64 ((m : Int) - 1) = (m : Int) - 1) := by have := HA.out.1; have := HA.out.2.1; show wrap64 ((m : Int) - 1) = (m : Int) - 1; unfold wrap64; omega
    go_loopg [7] m (fun q s7 wx => ∃ x : Int, s7 = .int .i64 x ∧ Aside (q ≤ m ∧ x = (q : Int) - 1 ∧ Below w.heap.size w wx ∧ Has wx w.heap.size (UARR .u8 32 fun _ => 0) 27 ∧ Has wx b6 (UARR .u8 32 (FAF d hs n (m - q))) 27))
    case atStart => exact ⟨_, rfl, Nat.le_refl _, E0.out, R1.out.1, R1.out.2.1, by rw [Nat.sub_self]; exact R1.out.2.2.1⟩
    case round =>
      obtain ⟨x, rfl, A⟩ := hrel
      clear R1 E0 e1
      cases gk with
      | zero =>
        obtain rfl : x = -1 := by have := A.out.2.1; omega
        have hH4 := A.out.2.2.2.1
        have hH6 : Has wr b6 (UARR .u8 32 (FAF d hs n m)) 27 := A.out.2.2.2.2
        have hb := A.out.2.2.1
        clear A HA
        generalize hY0 : FAF d hs n m = Y at *
        have hst2 := store_cells32 hH4 Y
        have hsu := UARR_size .u8 32 Y
        go_wp2_with (first
          | (refine wpList_load_row rfl 27 (.tmp 6) rfl b6 rfl 27 (UARR .u8 32 Y) (0, 0) _ hH6 Tryd.underlying27 rfl (info_HASH _) ?_)
          | fail)
        refine bodyPost_ret (v := .agg (UARR .u8 32 Y)) (results_cell rfl _ _ w.heap.size 27 _ (0, 0) _ _ rfl (hH4.row _) Tryd.underlying27 (info_HASH _)) rfl ⟨by rw [hY0], below_row hb (Nat.le_refl _) _⟩
      | succ q =>
        obtain rfl : x = (q : Int) := by have := A.out.2.1; omega
        have hq0 : (0 : Int) ≤ (q : Int) := by omega
        obtain ⟨h1, h2, h3, h4, h5, h6, h7⟩ := HA.out
        have hqm : q + 1 ≤ m := A.out.1
        have hb1 : (q : Int) < (n : Int) := by omega
        have eY : FAF d hs n (m - q) = FOLDF d (hs q) (FAF d hs n (m - (q + 1))) := by
          rw [show m - q = (m - (q + 1)) + 1 by omega, FAF, show n - 2 - (m - (q + 1)) = q by omega]
        have hr := h6 (m - (q + 1))
        have hl := h7 q (by omega)
        have hE1 : Aside (wrap64 ((q : Int) - 1) = (q : Int) - 1) := by show wrap64 ((q : Int) - 1) = (q : Int) - 1; unfold wrap64; omega
        have hb := A.out.2.2.1
        have H2 : Aside (w.rangeAt gn (o + q * 32) (ULIST .u8 32 (hs q)) ∧ gn < w.heap.size ∧ Tabled w ∧ (∀ j, hs q j < 256) ∧ (∀ j, FAF d hs n (m - (q + 1)) j < 256) ∧ FAF d hs n (m - q) = FOLDF d (hs q) (FAF d hs n (m - (q + 1))) ∧ Below w.heap.size w wr ∧ Has wr w.heap.size (UARR .u8 32 fun _ => 0) 27 ∧ Has wr b6 (UARR .u8 32 (FAF d hs n (m - (q + 1)))) 27 ∧ q ≤ m) := ⟨h3 q (by omega), h5, h4, hl, hr, eY, hb, A.out.2.2.2.1, A.out.2.2.2.2, by omega⟩
        clear h1 h2 h3 h4 h5 h6 h7 eY hb hr hl A HA hqm
        go_upto_region 8 with fail
        refine folded_next wr gn o n c b6 q d (hs q) (FAF d hs n (m - (q + 1))) (FAF d hs n (m - q)) hb1 (fun V => Below wr.heap.size wr V) (Below.refl _ _).drew (fun V hV => ?_) (fun V hV => ?_) (fun V hV => ?_) (fun _ _ _ _ _ h => h) ?_
        · exact ⟨range_below (range_below H2.out.1 H2.out.2.2.2.2.2.2.1 H2.out.2.1) hV (Nat.lt_of_lt_of_le H2.out.2.1 H2.out.2.2.2.2.2.2.1.size), H2.out.2.2.2.2.2.2.2.2.1.keep hV⟩
        · have hV2 : Below w.heap.size w V := H2.out.2.2.2.2.2.2.1.trans (hV.mono H2.out.2.2.2.2.2.2.1.size)
          exact range_below H2.out.1 (below_row hV2 (Nat.le_of_lt K.out) _) H2.out.2.1
        · have hV2 : Below w.heap.size w V := H2.out.2.2.2.2.2.2.1.trans (hV.mono H2.out.2.2.2.2.2.2.1.size)
          refine (fold_ok d (hs q) (FAF d hs n (m - (q + 1))) H2.out.2.2.2.1 H2.out.2.2.2.2.1 V (H2.out.2.2.1.below hV2)).mono ?_
          rintro e V' ⟨rfl, hb⟩
          exact ⟨by rw [H2.out.2.2.2.2.2.1]; rfl, hV.trans (hb.mono hV.size)⟩
        · intro W3 hW3
          obtain ⟨w0', hw0', hW3⟩ := hW3
          have Z : Aside (q ≤ m ∧ Below w.heap.size w W3 ∧ Has W3 w.heap.size (UARR .u8 32 fun _ => 0) 27 ∧ Has W3 b6 (UARR .u8 32 (FAF d hs n (m - q))) 27) := by
            have hV2 : Below w.heap.size w w0' := H2.out.2.2.2.2.2.2.1.trans (hw0'.mono H2.out.2.2.2.2.2.2.1.size)
            rw [hW3]
            exact ⟨H2.out.2.2.2.2.2.2.2.2.2, below_row hV2 (Nat.le_of_lt K.out) _, (H2.out.2.2.2.2.2.2.2.1.keep hw0').row_other (by have := K.out; omega) _, (H2.out.2.2.2.2.2.2.2.2.1.keep hw0').row _⟩
          clear hW3 hw0' H2
          have e1 := hE1.out
          go_wp2
          go_roundg q
          case measure => exact Nat.lt_succ_self _
          case rel => exact ⟨_, rfl, Z.out.1, by first | rfl | exact hE1.out, Z.out.2⟩
end Go.Proofs.YtnplhejopmoopaaDoor.HX

/- Lists of hashes that are made and grow. -/
namespace Go.Proofs.YtnplhejopmoopaaDoor.HX
open Go.RowKit
set_option maxRecDepth 100000

/-- a list of one hash. -/
theorem build_hash {ops : Array Oper} {rest : List Oper} {o : Oper} {a : Act} {Q : Exit → Act → World → Prop} (w : World) (hg : o.guard = none) (x : Operand) (ho : o.op = .buildSlice 44 1 #[(0, x)]) (f : Nat → Nat) (hx : a.eval x = .agg (UARR .u8 32 f))
    (h : wpList Tryd.prog ops Q rest (a.put o.dst (.slice (some ⟨w.heap.size, 0, none⟩) 1 1)) (w.alloc (.cells (UARR .u8 32 f) 27))) : wpList Tryd.prog ops Q (o :: rest) a w := by
  obtain ⟨i, hie, hz', hs1, _⟩ := info_parts info_hashT
  refine wpList_buildSlice hg 44 27 1 _ ho (UARR .u8 32 f) i _ Tryd.underlying44 hie hz' (by rw [hs1]; omega) (by rw [hs1]; omega) ?_ h
  have := Great.fill_whole (s := 32) (by decide) [.agg (UARR .u8 32 f)] ((Array.range (1 * i.size)).map ((Value.agg (UARR .u8 32 fun _ => 0)).cells[· % (Value.agg (UARR .u8 32 fun _ => 0)).cells.size]!)) (fun v hv => by simp at hv; subst hv; exact UARR_size _ _ _) (by simp [hs1])
  simp [Value.cells] at this
  rw [hs1]
  simp [hx]
  rw [hs1] at this
  exact this
/-- a hash is appended. -/
theorem app_hashf {ops : Array Oper} {rest : List Oper} {o : Oper} {a : Act} {Q : Exit → Act → World → Prop} (w : World) (hgd : o.guard = none) (s x : Operand)
    (ho : o.op = .call { callee := .builtin .append, args := #[s, x], argTypes := #[44, 44] }) (base : Nat) (v : Value) (n : Nat) (xs : List Value) (hs : a.eval s = v) (hown : w.ownsRow base 27 32 v n xs)
    (b c : Nat) (f : Nat → Nat) (hx : a.eval x = .slice (some ⟨b, 0, none⟩) 1 c) (hb : Has w b (UARR .u8 32 f) 27) (hn : n ≤ 100000) (hbase : base ≤ w.heap.size)
    (h : ∀ g cap w', w'.ownsRow base 27 32 (.slice (some ⟨g, 0, none⟩) (n + 1) cap) (n + 1) (xs ++ ULIST .u8 32 f) → w.grownBy w' v.ownBlock → (v.ownBlock = some g ∨ g = w.heap.size) → g < w'.heap.size → wpList Tryd.prog ops Q rest (a.put o.dst (.slice (some ⟨g, 0, none⟩) (n + 1) cap)) w') : wpList Tryd.prog ops Q (o :: rest) a w := by
  obtain ⟨i, hi, hz, hs1, hby⟩ := info_parts info_hashT
  exact wpList_append_lies w hgd s x 44 ho base 27 i _ 32 32 Tryd.underlying44 hi hz hs1 hby (by simp [Value.cells, UARR_size]) (by decide) v n xs hs hown ⟨b, 0, none⟩ 1 c (ULIST .u8 32 f) hx (by rw [ULIST_length]) (fun j u hj => by rw [Addr.add_mid, hb.cell, Nat.zero_add, UARR_list, List.getElem?_toArray]; exact hj) (ULIST_one _ _ _) (by decide) (by simp only [maxLen]; omega) (by omega) hbase w.heap.size rfl h
theorem HL_snoc' (hs : List (Nat → Nat)) (h : Nat → Nat) : HL (hs ++ [h]) = HL hs ++ ULIST .u8 32 h := by simp [HL]
end Go.Proofs.YtnplhejopmoopaaDoor.HX

/- peaks of package mmr: the hashes of the peaks of an earlier size. -/
namespace Go.Proofs.YtnplhejopmoopaaDoor.HX
open Go.RowKit
set_option maxRecDepth 100000

/-- the hashes of the peaks of m leaves. -/
def PKV (d : Int) (f : Nat → Nat → Nat) (m : Nat) : List (Nat → Nat) := (HS 0 m).map fun h => VAL d f h (2 * (m / 2 ^ (h + 1)))
theorem PKV_length (d : Int) (f : Nat → Nat → Nat) {m : Nat} (hm : m < 2 ^ 64) : (PKV d f m).length = PC m := by
  rw [PKV, List.length_map, HS_length hm 0 (by decide), Nat.pow_zero, Nat.div_one]
theorem peak_span {m h : Nat} (hb : m / 2 ^ h % 2 = 1) : (2 * (m / 2 ^ (h + 1)) + 1) * 2 ^ h ≤ m := by
  have e : m / 2 ^ h = 2 * (m / 2 ^ (h + 1)) + 1 := by rw [half_pow]; omega
  rw [← e]
  exact Nat.div_mul_le_self m (2 ^ h)
/-- what is found at a peak. -/
theorem FOREST.peak {w : World} {B g : Nat} {d : Int} {log n : Nat} {C : CHUNKS} {f : Nat → Nat → Nat} (hF : FOREST w B g d log n C f) {m i h : Nat} (hm : m ≤ n) (hi : (HS 0 m)[i]? = some h) :
    PKP m h < 2 ^ 40 ∧ GOTH C log (NODES n) (PKP m h) = VAL d f h (2 * (m / 2 ^ (h + 1))) ∧ GOT C log (NODES n) (PKP m h) = 0 ∧ (PEAKS m)[i]? = some (PKP m h) ∧ (PKV d f m)[i]? = some (VAL d f h (2 * (m / 2 ^ (h + 1)))) := by
  have hb := (HS_set_of 0 h (by decide) (List.mem_of_getElem? hi)).2.2
  have hs := Nat.le_trans (peak_span hb) hm
  have hlt : PKP m h < NODES n := PLC_under hs
  have hat : AT C log (PKP m h) = some (VAL d f h (2 * (m / 2 ^ (h + 1)))) := hF.node h _ hs
  have := hF.store.short
  refine ⟨by omega, ?_, ?_, ?_, ?_⟩
  · unfold GOTH
    rw [if_pos hlt, hat]
    rfl
  · unfold GOT
    rw [if_pos hlt, hat]
    rfl
  · rw [PEAKS, List.getElem?_map, hi]
    rfl
  · rw [PKV, List.getElem?_map, hi]
    rfl
set_option maxHeartbeats 2000000 in
theorem treepeaks_ok {w : World} {B g : Nat} {d : Int} {log n : Nat} {C : CHUNKS} {f : Nat → Nat → Nat} (hF : FOREST w B g d log n C f) (m : Nat) (hm : m ≤ n) (hT : Go.Proofs.YtnplhejopmoopaaDoor.Tabled w) :
    Calls Tryd.prog 48 #[.pointer (some ⟨g, 0, none⟩), .int .u64 (m : Int)] w fun e w' => ∃ v, e = .returned (.tuple #[v, .int .i64 0]) ∧ w'.ownsRow w.heap.size 27 32 v (PC m) (HL (PKV d f m)) ∧ Below w.heap.size w w' := by
  have hn20 := hF.few
  have cp := peaks_ok m (by omega) w hT (by have := hF.store.lt; omega)
  have hz := zeroHash
  have A : Aside (FOREST w B g d log n C f ∧ m ≤ n ∧ m ≤ 2 ^ 20) := ⟨hF, hm, by omega⟩
  clear hF hm hT hn20
  go_enter Tryd.func48, Tryd.ntmps48
  go_wp2_with fail
  refine cp.mono ?_
  rintro e w1 ⟨gp, cap, rfl, hrow, hb1⟩
  clear cp
  have hlen := PKV_length d f (m := m) (by have := A.out.2.2; omega)
  have hpc : PC m ≤ 64 := PC_lt_pow 64 m (by have := A.out.2.2; omega)
  have hgp := (hrow.lt gp rfl)
  have A2 : Aside (w1.ownsRow w.heap.size 25 1 (.slice (some ⟨gp, 0, none⟩) (PC m) cap) (PC m) (Go.Proofs.YtnplhejopmoopaaDoor.UCELLS (PEAKS m)) ∧ Below w.heap.size w w1 ∧ (PKV d f m).length = PC m ∧ PC m ≤ 64 ∧ w.heap.size ≤ gp ∧ gp < w1.heap.size) := ⟨hrow, hb1, hlen, hpc, hgp.1, hgp.2⟩
  clear hrow hb1 hlen hpc hgp
  obtain ⟨M, hM⟩ : ∃ M, PC m = M := ⟨_, rfl⟩
  rw [hM] at A2 ⊢
  go_wp2_with fail
  go_loopg [6, 14] M (fun r s6 s14 wx => ∃ i : Nat, s14 = .int .i64 (i : Int) ∧ Aside (i + r = M ∧ wx.ownsRow w1.heap.size 27 32 s6 i (HL ((PKV d f m).take i)) ∧ Below w1.heap.size w1 wx))
  case atStart => exact ⟨0, rfl, by omega, ⟨rfl, .inl ⟨rfl, rfl⟩⟩, Below.refl _ _⟩
  case round =>
    obtain ⟨i, rfl, R⟩ := hrel
    cases gk with
    | zero =>
      obtain rfl : i = M := by have := R.out.1; omega
      have hlt : ¬ (i : Int) < (i : Int) := by omega
      have F : Aside (wr.ownsRow w.heap.size 27 32 u6 i (HL (PKV d f m)) ∧ Below w.heap.size w wr) := by
        obtain ⟨-, h1, h2⟩ := R.out
        rw [List.take_of_length_le (by rw [A2.out.2.2.1]; omega)] at h1
        exact ⟨own_mono h1 A2.out.2.1.size, A2.out.2.1.trans (h2.mono A2.out.2.1.size)⟩
      clear R A A2 hz
      go_wp2_with fail
      go_ret2
      exact ⟨_, rfl, F.out⟩
    | succ r =>
      have hiM : i < M := by have := R.out.1; omega
      have hlt : (i : Int) < (M : Int) := by omega
      have hi0 : ¬ (i : Int) < 0 := by omega
      obtain ⟨hh, hhe⟩ : ∃ hh, (HS 0 m)[i]? = some hh := ⟨_, List.getElem?_eq_getElem (by have h1 := A2.out.2.2.1; rw [PKV, List.length_map] at h1; omega)⟩
      have hbw : Below w.heap.size w wr := A2.out.2.1.trans (R.out.2.2.mono A2.out.2.1.size)
      obtain ⟨p1, p2, p3, p4, p5⟩ := A.out.1.peak A.out.2.1 hhe
      have hc : wr.cell? ⟨gp, i, none⟩ = some (.int .u64 ((PKP m hh : Nat) : Int)) := (R.out.2.2.cell (p := ⟨gp, i, none⟩) A2.out.2.2.2.2.2).trans (by rw [A2.out.1.cellAt i (by omega), Go.Proofs.YtnplhejopmoopaaDoor.UCELLS, List.getElem?_map, p4]; rfl)
      have cg := treenode_ok (A.out.1.below hbw).store (PKP m hh) (by omega)
      rw [p2, p3] at cg
      have ht : (PKV d f m).take (i + 1) = (PKV d f m).take i ++ [VAL d f hh (2 * (m / 2 ^ (hh + 1)))] := by rw [List.take_add_one, p5]; rfl
      generalize VAL d f hh (2 * (m / 2 ^ (hh + 1))) = V at *
      generalize PKP m hh = pp at *
      have ei : wrap64 ((i : Int) + 1) = ((i + 1 : Nat) : Int) := by have := A2.out.2.2.2.1; unfold wrap64; omega
      have R2 : Aside (i + 1 + r = M ∧ wr.ownsRow w1.heap.size 27 32 u6 i (HL ((PKV d f m).take i)) ∧ Below w1.heap.size w1 wr ∧ (PKV d f m).take (i + 1) = (PKV d f m).take i ++ [V] ∧ i ≤ 64) := ⟨by have := R.out.1; clear ei; omega, R.out.2.1, R.out.2.2, ht, by have := A2.out.2.2.2.1; clear ei; omega⟩
      clear R hhe p1 p2 p3 p4 p5 hbw ht hiM
      go_wp2_with fail
      refine cg.mono ?_
      rintro e w2 ⟨rfl, hb2⟩
      clear cg
      have hst := run_storeCells_new (P := Tryd.prog) w2 27 (UARR .u8 32 fun _ => 0) (UARR .u8 32 V) (info_HASH _) (by rw [UARR_size, UARR_size]) (UARR_one _ _ _)
      have hsu := UARR_size .u8 32 V
      obtain ⟨w3, hw3⟩ : ∃ w3, w2.alloc (.cells (UARR .u8 32 V) 27) = w3 := ⟨_, rfl⟩
      have hF3 : Has w3 w2.heap.size (UARR .u8 32 V) 27 := by rw [← hw3]; exact Has.new w2 _ _
      have hb3 : Below wr.heap.size wr w3 := by rw [← hw3]; exact hb2.alloc hb2.size _
      have R3 : Aside ((w3.alloc (.cells (UARR .u8 32 V) 27)).ownsRow w1.heap.size 27 32 u6 i (HL ((PKV d f m).take i)) ∧ Below w1.heap.size w1 (w3.alloc (.cells (UARR .u8 32 V) 27)) ∧ w1.heap.size ≤ (w3.alloc (.cells (UARR .u8 32 V) 27)).heap.size ∧ Has (w3.alloc (.cells (UARR .u8 32 V) 27)) w3.heap.size (UARR .u8 32 V) 27) := by
        have h1 : Below wr.heap.size wr (w3.alloc (.cells (UARR .u8 32 V) 27)) := hb3.alloc hb3.size _
        exact ⟨own_keep R2.out.2.1 h1, R2.out.2.2.1.trans (h1.mono R2.out.2.2.1.size), Nat.le_trans R2.out.2.2.1.size h1.size, Has.new _ _ _⟩
      clear hb2 hb3
      go_wp2_with (first
        | (refine wpList_load_row rfl 27 (.tmp 9) rfl w2.heap.size rfl 27 (UARR .u8 32 V) (0, 0) _ hF3 Tryd.underlying27 rfl (info_HASH _) ?_)
        | (refine build_hash w3 rfl (.tmp 28) rfl V rfl ?_)
        | (at_builtin; refine app_hashf _ rfl (.tmp 27) (.tmp 29) rfl w1.heap.size u6 i (HL ((PKV d f m).take i)) rfl R3.out.1 w3.heap.size 1 V rfl R3.out.2.2.2 (by have := R2.out.2.2.2.2; omega) R3.out.2.2.1 ?_; intro g6 c6 w6 hown6 hgrow6 hat6 hlt6))
      go_roundg r
      case measure => exact Nat.lt_succ_self _
      case rel =>
        refine ⟨i + 1, by first | rfl | (rw [ei]), R2.out.1, ?_, R3.out.2.1.grown hgrow6 R3.out.2.2.1 (fun k e => (R3.out.1.lt k e).1)⟩
        rw [R2.out.2.2.2.1, HL_snoc']
        exact hown6
end Go.Proofs.YtnplhejopmoopaaDoor.HX

/- Bag, Old, Root, Peaks, Size of package mmr. -/
namespace Go.Proofs.YtnplhejopmoopaaDoor.HX
open Go.RowKit
set_option maxRecDepth 100000

theorem own_hashes {w : World} {B n : Nat} {v : Value} {l : List (Nat → Nat)} (h : w.ownsRow B 27 32 v n (HL l)) (hl : l.length = n) : ∃ a c, v = .slice a n c ∧ HASHES w a n (fun i => l.getD i fun _ => 0) := by
  obtain ⟨a, c, rfl⟩ := own_shape h
  refine ⟨a, c, rfl, fun hn => ?_⟩
  rcases h.2 with ⟨e, h0⟩ | ⟨g, cap, cur, e, _, hg, _⟩
  · omega
  · simp only [Value.slice.injEq] at e
    obtain ⟨rfl, _, rfl⟩ := e
    refine ⟨g, 0, rfl, (h.lt g rfl).2, fun i hi j u hj => ?_⟩
    have hj32 : j < 32 := by have := (List.getElem?_eq_some_iff.1 hj).1; rwa [ULIST_length] at this
    have hli : l[i]? = some (l.getD i fun _ => 0) := by rw [List.getD_eq_getElem?_getD, List.getElem?_eq_getElem (by omega)]; rfl
    rw [ULIST_get _ _ _ _ hj32] at hj
    rw [← hj, Nat.zero_add, h.cellAt (i * 32 + j) (by omega)]
    exact HL_get l i j _ hli hj32
set_option maxHeartbeats 2000000 in
theorem bagf_ok (d : Int) (n : Nat) (hn : n ≤ 4611686018427387904) (a : Option Addr) (k c : Nat) (hk : k = PC n) (hs : Nat → Nat → Nat) (w : World) (hH : HASHES w a k hs) (h8 : ∀ i, i < k → ∀ j, hs i j < 256) (hX : Tabled w) :
    Calls Tryd.prog 49 #[.int .i64 d, .int .u64 (n : Int), .slice a k c] w fun e w' => e = .returned (.tuple #[.agg (UARR .u8 32 (ROOTF d n (FLDF d hs k))), .int .i64 0]) ∧ Below w.heap.size w w' := by
  have hz := zeroHash
  obtain ⟨w0, hw0⟩ : ∃ w0, w.alloc (.cells (UARR .u8 32 fun _ => 0) 27) = w0 := ⟨_, rfl⟩
  have hb0 : Below w.heap.size w w0 := by rw [← hw0]; exact (Below.refl _ _).alloc (Nat.le_refl _) _
  have h40 : Has w0 w.heap.size (UARR .u8 32 fun _ => 0) 27 := by rw [← hw0]; exact Has.new w _ _
  have h1' : ¬ (4611686018427387904 : Int) < (n : Int) := by omega
  have hn64 : n < 2 ^ 64 := by omega
  have hpop := POP_PC hn64
  have hk64 : k ≤ 64 := by rw [hk]; exact PC_lt_pow 64 n hn64
  have e2 : (k : Int) = ((POP n : Nat) : Int) := by rw [hpop, hk]
  have co := onescount_ok n hn64 w0
  rw [← e2] at co
  have cf := foldedf_ok d a k c (by omega) hs w0 (hH.below hb0) h8 (hX.below hb0)
  have hF8 := FLDF_lt (d := d) h8
  have cr := fun (W : World) (hb : Below w0.heap.size w0 W) => root_ok d n hn64 (FLDF d hs k) hF8 W ((hX.below hb0).below hb)
  have eR : ROOTF d n (FLDF d hs k) = HASHOF d (3 :: (BE8 n ++ (List.range 32).map (FLDF d hs k))) := rfl
  rw [← eR] at cr
  clear eR hF8 e2 hk64 hpop hn64 hk hH h8 hX hn
  generalize ROOTF d n (FLDF d hs k) = Y at *
  generalize FLDF d hs k = X at *
  go_enter Tryd.func49, Tryd.ntmps49
  go_wp2_with fail
  refine co.mono ?_
  rintro e w1 ⟨rfl, rfl⟩
  clear co
  go_wp2_with fail
  refine cf.mono ?_
  rintro e w1 ⟨rfl, hb1⟩
  clear cf
  go_wp2_with fail
  refine (cr w1 hb1).mono ?_
  rintro e w2 ⟨rfl, hb2⟩
  clear cr
  have hb12 : Below w0.heap.size w0 w2 := hb1.trans (hb2.mono hb1.size)
  have h42 := h40.keep hb12
  have hb3' : Below w.heap.size w w2 := hb0.trans (hb12.mono hb0.size)
  have hst2 := store_cells32 h42 Y
  have hsu := UARR_size .u8 32 Y
  clear hb1 hb2 hb12
  go_wp2
  refine bodyPost_ret (v := .tuple #[.agg (UARR .u8 32 Y), .int .i64 0]) ?_ rfl ⟨rfl, below_row hb3' (Nat.le_refl _) _⟩
  exact results_hash rfl _ _ w.heap.size 27 _ (0, 0) _ _ rfl (h42.row _) _ rfl Tryd.underlying27 (info_HASH _)
/-- the root over the first m leaves. -/
def ROOTOF (d : Int) (f : Nat → Nat → Nat) (m : Nat) : Nat → Nat := ROOTF d m (FLDF d (fun i => (PKV d f m).getD i fun _ => 0) (PC m))
theorem PKV_lt {d : Int} {f : Nat → Nat → Nat} {n m : Nat} (hf : ∀ k, k < n → ∀ i, f k i < 256) (hm : m ≤ n) (i : Nat) (j : Nat) : (PKV d f m).getD i (fun _ => 0) j < 256 := by
  rw [List.getD_eq_getElem?_getD, PKV, List.getElem?_map]
  cases hi : (HS 0 m)[i]? with
  | none => show (0 : Nat) < 256; decide
  | some h =>
    have hb := (HS_set_of 0 h (by decide) (List.mem_of_getElem? hi)).2.2
    exact VAL_lt hf h _ (Nat.le_trans (peak_span hb) hm) j
set_option maxHeartbeats 2000000 in
theorem old_ok {w : World} {B g : Nat} {d : Int} {log n : Nat} {C : CHUNKS} {f : Nat → Nat → Nat} (hF : FOREST w B g d log n C f) (m : Nat) (hm : m ≤ n) (hT : Go.Proofs.YtnplhejopmoopaaDoor.Tabled w) (hX : Tabled w) :
    Calls Tryd.prog 32 #[.pointer (some ⟨g, 0, none⟩), .int .u64 (m : Int)] w fun e w' => e = .returned (.tuple #[.agg (UARR .u8 32 (ROOTOF d f m)), .int .i64 0]) ∧ Below w.heap.size w w' := by
  have hz := zeroHash
  obtain ⟨w0, hw0⟩ : ∃ w0, w.alloc (.cells (UARR .u8 32 fun _ => 0) 27) = w0 := ⟨_, rfl⟩
  have hb0 : Below w.heap.size w w0 := by rw [← hw0]; exact (Below.refl _ _).alloc (Nat.le_refl _) _
  have h40 : Has w0 w.heap.size (UARR .u8 32 fun _ => 0) 27 := by rw [← hw0]; exact Has.new w _ _
  have hF0 := hF.below hb0
  have c6 := hF0.size
  have hle : ¬ (n : Int) < (m : Int) := by omega
  have cp := treepeaks_ok hF0 m hm (hT.below (by have := hF.store.lt; omega) hb0)
  have hn20 := hF.few
  have A : Aside (FOREST w0 B g d log n C f ∧ m ≤ n ∧ m ≤ 2 ^ 20 ∧ Tabled w0) := ⟨hF0, hm, by omega, hX.below hb0⟩
  clear hF hm hT hX hn20 hF0
  go_enter Tryd.func32, Tryd.ntmps32
  go_wp2_with fail
  refine cp.mono ?_
  rintro e w1 ⟨v, rfl, hown, hb1⟩
  clear cp
  obtain ⟨a, c, rfl, hH⟩ := own_hashes hown (PKV_length d f (by have := A.out.2.2.1; omega))
  have c5 := (A.out.1.below hb1).width
  have cb := bagf_ok d m (by have := A.out.2.2.1; omega) a (PC m) c rfl _ w1 hH (fun i _ j => PKV_lt A.out.1.byte A.out.2.1 i j) (A.out.2.2.2.below hb1)
  have eR : ROOTOF d f m = ROOTF d m (FLDF d (fun i => (PKV d f m).getD i fun _ => 0) (PC m)) := rfl
  rw [← eR] at cb
  clear hown hH eR A
  generalize hY0 : ROOTOF d f m = Y at *
  generalize PC m = M at *
  go_wp2_with fail
  refine cb.mono ?_
  rintro e w2 ⟨rfl, hb2⟩
  clear cb
  have hb12 : Below w0.heap.size w0 w2 := hb1.trans (hb2.mono hb1.size)
  have h42 := h40.keep hb12
  have hb3' : Below w.heap.size w w2 := hb0.trans (hb12.mono hb0.size)
  have hst2 := store_cells32 h42 Y
  have hsu := UARR_size .u8 32 Y
  clear hb1 hb2 hb12 c5
  go_wp2
  refine bodyPost_ret (v := .tuple #[.agg (UARR .u8 32 Y), .int .i64 0]) ?_ rfl ⟨by rw [hY0], below_row hb3' (Nat.le_refl _) _⟩
  exact results_hash rfl _ _ w.heap.size 27 _ (0, 0) _ _ rfl (h42.row _) _ rfl Tryd.underlying27 (info_HASH _)
set_option maxHeartbeats 2000000 in
theorem root_of {w : World} {B g : Nat} {d : Int} {log n : Nat} {C : CHUNKS} {f : Nat → Nat → Nat} (hF : FOREST w B g d log n C f) (hT : Go.Proofs.YtnplhejopmoopaaDoor.Tabled w) (hX : Tabled w) :
    Calls Tryd.prog 17 #[.pointer (some ⟨g, 0, none⟩)] w fun e w' => e = .returned (.agg (UARR .u8 32 (ROOTOF d f n))) ∧ Below w.heap.size w w' := by
  have hz := zeroHash
  obtain ⟨w0, hw0⟩ : ∃ w0, w.alloc (.cells (UARR .u8 32 fun _ => 0) 27) = w0 := ⟨_, rfl⟩
  have hb0 : Below w.heap.size w w0 := by rw [← hw0]; exact (Below.refl _ _).alloc (Nat.le_refl _) _
  have h40 : Has w0 w.heap.size (UARR .u8 32 fun _ => 0) 27 := by rw [← hw0]; exact Has.new w _ _
  have c6 := (hF.below hb0).size
  have co := old_ok (hF.below hb0) n (Nat.le_refl _) (hT.below (by have := hF.store.lt; omega) hb0) (hX.below hb0)
  clear hF hT hX
  generalize ROOTOF d f n = L at *
  go_enter Tryd.func17, Tryd.ntmps17
  go_wp2_with fail
  refine co.mono ?_
  rintro e w2 ⟨rfl, hb2⟩
  clear co
  have hst := run_storeCells_new (P := Tryd.prog) w2 27 (UARR .u8 32 fun _ => 0) (UARR .u8 32 L) (info_HASH _) (by rw [UARR_size, UARR_size]) (UARR_one _ _ _)
  have hsu := UARR_size .u8 32 L
  obtain ⟨w3, hw3⟩ : ∃ w3, w2.alloc (.cells (UARR .u8 32 L) 27) = w3 := ⟨_, rfl⟩
  have hb3 : Below w0.heap.size w0 w3 := by rw [← hw3]; exact hb2.alloc hb2.size _
  have hF3 : Has w3 w2.heap.size (UARR .u8 32 L) 27 := by rw [← hw3]; exact Has.new w2 _ _
  have h43 := h40.keep hb3
  have hb3' : Below w.heap.size w w3 := hb0.trans (hb3.mono hb0.size)
  have hst2 := store_cells32 h43 L
  go_wp2_with (first
    | (refine wpList_load_row rfl 27 (.tmp 3) rfl w2.heap.size rfl 27 (UARR .u8 32 L) (0, 0) _ hF3 Tryd.underlying27 rfl (info_HASH _) ?_)
    | fail)
  refine bodyPost_ret (v := .agg (UARR .u8 32 L)) ?_ rfl ⟨rfl, below_row hb3' (Nat.le_refl _) _⟩
  exact results_cell rfl _ _ w.heap.size 27 _ (0, 0) _ _ rfl (h43.row _) Tryd.underlying27 (info_HASH _)
theorem size_of {w : World} {B g : Nat} {d : Int} {log n : Nat} {C : CHUNKS} {f : Nat → Nat → Nat} (hF : FOREST w B g d log n C f) :
    Calls Tryd.prog 13 #[.pointer (some ⟨g, 0, none⟩)] w fun e w' => e = .returned (.int .u64 (n : Int)) ∧ w = w' := by
  have c6 := hF.size
  clear hF
  go_enter Tryd.func13, Tryd.ntmps13
  go_wp2
  go_ret
  exact ⟨rfl, rfl⟩
end Go.Proofs.YtnplhejopmoopaaDoor.HX

/- The region of the law's own awake (chapter 6) that draws its order, and that of MmrOld. -/
namespace Go.Proofs.YtnplhejopmoopaaDoor.HX
open Go.RowKit
set_option maxRecDepth 100000

end Go.Proofs.YtnplhejopmoopaaDoor.HX

/- massiflaw6.awake. -/
namespace Go.Proofs.YtnplhejopmoopaaDoor.HX
open Go.RowKit
set_option maxRecDepth 100000

/-- a hash with this first byte, noughts behind it. -/
def HB (x : Nat) : Nat → Nat := fun i => if i = 0 then x else 0
/-- a tree, and three hashes beside it. -/
structure AW (w wx : World) (B g : Nat) (log n : Nat) (C : CHUNKS) (f : Nat → Nat → Nat) (d : Int) (b3 b4 b5 : Nat) (x y z : Nat → Nat) : Prop where
  tree : FOREST wx B g d log n C f
  h3 : Has wx b3 (UARR .u8 32 x) 27
  h4 : Has wx b4 (UARR .u8 32 y) 27
  h5 : Has wx b5 (UARR .u8 32 z) 27
  off : ¬ FOOT wx g C b3 ∧ ¬ FOOT wx g C b4 ∧ ¬ FOOT wx g C b5
  below : Below B w wx
theorem FOREST.ne {w : World} {B g : Nat} {d : Int} {log n b : Nat} {C : CHUNKS} {f : Nat → Nat → Nat} (h : FOREST w B g d log n C f) {c : Array Value} (hb : Has w b c 27) : b ≠ g := fun e => by
  obtain ⟨cs, t, fr, k1, _, _, k4⟩ := h.store.kind
  unfold Has at hb
  rw [e, k1] at hb
  cases Option.some.inj hb
  exact k4 rfl
theorem AW.next {w wx w' : World} {B g : Nat} {log n : Nat} {C : CHUNKS} {f : Nat → Nat → Nat} {d : Int} {b3 b4 b5 : Nat} {x y z u : Nat → Nat} (h : AW w wx B g log n C f d b3 b4 b5 x y z) (hA : APPENDED wx B g d log n C f u w') : ∃ C', AW w w' B g log (n + 1) C' (LEAFS f n u) d b3 b4 b5 x y z := by
  obtain ⟨C', a1, a2, a3⟩ := hA
  have key : ∀ {b : Nat} {c : Array Value}, Has wx b c 27 → ¬ FOOT wx g C b → Has w' b c 27 ∧ ¬ FOOT w' g C' b := fun {b c} hb hf => by
    refine ⟨(a2.same b hb.lt (h.tree.ne hb) hf).trans hb, fun hf' => ?_⟩
    rcases a2.foot b hf' with h1 | h1
    · exact hf h1
    · have := hb.lt
      omega
  exact ⟨C', a1, (key h.h3 h.off.1).1, (key h.h4 h.off.2.1).1, (key h.h5 h.off.2.2).1, ⟨(key h.h3 h.off.1).2, (key h.h4 h.off.2.1).2, (key h.h5 h.off.2.2).2⟩, h.below.trans a3⟩
theorem AW.keep {w wx w' : World} {B g : Nat} {log n : Nat} {C : CHUNKS} {f : Nat → Nat → Nat} {d : Int} {b3 b4 b5 : Nat} {x y z : Nat → Nat} (h : AW w wx B g log n C f d b3 b4 b5 x y z) (hB : B ≤ wx.heap.size) (hb : Below wx.heap.size wx w') : AW w w' B g log n C f d b3 b4 b5 x y z :=
  ⟨h.tree.below hb, h.h3.keep hb, h.h4.keep hb, h.h5.keep hb, ⟨fun hf => h.off.1 (h.tree.store.foot_below hb hf), fun hf => h.off.2.1 (h.tree.store.foot_below hb hf), fun hf => h.off.2.2 (h.tree.store.foot_below hb hf)⟩, h.below.trans (hb.mono hB)⟩
end Go.Proofs.YtnplhejopmoopaaDoor.HX

/- A tree and a list of its earlier roots. -/
namespace Go.Proofs.YtnplhejopmoopaaDoor.HX
open Go.RowKit
set_option maxRecDepth 100000

theorem FOREST.congr {w : World} {B g : Nat} {d : Int} {log n : Nat} {C : CHUNKS} {f f' : Nat → Nat → Nat} (h : FOREST w B g d log n C f) (he : ∀ k, k < n → f k = f' k) : FOREST w B g d log n C f' :=
  ⟨h.store, h.width, h.size, h.free, fun h1 k hk => by rw [h.node h1 k hk, VAL_congr he h1 k hk], fun k hk i => by rw [← he k hk]; exact h.byte k hk i, h.few, h.base⟩
/-- the first k roots. -/
def RTS (d : Int) (hs : Nat → Nat → Nat) (k : Nat) : List (Nat → Nat) := (List.range k).map (ROOTOF d hs)
theorem RTS_length (d : Int) (hs : Nat → Nat → Nat) (k : Nat) : (RTS d hs k).length = k := by simp [RTS]
theorem RTS_get (d : Int) (hs : Nat → Nat → Nat) {k i : Nat} (h : i < k) : (RTS d hs k).getD i (fun _ => 0) = ROOTOF d hs i := by
  rw [List.getD_eq_getElem?_getD, RTS, List.getElem?_map, List.getElem?_range h]
  rfl
/-- a tree of i leaves, a list of its first k roots. -/
structure ROOTS (w wx : World) (B g : Nat) (d : Int) (i k : Nat) (C : CHUNKS) (hs : Nat → Nat → Nat) (v : Value) : Prop where
  tree : FOREST wx B g d 0 i C hs
  own : wx.ownsRow B 27 32 v k (HL (RTS d hs k))
  off : ∀ b, v.ownBlock = some b → ¬ FOOT wx g C b ∧ b ≠ g
  below : Below B w wx
theorem ROOTS.keep {w wx w' : World} {B g : Nat} {d : Int} {i k : Nat} {C : CHUNKS} {hs : Nat → Nat → Nat} {v : Value} (h : ROOTS w wx B g d i k C hs v) (hB : B ≤ wx.heap.size) (hb : Below wx.heap.size wx w') : ROOTS w w' B g d i k C hs v :=
  ⟨h.tree.below hb, own_keep h.own hb, fun b e => ⟨fun hf => (h.off b e).1 (h.tree.store.foot_below hb hf), (h.off b e).2⟩, h.below.trans (hb.mono hB)⟩
theorem ROOTS.appended {w wx w' : World} {B g : Nat} {d : Int} {i k : Nat} {C : CHUNKS} {hs : Nat → Nat → Nat} {v : Value} (h : ROOTS w wx B g d i k C hs v) (hA : APPENDED wx B g d 0 i C hs (hs i) w') : ∃ C', ROOTS w w' B g d (i + 1) k C' hs v := by
  obtain ⟨C', a1, a2, a3⟩ := hA
  refine ⟨C', a1.congr fun k hk => ?_, ?_, fun b e => ⟨fun hf => ?_, (h.off b e).2⟩, h.below.trans a3⟩
  · unfold LEAFS
    split
    · rename_i e; rw [e]
    · rfl
  · refine ⟨h.own.1, h.own.2.imp id ?_⟩
    rintro ⟨g', c, cur, rfl, b, r, rest⟩
    exact ⟨g', c, cur, rfl, b, (a2.same g' (Array.getElem?_eq_some_iff.1 r).1 (h.off g' rfl).2 (h.off g' rfl).1).trans r, rest⟩
  · rcases a2.foot b hf with h1 | h1
    · exact (h.off b e).1 h1
    · have := (h.own.lt b e).2
      omega
/-- where the k-th root lies. -/
theorem ROOTS.at {w wx : World} {B g : Nat} {d : Int} {i k j gl cl : Nat} {C : CHUNKS} {hs : Nat → Nat → Nat} (h : ROOTS w wx B g d i k C hs (.slice (some ⟨gl, 0, none⟩) k cl)) (hj : j < k) : wx.rangeAt gl (j * 32) (ULIST .u8 32 (ROOTOF d hs j)) ∧ gl < wx.heap.size := by
  obtain ⟨a, c, e, hH⟩ := own_hashes h.own (RTS_length d hs k)
  cases e
  obtain ⟨b, o, e, hl, hr⟩ := hH (by omega)
  cases e
  have h1 := hr j hj
  dsimp only at h1
  rw [RTS_get d hs hj, Nat.zero_add] at h1
  exact ⟨h1, hl⟩
end Go.Proofs.YtnplhejopmoopaaDoor.HX

/- Two trees side by side that are grown leaf by leaf. -/
namespace Go.Proofs.YtnplhejopmoopaaDoor
open Go.RowKit
set_option maxRecDepth 100000

structure TWOP (w wx : World) (Bb ga gb : Nat) (d : Int) (n m : Nat) (Ca Cb : HX.CHUNKS) (f f' : Nat → Nat → Nat) : Prop where
  fa : HX.FOREST wx w.heap.size ga d 2 n Ca f
  fb : HX.FOREST wx Bb gb d 2 m Cb f'
  ap : HX.APART wx ga Ca gb Cb
  bel : Below w.heap.size w wx
  sz : Bb ≤ wx.heap.size
  lo : w.heap.size ≤ Bb
theorem TWOP.keep {w wx w' : World} {Bb ga gb : Nat} {d : Int} {n m : Nat} {Ca Cb : HX.CHUNKS} {f f' : Nat → Nat → Nat} (h : TWOP w wx Bb ga gb d n m Ca Cb f f') (hb : Below wx.heap.size wx w') : TWOP w w' Bb ga gb d n m Ca Cb f f' :=
  ⟨h.fa.below hb, h.fb.below hb, h.ap.below h.fa h.fb hb, h.bel.trans (hb.mono h.bel.size), Nat.le_trans h.sz hb.size, h.lo⟩
theorem leafs_same {w : World} {B g : Nat} {d : Int} {log n : Nat} {C : HX.CHUNKS} {f : Nat → Nat → Nat} (h : HX.FOREST w B g d log (n + 1) C (HX.LEAFS f n (f n))) : HX.FOREST w B g d log (n + 1) C f := h.congr fun x hx => by
  unfold HX.LEAFS
  split
  · rename_i e; rw [e]
  · rfl
theorem TWOP.appa {w wx w' : World} {Bb ga gb : Nat} {d : Int} {n m : Nat} {Ca Cb : HX.CHUNKS} {f f' : Nat → Nat → Nat} (h : TWOP w wx Bb ga gb d n m Ca Cb f f') (ha : HX.APPENDED wx w.heap.size ga d 2 n Ca f (f n) w') : ∃ C', TWOP w w' Bb ga gb d (n + 1) m C' Cb f f' := by
  obtain ⟨C', a1, a2, a3⟩ := ha
  obtain ⟨k1, k2⟩ := h.fb.beside h.ap a2
  exact ⟨C', leafs_same a1, k1, k2, h.bel.trans a3, Nat.le_trans h.sz a2.size, h.lo⟩
theorem TWOP.appb {w wx w' : World} {Bb ga gb : Nat} {d : Int} {n m : Nat} {Ca Cb : HX.CHUNKS} {f f' : Nat → Nat → Nat} (h : TWOP w wx Bb ga gb d n m Ca Cb f f') (ha : HX.APPENDED wx Bb gb d 2 m Cb f' (f' m) w') : ∃ C', TWOP w w' Bb ga gb d n (m + 1) Ca C' f f' := by
  obtain ⟨C', a1, a2, a3⟩ := ha
  obtain ⟨k1, k2⟩ := h.fa.beside h.ap.symm a2
  exact ⟨C', k1, leafs_same a1, k2.symm, h.bel.trans (a3.mono h.lo), Nat.le_trans h.sz a2.size, h.lo⟩
/-- both asked for where they part. -/
theorem TWOP.first {w wx : World} {Bb ga gb : Nat} {d : Int} {n : Nat} {Ca Cb : HX.CHUNKS} {f f' : Nat → Nat → Nat} (h : TWOP w wx Bb ga gb d n n Ca Cb f f') (hT : Tabled wx) : Calls Tryd.prog 7 #[.iface 45 (.pointer (some ⟨ga, 0, none⟩)), .iface 45 (.pointer (some ⟨gb, 0, none⟩)), .int .u64 (n : Int)] wx fun e w' => TANS f f' (PFST (fun _ => 0) (fun _ => 0) (TSAME n Ca Cb) n) e ∧ TWOP w w' Bb ga gb d n n Ca Cb f f' :=
  (tfirst_ok h.fa h.fb hT).mono fun _ _ r => ⟨r.1, h.keep r.2⟩
end Go.Proofs.YtnplhejopmoopaaDoor
