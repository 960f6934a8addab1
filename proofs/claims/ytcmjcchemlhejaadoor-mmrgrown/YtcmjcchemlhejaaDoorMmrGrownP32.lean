/- Texts of MmrGrown, one behind the other: MmrForestWalk. -/
import Derived.Test.YtcmjcchemlhejaaDoorMmrGrownP21
import Derived.Test.YtcmjcchemlhejaaDoorMmrGrownP30
import Derived.Test.YtcmjcchemlhejaaDoorMmrGrownP31
/- The law MmrForest returns true. -/
namespace Go.Proofs.YtcmjcchemlhejaaDoor.HX
open Go.RowKit
set_option maxRecDepth 100000

/-- a place ahead of the n leaves' nodes is a node over some of them. -/
theorem place_node {n p : Nat} (hn : n ≤ 2 ^ 20) (hp : p < NODES n) : ∃ h k, p = PLC h k ∧ Node h k ∧ (k + 1) * 2 ^ h ≤ n := by
  have hb := NODES_bound (n := n) (h := 21) (by omega)
  obtain ⟨h, k, hN, e⟩ := Node.of (p := p) (by omega)
  refine ⟨h, k, e, hN, ?_⟩
  rcases Nat.lt_or_ge n ((k + 1) * 2 ^ h) with h1 | h1
  · have h2 := PLC_last h k
    have h3 : NODES n ≤ NODES ((k + 1) * 2 ^ h - 1) := NODES_le (by omega)
    omega
  · exact h1
theorem FOREST.at {w : World} {B g : Nat} {d : Int} {log n h k : Nat} {C : CHUNKS} {f : Nat → Nat → Nat} (hF : FOREST w B g d log n C f) (hs : (k + 1) * 2 ^ h ≤ n) : GOTH C log (NODES n) (PLC h k) = VAL d f h k ∧ GOT C log (NODES n) (PLC h k) = 0 := by
  have h1 := PLC_under hs
  unfold GOTH GOT
  rw [if_pos h1, if_pos h1, hF.node h k hs]
  exact ⟨rfl, rfl⟩
theorem kid_spans {n h k : Nat} (hs : (k + 1) * 2 ^ (h + 1) ≤ n) : (2 * k + 1) * 2 ^ h ≤ n ∧ (2 * k + 1 + 1) * 2 ^ h ≤ n := by
  have e : (k + 1) * 2 ^ (h + 1) = (2 * k + 1 + 1) * 2 ^ h := by rw [Nat.pow_succ, show 2 * k + 1 + 1 = (k + 1) * 2 by omega, Nat.mul_assoc, Nat.mul_comm (2 ^ h) 2]
  have h2 : (2 * k + 1 + 1) * 2 ^ h ≤ n := by omega
  exact ⟨Nat.le_trans (Nat.mul_le_mul_right _ (by omega)) h2, h2⟩
/-- what has been folded, from the last one down. -/
def ACC (d : Int) (v : Nat → Nat → Nat) (M q : Nat) : Nat → Nat := if q = M then fun _ => 0 else FAF d v M (M - 1 - q)
theorem ACC_end (d : Int) (v : Nat → Nat → Nat) (M : Nat) : ACC d v M 0 = FLDF d v M := by
  unfold ACC FLDF
  by_cases h : M = 0
  · rw [if_pos h.symm, if_pos h]
  · rw [if_neg (fun e => h e.symm), if_neg h]
    rfl
theorem ACC_last (d : Int) (v : Nat → Nat → Nat) {M q : Nat} (h : q + 1 = M) : ACC d v M q = v q := by
  unfold ACC
  rw [if_neg (by omega), show M - 1 - q = 0 by omega, FAF, show M - 1 = q by omega]
theorem ACC_next (d : Int) (v : Nat → Nat → Nat) {M q : Nat} (h : q + 1 < M) : ACC d v M q = FOLDF d (v q) (ACC d v M (q + 1)) := by
  unfold ACC
  rw [if_neg (by omega), if_neg (by omega), show M - 1 - q = (M - 1 - (q + 1)) + 1 by omega, FAF, show M - 2 - (M - 1 - (q + 1)) = q by omega]
theorem ACC_lt {d : Int} {v : Nat → Nat → Nat} {M : Nat} (hv : ∀ i, i < M → ∀ j, v i j < 256) {q : Nat} (hq : q ≤ M) (j : Nat) : ACC d v M q j < 256 := by
  unfold ACC
  split
  · show (0 : Nat) < 256
    decide
  · exact FAF_lt hv (by omega) _ j
theorem own_zeroed {w : World} {B n : Nat} {v : Value} {l : List (Nat → Nat)} (h : w.ownsRow B 30 32 v n (HL l)) (hl : l.length = n) : ∃ a c, v = .slice a n c ∧ (0 < n → ∃ gp, a = some ⟨gp, 0, none⟩ ∧ gp < w.heap.size ∧ ∀ i, i < n → w.rangeAt gp (i * 32) (ULIST .u8 32 (l.getD i fun _ => 0))) := by
  obtain ⟨a, c, rfl, hH⟩ := own_hashes h hl
  refine ⟨a, c, rfl, fun hn => ?_⟩
  rcases h.2 with ⟨e, h0⟩ | ⟨g, cap, cur, e, _, hg, _⟩
  · omega
  · simp only [Value.slice.injEq] at e
    obtain ⟨rfl, _, rfl⟩ := e
    obtain ⟨b, o, e2, hl2, hr⟩ := hH hn
    cases e2
    exact ⟨g, rfl, hl2, fun i hi => by have := hr i hi; rwa [Nat.zero_add] at this⟩
theorem forest_long (d : Int) (a : Option Addr) (n c : Nat) (w : World) (hn : (200 : Int) < (n : Int)) : Calls Tryd.prog 3 #[.int .i64 d, .slice a n c] w fun e w' => e = .returned (.bool true) ∧ Below w.heap.size w w' := by
  go_enter Tryd.func3, Tryd.ntmps3
  go_wp2
  go_ret
  exact ⟨rfl, Below.refl _ _⟩
set_option maxHeartbeats 4000000 in
theorem forest_core (d : Int) (a : Option Addr) (n c : Nat) (hs : Nat → Nat → Nat) (w : World) (hn : n ≤ 200) (hH : HASHES w a n hs) (h8 : ∀ i, i < n → ∀ j, hs i j < 256) (hT : Go.Proofs.YtcmjcchemlhejaaDoor.Tabled w) (hX : Tabled w) : Calls Tryd.prog 3 #[.int .i64 d, .slice a n c] w fun e w' => e = .returned (.bool true) ∧ Below w.heap.size w w' := by
  have hlong : ¬ (200 : Int) < (n : Int) := by omega
  have co := of_ok d a n c hs w (by omega) hH h8 hX
  have hz := zeroHash
  have HA : Aside (HASHES w a n hs ∧ (∀ i, i < n → ∀ j, hs i j < 256) ∧ n ≤ 200) := ⟨hH, h8, hn⟩
  have tab : Aside (∀ W, Below w.heap.size w W → Go.Proofs.YtcmjcchemlhejaaDoor.Tabled W ∧ Tabled W) := fun W hb => ⟨hT.below (by have := hX.2.2; omega) hb, hX.below hb⟩
  have eun := u64_fit (n := n) (by omega)
  have cn := nodes_ok n (by omega)
  clear hn hH h8 hT hX
  go_enter Tryd.func3, Tryd.ntmps3
  go_wp2_with fail
  refine co.mono ?_
  rintro e w1 ⟨g, C, rfl, hF1, hb1, -⟩
  clear co
  have A1 : Aside (FOREST w1 w.heap.size g d 3 n C hs ∧ Below w.heap.size w w1) := ⟨hF1, hb1⟩
  have st : Aside (∀ W, Below w1.heap.size w1 W → FOREST W w.heap.size g d 3 n C hs ∧ Below w.heap.size w W) := fun W hb => ⟨hF1.below hb, hb1.trans (hb.mono hb1.size)⟩
  clear hF1 hb1
  go_wp2_with fail
  refine (cn _).mono ?_
  rintro e w2 ⟨rfl, rfl⟩
  clear cn
  have hNb : NODES n < 2 ^ 22 := Nat.lt_of_lt_of_le (NODES_bound (n := n) (h := 8) (by have := HA.out.2.2; omega)) (by decide)
  obtain ⟨NN, hNN⟩ : ∃ NN, NODES n = NN := ⟨_, rfl⟩
  rw [hNN]
  have B1 : Aside (NODES n = NN ∧ NN < 2 ^ 22) := ⟨hNN, hNN ▸ hNb⟩
  clear hNN hNb
  go_wp2_with fail
  go_loopg [9] NN (fun r s9 wx => ∃ p : Nat, s9 = .int .u64 (p : Int) ∧ Aside (p + r = NN ∧ Below w1.heap.size w1 wx))
  case atStart => exact ⟨0, rfl, by omega, Below.refl _ _⟩
  case round =>
    obtain ⟨p, rfl, A⟩ := hrel
    cases gk with
    | zero =>
      obtain rfl : p = NN := by have := A.out.1; omega
      have hlt : ¬ (p : Int) < (p : Int) := by omega
      have hFr := (st.out wr A.out.2).1
      have cg := treenode_ok hFr.store p (by have := B1.out.2; omega)
      have e1 : GOTH C 3 (NODES n) p = fun _ => 0 := by unfold GOTH; rw [B1.out.1, if_neg (by omega)]
      have e2 : GOT C 3 (NODES n) p = 31 := by unfold GOT; rw [B1.out.1, if_neg (by omega)]
      rw [e1, e2] at cg
      have A2 : Aside (Below w1.heap.size w1 wr) := A.out.2
      clear A hFr e1 e2
      go_wp2_with fail
      refine cg.mono ?_
      rintro e w3 ⟨rfl, hb3⟩
      clear cg
      have hst := run_storeCells_new (P := Tryd.prog) w3 30 (UARR .u8 32 fun _ => 0) (UARR .u8 32 fun _ => 0) (info_HASH _) rfl (UARR_one _ _ _)
      have hsu := UARR_size .u8 32 (fun _ => 0)
      obtain ⟨w4, hw4⟩ : ∃ w4, w3.alloc (.cells (UARR .u8 32 fun _ => 0) 30) = w4 := ⟨_, rfl⟩
      rw [hw4] at hst
      have hb4 : Below wr.heap.size wr w4 := by rw [← hw4]; exact hb3.alloc hb3.size _
      have A3 : Aside (Below w1.heap.size w1 w4) := A2.out.trans (hb4.mono A2.out.size)
      have cp := peaks_ok n (by have := HA.out.2.2; omega) w4 (tab.out w4 (st.out w4 A3.out).2).1 (by have := (st.out w4 A3.out).1.store.lt; omega)
      clear hb3 hb4 A2
      go_wp2_with fail
      refine cp.mono ?_
      rintro e w5 ⟨gq, cq, rfl, hrow, hb5⟩
      clear cp hst hw4
      have A4 : Aside (Below w1.heap.size w1 w5 ∧ w5.ownsRow w4.heap.size 26 1 (.slice (some ⟨gq, 0, none⟩) (PC n) cq) (PC n) (Go.Proofs.YtcmjcchemlhejaaDoor.UCELLS (PEAKS n))) := ⟨A3.out.trans (hb5.mono A3.out.size), hrow⟩
      have ct := peaks_of (st.out w5 A4.out.1).1 (tab.out w5 (st.out w5 A4.out.1).2).1
      have hgq := (hrow.lt gq rfl).2
      clear hb5 A3
      go_wp2_with fail
      refine ct.mono ?_
      rintro e w6 ⟨v, rfl, hown, hb6⟩
      clear ct
      obtain ⟨av, cv, rfl, hHv⟩ := own_zeroed hown (PKV_length d hs (by have := HA.out.2.2; omega))
      obtain ⟨M, hM⟩ : ∃ M, PC n = M := ⟨_, rfl⟩
      have hpc : PC n ≤ 64 := PC_lt_pow 64 n (by have := HA.out.2.2; omega)
      have A5 : Aside (Below w1.heap.size w1 w6 ∧ (∀ i, i < M → ∀ h, (HS 0 n)[i]? = some h → w6.cell? ⟨gq, i, none⟩ = some (.int .u64 ((PKP n h : Nat) : Int))) ∧ gq < w6.heap.size ∧ (0 < M → ∃ gp, av = some ⟨gp, 0, none⟩ ∧ gp < w6.heap.size ∧ ∀ i, i < M → w6.rangeAt gp (i * 32) (ULIST .u8 32 ((PKV d hs n).getD i fun _ => 0))) ∧ PC n = M ∧ M ≤ 64) := by
        refine ⟨A4.out.1.trans (hb6.mono A4.out.1.size), fun i hi h hh => ?_, Nat.lt_of_lt_of_le hgq hb6.size, hM ▸ hHv, hM, hM ▸ hpc⟩
        have h1 := ((st.out w1 (Below.refl _ _)).1.peak (Nat.le_refl n) hh).2.2.2.1
        refine (hb6.cell (p := ⟨gq, i, none⟩) hgq).trans ?_
        rw [A4.out.2.cellAt i (by omega), Go.Proofs.YtcmjcchemlhejaaDoor.UCELLS, List.getElem?_map, h1]
        rfl
      rw [hM]
      clear hown hb6 hHv hM hpc hgq A4 hrow
      obtain ⟨v, hv⟩ : ∃ v : Nat → Nat → Nat, (fun i => (PKV d hs n).getD i fun _ => 0) = v := ⟨_, rfl⟩
      have V : Aside ((∀ i, (PKV d hs n).getD i (fun _ => 0) = v i) ∧ (∀ i, i < M → ∀ j, v i j < 256) ∧ ROOTOF d hs n = ROOTF d n (FLDF d v M)) := by
        refine ⟨fun i => by rw [← hv], fun i _ j => by rw [← hv]; exact PKV_lt HA.out.2.1 (Nat.le_refl n) i j, ?_⟩
        unfold ROOTOF
        rw [hv, A5.out.2.2.2.2.1]
      clear hv
      have E0 : Aside (wrap64 ((M : Int) - 1) = (M : Int) - 1) := by have := A5.out.2.2.2.2.2; show wrap64 ((M : Int) - 1) = (M : Int) - 1; unfold wrap64; omega
      have A6 : Aside (Below w6.heap.size w6 (w6.alloc (.cells (UARR .u8 32 fun _ => 0) 30)) ∧ Has (w6.alloc (.cells (UARR .u8 32 fun _ => 0) 30)) w6.heap.size (UARR .u8 32 (ACC d v M M)) 30) := ⟨(Below.refl _ _).alloc (Nat.le_refl _) _, by unfold ACC; rw [if_pos rfl]; exact Has.new _ _ _⟩
      go_wp2_with fail
      generalize w6.alloc (.cells (UARR .u8 32 fun _ => 0) 30) = w7 at *
      obtain ⟨b25, hb25⟩ : ∃ b25, w6.heap.size = b25 := ⟨_, rfl⟩
      have K : Aside (w6.heap.size = b25) := hb25
      rw [hb25] at A6 ⊢
      clear hb25
      have E1 : Aside (∀ W, Below b25 w6 W → FOREST W w.heap.size g d 3 n C hs ∧ Below w.heap.size w W) := fun W hb => by
        refine st.out W (A5.out.1.trans (hb.mono ?_))
        rw [← K.out]
        exact A5.out.1.size
      generalize wr = wo at *
      rw [E0.out]
      go_loopg [26] M (fun q s26 wx => ∃ x : Int, s26 = .int .i64 x ∧ Aside (q ≤ M ∧ x = (q : Int) - 1 ∧ Below b25 w6 wx ∧ Has wx b25 (UARR .u8 32 (ACC d v M q)) 30))
      case atStart => exact ⟨_, rfl, Nat.le_refl _, rfl, A6.out⟩
      case round =>
        obtain ⟨x, rfl, A⟩ := hrel
        clear A6
        cases gk with
        | zero =>
          obtain rfl : x = -1 := by have := A.out.2.1; omega
          have hF8 : ∀ j, FLDF d v M j < 256 := FLDF_lt V.out.2.1
          have A7 : Aside (Below b25 w6 wr ∧ Has wr b25 (UARR .u8 32 (FLDF d v M)) 30 ∧ b25 < wr.heap.size ∧ (∀ j, FLDF d v M j < 256)) := ⟨A.out.2.2.1, by rw [← ACC_end]; exact A.out.2.2.2, A.out.2.2.2.lt, hF8⟩
          clear A hF8
          go_upto_region 38 with fail
          have up : Aside (∀ W, Below wr.heap.size wr W → FOREST W w.heap.size g d 3 n C hs ∧ Below w.heap.size w W) := fun W hb => E1.out W (A7.out.1.trans (hb.mono (Nat.le_of_lt A7.out.2.2.1)))
          refine forest38 wr d a n c g b25 (FLDF d v M) (ROOTOF d hs n) eun (fun W => Below wr.heap.size wr W) (Below.refl _ _).drew (fun W hb => (A7.out.2.1.keep hb).whole) (equal_same _) (fun W hb => ?_) (fun W hb => ?_) (fun W hb => ?_) (fun W hb => ?_) (fun _ _ _ _ _ h => h) ?_
          · refine (size_of (up.out W hb).1).mono ?_
            rintro e W' ⟨rfl, rfl⟩
            exact ⟨rfl, hb⟩
          · refine (root_of (up.out W hb).1 (tab.out W (up.out W hb).2).1 (tab.out W (up.out W hb).2).2).mono ?_
            rintro e W' ⟨rfl, hb'⟩
            exact ⟨rfl, hb.trans (hb'.mono hb.size)⟩
          · refine (root_ok d n (by have := HA.out.2.2; omega) (FLDF d v M) A7.out.2.2.2 W (tab.out W (up.out W hb).2).2).mono ?_
            rintro e W' ⟨rfl, hb'⟩
            exact ⟨by rw [V.out.2.2]; rfl, hb.trans (hb'.mono hb.size)⟩
          · refine (awake6_ok W (tab.out W (up.out W hb).2).1 (tab.out W (up.out W hb).2).2).mono ?_
            rintro e W' ⟨rfl, hb'⟩
            exact ⟨rfl, hb.trans (hb'.mono hb.size)⟩
          · intro W hb
            have hfin := (up.out W hb).2
            clear hb up A7
            go_wp2_with fail
            go_ret
            exact ⟨rfl, hfin⟩
        | succ q =>
          obtain rfl : x = (q : Int) := by have := A.out.2.1; omega
          have hq0 : (0 : Int) ≤ (q : Int) := by omega
          have hqM : q < M := by have := A.out.1; omega
          have hqi : (q : Int) < (M : Int) := by omega
          obtain ⟨hh, hhe⟩ : ∃ hh, (HS 0 n)[q]? = some hh := ⟨_, List.getElem?_eq_getElem (by have h1 := PKV_length d hs (m := n) (by have := HA.out.2.2; omega); rw [PKV, List.length_map, A5.out.2.2.2.2.1] at h1; omega)⟩
          have hFr := (E1.out wr A.out.2.2.1).1
          obtain ⟨p1, p2, p3, p4, p5⟩ := hFr.peak (Nat.le_refl n) hhe
          have hX : VAL d hs hh (2 * (n / 2 ^ (hh + 1))) = v q := by rw [← V.out.1 q, List.getD_eq_getElem?_getD, p5]; rfl
          have hc : wr.cell? ⟨gq, q, none⟩ = some (.int .u64 ((PKP n hh : Nat) : Int)) := (A.out.2.2.1.cell (p := ⟨gq, q, none⟩) (by show gq < b25; rw [← K.out]; exact A5.out.2.2.1)).trans (A5.out.2.1 q hqM hh hhe)
          have cg := treenode_ok hFr.store (PKP n hh) (by omega)
          rw [p2, p3, hX] at cg
          obtain ⟨gp, rfl, hgp, hrp⟩ := A5.out.2.2.2.1 (by omega)
          have hrq : w6.rangeAt gp (q * 32) (ULIST .u8 32 (v q)) := by rw [← V.out.1 q]; exact hrp q hqM
          have eq1 : Aside (wrap64 ((q : Int) - 1) = (q : Int) - 1) := by have := A5.out.2.2.2.2.2; show wrap64 ((q : Int) - 1) = (q : Int) - 1; unfold wrap64; omega
          have eM := E0.out
          have A7 : Aside (q + 1 ≤ M ∧ Below b25 w6 wr ∧ Has wr b25 (UARR .u8 32 (ACC d v M (q + 1))) 30 ∧ gp < b25 ∧ w6.rangeAt gp (q * 32) (ULIST .u8 32 (v q)) ∧ (∀ j, v q j < 256) ∧ b25 < wr.heap.size ∧ b25 ≤ w6.heap.size) := ⟨hqM, A.out.2.2.1, A.out.2.2.2, by rw [← K.out]; exact hgp, hrq, V.out.2.1 q hqM, A.out.2.2.2.lt, by rw [K.out]; exact Nat.le_refl _⟩
          clear A hFr p1 p2 p3 p4 p5 hX hhe hrq hrp hgp hqM
          generalize PKP n hh = pp at *
          obtain ⟨X, hXX⟩ : ∃ X, v q = X := ⟨_, rfl⟩
          rw [hXX] at cg A7
          go_wp2_with fail
          refine cg.mono ?_
          rintro e w8 ⟨rfl, hb8⟩
          clear cg
          have hst := run_storeCells_new (P := Tryd.prog) w8 30 (UARR .u8 32 fun _ => 0) (UARR .u8 32 X) (info_HASH _) (by rw [UARR_size, UARR_size]) (UARR_one _ _ _)
          have hsuX := UARR_size .u8 32 X
          obtain ⟨w9, hw9⟩ : ∃ w9, w8.alloc (.cells (UARR .u8 32 X) 30) = w9 := ⟨_, rfl⟩
          have h27 : Has w9 w8.heap.size (UARR .u8 32 X) 30 := by rw [← hw9]; exact Has.new _ _ _
          have hb9 : Below wr.heap.size wr w9 := by rw [← hw9]; exact hb8.alloc hb8.size _
          have h8s := hb8.size
          have A8 : Aside (Below b25 w6 w9 ∧ Has w9 b25 (UARR .u8 32 (ACC d v M (q + 1))) 30 ∧ Has w9 w8.heap.size (UARR .u8 32 X) 30 ∧ b25 ≠ w8.heap.size ∧ b25 < w9.heap.size) := ⟨A7.out.2.1.trans (hb9.mono (Nat.le_of_lt A7.out.2.2.2.2.2.2.1)), A7.out.2.2.1.keep hb9, h27, by have := A7.out.2.2.2.2.2.2.1; omega, Nat.lt_of_lt_of_le A7.out.2.2.2.2.2.2.1 hb9.size⟩
          clear hb8 hb9 h27 h8s
          go_upto_region 33 with fail
          clear hst hw9
          generalize w8.heap.size = b27 at *
          refine forest33 w9 gp M cv b27 q X hqi (fun W => Below w9.heap.size w9 W) (Below.refl _ _).drew (fun W hb => ⟨(A8.out.2.2.1.keep hb).whole, range_below A7.out.2.2.2.2.1 (A8.out.1.trans (hb.mono (Nat.le_of_lt A8.out.2.2.2.2))) A7.out.2.2.2.1⟩) (equal_same _) (fun _ _ _ _ _ h => h) ?_
          intro W hb
          have A9 : Aside (Below b25 w6 W ∧ Has W b25 (UARR .u8 32 (ACC d v M (q + 1))) 30 ∧ Has W b27 (UARR .u8 32 X) 30 ∧ b25 ≠ b27 ∧ b25 < W.heap.size) := ⟨A8.out.1.trans (hb.mono (Nat.le_of_lt A8.out.2.2.2.2)), A8.out.2.1.keep hb, A8.out.2.2.1.keep hb, A8.out.2.2.2.1, Nat.lt_of_lt_of_le A8.out.2.2.2.2 hb.size⟩
          clear hb A8
          have hW27 := A9.out.2.2.1
          have hW25 := A9.out.2.1
          by_cases hlast : q + 1 = M
          · have hel : ((q : Int) == (M : Int) - 1) = true := beq_iff_eq.2 (by omega)
            have Z : Aside (q ≤ M ∧ Below b25 w6 (W.setRow b25 (UARR .u8 32 X)) ∧ Has (W.setRow b25 (UARR .u8 32 X)) b25 (UARR .u8 32 (ACC d v M q)) 30) := ⟨by omega, below_row A9.out.1 (Nat.le_refl _) _, by rw [ACC_last d v hlast, hXX]; exact A9.out.2.1.row _⟩
            clear hlast A9 A7
            go_wp2_with (first
              | (refine wpList_load_row rfl 30 (.tmp 27) rfl b27 rfl 30 (UARR .u8 32 X) (0, 0) _ hW27 Tryd.underlying30 rfl (info_HASH _) ?_)
              | (refine wpList_store_row rfl 30 (.tmp 25) (.tmp 150) rfl _ _ rfl rfl 30 (UARR .u8 32 (ACC d v M (q + 1))) hW25 (info_HASH _) (by rw [UARR_size, UARR_size]) (UARR_one _ _ _) ?_))
            go_roundg q
            case measure => exact Nat.lt_succ_self _
            case rel => exact ⟨_, rfl, Z.out.1, by first | rfl | exact eq1.out, Z.out.2⟩
          · have hel : ((q : Int) == (M : Int) - 1) = false := beq_eq_false_iff_ne.2 (by omega)
            have cf := fold_ok d X (ACC d v M (q + 1)) A7.out.2.2.2.2.2.1 (ACC_lt V.out.2.1 A7.out.1) W (tab.out W (E1.out W A9.out.1).2).2
            have eF : ACC d v M q = HASHOF d (2 :: ((List.range 32).map X ++ (List.range 32).map (ACC d v M (q + 1)))) := by rw [ACC_next d v (by have := A7.out.1; omega), hXX]; rfl
            rw [← eF] at cf
            have Z0 : Aside (q ≤ M) := by have := A7.out.1; show q ≤ M; omega
            clear eF hlast A7
            go_wp2_with (first
              | (refine wpList_load_row rfl 30 (.tmp 27) rfl b27 rfl 30 (UARR .u8 32 X) (0, 0) _ hW27 Tryd.underlying30 rfl (info_HASH _) ?_)
              | (refine wpList_load_row rfl 30 (.tmp 25) rfl b25 rfl 30 (UARR .u8 32 (ACC d v M (q + 1))) (0, 0) _ hW25 Tryd.underlying30 rfl (info_HASH _) ?_))
            refine cf.mono ?_
            rintro e W2 ⟨rfl, hb2⟩
            clear cf
            have hY25 := A9.out.2.1.keep hb2
            have Z : Aside (q ≤ M ∧ Below b25 w6 (W2.setRow b25 (UARR .u8 32 (ACC d v M q))) ∧ Has (W2.setRow b25 (UARR .u8 32 (ACC d v M q))) b25 (UARR .u8 32 (ACC d v M q)) 30) := ⟨Z0.out, below_row (A9.out.1.trans (hb2.mono (Nat.le_of_lt A9.out.2.2.2.2))) (Nat.le_refl _) _, hY25.row _⟩
            clear hb2 A9 hW27 hW25
            go_wp2_with (refine wpList_store_row rfl 30 (.tmp 25) (.tmp 154) rfl _ _ rfl rfl 30 (UARR .u8 32 (ACC d v M (q + 1))) hY25 (info_HASH _) (by rw [UARR_size, UARR_size]) (UARR_one _ _ _) ?_)
            go_roundg q
            case measure => exact Nat.lt_succ_self _
            case rel => exact ⟨_, rfl, Z.out.1, by first | rfl | exact eq1.out, Z.out.2⟩
    | succ r =>
      have hpN : p < NN := by have := A.out.1; omega
      have hlt : (p : Int) < (NN : Int) := by omega
      obtain ⟨h, k, hpe, hN, hsp⟩ := place_node (n := n) (p := p) (by have := HA.out.2.2; omega) (by rw [B1.out.1]; exact hpN)
      have hFr := (st.out wr A.out.2).1
      have cg := treenode_ok hFr.store p (by have := B1.out.2; omega)
      have hat := hFr.at hsp
      rw [← hpe] at hat
      rw [hat.1, hat.2] at cg
      have ep := u64_next (n := p) (by have := B1.out.2; omega)
      obtain ⟨X, hX⟩ : ∃ X, VAL d hs h k = X := ⟨_, rfl⟩
      rw [hX] at cg
      have A2 : Aside (p + 1 + r = NN ∧ Below w1.heap.size w1 wr ∧ p = PLC h k ∧ Node h k ∧ (k + 1) * 2 ^ h ≤ n ∧ VAL d hs h k = X) := ⟨by have := A.out.1; clear ep; omega, A.out.2, hpe, hN, hsp, hX⟩
      clear A hpN hFr hat hpe hN hsp hX
      go_wp2_with fail
      refine cg.mono ?_
      rintro e w3 ⟨rfl, hb3⟩
      clear cg
      have hst := run_storeCells_new (P := Tryd.prog) w3 30 (UARR .u8 32 fun _ => 0) (UARR .u8 32 X) (info_HASH _) (by rw [UARR_size, UARR_size]) (UARR_one _ _ _)
      have hsu := UARR_size .u8 32 X
      obtain ⟨w4, hw4⟩ : ∃ w4, w3.alloc (.cells (UARR .u8 32 X) 30) = w4 := ⟨_, rfl⟩
      have h10 : Has w4 w3.heap.size (UARR .u8 32 X) 30 := by rw [← hw4]; exact Has.new _ _ _
      have hb4 : Below wr.heap.size wr w4 := by rw [← hw4]; exact hb3.alloc hb3.size _
      have A3 : Aside (Below w1.heap.size w1 w4 ∧ Has w4 w3.heap.size (UARR .u8 32 X) 30) := ⟨A2.out.2.1.trans (hb4.mono A2.out.2.1.size), h10⟩
      clear hb3 hb4 h10
      cases h with
      | zero =>
        have ci := index_leaf (p : Int) k w4 (by rw [A2.out.2.2.1]; exact .node A2.out.2.2.2.1)
        go_wp2_with fail
        refine ci.mono ?_
        rintro e w5 ⟨rfl, hb5⟩
        clear ci
        have hkn : k < n := by have := A2.out.2.2.2.2.1; simp at this; omega
        obtain ⟨lb, lo, rfl, hlb, hlr⟩ := HA.out.1 (by omega)
        have hki : (k : Int) < (n : Int) := by omega
        have A4 : Aside (Below w1.heap.size w1 w5 ∧ Has w5 w3.heap.size (UARR .u8 32 X) 30 ∧ w.rangeAt lb (lo + k * 32) (ULIST .u8 32 X) ∧ lb < w.heap.size) := ⟨A3.out.1.trans (hb5.mono A3.out.1.size), A3.out.2.keep hb5, by rw [← A2.out.2.2.2.2.2]; exact hlr k hkn, hlb⟩
        clear hb5 hkn hlb hlr A3
        go_upto_region 15 with fail
        clear hst hw4
        refine forest15 w5 lb lo n c w3.heap.size k X hki (fun W => Below w5.heap.size w5 W) (Below.refl _ _).drew (fun W hb => ⟨(A4.out.2.1.keep hb).whole, range_below A4.out.2.2.1 (st.out W (A4.out.1.trans (hb.mono A4.out.1.size))).2 A4.out.2.2.2⟩) (equal_same _) (fun _ _ _ _ _ h => h) ?_
        intro W hb
        have A5 : Aside (p + 1 + r = NN ∧ Below w1.heap.size w1 W) := ⟨A2.out.1, A4.out.1.trans (hb.mono A4.out.1.size)⟩
        clear hb A4 A2
        go_wp2_with fail
        go_roundg r
        case measure => exact Nat.lt_succ_self _
        case rel => exact ⟨p + 1, by first | rfl | exact congrArg (Value.int IntKind.u64) ep, A5.out⟩
      | succ h =>
        have ci := index_inner (p : Int) (h + 1) k w4 (by omega) (by rw [A2.out.2.2.1]; exact .node A2.out.2.2.2.1)
        go_wp2_with fail
        refine ci.mono ?_
        rintro e w5 ⟨rfl, hb5⟩
        clear ci
        have A4 : Aside (Below w1.heap.size w1 w5 ∧ Has w5 w3.heap.size (UARR .u8 32 X) 30) := ⟨A3.out.1.trans (hb5.mono A3.out.1.size), A3.out.2.keep hb5⟩
        clear hb5 A3
        have ck := kids_ok h k A2.out.2.2.2.1 w5
        rw [← A2.out.2.2.1] at ck
        go_wp2_with fail
        refine ck.mono ?_
        rintro e w6 ⟨rfl, hb6⟩
        clear ck hst hw4
        obtain ⟨b10, hb10⟩ : ∃ b10, w3.heap.size = b10 := ⟨_, rfl⟩
        rw [hb10] at A4 ⊢
        have A5 : Aside (Below w1.heap.size w1 w6 ∧ Has w6 b10 (UARR .u8 32 X) 30) := ⟨A4.out.1.trans (hb6.mono A4.out.1.size), A4.out.2.keep hb6⟩
        clear hb6 A4 hb10
        obtain ⟨L, hL⟩ : ∃ L, VAL d hs h (2 * k) = L := ⟨_, rfl⟩
        obtain ⟨R, hR⟩ : ∃ R, VAL d hs h (2 * k + 1) = R := ⟨_, rfl⟩
        have hks := kid_spans A2.out.2.2.2.2.1
        have hXN : X = HASHOF d (1 :: ((List.range 32).map L ++ (List.range 32).map R)) := by rw [← A2.out.2.2.2.2.2, VAL, hL, hR]; rfl
        have hL8 : ∀ i, L i < 256 := fun i => by rw [← hL]; exact VAL_lt HA.out.2.1 _ _ hks.1 i
        have hR8 : ∀ i, R i < 256 := fun i => by rw [← hR]; exact VAL_lt HA.out.2.1 _ _ hks.2 i
        have hNb2 : PLC h (2 * k) < 2 ^ 40 ∧ PLC h (2 * k + 1) < 2 ^ 40 := by
          have h1 := PLC_under hks.1
          have h2 := PLC_under hks.2
          rw [B1.out.1] at h1 h2
          have := B1.out.2
          omega
        have D : Aside (∀ W, Below w1.heap.size w1 W → (Calls Tryd.prog 10 #[.pointer (some ⟨g, 0, none⟩), .int .u64 ((PLC h (2 * k) : Nat) : Int)] W fun e w' => e = .returned (.tuple #[.agg (UARR .u8 32 L), .int .i64 0]) ∧ Below W.heap.size W w') ∧ (Calls Tryd.prog 10 #[.pointer (some ⟨g, 0, none⟩), .int .u64 ((PLC h (2 * k + 1) : Nat) : Int)] W fun e w' => e = .returned (.tuple #[.agg (UARR .u8 32 R), .int .i64 0]) ∧ Below W.heap.size W w')) := fun W hb => by
          have hF := (st.out W hb).1
          have c1 := treenode_ok hF.store (PLC h (2 * k)) (by omega)
          have c2 := treenode_ok hF.store (PLC h (2 * k + 1)) (by omega)
          rw [(hF.at hks.1).1, (hF.at hks.1).2, hL] at c1
          rw [(hF.at hks.2).1, (hF.at hks.2).2, hR] at c2
          exact ⟨c1, c2⟩
        have E : Aside ((∀ i, L i < 256) ∧ (∀ i, R i < 256) ∧ X = HASHOF d (1 :: ((List.range 32).map L ++ (List.range 32).map R)) ∧ p + 1 + r = NN) := ⟨hL8, hR8, hXN, A2.out.1⟩
        clear hks hXN hL8 hR8 hNb2 hL hR A2
        generalize PLC h (2 * k) = pl at *
        generalize PLC h (2 * k + 1) = pr at *
        go_wp2_with fail
        refine (D.out w6 A5.out.1).1.mono ?_
        rintro e w7 ⟨rfl, hb7⟩
        have hst := run_storeCells_new (P := Tryd.prog) w7 30 (UARR .u8 32 fun _ => 0) (UARR .u8 32 L) (info_HASH _) (by rw [UARR_size, UARR_size]) (UARR_one _ _ _)
        have hsuL := UARR_size .u8 32 L
        obtain ⟨w8, hw8⟩ : ∃ w8, w7.alloc (.cells (UARR .u8 32 L) 30) = w8 := ⟨_, rfl⟩
        have h17 : Has w8 w7.heap.size (UARR .u8 32 L) 30 := by rw [← hw8]; exact Has.new _ _ _
        have hb8 : Below w6.heap.size w6 w8 := by rw [← hw8]; exact hb7.alloc hb7.size _
        have A6 : Aside (Below w1.heap.size w1 w8 ∧ Has w8 b10 (UARR .u8 32 X) 30 ∧ Has w8 w7.heap.size (UARR .u8 32 L) 30) := ⟨A5.out.1.trans (hb8.mono A5.out.1.size), A5.out.2.keep hb8, h17⟩
        clear hb7 hb8 h17 A5
        go_wp2_with fail
        refine (D.out w8 A6.out.1).2.mono ?_
        rintro e w9 ⟨rfl, hb9⟩
        clear hst hw8
        obtain ⟨b17, hb17⟩ : ∃ b17, w7.heap.size = b17 := ⟨_, rfl⟩
        rw [hb17] at A6 ⊢
        have hst := run_storeCells_new (P := Tryd.prog) w9 30 (UARR .u8 32 fun _ => 0) (UARR .u8 32 R) (info_HASH _) (by rw [UARR_size, UARR_size]) (UARR_one _ _ _)
        have hsuR := UARR_size .u8 32 R
        obtain ⟨wA, hwA⟩ : ∃ wA, w9.alloc (.cells (UARR .u8 32 R) 30) = wA := ⟨_, rfl⟩
        have h19 : Has wA w9.heap.size (UARR .u8 32 R) 30 := by rw [← hwA]; exact Has.new _ _ _
        have hbA : Below w8.heap.size w8 wA := by rw [← hwA]; exact hb9.alloc hb9.size _
        have A7 : Aside (Below w1.heap.size w1 wA ∧ Has wA b10 (UARR .u8 32 X) 30 ∧ Has wA b17 (UARR .u8 32 L) 30 ∧ Has wA w9.heap.size (UARR .u8 32 R) 30) := ⟨A6.out.1.trans (hbA.mono A6.out.1.size), A6.out.2.1.keep hbA, A6.out.2.2.keep hbA, h19⟩
        clear hb9 hbA h19 A6 hb17 D
        go_upto_region 20 with fail
        clear hst hwA
        refine forest20 wA d b10 b17 w9.heap.size X L R (fun W => Below wA.heap.size wA W) (Below.refl _ _).drew (fun W hb => ⟨(A7.out.2.1.keep hb).whole, (A7.out.2.2.1.keep hb).whole, (A7.out.2.2.2.keep hb).whole⟩) (equal_same _) (fun W hb => ?_) (fun _ _ _ _ _ h => h) ?_
        · refine (node_ok d L R E.out.1 E.out.2.1 W (tab.out W (st.out W (A7.out.1.trans (hb.mono A7.out.1.size))).2).2).mono ?_
          rintro e W' ⟨rfl, hb'⟩
          exact ⟨by rw [E.out.2.2.1], hb.trans (hb'.mono hb.size)⟩
        · intro W hb
          have A8 : Aside (p + 1 + r = NN ∧ Below w1.heap.size w1 W) := ⟨E.out.2.2.2, A7.out.1.trans (hb.mono A7.out.1.size)⟩
          clear hb A7 E
          go_wp2_with fail
          go_roundg r
          case measure => exact Nat.lt_succ_self _
          case rel => exact ⟨p + 1, by first | rfl | exact congrArg (Value.int IntKind.u64) ep, A8.out⟩
theorem mmrForest_walk (d : Int) (a : Option Addr) (n c : Nat) (hs : Nat → Nat → Nat) (w : World) (hH : HASHES w a n hs) (h8 : ∀ i, i < n → ∀ j, hs i j < 256) (hT : Go.Proofs.YtcmjcchemlhejaaDoor.Tabled w) (hX : Tabled w) : Calls Tryd.prog 3 #[.int .i64 d, .slice a n c] w fun e w' => e = .returned (.bool true) ∧ Below w.heap.size w w' := by
  rcases Nat.lt_or_ge 200 n with h | h
  · exact forest_long d a n c w (by omega)
  · exact forest_core d a n c hs w h hH h8 hT hX
end Go.Proofs.YtcmjcchemlhejaaDoor.HX
