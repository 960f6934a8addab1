/- Texts of MmrGrown, one behind the other: MmrGrownWalk, PosAwake, PosDoor, HashDoor, MmrDoor. -/
import Derived.Test.YtcmjcchemlhejaaDoorRows
import Derived.ProofKit
import Derived.LaidMore
import Derived.OpenShut
import Derived.Stop.Joined
import Derived.Test.YtcmjcchemlhejaaDoorMmrGrownP7
import Derived.Test.YtcmjcchemlhejaaDoorMmrGrownP21
import Derived.Test.YtcmjcchemlhejaaDoorMmrGrownP24
import Derived.Test.YtcmjcchemlhejaaDoorMmrGrownP28
import Derived.Test.YtcmjcchemlhejaaDoorMmrGrownP30
import Derived.Test.YtcmjcchemlhejaaDoorMmrGrownP32
/- The law MmrGrown returns true. -/
namespace Go.Proofs.YtcmjcchemlhejaaDoor.HX
open Go.RowKit
set_option maxRecDepth 100000

theorem pow_facts : ∀ H : Nat, H ≤ 7 → POP (2 ^ H) = 1 ∧ NODES (2 ^ H) = 2 * 2 ^ H - 1 ∧ PC (2 ^ H) = 1 ∧ 0 < 2 ^ H ∧ 2 ^ H ≤ 128 ∧ PLC H 0 = 2 * 2 ^ H - 2 := by
  intro H h
  have : H = 0 ∨ H = 1 ∨ H = 2 ∨ H = 3 ∨ H = 4 ∨ H = 5 ∨ H = 6 ∨ H = 7 := by omega
  rcases this with rfl | rfl | rfl | rfl | rfl | rfl | rfl | rfl <;> decide
theorem pkv_pow (d : Int) (f : Nat → Nat → Nat) : ∀ H : Nat, H ≤ 7 → PKV d f (2 ^ H) = [VAL d f H 0] := by
  intro H h
  have : H = 0 ∨ H = 1 ∨ H = 2 ∨ H = 3 ∨ H = 4 ∨ H = 5 ∨ H = 6 ∨ H = 7 := by omega
  have hs : HS 0 (2 ^ H) = [H] := by
    rcases this with rfl | rfl | rfl | rfl | rfl | rfl | rfl | rfl <;> decide
  rw [PKV, hs, List.map_cons, List.map_nil, Nat.div_eq_of_lt (Nat.pow_lt_pow_right (by decide) (Nat.lt_succ_self H))]
set_option maxHeartbeats 2000000 in
theorem grown_low (d : Int) (a : Option Addr) (n c : Nat) (h : Int) (w : World) (hh : h < 0) : Calls Tryd.prog 6 #[.int .i64 d, .slice a n c, .int .i64 h] w fun e w' => e = .returned (.bool true) ∧ Below w.heap.size w w' := by
  go_enter Tryd.func6, Tryd.ntmps6
  go_wp2
  go_ret
  exact ⟨rfl, Below.refl _ _⟩
set_option maxHeartbeats 2000000 in
theorem grown_high (d : Int) (a : Option Addr) (n c : Nat) (h : Int) (w : World) (hh : 7 < h) : Calls Tryd.prog 6 #[.int .i64 d, .slice a n c, .int .i64 h] w fun e w' => e = .returned (.bool true) ∧ Below w.heap.size w w' := by
  have h0 : ¬ h < 0 := by omega
  go_enter Tryd.func6, Tryd.ntmps6
  go_wp2
  go_ret
  exact ⟨rfl, Below.refl _ _⟩
theorem pow_ints : ∀ H : Nat, H ≤ 7 → wrap64 ((2 : Int) ^ H) = ((2 ^ H : Nat) : Int) ∧ wrap64 (2 * (2 : Int) ^ H) = 2 * ((2 ^ H : Nat) : Int) := by
  intro H h
  have : H = 0 ∨ H = 1 ∨ H = 2 ∨ H = 3 ∨ H = 4 ∨ H = 5 ∨ H = 6 ∨ H = 7 := by omega
  rcases this with rfl | rfl | rfl | rfl | rfl | rfl | rfl | rfl <;> (refine ⟨?_, ?_⟩ <;> unfold wrap64 <;> first | omega | simp)
theorem w64_small (M N : Nat) (h : M + 1 = 2 * N) (hN : N ≤ 128) : wrap64 (M : Int) = (M : Int) := by
  unfold wrap64
  omega
theorem w64_less (M N : Nat) (h : M + 1 = 2 * N) : 2 * (N : Int) - 1 = (M : Int) := by omega
theorem w64_last (M N q : Nat) (h : M + 1 = 2 * N) (hN : N ≤ 128) (hq : M = q + 1) : wrap64 ((M : Int) - 1) = (q : Int) := by
  unfold wrap64
  omega
theorem w64_next (p : Nat) (h : p < 300) : wrap64 ((p : Int) + 1) = ((p + 1 : Nat) : Int) := by
  unfold wrap64
  omega
theorem own_fsts {w : World} {B n : Nat} {v : Value} {hs : Nat → Nat → Nat} (h : w.ownsRow B 30 32 v n (HL (FSTS hs n))) : ∃ a c, v = .slice a n c ∧ HASHES w a n hs := by
  obtain ⟨a, c, e, hH⟩ := own_hashes h (FSTS_length hs n)
  refine ⟨a, c, e, fun hk => ?_⟩
  obtain ⟨b, o, e2, hl, hr⟩ := hH hk
  refine ⟨b, o, e2, hl, fun j hj => ?_⟩
  have h1 := hr j hj
  dsimp only at h1
  rwa [FSTS_get hs hj] at h1
set_option maxHeartbeats 4000000 in
theorem grown_core (d : Int) (a : Option Addr) (n c H : Nat) (hs : Nat → Nat → Nat) (w : World) (hH7 : H ≤ 7) (hn : 2 ^ H ≤ n) (hH : HASHES w a n hs) (h8 : ∀ i, i < n → ∀ j, hs i j < 256) (hnc : n ≤ c) (hT : Go.Proofs.YtcmjcchemlhejaaDoor.Tabled w) (hX : Tabled w) : Calls Tryd.prog 6 #[.int .i64 d, .slice a n c, .int .i64 (H : Int)] w fun e w' => e = .returned (.bool true) ∧ Below w.heap.size w w' := by
  have h0 : ¬ (H : Int) < 0 := by omega
  have h7 : ¬ (7 : Int) < (H : Int) := by omega
  obtain ⟨f1, f2, f3, f4, f5, f6⟩ := pow_facts H hH7
  obtain ⟨i1, i2⟩ := pow_ints H hH7
  have pk := pkv_pow d hs H hH7
  have hv0 : (0 + 1) * 2 ^ H ≤ 2 ^ H := by omega
  obtain ⟨N, hN⟩ : ∃ N, 2 ^ H = N := ⟨_, rfl⟩
  rw [hN] at f1 f2 f3 f4 f5 f6 i1 i2 pk hn hv0
  have FX : Aside (NODES N = 2 * N - 1 ∧ PC N = 1 ∧ 0 < N ∧ N ≤ 128 ∧ PLC H 0 = 2 * N - 2 ∧ PKV d hs N = [VAL d hs H 0] ∧ (0 + 1) * 2 ^ H ≤ N) := ⟨f2, f3, f4, f5, f6, pk, by rw [hN]; omega⟩
  obtain ⟨lb, lo, rfl, hlb, hlr⟩ := hH (by omega)
  have hHN : ∀ W, Below w.heap.size w W → HASHES W (some ⟨lb, lo, none⟩) N hs := fun W hb _ => ⟨lb, lo, rfl, Nat.lt_of_lt_of_le hlb hb.size, fun i hi => range_below (hlr i (by omega)) hb hlb⟩
  have h8N : ∀ i, i < N → ∀ j, hs i j < 256 := fun i hi => h8 i (by omega)
  have co := of_ok d (some ⟨lb, lo, none⟩) N c hs w (by omega) (hHN w (Below.refl _ _)) h8N hX
  have hz := zeroHash
  have tab : Aside (∀ W, Below w.heap.size w W → Go.Proofs.YtcmjcchemlhejaaDoor.Tabled W ∧ Tabled W) := fun W hb => ⟨hT.below (by have := hX.2.2; omega) hb, hX.below hb⟩
  have y1 : ¬ (n : Int) < (N : Int) := by omega
  have y2 : (N : Int) ≤ (c : Int) := by omega
  have y3 : (N : Int) ≤ (n : Int) := by omega
  have HN : Aside ((∀ W, Below w.heap.size w W → HASHES W (some ⟨lb, lo, none⟩) N hs) ∧ (∀ i, i < N → ∀ j, hs i j < 256) ∧ POP N = 1) := ⟨hHN, h8N, f1⟩
  clear hH h8 hT hX hlr hHN h8N f1 f2 f3 f4 f5 f6 pk hv0
  go_enter Tryd.func6, Tryd.ntmps6
  go_wp2_with fail
  refine co.mono ?_
  rintro e w1 ⟨g, C, rfl, hF1, hb1, -⟩
  clear co
  have A1 : Aside (FOREST w1 w.heap.size g d 3 N C hs ∧ Below w.heap.size w w1) := ⟨hF1, hb1⟩
  clear hF1 hb1
  have cr := row6_ok (some ⟨lb, lo, none⟩) N c (by have := FX.out; omega) (fun h => by cases h) hs w1 (HN.out.1 w1 A1.out.2)
  go_wp2_with fail
  refine cr.mono ?_
  rintro e w2 ⟨g3, c3, rfl, r1, -, -, -, r5⟩
  clear cr
  have A2 : Aside (Below w.heap.size w w2 ∧ Below w1.heap.size w1 w2) := ⟨A1.out.2.trans (r5.mono A1.out.2.size), r5⟩
  have cg : Calls Tryd.prog 27 #[.int .i64 d, .slice (some ⟨g3, 0, none⟩) N c3] w2 fun e w' => ∃ v l, e = .returned (.tuple #[v, .int .i64 0]) ∧ GRWN w2 w' d N v l hs := by
    obtain ⟨a', c', e', hh⟩ := own_fsts r1
    cases e'
    exact grow_ok d _ N _ (by have := FX.out; omega) HN.out.2.2 hs w2 hh HN.out.2.1 (tab.out w2 A2.out.1).2
  clear r1 r5
  go_wp2_with fail
  refine cg.mono ?_
  rintro e w3 ⟨v, l, rfl, hG⟩
  clear cg
  obtain ⟨al, cl, rfl, hal⟩ := own_zeroed hG.own hG.len
  obtain ⟨gl, rfl, hgl, hrl⟩ := hal (by have := FX.out; omega)
  obtain ⟨M, hM⟩ : ∃ M, NODES N = M := ⟨_, rfl⟩
  have A3 : Aside (Below w.heap.size w w3 ∧ Below w1.heap.size w1 w3 ∧ (∀ h k p, p = PLC h k → (k + 1) * 2 ^ h ≤ N → p < M → w3.rangeAt gl (p * 32) (ULIST .u8 32 (VAL d hs h k))) ∧ gl < w3.heap.size ∧ NODES N = M ∧ M + 1 = 2 * N) := by
    refine ⟨A2.out.1.trans (hG.below.mono A2.out.1.size), A2.out.2.trans (hG.below.mono A2.out.2.size), fun h k p hp hk hpM => ?_, hgl, hM, by have := FX.out; omega⟩
    have h1 := hrl p (by omega)
    have h2 := hG.old h k hk
    rw [← hp] at h2
    rw [List.getD_eq_getElem?_getD, h2] at h1
    exact h1
  rw [hM]
  have e5 : wrap64 (M : Int) = (M : Int) := w64_small M N A3.out.2.2.2.2.2 FX.out.2.2.2.1
  have e6 : 2 * (N : Int) - 1 = (M : Int) := w64_less M N A3.out.2.2.2.2.2
  clear hG hal hgl hrl hM A2
  go_wp2_with fail
  clear h0 h7 i1 i2 y1 y2 y3 e5 e6 hn hnc
  have st : Aside (∀ W, Below w3.heap.size w3 W → FOREST W w.heap.size g d 3 N C hs ∧ Below w.heap.size w W) := fun W hb => ⟨(A1.out.1.below A3.out.2.1).below hb, A3.out.1.trans (hb.mono A3.out.1.size)⟩
  go_loopg [11] M (fun r s11 wx => ∃ p : Nat, s11 = .int .i64 (p : Int) ∧ Aside (p + r = M ∧ Below w3.heap.size w3 wx))
  case atStart => exact ⟨0, rfl, by omega, Below.refl _ _⟩
  case round =>
    obtain ⟨p, rfl, A⟩ := hrel
    cases gk with
    | zero =>
      obtain rfl : p = M := by have := A.out.1; omega
      have hlt : ¬ (p : Int) < (p : Int) := by omega
      obtain ⟨q, hq⟩ : ∃ q, p = q + 1 := ⟨p - 1, by have := A3.out.2.2.2.2.2; have := FX.out.2.2.1; omega⟩
      have hqw : IntKind.i64.wrap ((p : Int) - 1) = (q : Int) := by
        have h1 := w64_last p N q A3.out.2.2.2.2.2 FX.out.2.2.2.1 hq
        exact (IntWalk.i64_left _).trans h1
      have hql : (q : Int) < (p : Int) := by omega
      have Z : Aside (w3.rangeAt gl (q * 32) (ULIST .u8 32 (VAL d hs H 0)) ∧ Below w3.heap.size w3 wr) := ⟨A3.out.2.2.1 H 0 q (by have := A3.out.2.2.2.2.2; have := FX.out.2.2.2.2.1; omega) FX.out.2.2.2.2.2.2 (by omega), A.out.2⟩
      clear A hq
      go_upto_region 14 with fail
      refine grown14 wr g gl p cl q (VAL d hs H 0) hqw hql (fun V => Below w3.heap.size w3 V) Z.out.2.drew (fun V hV => range_below Z.out.1 hV A3.out.2.2.2.1) (equal_same _) (fun V hV => ?_) (fun V hV => ?_) (fun _ _ _ _ _ h => h) ?_
      · refine (peaks_of (st.out V hV).1 (tab.out V (st.out V hV).2).1).mono ?_
        rintro e V' ⟨v, rfl, hown, hb⟩
        rw [FX.out.2.2.2.2.2.1, FX.out.2.1] at hown
        obtain ⟨a', c', rfl, hz'⟩ := own_zeroed hown rfl
        obtain ⟨gp, rfl, hgp, hr⟩ := hz' (by decide)
        have h1 := hr 0 (by decide)
        exact ⟨gp, c', rfl, hV.trans (hb.mono hV.size), by simpa using h1, hgp⟩
      · refine (awake6_ok V (tab.out V (st.out V hV).2).1 (tab.out V (st.out V hV).2).2).mono ?_
        rintro e V' ⟨rfl, hb⟩
        exact ⟨rfl, hV.trans (hb.mono hV.size), hb⟩
      · intro ga ca gb cb W hW
        have E : Aside (Below w.heap.size w W) := (st.out W hW.1).2
        clear hW Z A1 A3
        go_wp2_with fail
        go_ret
        exact ⟨rfl, E.out⟩
    | succ r =>
      have hpM : p < M := by have := A.out.1; omega
      have hlt : (p : Int) < (M : Int) := by omega
      obtain ⟨h, k, hpe, hNd, hsp⟩ := place_node (n := N) (p := p) (by have := FX.out.2.2.2.1; omega) (by rw [A3.out.2.2.2.2.1]; exact hpM)
      have hFr := (st.out wr A.out.2).1
      have hM300 : M < 300 := by have := A3.out.2.2.2.2.2; have := FX.out.2.2.2.1; omega
      have cg := treenode_ok hFr.store p (by omega)
      have hat := hFr.at hsp
      rw [← hpe] at hat
      rw [hat.1, hat.2] at cg
      have eu := u64_fit (n := p) (by omega)
      have hrg := A3.out.2.2.1 h k p hpe hsp hpM
      generalize VAL d hs h k = X at *
      have A2 : Aside (p + 1 + r = M ∧ Below w3.heap.size w3 wr ∧ w3.rangeAt gl (p * 32) (ULIST .u8 32 X) ∧ wrap64 ((p : Int) + 1) = ((p + 1 : Nat) : Int)) := ⟨by have := A.out.1; omega, A.out.2, hrg, w64_next p (by omega)⟩
      clear A hpM hFr hat hpe hNd hsp hrg hM300
      go_wp2_with fail
      refine cg.mono ?_
      rintro e w4 ⟨rfl, hb4⟩
      clear cg
      have hst := run_storeCells_new (P := Tryd.prog) w4 30 (UARR .u8 32 fun _ => 0) (UARR .u8 32 X) (info_HASH _) (by rw [UARR_size, UARR_size]) (UARR_one _ _ _)
      have hsu := UARR_size .u8 32 X
      obtain ⟨w5, hw5⟩ : ∃ w5, w4.alloc (.cells (UARR .u8 32 X) 30) = w5 := ⟨_, rfl⟩
      have A4 : Aside (Below w3.heap.size w3 w5 ∧ Has w5 w4.heap.size (UARR .u8 32 X) 30) := by
        rw [← hw5]
        exact ⟨(A2.out.2.1.trans (hb4.mono A2.out.2.1.size)).alloc (Nat.le_trans A2.out.2.1.size hb4.size) _, Has.new _ _ _⟩
      rw [hw5] at hst
      clear hb4 hw5
      go_upto_region 12 with fail
      clear hst hsu
      generalize w4.heap.size = b12 at *
      refine grown12 w5 gl M cl b12 p X hlt (fun V => Below w5.heap.size w5 V) (Below.refl _ _).drew (fun V hV => ⟨(A4.out.2.keep hV).whole, range_below (range_below A2.out.2.2.1 A4.out.1 A3.out.2.2.2.1) hV (Nat.lt_of_lt_of_le A3.out.2.2.2.1 A4.out.1.size)⟩) (equal_same _) (fun _ _ _ _ _ h => h) ?_
      intro W hW
      have A5 : Aside (p + 1 + r = M ∧ Below w3.heap.size w3 W ∧ wrap64 ((p : Int) + 1) = ((p + 1 : Nat) : Int)) := ⟨A2.out.1, A4.out.1.trans (hW.mono A4.out.1.size), A2.out.2.2.2⟩
      clear hW A4 A2 eu
      go_wp2_with fail
      go_roundg r
      case measure => exact Nat.lt_succ_self _
      case rel => exact ⟨p + 1, by rw [← A5.out.2.2], A5.out.1, A5.out.2.1⟩
set_option maxHeartbeats 2000000 in
theorem grown_short (d : Int) (a : Option Addr) (n c H : Nat) (w : World) (hH7 : H ≤ 7) (hn : n < 2 ^ H) : Calls Tryd.prog 6 #[.int .i64 d, .slice a n c, .int .i64 (H : Int)] w fun e w' => e = .returned (.bool true) ∧ Below w.heap.size w w' := by
  have h0 : ¬ (H : Int) < 0 := by omega
  have h7 : ¬ (7 : Int) < (H : Int) := by omega
  obtain ⟨i1, i2⟩ := pow_ints H hH7
  generalize hN : 2 ^ H = N at i1 i2 hn
  have g1 : (n : Int) < (N : Int) := by omega
  clear hN i2 hn
  go_enter Tryd.func6, Tryd.ntmps6
  go_wp2
  go_ret
  exact ⟨rfl, Below.refl _ _⟩
theorem mmrGrown_walk (d : Int) (a : Option Addr) (n c : Nat) (h : Int) (hs : Nat → Nat → Nat) (w : World) (hH : HASHES w a n hs) (h8 : ∀ i, i < n → ∀ j, hs i j < 256) (hnc : n ≤ c) (hT : Go.Proofs.YtcmjcchemlhejaaDoor.Tabled w) (hX : Tabled w) : Calls Tryd.prog 6 #[.int .i64 d, .slice a n c, .int .i64 h] w fun e w' => e = .returned (.bool true) ∧ Below w.heap.size w w' := by
  by_cases h0 : h < 0
  · exact grown_low d a n c h w h0
  by_cases h7 : 7 < h
  · exact grown_high d a n c h w h7
  obtain ⟨H, rfl⟩ : ∃ H : Nat, h = (H : Int) := ⟨h.toNat, by omega⟩
  by_cases hn : n < 2 ^ H
  · exact grown_short d a n c H w (by omega) hn
  · exact grown_core d a n c H hs w (by omega) (by omega) hH h8 hnc hT hX
end Go.Proofs.YtcmjcchemlhejaaDoor.HX

/- awake answers true: the forest of seven leaves. -/
namespace Go.Proofs.YtcmjcchemlhejaaDoor
open Go.RowKit

theorem PEAKS_seven : PEAKS 7 = [6, 9, 10] := by
  have h : HS 0 7 = [2, 1, 0] := by rw [HS_zero]; decide
  have p2 : PKP 7 2 = 6 := by
    unfold PKP PLC NODES
    simp [PC_zero]
  have p1 : PKP 7 1 = 9 := by
    unfold PKP PLC NODES
    have := PC_pow 2
    simp at this
    simp [this]
  have p0 : PKP 7 0 = 10 := by
    unfold PKP PLC NODES
    have h1 := PC_even 3
    have h2 := PC_ones 2
    simp at h1 h2
    simp [h1, h2]
  unfold PEAKS
  rw [h]
  simp [p0, p1, p2]
theorem PC_seven : PC 7 = 3 := PC_ones 3
theorem NODES_seven : NODES 7 = 11 := by
  unfold NODES
  rw [PC_seven]
theorem PLC_nine : PLC 1 2 = 9 := by
  unfold PLC NODES
  have := PC_pow 2
  simp at this
  simp [this]
/-- a list of numbers, cell by cell. -/
theorem row_at {w : World} {base g n cap : Nat} {l : List Nat} (h : w.ownsRow base 26 1 (.slice (some ⟨g, 0, none⟩) n cap) n (UCELLS l)) (i : Nat) (hi : i < l.length) : w.cell? ⟨g, i, none⟩ = some (.int .u64 (l.getD i 0 : Nat)) := by
  have hlen : l.length = n := by have := h.1; simpa [UCELLS] using this
  rw [h.cellAt i (by omega)]
  unfold UCELLS
  rw [List.getElem?_map, List.getD_eq_getElem?_getD, List.getElem?_eq_getElem hi]
  rfl
end Go.Proofs.YtcmjcchemlhejaaDoor

/- What the card's row gives the walks of layer 3: spots that came in; the table of math/bits. -/
namespace Go.Proofs.YtcmjcchemlhejaaDoor
open Go.ChangeShapes Go.WideShapes Go.ChangeAt Go.WideMaps Go.WideElems Go.RowKit
set_option maxRecDepth 100000

theorem own : ownKnob Tryd.prog.godebug = none := by kernel_rfl
theorem laidOut : laidOutB Tryd.prog = true := by kernel_rfl
theorem gTab : Tryd.prog.globalNamed "math/bits.deBruijn64tab" = some 2 := by kernel_rfl
theorem tTab : (Tryd.prog.globals[2]?).map (·.type) = some 110 := by kernel_rfl
theorem tabData {H : Type} : (Rows.laid_math_bits_deBruijn64tab : DataW H) = .agg (TAB.map fun n => .lit (.int .u8 (n : Nat))) := rfl
theorem of_laid {W : World} (h : laidMetH Tryd.prog [("math/bits.deBruijn64tab", Rows.laid_math_bits_deBruijn64tab)] W) : Tabled W ∧ 0 < W.heap.size := by
  rw [MakeChecks.laidMetH_plain _ _ _ (by kernel_rfl)] at h
  obtain ⟨ps, ⟨g0, t0, cs0, f0, p0, q0, hg0, ht0, hv0, hd0, _, _⟩, _, _⟩ := h
  obtain rfl := Option.some.inj (gTab.symm.trans hg0)
  obtain rfl := Option.some.inj (tTab.symm.trans ht0)
  obtain ⟨xs, m1, rfl, hx1, hlen, hn, hel⟩ := DataW.trod_array Tryd.underlying110 hd0
  have c5 : Tryd.prog.cellsOf 5 = 1 := by kernel_rfl
  simp only [Prod.mk.injEq] at hx1
  have hx := hx1.1
  rw [tabData] at hx
  simp only [DataW.agg.injEq] at hx
  have T : Tabled W := fun i hi => by
    have h0 := hel i hi
    have hi' : i < xs.length := by omega
    rw [List.getElem?_eq_getElem hi', c5, Nat.mul_one] at h0
    obtain ⟨k, e1, e2, _⟩ := DataW.trod_int Tryd.underlying5 h0
    have hk : (k : Int) = ((TAB.getD i 0 : Nat) : Int) := by
      have hz := congrArg (fun l => l[i]?) hx
      have hT : i < TAB.length := hi
      simp only [List.getElem?_map, List.getElem?_eq_getElem hi', List.getElem?_eq_getElem hT, Option.map_some, e2] at hz
      simp at hz
      rw [List.getD_eq_getElem?_getD, List.getElem?_eq_getElem hT]
      simpa using hz.symm
    have hv := World.var?_cell hg0 hv0 i
    rw [hv, ← hk]
    have := congrArg (fun l => l[0]?) e1
    simp at this
    simpa using this
  refine ⟨T, ?_⟩
  have := T 0 (by decide)
  exact Nat.lt_of_le_of_lt (Nat.zero_le _) (World.block_lt_of_cell? W _ this)
/-- a spot that came in. -/
theorem open_spot {H : Type} {enc : TypeId × Value → H} {W : World} {r : Reach} {b0 base : Nat} {sp : Nat → Bool} {held : Bool} {v : Value} {d : DataW H} {ps : List MemPlace}
    (hval : Value.okWide Tryd.prog W r b0 68 v) (hd : DataW.Trod enc Tryd.prog W base sp held 68 v d ps) : ∃ h k : Nat, h < 256 ∧ k < 2 ^ 64 ∧ v = SPOT h k := by
  simp only [Value.okWide, Tryd.underlying68] at hval
  obtain ⟨cs, rfl, hsz, _⟩ := hval
  obtain ⟨fuel, hf⟩ := hd
  obtain ⟨y0, y1, m, _, hl, h0, h1⟩ := trod_struct2 Tryd.underlying68 hf
  obtain ⟨a, e1, _, e3⟩ := DataW.trod_int Tryd.underlying5 h0
  obtain ⟨b, f1, _, f3⟩ := DataW.trod_int Tryd.underlying26 h1
  have c1 : Tryd.prog.cellsOf 5 = 1 := by kernel_rfl
  have c2 : Tryd.prog.cellsOf 26 = 1 := by kernel_rfl
  have c3 : Tryd.prog.cellsOf 68 = 2 := by kernel_rfl
  rw [c3] at hsz
  rw [c1] at e1
  rw [c2] at f1
  have ha := bounds_u8 e3
  have hb := wf_u64 f3
  obtain ⟨x, y, rfl⟩ : ∃ x y, cs = #[x, y] := by
    obtain ⟨l⟩ := cs
    match l, hsz with
    | [x, y], _ => exact ⟨x, y, rfl⟩
  simp [Value.cells] at e1 f1
  subst e1 f1
  refine ⟨a.toNat, b.toNat, by omega, by omega, ?_⟩
  rw [SPOT, Int.toNat_of_nonneg (by omega), Int.toNat_of_nonneg (by omega)]
end Go.Proofs.YtcmjcchemlhejaaDoor

/- What the card's row gives the walks: arrays and slices of bytes that came in; the two tables. -/
namespace Go.Proofs.YtcmjcchemlhejaaDoor.HX
set_option maxRecDepth 100000
open Go.ChangeShapes Go.WideShapes Go.ChangeAt Go.WideMaps Go.WideElems Go.RowKit

theorem own : ownKnob Tryd.prog.godebug = none := by kernel_rfl
theorem laidOut : laidOutB Tryd.prog = true := by kernel_rfl
theorem gRounds : Tryd.prog.globalNamed "massif/hash.rounds" = some 1 := by kernel_rfl
theorem gBegin : Tryd.prog.globalNamed "massif/hash.begin" = some 0 := by kernel_rfl
theorem tRounds : (Tryd.prog.globals[1]?).map (·.type) = some 128 := by kernel_rfl
theorem tBegin : (Tryd.prog.globals[0]?).map (·.type) = some 126 := by kernel_rfl
theorem roundsData {H : Type} : (Rows.laid_massif_hash_rounds : DataW H) = .agg (KLIST.map fun n => .lit (.int .u32 (n : Nat))) := rfl
theorem beginData {H : Type} : (Rows.laid_massif_hash_begin : DataW H) = .agg (BEGIN.map fun n => .lit (.int .u32 (n : Nat))) := rfl

/-- an array of bytes that came in. -/
theorem open_bytes {H : Type} {enc : TypeId × Value → H} {W : World} {r : Reach} {b0 base : Nat} {sp : Nat → Bool} {held : Bool} {t : TypeId} {n : Nat} {v : Value} {d : DataW H} {ps : List MemPlace} (ht : Tryd.prog.underlying t = some (.array n 5)) (hc : Tryd.prog.cellsOf t = n)
    (hval : Value.okWide Tryd.prog W r b0 t v) (hd : DataW.Trod enc Tryd.prog W base sp held t v d ps) : ∃ s : Nat → Nat, (∀ i, s i < 256) ∧ v = .agg (UARR .u8 n s) := by
  simp only [Value.okWide, ht] at hval
  obtain ⟨cs, rfl, hsz, _⟩ := hval
  obtain ⟨fuel, hf⟩ := hd
  obtain ⟨xs, m, rfl, _, _, hn, hel⟩ := DataW.trod_array ht hf
  have c5 : Tryd.prog.cellsOf 5 = 1 := by kernel_rfl
  have hx : ∀ i, i < n → ∃ k : Int, cs[i]? = some (.int .u8 k) ∧ (Lit.int .u8 k).wf = true := fun i hi => by
    have h0 := hel i hi
    rw [List.getElem?_eq_getElem (by omega), c5, Nat.mul_one] at h0
    obtain ⟨k, e1, _, e3⟩ := DataW.trod_int Tryd.underlying5 h0
    refine ⟨k, ?_, e3⟩
    have := congrArg (fun l => l[0]?) e1
    simpa [Value.cells] using this
  refine ⟨fun i => match cs[i]? with | some (.int _ k) => if i < n then k.toNat else 0 | _ => 0, fun i => ?_, ?_⟩
  · by_cases hi : i < n
    · obtain ⟨k, hk, hw⟩ := hx i hi
      simp only [hk, hi, if_true]
      have := bounds_u8 hw
      omega
    · dsimp only
      split
      · simp [hi]
      · decide
  · congr 1
    apply Array.ext_getElem?
    intro i
    by_cases hi : i < n
    · obtain ⟨k, hk, hw⟩ := hx i hi
      rw [UARR_get _ _ _ _ hi, hk]
      simp only [hi, if_true]
      have := bounds_u8 hw
      congr 2
      omega
    · rw [Array.getElem?_eq_none (by rw [hsz, hc]; omega), Array.getElem?_eq_none (by rw [UARR_size]; omega)]
/-- a slice of bytes that came in. -/
theorem open_text {H : Type} {enc : TypeId × Value → H} {W : World} {a : Option Addr} {len cap : Nat} {d : DataW H} {ps : List MemPlace} (hd : DataW.Trod enc Tryd.prog W 0 (fun _ => true) true 56 (.slice a len cap) d ps) :
    ∃ l : List Nat, Text W a len l ∧ (a = none → cap = 0) := by
  have hr : ∃ zs, IsRow .u8 W a len cap zs := by
    obtain ⟨fuel, hf⟩ := hd
    rcases open_ints Tryd.underlying56 Tryd.underlying5 (by kernel_rfl) hf with ⟨hcs, _⟩ | ⟨x, l, c, zs, hcs, _, hl, hm, hz, hx, hcell, hwz⟩
    · simp [Value.cells] at hcs
      obtain ⟨rfl, rfl, rfl⟩ := hcs
      exact ⟨[], .inl ⟨rfl, rfl, rfl, rfl⟩⟩
    · simp [Value.cells] at hcs
      obtain ⟨rfl, rfl, rfl⟩ := hcs
      exact ⟨zs, .inr ⟨_, rfl, hl, hm, by simpa using hz, hcell, hwz⟩⟩
  obtain ⟨zs, hr⟩ := hr
  have hb := hr.bytes
  have e : INTS ((zs.take len).map Int.toNat) = zs.take len := by
    unfold INTS
    rw [List.map_map]
    conv => rhs; rw [← List.map_id (zs.take len)]
    apply List.map_congr_left
    intro x hx
    have := hb.2.2 x hx
    simp
    omega
  refine ⟨(zs.take len).map Int.toNat, Text.of_bytes (by rw [e]; exact hb), fun h => ?_⟩
  rcases hr with ⟨_, _, h3, _⟩ | ⟨x, h1, _⟩
  · exact h3
  · rw [h] at h1
    cases h1
theorem table_at {H : Type} {enc : TypeId × Value → H} {W : World} {base fuel n : Nat} {sp : Nat → Bool} {held : Bool} {t : TypeId} {cs : List Value} {ps : List MemPlace} (L : List Nat) (hL : L.length = n) (ht : Tryd.prog.underlying t = some (.array n 103))
    (hd : DataW.trod enc Tryd.prog W base sp held fuel t cs = some (.agg (L.map fun n => .lit (.int .u32 (n : Nat))), ps)) (i : Nat) (hi : i < n) : cs[i]? = some (.int .u32 (L.getD i 0 : Nat)) := by
  obtain ⟨xs, m1, rfl, hx1, hlen, hn, hel⟩ := DataW.trod_array ht hd
  have c5 : Tryd.prog.cellsOf 103 = 1 := by kernel_rfl
  simp only [Prod.mk.injEq, DataW.agg.injEq] at hx1
  have hx := hx1.1
  have h0 := hel i hi
  have hi' : i < xs.length := by omega
  rw [List.getElem?_eq_getElem hi', c5, Nat.mul_one] at h0
  obtain ⟨k, e1, e2, _⟩ := DataW.trod_int Tryd.underlying103 h0
  have hk : (k : Int) = ((L.getD i 0 : Nat) : Int) := by
    have hz := congrArg (fun l => l[i]?) hx
    have hT : i < L.length := by omega
    simp only [List.getElem?_map, List.getElem?_eq_getElem hi', List.getElem?_eq_getElem hT, Option.map_some, e2] at hz
    simp at hz
    rw [List.getD_eq_getElem?_getD, List.getElem?_eq_getElem hT]
    simpa using hz.symm
  rw [← hk]
  have := congrArg (fun l => l[0]?) e1
  simpa using this
theorem of_laid {W : World} (h : laidMetH Tryd.prog [("massif/hash.begin", Rows.laid_massif_hash_begin), ("massif/hash.rounds", Rows.laid_massif_hash_rounds)] W) : Tabled W := by
  rw [MakeChecks.laidMetH_plain _ _ _ (by kernel_rfl)] at h
  obtain ⟨ps, ⟨g0, t0, cs0, f0, p0, q0, hg0, ht0, hv0, hd0, ⟨g1, t1, cs1, f1, p1, q1, hg1, ht1, hv1, hd1, _, _⟩, _⟩, _, _⟩ := h
  obtain rfl := Option.some.inj (gBegin.symm.trans hg0)
  obtain rfl := Option.some.inj (tBegin.symm.trans ht0)
  obtain rfl := Option.some.inj (gRounds.symm.trans hg1)
  obtain rfl := Option.some.inj (tRounds.symm.trans ht1)
  rw [beginData] at hd0
  rw [roundsData] at hd1
  have A : ∀ i, i < 8 → W.cell? ⟨0, i, none⟩ = some (.int .u32 (BEGIN.getD i 0 : Nat)) := fun i hi => (World.var?_cell hg0 hv0 i).trans (Array.getElem?_toList.symm.trans (table_at BEGIN rfl Tryd.underlying126 hd0 i hi))
  have B : ∀ i, i < 64 → W.cell? ⟨1, i, none⟩ = some (.int .u32 (KC i : Nat)) := fun i hi => (World.var?_cell hg1 hv1 i).trans (Array.getElem?_toList.symm.trans (table_at KLIST rfl Tryd.underlying128 hd1 i hi))
  exact ⟨B, A, by have h1 : 0 < W.heap.size := World.block_lt_of_cell? W _ (A 0 (by decide)); have h2 : 1 < W.heap.size := World.block_lt_of_cell? W _ (B 0 (by decide)); omega⟩
end Go.Proofs.YtcmjcchemlhejaaDoor.HX

/- What a card's row gives the walks of chapter 6: the three tables, a slice of hashes that came in. -/
namespace Go.Proofs.YtcmjcchemlhejaaDoor.HX
open Go.ChangeShapes Go.WideShapes Go.ChangeAt Go.WideMaps Go.WideElems Go.RowKit
set_option maxRecDepth 100000

theorem of_laid3 {W : World} (h : laidMetH Tryd.prog [("math/bits.deBruijn64tab", Rows.laid_math_bits_deBruijn64tab), ("massif/hash.begin", Rows.laid_massif_hash_begin), ("massif/hash.rounds", Rows.laid_massif_hash_rounds)] W) : Go.Proofs.YtcmjcchemlhejaaDoor.Tabled W ∧ Tabled W ∧ 2 < W.heap.size := by
  rw [MakeChecks.laidMetH_plain _ _ _ (by kernel_rfl)] at h
  obtain ⟨ps, ⟨g0, t0, cs0, f0, p0, q0, hg0, ht0, hv0, hd0, ⟨g1, t1, cs1, f1, p1, q1, hg1, ht1, hv1, hd1, ⟨g2, t2, cs2, f2, p2, q2, hg2, ht2, hv2, hd2, _, _⟩, _⟩, _⟩, _, _⟩ := h
  obtain rfl := Option.some.inj (gTab.symm.trans hg0)
  obtain rfl := Option.some.inj (tTab.symm.trans ht0)
  obtain rfl := Option.some.inj (gBegin.symm.trans hg1)
  obtain rfl := Option.some.inj (tBegin.symm.trans ht1)
  obtain rfl := Option.some.inj (gRounds.symm.trans hg2)
  obtain rfl := Option.some.inj (tRounds.symm.trans ht2)
  rw [beginData] at hd1
  rw [roundsData] at hd2
  have A : ∀ i, i < 8 → W.cell? ⟨0, i, none⟩ = some (.int .u32 (BEGIN.getD i 0 : Nat)) := fun i hi => (World.var?_cell hg1 hv1 i).trans (Array.getElem?_toList.symm.trans (table_at BEGIN rfl Tryd.underlying126 hd1 i hi))
  have B : ∀ i, i < 64 → W.cell? ⟨1, i, none⟩ = some (.int .u32 (KC i : Nat)) := fun i hi => (World.var?_cell hg2 hv2 i).trans (Array.getElem?_toList.symm.trans (table_at KLIST rfl Tryd.underlying128 hd2 i hi))
  obtain ⟨xs, m1, rfl, hx1, hlen, hn, hel⟩ := DataW.trod_array Tryd.underlying110 hd0
  have c5 : Tryd.prog.cellsOf 5 = 1 := by kernel_rfl
  simp only [Prod.mk.injEq] at hx1
  have hx := hx1.1
  rw [tabData] at hx
  simp only [DataW.agg.injEq] at hx
  have T : Go.Proofs.YtcmjcchemlhejaaDoor.Tabled W := fun i hi => by
    have h0 := hel i hi
    have hi' : i < xs.length := by omega
    rw [List.getElem?_eq_getElem hi', c5, Nat.mul_one] at h0
    obtain ⟨k, e1, e2, _⟩ := DataW.trod_int Tryd.underlying5 h0
    have hk : (k : Int) = ((TAB.getD i 0 : Nat) : Int) := by
      have hz := congrArg (fun l => l[i]?) hx
      have hT : i < TAB.length := hi
      simp only [List.getElem?_map, List.getElem?_eq_getElem hi', List.getElem?_eq_getElem hT, Option.map_some, e2] at hz
      simp at hz
      rw [List.getD_eq_getElem?_getD, List.getElem?_eq_getElem hT]
      simpa using hz.symm
    have hv := World.var?_cell hg0 hv0 i
    rw [hv, ← hk]
    have := congrArg (fun l => l[0]?) e1
    simp at this
    simpa using this
  have z0 : 2 < W.heap.size := World.block_lt_of_cell? W _ (T 0 (by decide))
  have z1 : 0 < W.heap.size := World.block_lt_of_cell? W _ (A 0 (by decide))
  have z2 : 1 < W.heap.size := World.block_lt_of_cell? W _ (B 0 (by decide))
  exact ⟨T, ⟨B, A, by omega⟩, by omega⟩
/-- one hash, by its cells. -/
theorem open_hash {H : Type} {enc : TypeId × Value → H} {W : World} {fuel : Nat} {cs : List Value} {x : DataW H × List MemPlace} (hf : DataW.trod enc Tryd.prog W 0 (fun _ => true) true fuel 30 cs = some x) : ∃ h : Nat → Nat, (∀ i, h i < 256) ∧ cs = ULIST .u8 32 h := by
  obtain ⟨xs, m, rfl, _, hl, hn, hel⟩ := DataW.trod_array Tryd.underlying30 hf
  have c5 : Tryd.prog.cellsOf 5 = 1 := by kernel_rfl
  have c32 : Tryd.prog.cellsOf 30 = 32 := by kernel_rfl
  rw [c32] at hl
  have hx : ∀ i, i < 32 → ∃ k : Nat, cs[i]? = some (.int .u8 (k : Int)) ∧ k < 256 := fun i hi => by
    have h0 := hel i hi
    rw [List.getElem?_eq_getElem (by omega), c5, Nat.mul_one] at h0
    obtain ⟨k, e1, _, e3⟩ := DataW.trod_int Tryd.underlying5 h0
    have hb := bounds_u8 e3
    refine ⟨k.toNat, ?_, by omega⟩
    have := congrArg (fun l => l[0]?) e1
    rw [Int.toNat_of_nonneg hb.1]
    simpa using this
  have F : ∃ f : Nat → Nat, (∀ i, f i < 256) ∧ ∀ i, i < 32 → cs[i]? = some (.int .u8 ((f i : Nat) : Int)) := by
    refine ⟨fun i => if hi : i < 32 then (hx i hi).choose else 0, fun i => ?_, fun i hi => ?_⟩
    · by_cases hi : i < 32
      · simp only [hi, dif_pos]; exact (hx i hi).choose_spec.2
      · simp only [hi, dif_neg, not_false_iff]; decide
    · simp only [hi, dif_pos]; exact (hx i hi).choose_spec.1
  obtain ⟨f, hf1, hf2⟩ := F
  refine ⟨f, hf1, ?_⟩
  apply List.ext_getElem?
  intro i
  by_cases hi : i < 32
  · rw [hf2 i hi, ULIST_get _ _ _ _ hi]
  · rw [List.getElem?_eq_none (by omega), List.getElem?_eq_none (by rw [ULIST_length]; omega)]
/-- a slice of hashes that came in. -/
theorem open_hashes {H : Type} {enc : TypeId × Value → H} {W : World} {a : Option Addr} {k c : Nat} {d : DataW H} {ps : List MemPlace} (hd : DataW.Trod enc Tryd.prog W 0 (fun _ => true) true 22 (.slice a k c) d ps) :
    ∃ hs : Nat → Nat → Nat, (∀ i, i < k → ∀ j, hs i j < 256) ∧ HASHES W a k hs := by
  obtain ⟨fuel, hf⟩ := hd
  rcases DataW.trod_slice Tryd.underlying22 hf with ⟨h0, _⟩ | ⟨ad, len, cap, elems, rest, n, _, h0, hx, _, hl, hm, hlen, hel, _, _⟩
  · simp [Value.cells] at h0
    obtain ⟨rfl, rfl, rfl⟩ := h0
    exact ⟨fun _ _ => 0, fun i hi => by omega, fun h => by omega⟩
  · simp [Value.cells] at h0
    obtain ⟨rfl, rfl, rfl⟩ := h0
    have c32 : Tryd.prog.cellsOf 30 = 32 := by kernel_rfl
    have each : ∀ i, i < k → ∃ h : Nat → Nat, (∀ j, h j < 256) ∧ ∀ j, j < 32 → W.cell? ((ad.add (i * 32)).add j) = some (.int .u8 ((h j : Nat) : Int)) := fun i hi => by
      have h := hel i hi
      rw [List.getElem?_eq_getElem (by omega), c32, Option.bind_eq_some_iff] at h
      obtain ⟨cs, hcs, ht⟩ := h
      obtain ⟨f, h1, rfl⟩ := open_hash ht
      have hs := (World.cells?_some hcs).2.2
      refine ⟨f, h1, fun j hj => ?_⟩
      have s := hs j hj
      rw [s]
      exact ULIST_get .u8 32 f j hj
    have F : ∃ f : Nat → Nat → Nat, ∀ i, i < k → (∀ j, f i j < 256) ∧ ∀ j, j < 32 → W.cell? ((ad.add (i * 32)).add j) = some (.int .u8 ((f i j : Nat) : Int)) := by
      refine ⟨fun i => if hi : i < k then (each i hi).choose else fun _ => 0, fun i hi => ?_⟩
      simp only [hi, dif_pos]
      exact (each i hi).choose_spec
    obtain ⟨f, hf2⟩ := F
    refine ⟨f, fun i hi => (hf2 i hi).1, fun h0k => ?_⟩
    obtain ⟨b, off, spot⟩ := ad
    have hc := (hf2 0 h0k).2 0 (by decide)
    have hspot : spot = none := by simpa [Addr.add] using World.cell?_spot hc
    subst hspot
    refine ⟨b, off, rfl, ?_, fun i hi j v hv => ?_⟩
    · have := World.block_lt_of_cell? W _ hc
      simpa [Addr.add] using this
    · have hj : j < 32 := by have := (List.getElem?_eq_some_iff.1 hv).1; rw [ULIST_length] at this; exact this
      have h1 := (hf2 i hi).2 j hj
      rw [addr_add, addr_add] at h1
      rw [ULIST_get _ _ _ _ hj] at hv
      rw [h1, ← hv]
end Go.Proofs.YtcmjcchemlhejaaDoor.HX
