/- Texts of MmrInstalls, one behind the other: MmrAppend, PosBackward, PosPeaksCall. -/
import Derived.RangeFuncBox
import Derived.RangeFuncLeaves
import Derived.RangeFuncCalls
import Derived.Shelf.Abstract
import Derived.Shelf.RegionOpen
import Derived.WalkKit
import Derived.OwnWalkIn
import Derived.TacticsInMore
import Derived.LoopNIn
import Derived.LoopIn
import Derived.Maps.AppendAt
import Derived.RangeFuncNested
import Derived.Test.YtdmbmphdiaepdaaDoorMmrInstallsP22
import Derived.Test.YtdmbmphdiaepdaaDoorMmrInstallsP24
/- Append of package mmr. -/
namespace Go.Proofs.YtdmbmphdiaepdaaDoor.HX
open Go.RowKit
set_option maxRecDepth 100000

/-- what an append leaves. -/
def APPENDED (w : World) (B g : Nat) (d : Int) (log n : Nat) (C : CHUNKS) (f : Nat → Nat → Nat) (x : Nat → Nat) (w' : World) : Prop := ∃ C', FOREST w' B g d log (n + 1) C' (LEAFS f n x) ∧ TSTEP w w' g C C' ∧ Below B w w'
theorem u64_next {n : Nat} (h : n < 2 ^ 40) : IntKind.u64.wrap ((n : Int) + 1) = ((n + 1 : Nat) : Int) := by
  simp [IntKind.wrap, IntKind.signed, IntKind.bits]
  omega
theorem ONES.small {n j : Nat} (h : ONES n j) (hn : n < 2 ^ 20) : j ≤ 20 := by
  rcases Nat.lt_or_ge 20 j with h1 | h1
  · have h2 := h.span
    have h3 : 2 ^ 21 ≤ 2 ^ j := Nat.pow_le_pow_right (by decide) h1
    have h4 : 1 * 2 ^ j ≤ (n / 2 ^ j + 1) * 2 ^ j := Nat.mul_le_mul_right _ (Nat.le_add_left 1 _)
    generalize n / 2 ^ j = q at *
    omega
  · exact h1
theorem ONES.node {n j : Nat} (h : ONES n j) (hn : n < 2 ^ 20) : Node j (n / 2 ^ j) := by
  have hj := h.small hn
  refine ⟨by omega, Nat.lt_of_le_of_lt (Nat.div_le_self _ _) (Nat.lt_of_lt_of_le hn (Nat.pow_le_pow_right (by decide) (by omega)))⟩
theorem growing_first {w W1 W : World} {B g : Nat} {d : Int} {log n b : Nat} {C : CHUNKS} {f : Nat → Nat → Nat} {x : Nat → Nat} (hnode : ∀ h k, (k + 1) * 2 ^ h ≤ n → AT C log (PLC h k) = some (VAL d f h k)) (hw5 : W1.cell? ⟨g, 5, none⟩ = some (.int .i64 d)) (hw6 : W1.cell? ⟨g, 6, none⟩ = some (.int .u64 ((n + 1 : Nat) : Int)))
    (hheld : Has W1 b (UARR .u8 32 x) 30) (hoff : ¬ FOOT W1 g C b) (hbg : b ≠ g) (hstep : TSTEP w W1 g C C) (hbel : Below B w W1) (hbase : w.heap.size ≤ b)
    (hP : PUSHED W1 B g log (NODES n) (NODES n) (NODES n) C x W) : ∃ C', GROWING w W B g d log n 0 b C C' (LEAFS f n x) := by
  obtain ⟨C', s1, s2, s3, s4⟩ := hP
  have hbl := hheld.lt
  have hx : VAL d (LEAFS f n x) 0 (n / 2 ^ 0) = x := by rw [Nat.pow_zero, Nat.div_one]; exact LEAFS_at f n x
  refine ⟨C', ⟨s1, (s3.pins 5 (by decide)).trans hw5, (s3.pins 6 (by decide)).trans hw6, s1.live 6 (by decide), fun h k hk => ?_, fun i hi => ?_, fun i hi => by omega, ?_, fun hf => ?_, hstep.trans s3.tree, hbel.trans s4, hbase⟩⟩
  · have h1 := PLC_under hk
    rw [s2, if_neg (by omega), hnode h k hk, VAL_congr (fun k hk => (LEAFS_old f n x hk).symm) h k hk]
  · obtain rfl : i = 0 := by omega
    rw [s2, if_pos (Nat.add_zero _), hx]
  · rw [hx]
    exact (s3.same b hbl hbg hoff).trans hheld
  · rcases s3.foot b hf with h1 | h1
    · exact hoff h1
    · omega
theorem GROWING.done {w wx : World} {B g : Nat} {d : Int} {log n j b : Nat} {C Cj : CHUNKS} {f : Nat → Nat → Nat} {x : Nat → Nat} (h : GROWING w wx B g d log n j b C Cj (LEAFS f n x)) (he : n / 2 ^ j % 2 = 0) (hn : n < 2 ^ 20) (hbyte : ∀ k, k < n → ∀ i, f k i < 256) (h8 : ∀ i, x i < 256) (hBg : B ≤ g) : APPENDED w B g d log n C f x wx := by
  have hnd := h.ones.nodes he
  have e1 : NODES (n + 1) = NODES n + 1 + j := by omega
  refine ⟨Cj, ⟨by rw [e1]; exact h.store, h.width, h.size, h.free, fun h1 k hk => ?_, fun k hk i => ?_, by omega, hBg⟩, h.step, h.below⟩
  · by_cases e : (k + 1) * 2 ^ h1 = n + 1
    · obtain ⟨rfl, ho⟩ := ONES.of_span e
      have hle : h1 ≤ j := by
        rcases Nat.lt_or_ge j h1 with hlt | hge
        · have := ho j hlt
          omega
        · exact hge
      rw [ho.place]
      exact h.new h1 hle
    · exact h.old h1 k (by omega)
  · unfold LEAFS
    split
    · exact h8 i
    · exact hbyte k (by omega) i
set_option maxHeartbeats 4000000 in
theorem append_ok {w : World} {B g : Nat} {d : Int} {log n : Nat} {C : CHUNKS} {f : Nat → Nat → Nat} (hF : FOREST w B g d log n C f) (x : Nat → Nat) (h8 : ∀ i, x i < 256) (hn : n < 2 ^ 20) (hT : Tabled w) (hGB : 1 < B) (hB : B ≤ w.heap.size) :
    Calls Tryd.prog 10 #[.pointer (some ⟨g, 0, none⟩), .agg (UARR .u8 32 x)] w fun e w' => e = .returned (.int .u64 (n : Int)) ∧ APPENDED w B g d log n C f x w' := by
  obtain ⟨w0, hw0⟩ : ∃ w0, w.alloc (.cells (UARR .u8 32 x) 30) = w0 := ⟨_, rfl⟩
  have hb0 : Below w.heap.size w w0 := by rw [← hw0]; exact (Below.refl _ _).alloc (Nat.le_refl _) _
  have h30 : Has w0 w.heap.size (UARR .u8 32 x) 30 := by rw [← hw0]; exact Has.new w _ _
  have hF0 := hF.below hb0
  have c6 := hF0.size
  have f6 := hF0.free
  have cl := Go.Proofs.YtdmbmphdiaepdaaDoor.leaf_ok n (by omega)
  have eu := u64_next (n := n) (by omega)
  go_enter Tryd.func10, Tryd.ntmps10
  go_wp2_with fail
  refine (cl _).mono ?_
  rintro e w1 ⟨rfl, rfl⟩
  clear cl
  go_upto_region 6 with fail
  have hgl := hF.store.lt
  obtain ⟨hS1, hst1⟩ := hF0.store.side 6 (by decide) (.int .u64 ((n : Int) + 1))
  have hbg : w.heap.size ≠ g := by omega
  have h31 : Has (w0.setCell ⟨g, 6, none⟩ (.int .u64 ((n : Int) + 1))) w.heap.size (UARR .u8 32 x) 30 := h30.other hbg _
  have hw5 : (w0.setCell ⟨g, 6, none⟩ (.int .u64 ((n : Int) + 1))).cell? ⟨g, 5, none⟩ = some (.int .i64 d) := (set_off (by decide) _).trans hF0.width
  have hw6 : (w0.setCell ⟨g, 6, none⟩ (.int .u64 ((n : Int) + 1))).cell? ⟨g, 6, none⟩ = some (.int .u64 ((n + 1 : Nat) : Int)) := World.cell?_setCell_same _ _ _ hF0.size
  have hbel1 : Below B w (w0.setCell ⟨g, 6, none⟩ (.int .u64 ((n : Int) + 1))) := (hb0.mono hB).setCell (p := ⟨g, 6, none⟩) hF.base _
  have hst : TSTEP w (w0.setCell ⟨g, 6, none⟩ (.int .u64 ((n : Int) + 1))) g C C := (STEP.below hF.store hb0).tree.trans hst1
  have hoff : ¬ FOOT (w0.setCell ⟨g, 6, none⟩ (.int .u64 ((n : Int) + 1))) g C w.heap.size := fun hf => by
    rcases hst1.foot _ hf with h1 | h1
    · exact Nat.lt_irrefl _ (hF.store.foot_lt (hF.store.foot_below hb0 h1))
    · have := h30.lt
      omega
  have hb3 : w.heap.size ≤ w.heap.size := Nat.le_refl _
  have A1 : Aside ((∀ h k, (k + 1) * 2 ^ h ≤ n → AT C log (PLC h k) = some (VAL d f h k)) ∧ (∀ k, k < n → ∀ i, f k i < 256) ∧ (∀ i, x i < 256) ∧ n < 2 ^ 20 ∧ Tabled w ∧ 1 < B ∧ B ≤ w.heap.size ∧ B ≤ g) := ⟨hF.node, hF.byte, h8, hn, hT, hGB, hB, hF.base⟩
  generalize w0.setCell ⟨g, 6, none⟩ (.int .u64 ((n : Int) + 1)) = W1 at *
  obtain ⟨b3, hb3e⟩ : ∃ b3, w.heap.size = b3 := ⟨_, rfl⟩
  rw [hb3e] at h31 hoff hbg hb3 ⊢
  have A2 : Aside (STORE W1 B g log (NODES n) (NODES n) (NODES n) C ∧ Has W1 b3 (UARR .u8 32 x) 30 ∧ W1.cell? ⟨g, 5, none⟩ = some (.int .i64 d) ∧ W1.cell? ⟨g, 6, none⟩ = some (.int .u64 ((n + 1 : Nat) : Int)) ∧ Below B w W1 ∧ TSTEP w W1 g C C ∧ ¬ FOOT W1 g C b3 ∧ b3 ≠ g ∧ w.heap.size ≤ b3) := ⟨hS1, h31, hw5, hw6, hbel1, hst, hoff, hbg, by omega⟩
  clear hF hF0 h30 hb0 c6 f6 hS1 hst1 hbg h31 hw5 hw6 hbel1 hst hoff hb3 hgl h8 hn hT hGB hB hw0 hb3e
  refine append_first W1 g b3 (NODES n) x (fun W => W = W1.drew) (fun W => PUSHED W1.drew B g log (NODES n) (NODES n) (NODES n) C x W) rfl (fun W e => by rw [e]; exact (show Has W1.drew b3 _ _ from A2.out.2.1).whole) (fun W hP => ?_) (fun W e => ?_) (fun _ _ _ _ _ h => h) ?_
  · obtain ⟨C', s1, s2, s3, s4⟩ := hP
    exact (show Has W b3 (UARR .u8 32 x) 30 from (s3.same b3 A2.out.2.1.lt A2.out.2.2.2.2.2.2.2.1 A2.out.2.2.2.2.2.2.1).trans A2.out.2.1).whole
  · subst e
    have hlt : NODES n < 2 ^ 22 := Nat.lt_trans (NODES_bound (h := 20) A1.out.2.2.2.1) (by decide)
    exact push_ok (A2.out.1.below (Below.refl _ _).drew) x A1.out.2.2.1 (by omega) (by omega) A1.out.2.2.2.2.2.2.2 (by omega)
  · intro W hP
    have hG : ∃ C', GROWING w W B g d log n 0 b3 C C' (LEAFS f n x) := growing_first (W1 := W1.drew) A1.out.1 A2.out.2.2.1 A2.out.2.2.2.1 A2.out.2.1 A2.out.2.2.2.2.2.2.1 A2.out.2.2.2.2.2.2.2.1 (A2.out.2.2.2.2.2.1.trans (STEP.below A2.out.1 (Below.refl _ _).drew).tree) A2.out.2.2.2.2.1.drew A2.out.2.2.2.2.2.2.2.2 hP
    clear hP A2
    obtain ⟨C0, hG⟩ := hG
    have hBW : B ≤ W.heap.size := Nat.le_trans A1.out.2.2.2.2.2.2.1 hG.step.size
    have hG2 := hG.moved hBW
    have hv : VAL d (LEAFS f n x) 0 (n / 2 ^ 0) = x := by rw [Nat.pow_zero, Nat.div_one]; exact LEAFS_at f n x
    rw [hv] at hG2
    have hx3 := hG.held
    rw [hv] at hx3
    have A3 : Aside (GROWING w (W.alloc (.cells (UARR .u8 32 x) 30)) B g d log n 0 W.heap.size C C0 (LEAFS f n x)) := hG2
    have hst := run_storeCells_new (P := Tryd.prog) W 30 (UARR .u8 32 fun _ => 0) (UARR .u8 32 x) (info_HASH _) (by rw [UARR_size, UARR_size]) (UARR_one _ _ _)
    have hsu := UARR_size .u8 32 x
    have hz := zeroHash
    clear hG hG2 hv hBW
    go_wp2_with (first
      | (refine wpList_load_row rfl 30 (.tmp 3) rfl b3 rfl 30 (UARR .u8 32 x) (0, 0) _ hx3 Tryd.underlying30 rfl (info_HASH _) ?_)
      | fail)
    clear hst hsu hx3
    obtain ⟨W2, hW2⟩ : ∃ W2, W.alloc (.cells (UARR .u8 32 x) 30) = W2 := ⟨_, rfl⟩
    rw [hW2] at A3 ⊢
    obtain ⟨b8, hb8⟩ : ∃ b8, W.heap.size = b8 := ⟨_, rfl⟩
    rw [hb8] at A3 ⊢
    clear hW2 hb8
    go_loopg [6, 8] n (fun r s6 s8 wx => ∃ (j b : Nat) (Cj : CHUNKS), s6 = .int .u64 ((NODES n + j : Nat) : Int) ∧ s8 = .pointer (some ⟨b, 0, none⟩) ∧ Aside (j + r = n ∧ GROWING w wx B g d log n j b C Cj (LEAFS f n x)))
    case atStart => exact ⟨0, b8, C0, rfl, rfl, by omega, A3.out⟩
    case round =>
      obtain ⟨j, b, Cj, rfl, rfl, A⟩ := hrel
      clear A3
      have hones := A.out.2.ones
      have hN := hones.node A1.out.2.2.2.1
      have hpl := hones.place
      have cr := Go.Proofs.YtdmbmphdiaepdaaDoor.right_ok j (n / 2 ^ j) hN
      rw [hpl] at cr
      by_cases hodd : n / 2 ^ j % 2 = 1
      · have hev : decide (n / 2 ^ j % 2 = 1) = true := decide_eq_true hodd
        rw [hev] at cr
        have hbx : B ≤ wr.heap.size := Nat.le_trans A1.out.2.2.2.2.2.2.1 A.out.2.step.size
        have hnx := hones.next hodd
        obtain ⟨r, rfl⟩ : ∃ r, gk = r + 1 := ⟨gk - 1, by have := hnx.lt; have := A.out.1; omega⟩
        have A4 : Aside (GROWING w wr B g d log n j b C Cj (LEAFS f n x) ∧ B ≤ wr.heap.size ∧ ONES n (j + 1) ∧ Node j (n / 2 ^ j) ∧ PLC j (n / 2 ^ j) = NODES n + j ∧ n / 2 ^ j = 2 * (n / 2 ^ (j + 1)) + 1 ∧ j + 1 + r = n ∧ j ≤ 20) := ⟨A.out.2, hbx, hnx, hN, hpl, by rw [half_pow]; omega, by have := A.out.1; omega, hones.small A1.out.2.2.2.1⟩
        clear hev hodd hN hpl hones A hbx hnx
        go_wp2_with fail
        refine (cr _).mono ?_
        rintro e wa ⟨rfl, hba⟩
        clear cr
        have hGa := A4.out.1.keep A4.out.2.1 hba
        have hBa : B ≤ wa.heap.size := Nat.le_trans A4.out.2.1 hba.size
        clear hba
        obtain ⟨L, hL⟩ : ∃ L, VAL d (LEAFS f n x) j (2 * (n / 2 ^ (j + 1))) = L := ⟨_, rfl⟩
        obtain ⟨X, hX⟩ : ∃ X, VAL d (LEAFS f n x) j (n / 2 ^ j) = X := ⟨_, rfl⟩
        obtain ⟨Y, hY⟩ : ∃ Y, VAL d (LEAFS f n x) (j + 1) (n / 2 ^ (j + 1)) = Y := ⟨_, rfl⟩
        have hYN : Y = HASHOF d (1 :: ((List.range 32).map L ++ (List.range 32).map X)) := by
          rw [← hY, VAL, hL, ← A4.out.2.2.2.2.2.1, hX]
          rfl
        have hspan := (ONES.span (n := n) (j := j) fun i hi => A4.out.2.2.1 i (by omega))
        have hleft : (2 * (n / 2 ^ (j + 1)) + 1) * 2 ^ j ≤ n := by
          rw [← A4.out.2.2.2.2.2.1]
          have h1 : (n / 2 ^ j + 1) * 2 ^ j = n / 2 ^ j * 2 ^ j + 2 ^ j := by rw [Nat.add_mul, Nat.one_mul]
          have h2 : 0 < 2 ^ j := Nat.two_pow_pos j
          omega
        have hbytes : ∀ k, k < n + 1 → ∀ i, LEAFS f n x k i < 256 := fun k hk i => by
          unfold LEAFS
          split
          · exact A1.out.2.2.1 i
          · exact A1.out.2.1 k (by omega) i
        have hL8 : ∀ i, L i < 256 := fun i => by rw [← hL]; exact VAL_lt hbytes _ _ (by omega) i
        have hX8 : ∀ i, X i < 256 := fun i => by rw [← hX]; exact VAL_lt hbytes _ _ (by omega) i
        have hY8 : ∀ i, Y i < 256 := fun i => by rw [hYN]; exact STATE_lt d _ _ i
        have hsib : SIB (n / 2 ^ j) = 2 * (n / 2 ^ (j + 1)) := by rw [A4.out.2.2.2.2.2.1]; unfold SIB; rw [if_pos (by omega)]; omega
        have hatL : AT Cj log (PLC j (SIB (n / 2 ^ j))) = some L := by rw [hsib, hGa.old j _ hleft, hL]
        have hltL : PLC j (SIB (n / 2 ^ j)) < NODES n + 1 + j := by rw [hsib]; have := PLC_under hleft; omega
        have hheld : Has wa b (UARR .u8 32 X) 30 := by rw [← hX]; exact hGa.held
        have hTa : Tabled wa := ⟨fun i hi => (hGa.below.cell (by show 1 < B; have := A1.out.2.2.2.2.2.1; omega)).trans (A1.out.2.2.2.2.1.1 i hi), fun i hi => (hGa.below.cell (by show 0 < B; have := A1.out.2.2.2.2.2.1; omega)).trans (A1.out.2.2.2.2.1.2.1 i hi), by have := A1.out.2.2.2.2.2.1; omega⟩
        have A5 : Aside (GROWING w wa B g d log n j b C Cj (LEAFS f n x) ∧ B ≤ wa.heap.size ∧ Has wa b (UARR .u8 32 X) 30 ∧ Tabled wa ∧ (∀ i, L i < 256) ∧ (∀ i, X i < 256) ∧ (∀ i, Y i < 256) ∧ Y = HASHOF d (1 :: ((List.range 32).map L ++ (List.range 32).map X)) ∧ AT Cj log (PLC j (SIB (n / 2 ^ j))) = some L ∧ PLC j (SIB (n / 2 ^ j)) < NODES n + 1 + j ∧ VAL d (LEAFS f n x) (j + 1) (n / 2 ^ (j + 1)) = Y) := ⟨hGa, hBa, hheld, hTa, hL8, hX8, hY8, hYN, hatL, hltL, hY⟩
        clear hGa hBa hheld hTa hL8 hX8 hY8 hYN hatL hltL hY hsib hbytes hleft hspan hX hL
        go_upto_region 10 with fail
        refine append_node wa g b (NODES n + j) d L X Y (fun V => Below wa.heap.size wa V) (Below.refl _ _).drew (fun V hV => ?_) (fun V hV => ?_) (fun V hV => ?_) (fun V hV => ?_) (fun _ _ _ _ _ h => h) ?_
        · have h1 := A5.out.2.2.1.keep hV
          exact ⟨(A5.out.1.keep A5.out.2.1 hV).width, h1.whole, h1⟩
        · exact ((A5.out.1.keep A5.out.2.1 hV).off_row A1.out.2.2.2.2.2.2.1 Y).2.1 5 |>.trans (A5.out.1.keep A5.out.2.1 hV).width
        · have h1 := left_ok (A5.out.1.keep A5.out.2.1 hV).store j (n / 2 ^ j) A4.out.2.2.2.1 (by have := A4.out.2.2.2.2.2.2.2; omega) A5.out.2.2.2.2.2.2.2.2.2.1 L A5.out.2.2.2.2.2.2.2.2.1
          rw [A4.out.2.2.2.2.1] at h1
          refine h1.mono ?_
          rintro e V' ⟨rfl, hb⟩
          exact ⟨rfl, hV.trans (hb.mono hV.size)⟩
        · refine (node_ok d L X A5.out.2.2.2.2.1 A5.out.2.2.2.2.2.1 V (A5.out.2.2.2.1.below hV)).mono ?_
          rintro e V' ⟨rfl, hb⟩
          exact ⟨by rw [A5.out.2.2.2.2.2.2.2.1], hV.trans (hb.mono hV.size)⟩
        · intro W3 hW3
          obtain ⟨w0', hw0', hW3⟩ := hW3
          have hGw := A5.out.1.keep A5.out.2.1 hw0'
          have hrow := hGw.off_row A1.out.2.2.2.2.2.2.1 Y
          rw [← hW3] at hrow
          have A6 : Aside (STORE W3 B g log (NODES n + 1 + j) (NODES n + 1 + j) (NODES n + 1 + j) Cj ∧ W3.cell? ⟨g, 5, none⟩ = some (.int .i64 d) ∧ W3.cell? ⟨g, 6, none⟩ = some (.int .u64 ((n + 1 : Nat) : Int)) ∧ Has W3 b (UARR .u8 32 Y) 30 ∧ ¬ FOOT W3 g Cj b ∧ TSTEP w W3 g C Cj ∧ Below B w W3 ∧ b ≠ g ∧ w.heap.size ≤ b) := ⟨hrow.1, (hrow.2.1 5).trans hGw.width, (hrow.2.1 6).trans hGw.size, hrow.2.2.2.1, hrow.2.2.2.2.1, hrow.2.2.2.2.2.1, hrow.2.2.2.2.2.2, hGw.lt.1, hGw.base⟩
          clear hW3 hGw hrow hw0'
          go_upto_region 11 with fail
          refine append_more W3 g b (NODES n + 1 + j) Y (fun V => V = W3.drew) (fun V => PUSHED W3.drew B g log (NODES n + 1 + j) (NODES n + 1 + j) (NODES n + 1 + j) Cj Y V) rfl (fun V e => by rw [e]; exact (show Has W3.drew b _ _ from A6.out.2.2.2.1).whole) (fun V hP => ?_) (fun V e => ?_) (fun _ _ _ _ _ h => h) ?_
          · obtain ⟨C', s1, s2, s3, s4⟩ := hP
            exact (show Has V b (UARR .u8 32 Y) 30 from (s3.same b A6.out.2.2.2.1.lt A6.out.2.2.2.2.2.2.2.1 A6.out.2.2.2.2.1).trans A6.out.2.2.2.1).whole
          · subst e
            have hlt : NODES n < 2 ^ 22 := Nat.lt_trans (NODES_bound (h := 20) A1.out.2.2.2.1) (by decide)
            have h20 := A4.out.2.2.2.2.2.2.2
            exact push_ok (A6.out.1.below (Below.refl _ _).drew) Y A5.out.2.2.2.2.2.2.1 (by omega) (by omega) A1.out.2.2.2.2.2.2.2 (by omega)
          · intro V hP
            have hG : ∃ C', GROWING w V B g d log n (j + 1) b C C' (LEAFS f n x) := growing_pushed (wx := W3.drew) A6.out.2.1 A6.out.2.2.1 A5.out.1.old A5.out.1.new A4.out.2.2.1 A6.out.2.2.2.1 A5.out.2.2.2.2.2.2.2.2.2.2.symm A6.out.2.2.2.2.1 A6.out.2.2.2.2.2.2.2.1 (A6.out.2.2.2.2.2.1.trans (STEP.below A6.out.1 (Below.refl _ _).drew).tree) A6.out.2.2.2.2.2.2.1.drew A6.out.2.2.2.2.2.2.2.2 hP
            clear hP A6
            obtain ⟨C0', hG⟩ := hG
            have hBV : B ≤ V.heap.size := Nat.le_trans A1.out.2.2.2.2.2.2.1 hG.step.size
            have hG2 := hG.moved hBV
            rw [A5.out.2.2.2.2.2.2.2.2.2.2] at hG2
            have hx3 := hG.held
            rw [A5.out.2.2.2.2.2.2.2.2.2.2] at hx3
            have A7 : Aside (GROWING w (V.alloc (.cells (UARR .u8 32 Y) 30)) B g d log n (j + 1) V.heap.size C C0' (LEAFS f n x)) := hG2
            have hst := run_storeCells_new (P := Tryd.prog) V 30 (UARR .u8 32 fun _ => 0) (UARR .u8 32 Y) (info_HASH _) (by rw [UARR_size, UARR_size]) (UARR_one _ _ _)
            have hsu := UARR_size .u8 32 Y
            have en := u64_next (n := NODES n + j) (by have hlt : NODES n < 2 ^ 22 := Nat.lt_trans (NODES_bound (h := 20) A1.out.2.2.2.1) (by decide); have h20 := A4.out.2.2.2.2.2.2.2; omega)
            clear hG hG2 hBV A5
            go_wp2_with (first
              | (refine wpList_load_row rfl 30 (.tmp 8) rfl b rfl 30 (UARR .u8 32 Y) (0, 0) _ hx3 Tryd.underlying30 rfl (info_HASH _) ?_)
              | fail)
            go_roundg r
            case measure => exact Nat.lt_succ_self _
            case rel => exact ⟨j + 1, V.heap.size, C0', by first | rfl | exact congrArg (Value.int IntKind.u64) en, rfl, A4.out.2.2.2.2.2.2.1, A7.out⟩
      · have hev : decide (n / 2 ^ j % 2 = 1) = false := decide_eq_false hodd
        rw [hev] at cr
        have hbx : B ≤ wr.heap.size := Nat.le_trans A1.out.2.2.2.2.2.2.1 A.out.2.step.size
        have FIN : Aside (∀ W', Below wr.heap.size wr W' → APPENDED w B g d log n C f x W') := fun W' hb => (A.out.2.keep hbx hb).done (by omega) A1.out.2.2.2.1 A1.out.2.1 A1.out.2.2.1 A1.out.2.2.2.2.2.2.2
        clear hev hodd hN hpl hones A hbx
        go_wp2_with fail
        refine (cr _).mono ?_
        rintro e W9 ⟨rfl, hb9⟩
        have hfin := FIN.out _ hb9
        clear cr hb9 FIN
        go_wp2_with fail
        go_ret
        exact ⟨rfl, hfin⟩
end Go.Proofs.YtdmbmphdiaepdaaDoor.HX

/- slices.Backward over a list of heights: the heights come from the last to the first. -/
namespace Go.Proofs.YtdmbmphdiaepdaaDoor
open Go.RowKit Go.Shelf

attribute [local go_sem] Oper.semAt_some

/-- what has come when k rounds are over. -/
def UPTO {α : Type} (f : Nat → α) (k : Nat) : List α := (List.range k).map f
theorem UPTO_succ {α : Type} (f : Nat → α) (k : Nat) : UPTO f (k + 1) = UPTO f k ++ [f k] := by simp [UPTO, List.range_succ]
theorem UPTO_length {α : Type} (f : Nat → α) (k : Nat) : (UPTO f k).length = k := by simp [UPTO]

/-- what a round keeps: what lies below n₀, and the list's own box. -/
def KB (n₀ Bs : Nat) (A B : World) : Prop := Below n₀ A B ∧ B.cell? ⟨Bs, 0, none⟩ = A.cell? ⟨Bs, 0, none⟩
theorem KB.t {n₀ Bs : Nat} {A B C : World} (h : KB n₀ Bs A B) (k : KB n₀ Bs B C) : KB n₀ Bs A C := ⟨h.1.trans k.1, k.2.trans h.2⟩
theorem KB.b {n₀ Bs : Nat} {w : World} (hn : n₀ ≤ w.heap.size) (hB : Bs < w.heap.size) (W : World) (l : Nat) (o o' : Obj) (hl : w.heap.size ≤ l) (h : W.heap[l]? = some o) (h1 : o.isCells = false) (h2 : o.isWalk = false) : KB n₀ Bs W (W.putObj l o') :=
  ⟨belowK_b hn W l o o' hl h h1 h2, (belowK_b (Nat.le_refl w.heap.size) W l o o' hl h h1 h2).cell (p := ⟨Bs, 0, none⟩) hB⟩

/-- the pair that comes in round j: the index, and the height there. -/
def BACK (len : Nat) (f : Nat → Fin 64) (j : Nat) : Nat × Fin 64 := (len - 1 - j, f (len - 1 - j))

set_option maxRecDepth 100000 in
set_option maxHeartbeats 2000000 in
theorem backward1_in (F : Fence) (n : Nat) (hF : F.fn 66) (hro : F.round = none) (hn : 1 ≤ n) (l Bs n₀ b len cap : Nat) (f : Nat → Fin 64) (hreach : len ≤ 64) (hb : b < n₀) (J Jx : List (Nat × Fin 64) → World → Prop)
    (hY : ∀ pre x W, J pre W → pre.length < len → YieldAt F (n - 1) Tryd.prog l #[.int .i64 (x.1 : Int), .int .i64 (x.2.val : Int)] W fun e W' =>
      (e = .returned (.bool true) ∧ J (pre ++ [x]) W' ∧ KB n₀ Bs W W') ∨ (e = .returned (.bool false) ∧ Jx (pre ++ [x]) W'))
    (W : World) (hBs : W.cell? ⟨Bs, 0, none⟩ = some (.slice (some ⟨b, 0, none⟩) len cap)) (hc : ∀ j, j < len → W.cell? ⟨b, j, none⟩ = some (.int .i64 ((f j).val : Int))) (h0 : J [] W) :
    CallsIn F n Tryd.prog 66 #[.func (.yield l) #[] #[], .pointer (some ⟨Bs, 0, none⟩)] W fun e W' => (∃ v, e = .returned v) ∧
      ((∃ ys, ys = UPTO (BACK len f) len ∧ J ys W') ∨ (∃ pre, (∃ k, k ≤ len ∧ pre = UPTO (BACK len f) k) ∧ Jx pre W')) := by
  refine callsIn_of_wp Tryd.func66 rfl hF ?_ hro
  simp only [Tryd.ntmps66, List.size_toArray, List.length_cons, List.length_nil, Nat.reduceAdd, Nat.reduceSub, Array.replicate_succ, Array.replicate_zero, List.push_toArray, List.append_toArray, List.nil_append, List.cons_append]
  have e1 : wrap64 ((len : Int) - 1) = (len : Int) - 1 := by unfold wrap64; omega
  gi_wp2
  gi_loopw [3] (fun i wr => ∃ k : Nat, k ≤ len ∧ i = .int .i64 ((len : Int) - 1 - (k : Int)) ∧ J (UPTO (BACK len f) k) wr ∧ KB n₀ Bs W wr)
    (fun i _ => (intOf i + 1).toNat)
  case atStart => exact ⟨0, Nat.zero_le _, by simp, h0, Below.refl _ _, rfl⟩
  case round =>
    obtain ⟨k, hk, rfl, hJs, hnx⟩ := hrel
    by_cases hlt : k < len
    · obtain ⟨j, hj⟩ : ∃ j : Nat, (len : Int) - 1 - (k : Int) = (j : Int) := ⟨len - 1 - k, by omega⟩
      have hjl : j < len := by omega
      have hbk : BACK len f k = (j, f j) := by
        unfold BACK
        rw [show len - 1 - k = j by omega]
      have hcx : wr.cell? ⟨b, j, none⟩ = some (.int .i64 ((f j).val : Int)) := (hnx.1.cell (p := ⟨b, j, none⟩) hb).trans (hc j hjl)
      have hcs : wr.cell? ⟨Bs, 0, none⟩ = some (.slice (some ⟨b, 0, none⟩) len cap) := hnx.2.trans hBs
      obtain ⟨fn, tmps, assign, body, hy, hR⟩ := hY _ (j, f j) wr hJs (by rw [UPTO_length]; exact hlt)
      dsimp only at hy
      rw [hj]
      have e2 : wrap64 ((j : Int) - 1) = (j : Int) - 1 := by unfold wrap64; omega
      have hJ' : Aside ((len : Int) - 1 - (k : Int) = (j : Int)) := hj
      have hjl' : (j : Int) < (len : Int) := by omega
      clear hj
      gi_wp2
      refine hR.mono ?_
      rintro e W3 (⟨rfl, hJ3, hk3⟩ | ⟨rfl, hJx3⟩)
      · gi_wp2
        go_roundw
        case rel => exact ⟨k + 1, by omega, by have := hJ'.out; congr 1; omega, by rw [UPTO_succ, hbk]; exact hJ3, hnx.t hk3⟩
        case measure => simp [intOf]
      · gi_wp2
        refine bodyPost_ret (results_none rfl _ _ _) rfl ?_
        exact ⟨⟨_, rfl⟩, .inr ⟨_, ⟨k + 1, by omega, by rw [UPTO_succ, hbk]⟩, hJx3⟩⟩
    · obtain rfl : k = len := by omega
      rw [show (k : Int) - 1 - (k : Int) = -1 by omega]
      gi_wp2
      go_end0
      exact ⟨⟨_, rfl⟩, .inl ⟨_, rfl, hJs⟩⟩

set_option maxHeartbeats 1000000 in
theorem backward_in (F : Fence) (n : Nat) (hF : F.fn 52) (hro : F.round = none) (a : Option Addr) (len cap : Nat) (w : World) :
    CallsIn F n Tryd.prog 52 #[.slice a len cap] w fun e w' => e = .returned (.func (.func 66) #[] #[.pointer (some ⟨w.heap.size, 0, none⟩)]) ∧ w' = w.alloc (.cells #[.slice a len cap] 93) := by
  refine callsIn_of_wp Tryd.func52 rfl hF ?_ hro
  simp only [Tryd.ntmps52, List.size_toArray, List.length_cons, List.length_nil, Nat.reduceAdd, Nat.reduceSub, Array.replicate_succ, Array.replicate_zero, List.push_toArray, List.append_toArray, List.nil_append, List.cons_append]
  gi_wp2
  go_ret
  exact ⟨rfl, rfl⟩

theorem backward_stops (F : Fence) (n : Nat) (hF : F.fn 66) (hro : F.round = none) (hn : 1 ≤ n) (Bs n₀ b len cap : Nat) (f : Nat → Fin 64) (hreach : len ≤ 64) (hb : b < n₀) (w : World) (hBs : Bs < w.heap.size) (hn₀ : n₀ ≤ w.heap.size)
    (hc : w.cell? ⟨Bs, 0, none⟩ = some (.slice (some ⟨b, 0, none⟩) len cap)) (hI : ∀ j, j < len → w.cell? ⟨b, j, none⟩ = some (.int .i64 ((f j).val : Int))) :
    SeqStopsK F n Tryd.prog 66 #[.pointer (some ⟨Bs, 0, none⟩)] (fun x : Nat × Fin 64 => #[Value.int .i64 (x.1 : Int), Value.int .i64 (x.2.val : Int)]) (KB n₀ Bs) (fun ys => ys = UPTO (BACK len f) len)
      (fun pre => ∃ k, k ≤ len ∧ pre = UPTO (BACK len f) k) len w := fun l J Jx W hW _ _ hY h0 =>
  backward1_in F n hF hro hn l Bs n₀ b len cap f hreach hb J Jx hY W ((hW.cell (p := ⟨Bs, 0, none⟩) hBs).trans hc) (fun j hj => (hW.cell (p := ⟨b, j, none⟩) (by show b < _; omega)).trans (hI j hj)) h0
end Go.Proofs.YtdmbmphdiaepdaaDoor

/- What Peaks answers: the places of the peaks, in a list of its own. -/
namespace Go.Proofs.YtdmbmphdiaepdaaDoor
open Go.RowKit Go.Shelf

attribute [local go_sem] Oper.semAt_some

/-- numbers as cells. -/
def UCELLS (l : List Nat) : List Value := l.map fun (x : Nat) => Value.int .u64 (x : Int)
theorem UCELLS_snoc (l : List Nat) (x : Nat) : UCELLS (l ++ [x]) = UCELLS l ++ [.int .u64 (x : Int)] := by simp [UCELLS]
theorem UCELLS_length (l : List Nat) : (UCELLS l).length = l.length := by simp [UCELLS]
theorem info_u64 : (Tryd.prog.info? 26).map (fun i => (i.zero, i.size, i.bytes)) = some (some (.int .u64 0), 1, 8) := by kernel_rfl
theorem make_u64 (n : Nat) (hn : n ≤ 64) (w : World) : ∃ cur : Array Value, cur.size = n ∧ (Instr.makeSlice 74 (.int .i64 0) (.int .i64 (n : Int))).run Tryd.prog w = .ok (.slice (some ⟨w.heap.size, 0, none⟩) 0 n) (w.alloc (.cells cur 26)) := by
  obtain ⟨i, hi, hz, hs1, hby⟩ := info_parts info_u64
  have h := run_make (P := Tryd.prog) w 74 26 i (.int .u64 0) Tryd.underlying74 hi hz .i64 .i64 0 n (by omega) (by omega) (by rw [hby]; omega) (by omega)
  refine ⟨_, ?_, h⟩
  rw [size_madeCells, hs1]
  omega
/-- the heights that have come. -/
def HTS (pre : List (Nat × Fin 64)) : List Nat := pre.map fun x => x.2.val
theorem HTS_snoc (pre : List (Nat × Fin 64)) (x : Nat × Fin 64) : HTS (pre ++ [x]) = HTS pre ++ [x.2.val] := by simp [HTS]
theorem ST_length (l : List Nat) : (ST l).2.length = l.length := by
  have key : ∀ (l : List Nat) (s : Nat × List Nat), (l.foldl (fun s h => ((s.1 + TREE h) % 2 ^ 64, s.2 ++ [((s.1 + TREE h) % 2 ^ 64 + (2 ^ 64 - 1)) % 2 ^ 64])) s).2.length = s.2.length + l.length := by
    intro l
    induction l with
    | nil => intro s; simp
    | cons h l ih =>
      intro s
      rw [List.foldl_cons, ih]
      simp
      omega
  have := key l (0, [])
  simpa [ST] using this
theorem ST_lt (l : List Nat) : (ST l).1 < 2 ^ 64 := by
  rcases List.eq_nil_or_concat l with rfl | ⟨i, x, rfl⟩
  · simp [ST]
  · rw [List.concat_eq_append, ST_snoc]
    exact Nat.mod_lt _ (by decide)
theorem HTS_back (X : Nat) (f : Nat → Fin 64) (hf : ∀ j, j < POP X → (f j).val = PLACE X j) : HTS (UPTO (BACK (POP X) f) (POP X)) = (PLACES X).reverse := by
  apply List.ext_getElem?
  intro j
  by_cases hj : j < POP X
  · rw [List.getElem?_reverse (by rw [PLACES_length]; exact hj), PLACES_length, PLACE_at (by omega), ← hf _ (by omega)]
    simp [HTS, UPTO, BACK, hj]
  · rw [List.getElem?_eq_none (by simp [HTS, UPTO]; omega), List.getElem?_eq_none (by rw [List.length_reverse, PLACES_length]; omega)]

theorem peaks_not (n : Int) (hn : 4611686018427387904 < n) (w : World) : Calls Tryd.prog 36 #[.int .u64 n] w fun e w' => e = .returned (.slice none 0 0) ∧ w = w' := by
  go_enter Tryd.func36, Tryd.ntmps36
  go_wp2
  go_ret
  exact ⟨rfl, rfl⟩

theorem own_mono {w : World} {base base' : Nat} {t : TypeId} {s : Nat} {v : Value} {n : Nat} {xs : List Value} (h : w.ownsRow base t s v n xs) (hb : base' ≤ base) : w.ownsRow base' t s v n xs :=
  ⟨h.1, h.2.imp id fun ⟨g, c, cur, a, b, r⟩ => ⟨g, c, cur, a, Nat.le_trans hb b, r⟩⟩
set_option maxRecDepth 100000 in
set_option maxHeartbeats 2000000 in
theorem peaks_ok (X : Nat) (hX : X ≤ 4611686018427387904) (w : World) (hT : Tabled w) (h0 : 0 < w.heap.size) : Calls Tryd.prog 36 #[.int .u64 (X : Int)] w fun e w' =>
    ∃ g cap, e = .returned (.slice (some ⟨g, 0, none⟩) (PC X) cap) ∧ w'.ownsRow w.heap.size 26 1 (.slice (some ⟨g, 0, none⟩) (PC X) cap) (PC X) (UCELLS (PEAKS X)) ∧ Below w.heap.size w w' := by
  obtain ⟨i0, hi, hz0, hz1, hz2⟩ := info_parts info_u64
  have cb := bits_ok X (by omega) w hT h0
  have hle := POP_le X
  obtain ⟨f, hf⟩ : ∃ f : Nat → Fin 64, ∀ j, j < POP X → (f j).val = PLACE X j := ⟨fun j => if h : j < POP X then ⟨PLACE X j, by have := PLACE_le h; omega⟩ else 0, fun j hj => by simp [hj]⟩
  have hba := HTS_back X f hf
  have hplc := fun (w' : World) (base g n cap : Nat) (h : w'.ownsRow base 3 1 (.slice (some ⟨g, 0, none⟩) n cap) n (ICELLS (PLACES X))) => places_at h
  have hpc : POP X = PC X := POP_PC (by omega)
  generalize POP X = p at *
  obtain ⟨L, hL⟩ : ∃ L, ICELLS (PLACES X) = L := ⟨_, rfl⟩
  simp only [hL] at hplc cb
  have HA : Aside (HTS (UPTO (BACK p f) p) = (PLACES X).reverse ∧ p = PC X ∧ X ≤ 4611686018427387904) := ⟨hba, hpc, hX⟩
  clear hba hpc hX hL hT h0
  have hd : ¬ (4611686018427387904 : Int) < (X : Int) := by have := HA.out.2.2; omega
  refine (callsIn_wide (n := 5)).1 ?_
  refine callsIn_of_wp_marks Tryd.func36 rfl trivial ?_ rfl
  simp only [Tryd.ntmps36, List.size_toArray, List.length_cons, List.length_nil, Nat.reduceAdd, Nat.reduceSub, Array.replicate_succ, Array.replicate_zero, List.push_toArray, List.append_toArray, List.nil_append, List.cons_append]
  gi_wp2_with fail
  refine ⟨trivial, (callsIn_wide.2 cb).mono ?_⟩
  rintro e w1 ⟨g, cap, rfl, hrow, hg, hb⟩
  clear cb
  obtain ⟨cur, hcs, hmk⟩ := make_u64 p hle w1
  gi_wp2_with fail
  refine ⟨trivial, (backward_in Fence.wide 4 trivial rfl _ _ _ _).mono ?_⟩
  rintro e w2 ⟨rfl, rfl⟩
  obtain ⟨s1, hs1⟩ : ∃ s1, w1.heap.size = s1 := ⟨_, rfl⟩
  have bO := Boxed.new (w1.alloc (.cells cur 26)) 74 (.slice (some ⟨w1.heap.size, 0, none⟩) 0 p)
  have bM := Boxed.new ((w1.alloc (.cells cur 26)).alloc (.cells #[.slice (some ⟨w1.heap.size, 0, none⟩) 0 p] 74)) 26 (.int .u64 0)
  have bN := Boxed.new (((w1.alloc (.cells cur 26)).alloc (.cells #[.slice (some ⟨w1.heap.size, 0, none⟩) 0 p] 74)).alloc (.cells #[.int .u64 0] 26)) 93 (.slice (some ⟨g, 0, none⟩) p cap)
  have hr0 : (w1.alloc (.cells cur 26)).ownsRow s1 26 1 (.slice (some ⟨s1, 0, none⟩) 0 p) 0 [] := by
    rw [← hs1]
    exact World.ownsRow_made w1 cur p (Nat.le_refl _) (by simp only [maxLen]; omega) (by rw [hcs]; omega)
  simp only [World.size_alloc, hs1] at bO bM bN ⊢
  have bO := (bO.alloc (.cells #[.int .u64 0] 26)).alloc (.cells #[.slice (some ⟨g, 0, none⟩) p cap] 93)
  have bM := bM.alloc (.cells #[.slice (some ⟨g, 0, none⟩) p cap] 93)
  have hr0 := ((hr0.alloc (.cells #[.slice (some ⟨s1, 0, none⟩) 0 p] 74)).alloc (.cells #[.int .u64 0] 26)).alloc (.cells #[.slice (some ⟨g, 0, none⟩) p cap] 93)
  have hB1 : Below s1 w1 ((((w1.alloc (.cells cur 26)).alloc (.cells #[.slice (some ⟨s1, 0, none⟩) 0 p] 74)).alloc (.cells #[.int .u64 0] 26)).alloc (.cells #[.slice (some ⟨g, 0, none⟩) p cap] 93)) :=
    ((((Below.refl _ w1).alloc (by omega) _).alloc (by simp; omega) _).alloc (by simp; omega) _).alloc (by simp; omega) _
  have hgs : g < s1 := by omega
  have hcg : ∀ j, j < p → w1.cell? ⟨g, j, none⟩ = some (.int .i64 ((f j).val : Int)) := fun j hj => by rw [hf j hj]; exact hplc _ _ _ _ _ hrow j hj
  have hsz : ((((w1.alloc (.cells cur 26)).alloc (.cells #[.slice (some ⟨s1, 0, none⟩) 0 p] 74)).alloc (.cells #[.int .u64 0] 26)).alloc (.cells #[.slice (some ⟨g, 0, none⟩) p cap] 93)).heap.size = s1 + 4 := by simp; omega
  obtain ⟨W0, hW0⟩ : ∃ W0, ((((w1.alloc (.cells cur 26)).alloc (.cells #[.slice (some ⟨s1, 0, none⟩) 0 p] 74)).alloc (.cells #[.int .u64 0] 26)).alloc (.cells #[.slice (some ⟨g, 0, none⟩) p cap] 93)) = W0 := ⟨_, rfl⟩
  rw [hW0] at bO bM bN hr0 hB1 hsz ⊢
  have hbw : Below w.heap.size w W0 := hb.trans (hB1.mono (by have := hb.size; omega))
  clear hW0
  gi_wp2_with fail
  refine wpIn_rangeFunc_ownG rfl (by omega) (gf := 66) (lb := #[.pointer (some ⟨s1 + 1 + 1 + 1, 0, none⟩)]) rfl trivial (enters_of Tryd.func66 (by kernel_rfl) rfl)
    (backward_stops Fence.wide (5 - 1) trivial rfl (by omega) (s1 + 1 + 1 + 1) s1 g p cap f hle hgs W0 (by omega) (by omega) bN.cell (fun j hj => (hB1.cell (p := ⟨g, j, none⟩) hgs).trans (hcg j hj)))
    KB.t (KB.b (by omega) (by omega)) (Below.refl _ _) (fun _ => rfl)
    (fun pre W => ((∃ v, Boxed W (s1 + 1) 74 v ∧ W.ownsRow s1 26 1 v pre.length (UCELLS (ST (HTS pre)).2) ∧ v = .slice (some ⟨s1, 0, none⟩) pre.length p) ∧ Boxed W (s1 + 1 + 1) 26 (.int .u64 ((ST (HTS pre)).1 : Int)) ∧ Boxed W (s1 + 1 + 1 + 1) 93 (.slice (some ⟨g, 0, none⟩) p cap)) ∧ Below w.heap.size w W)
    (fun _ _ _ => False)
    (OwnFrom.and (OwnFrom.and (Own.from (holdsRow_own s1 (s1 + 1) 74 26 1 (fun pre => pre.length) (fun pre => UCELLS (ST (HTS pre)).2) (fun pre v => v = .slice (some ⟨s1, 0, none⟩) pre.length p)) _) (OwnFrom.and (Own.from (boxed_own _ _ _) _) (Own.from (boxed_own _ _ _) _))) (ownFrom_below (Nat.le_refl _) (by have := hb.size; omega)))
    (fun _ _ _ _ _ hs _ _ => hs)
    ⟨⟨⟨_, bO, hr0, rfl⟩, bM, bN⟩, hbw⟩
    (fun x => { tmps := #[.int .u64 (X : Int), undef, .slice none 0 0, .slice (some ⟨g, 0, none⟩) p cap, .pointer (some ⟨s1 + 1, 0, none⟩), .pointer (some ⟨s1 + 1 + 1, 0, none⟩), undef, .int .i64 (x.2.val : Int), .int .u64 (X : Int), .bool false, .int .u64 (X : Int), .slice (some ⟨g, 0, none⟩) p cap, .slice (some ⟨g, 0, none⟩) p cap, .int .i64 (p : Int), .slice (some ⟨s1, 0, none⟩) 0 p, .slice (some ⟨g, 0, none⟩) p cap, .func (.func 66) #[] #[.pointer (some ⟨s1 + 1 + 1 + 1, 0, none⟩)], .int .i64 (x.1 : Int), .int .i64 (x.2.val : Int), undef, undef, undef, undef, undef, undef, undef, undef, undef, undef], defers := [] }) ?assign ?body ?done ?stop
  case assign =>
    intro l x W K hK
    gi_wp2
    exact hK
  case body =>
    rintro l pre x W ⟨⟨⟨v, bO, hrow, rfl⟩, bM, bN⟩, hB⟩ hlt
    have hsn := ST_snoc (HTS pre) x.2.val
    have hml := ST_lt (HTS pre)
    have hsl := ST_length (HTS pre)
    rw [show (HTS pre).length = pre.length by simp [HTS]] at hsl
    obtain ⟨m, hm⟩ : ∃ m, (ST (HTS pre)).1 = m := ⟨_, rfl⟩
    obtain ⟨ls, hls⟩ : ∃ ls, (ST (HTS pre)).2 = ls := ⟨_, rfl⟩
    have ct := fun w => tree_ok x.2.val (by omega) w
    obtain ⟨t, ht⟩ : ∃ t, TREE x.2.val = t := ⟨_, rfl⟩
    rw [hm, hls, ht] at hsn
    rw [hm] at hml bM
    rw [hls] at hsl hrow
    rw [ht] at ct
    obtain ⟨m2, hm2⟩ : ∃ m2, (m + t) % 2 ^ 64 = m2 := ⟨_, rfl⟩
    obtain ⟨q, hq⟩ : ∃ q, (m2 + (2 ^ 64 - 1)) % 2 ^ 64 = q := ⟨_, rfl⟩
    rw [hm2, hq] at hsn
    have e1 : IntKind.u64.wrap ((m : Int) + (t : Int)) = (m2 : Int) := by rw [wrapU]; omega
    have e2 : IntKind.u64.wrap ((m2 : Int) - 1) = (q : Int) := by rw [wrapU]; omega
    have R : Aside (ST (HTS (pre ++ [x])) = (m2, ls ++ [q]) ∧ ls.length = pre.length ∧ pre.length < p) := ⟨by rw [HTS_snoc]; exact hsn, hsl, hlt⟩
    clear hsn hml hsl hlt hm hls ht hm2 hq
    have hc4 := bO.cell
    have hc5 := bM.cell
    have hf5 := bM.frozen
    have hmx : Tryd.prog.follows .mixedOrders = true := by kernel_rfl
    clear hplc hf hcg hz0 hz2
    have hsW : s1 + 4 ≤ W.heap.size := by have := bN.lt; omega
    obtain ⟨W5, hW5⟩ : ∃ W5, (W.setCell ⟨s1 + 1 + 1, 0, none⟩ (.int .u64 (m2 : Int))).drew = W5 := ⟨_, rfl⟩
    have bO5 : Boxed W5 (s1 + 1) 74 (.slice (some ⟨s1, 0, none⟩) pre.length p) := by rw [← hW5]; exact bO.other (by omega) _
    have bM5 : Boxed W5 (s1 + 1 + 1) 26 (.int .u64 (m2 : Int)) := by rw [← hW5]; exact bM.set _
    have bN5 : Boxed W5 (s1 + 1 + 1 + 1) 93 (.slice (some ⟨g, 0, none⟩) p cap) := by rw [← hW5]; exact bN.other (by omega) _
    have hrow5 : W5.ownsRow s1 26 1 (.slice (some ⟨s1, 0, none⟩) pre.length p) pre.length (UCELLS ls) := by rw [← hW5]; exact (hrow.kept (grownBy_setCell' W (s1 + 1 + 1) (.int .u64 (m2 : Int))) (.inr (by simp [Value.ownBlock]; omega))).drew
    have hk5 : KeepsOthers W W5 := by rw [← hW5]; exact (KeepsOthers.setCell _ _ _).trans (KeepsOthers.drew _)
    have hb5 : Below s1 W W5 := by rw [← hW5]; exact ((Below.refl s1 W).setCell (p := ⟨s1 + 1 + 1, 0, none⟩) (by show s1 ≤ s1 + 1 + 1; omega) _).drew
    have hs5 : s1 + 4 ≤ W5.heap.size := by have := bN5.lt; omega
    have hcN : W.cell? ⟨s1 + 1 + 1 + 1, 0, none⟩ = some (.slice (some ⟨g, 0, none⟩) p cap) := bN.cell
    gi_wp2
    gi_region_with_o (refine ⟨trivial, ?_⟩; gi_at_call 44; refine (CallsIn.inRound l (callsIn_wide.2 (ct _))).mono ?_; rintro e w' ⟨rfl, rfl⟩)
    all_goals clear hc4 hc5 hf5 bO bM bN hrow ct
    all_goals have hc4 := bO5.cell
    all_goals have hc5 := bM5.cell
    all_goals gi_wp2_with (gi_at_builtin; refine wpListIn_append_fits _ rfl _ _ 74 rfl s1 26 i0 1 Tryd.underlying74 hi hz1 s1 pre.length p (UCELLS ls) rfl (hrow5.alloc _) ⟨W5.heap.size, 0, none⟩ 1 1 [.int .u64 (q : Int)] rfl rfl (cell_one_new _ _ _) (by simp [Value.oneCell']) (by have := R.out.2.2; omega) ?_; intro w1' hown' hgrow; obtain ⟨hv1, hv2, hr2, hk2, hb2⟩ := bO5.appended (by decide) hrow5 (by omega) (by omega) hown' hgrow; have hc1 := hv1.cell; have hf1 := hv1.frozen)
    all_goals have bN6 := ((bN5.alloc (.cells #[.int .u64 (q : Int)] 26)).kept hgrow (by simp; omega)).other (B' := s1 + 1) (by omega) (.slice (some ⟨s1, 0, none⟩) (pre.length + 1) p)
    all_goals have bM6 := ((bM5.alloc (.cells #[.int .u64 (q : Int)] 26)).kept hgrow (by simp; omega)).other (B' := s1 + 1) (by omega) (.slice (some ⟨s1, 0, none⟩) (pre.length + 1) p)
    all_goals obtain ⟨r1, r2, r3⟩ := R.out
    all_goals refine ⟨(hk5.trans hk2).from _, ⟨hb5.trans hb2, bN6.cell.trans hcN.symm⟩, ⟨⟨_, hv2, ?_, by simp⟩, ?_, bN6⟩, hB.trans ((hb5.trans hb2).mono (by have := hb.size; omega))⟩
    all_goals rw [r1]
    all_goals first | exact bM6 | (rw [UCELLS_snoc, List.length_append]; exact hr2)
  case done =>
    rintro D ys W hD hys ⟨⟨⟨v, bO, hrow, rfl⟩, bM, bN⟩, hB⟩ hK
    have hc := bO.cell
    gi_wp2
    refine ⟨by simp, .inl ⟨_, _, rfl, run_takeDeferred hK, ?_⟩⟩
    have hys' : ys = UPTO (BACK p f) p := hys
    subst hys'
    obtain ⟨a1, a2, a3⟩ := HA.out
    have hl : (UPTO (BACK p f) p).length = p := UPTO_length _ _
    rw [hl, a1, ← HS_zero, ST_all a3] at hrow
    refine ⟨_, results_tmp rfl _ _ _, s1, p, ?_, ?_, hB.trans (belowK_b (w := w) (Nat.le_refl _) W D _ _ (by have := hb.size; omega) hK rfl rfl)⟩
    · rw [← a2, hl]
      rfl
    · rw [← a2]
      exact ownsRow_putObj (own_mono hrow (by have := hb.size; omega)) _ hK rfl
  case stop =>
    rintro D c pre W _ _ h _
    exact h.elim
end Go.Proofs.YtdmbmphdiaepdaaDoor
