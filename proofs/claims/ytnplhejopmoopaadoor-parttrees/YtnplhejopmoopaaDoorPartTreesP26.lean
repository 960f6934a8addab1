/- Texts of PartTrees, one behind the other: MmrAppendPlain, MmrAppend, MmrFoldRegion, MmrBag, StoreHashList, MmrPeaks, MmrOldCalls, MmrAwakeRegion, MmrAwake, MmrOldState, PartPairs. -/
import Derived.Great.BuildSlice
import Derived.Test.YtnplhejopmoopaaDoorPartTreesP25
/- What lies in memory while a leaf is appended. -/
namespace Go.Proofs.YtnplhejopmoopaaDoor.HX
open Go.RowKit
set_option maxRecDepth 100000

/-- the leaf and j nodes above it have been pushed; the last one's hash lies at b. -/
structure GROWING (w wx : World) (B g : Nat) (d : Int) (log n j b : Nat) (C Cj : CHUNKS) (f : Nat → Nat → Nat) : Prop where
  store : STORE wx B g log (NODES n + 1 + j) (NODES n + 1 + j) (NODES n + 1 + j) Cj
  width : wx.cell? ⟨g, 5, none⟩ = some (.int .i64 d)
  size : wx.cell? ⟨g, 6, none⟩ = some (.int .u64 ((n + 1 : Nat) : Int))
  free : wx.frozen? ⟨g, 6, none⟩ = false
  old : ∀ h k, (k + 1) * 2 ^ h ≤ n → AT Cj log (PLC h k) = some (VAL d f h k)
  new : ∀ i, i ≤ j → AT Cj log (NODES n + i) = some (VAL d f i (n / 2 ^ i))
  ones : ONES n j
  held : Has wx b (UARR .u8 32 (VAL d f j (n / 2 ^ j))) 27
  off : ¬ FOOT wx g Cj b
  step : TSTEP w wx g C Cj
  below : Below B w wx
  base : w.heap.size ≤ b
theorem GROWING.lt {w wx : World} {B g : Nat} {d : Int} {log n j b : Nat} {C Cj : CHUNKS} {f : Nat → Nat → Nat} (h : GROWING w wx B g d log n j b C Cj f) : b ≠ g ∧ b < wx.heap.size ∧ g < wx.heap.size := by
  refine ⟨fun e => ?_, h.held.lt, h.store.lt⟩
  obtain ⟨cs, t, fr, k1, _, _, k4⟩ := h.store.kind
  have h1 := h.held
  unfold Has at h1
  rw [e, k1] at h1
  cases Option.some.inj h1
  exact k4 rfl
/-- only new memory. -/
theorem GROWING.keep {w wx w' : World} {B g : Nat} {d : Int} {log n j b : Nat} {C Cj : CHUNKS} {f : Nat → Nat → Nat} (h : GROWING w wx B g d log n j b C Cj f) (hBx : B ≤ wx.heap.size) (hb : Below wx.heap.size wx w') : GROWING w w' B g d log n j b C Cj f := by
  have hg := h.store.lt
  have hst := STEP.below h.store hb
  refine ⟨h.store.below hb, (hb.cell (p := ⟨g, 5, none⟩) hg).trans h.width, (hb.cell (p := ⟨g, 6, none⟩) hg).trans h.size, (World.frozen?_of_block (w := wx) (by exact hb.block g hg)).trans h.free, h.old, h.new, h.ones, h.held.keep hb, fun hf => ?_, h.step.trans hst.tree, h.below.trans (hb.mono hBx), h.base⟩
  rcases hst.foot b hf with h1 | h1
  · exact h.off h1
  · have := h.lt.2.1
    omega
/-- the held hash lies elsewhere now. -/
theorem GROWING.moved {w wx : World} {B g : Nat} {d : Int} {log n j b : Nat} {C Cj : CHUNKS} {f : Nat → Nat → Nat} (h : GROWING w wx B g d log n j b C Cj f) (hBx : B ≤ wx.heap.size) :
    GROWING w (wx.alloc (.cells (UARR .u8 32 (VAL d f j (n / 2 ^ j))) 27)) B g d log n j wx.heap.size C Cj f := by
  have hk := h.keep hBx ((Below.refl _ _).alloc (Nat.le_refl _) (.cells (UARR .u8 32 (VAL d f j (n / 2 ^ j))) 27))
  refine ⟨hk.store, hk.width, hk.size, hk.free, hk.old, hk.new, hk.ones, Has.new _ _ _, fun hf => ?_, hk.step, hk.below, h.step.size⟩
  exact absurd (h.store.foot_lt (h.store.foot_below ((Below.refl wx.heap.size wx).alloc (Nat.le_refl _) _) hf)) (Nat.lt_irrefl _)
/-- the held hash is written over: the next node's. -/
theorem GROWING.off_row {w wx : World} {B g : Nat} {d : Int} {log n j b : Nat} {C Cj : CHUNKS} {f : Nat → Nat → Nat} (h : GROWING w wx B g d log n j b C Cj f) (hBw : B ≤ w.heap.size) (y : Nat → Nat) :
    STORE (wx.setRow b (UARR .u8 32 y)) B g log (NODES n + 1 + j) (NODES n + 1 + j) (NODES n + 1 + j) Cj ∧ (∀ i, (wx.setRow b (UARR .u8 32 y)).cell? ⟨g, i, none⟩ = wx.cell? ⟨g, i, none⟩) ∧ (wx.setRow b (UARR .u8 32 y)).frozen? ⟨g, 6, none⟩ = false ∧ Has (wx.setRow b (UARR .u8 32 y)) b (UARR .u8 32 y) 27 ∧ ¬ FOOT (wx.setRow b (UARR .u8 32 y)) g Cj b ∧ TSTEP w (wx.setRow b (UARR .u8 32 y)) g C Cj ∧ Below B w (wx.setRow b (UARR .u8 32 y)) := by
  have hblk : ∀ x, x ≠ b → (wx.setRow b (UARR .u8 32 y)).heap[x]? = wx.heap[x]? := fun x hx => setRow_other wx b x _ hx
  have hsz : (wx.setRow b (UARR .u8 32 y)).heap.size = wx.heap.size := by simp
  obtain ⟨hbg, hbl, hgl⟩ := h.lt
  obtain ⟨s1, s2, s3⟩ := h.store.same (b := b) (fun x _ hx => hblk x hx) h.off (fun e => hbg e.symm)
  refine ⟨s1, s3, (World.frozen?_of_block (w := wx) (by exact hblk g (fun e => hbg e.symm))).trans h.free, h.held.row _, fun hf => h.off (s2 b hf), ⟨fun x hx => h.step.foot x (s2 x hx), fun x hx hxg hf => ?_, by rw [hsz]; exact h.step.size, (s3 4).trans h.step.pin⟩, below_row h.below (Nat.le_trans hBw h.base) _⟩
  have hxb : x ≠ b := fun e => by have := h.base; omega
  exact (hblk x hxb).trans (h.step.same x hx hxg hf)
/-- the next node is pushed. -/
theorem growing_pushed {w wx w' : World} {B g : Nat} {d : Int} {log n j b : Nat} {C Cj : CHUNKS} {f : Nat → Nat → Nat} {y : Nat → Nat}
    (hw5 : wx.cell? ⟨g, 5, none⟩ = some (.int .i64 d)) (hw6 : wx.cell? ⟨g, 6, none⟩ = some (.int .u64 ((n + 1 : Nat) : Int)))
    (hold : ∀ h k, (k + 1) * 2 ^ h ≤ n → AT Cj log (PLC h k) = some (VAL d f h k)) (hnew : ∀ i, i ≤ j → AT Cj log (NODES n + i) = some (VAL d f i (n / 2 ^ i))) (hones : ONES n (j + 1))
    (hheld : Has wx b (UARR .u8 32 y) 27) (hy : y = VAL d f (j + 1) (n / 2 ^ (j + 1))) (hoff : ¬ FOOT wx g Cj b) (hbg : b ≠ g) (hstep : TSTEP w wx g C Cj) (hbel : Below B w wx) (hbase : w.heap.size ≤ b)
    (hP : PUSHED wx B g log (NODES n + 1 + j) (NODES n + 1 + j) (NODES n + 1 + j) Cj y w') : ∃ C', GROWING w w' B g d log n (j + 1) b C C' f := by
  obtain ⟨C', s1, s2, s3, s4⟩ := hP
  have hbl := hheld.lt
  refine ⟨C', ⟨s1, (s3.pins 5 (by decide)).trans hw5, (s3.pins 6 (by decide)).trans hw6, s1.live 6 (by decide), fun h k hk => ?_, fun i hi => ?_, hones, ?_, fun hf => ?_, hstep.trans s3.tree, hbel.trans s4, hbase⟩⟩
  · rw [s2, if_neg ?_]
    · exact hold h k hk
    · have h1 := PLC_under hk
      omega
  · by_cases e : i = j + 1
    · subst e
      rw [s2, if_pos (by omega), hy]
    · rw [s2, if_neg (by omega)]
      exact hnew i (by omega)
  · rw [← hy]
    exact (s3.same b hbl hbg hoff).trans hheld
  · rcases s3.foot b hf with h1 | h1
    · exact hoff h1
    · omega
end Go.Proofs.YtnplhejopmoopaaDoor.HX

/- Append of package mmr. -/
namespace Go.Proofs.YtnplhejopmoopaaDoor.HX
open Go.RowKit
set_option maxRecDepth 100000

/-- what an append leaves. -/
def APPENDED (w : World) (B g : Nat) (d : Int) (log n : Nat) (C : CHUNKS) (f : Nat → Nat → Nat) (x : Nat → Nat) (w' : World) : Prop := ∃ C', FOREST w' B g d log (n + 1) C' (LEAFS f n x) ∧ TSTEP w w' g C C' ∧ Below B w w'
theorem u64_next {n : Nat} (h : n < 2 ^ 40) : IntKind.u64.wrap ((n : Int) + 1) = ((n + 1 : Nat) : Int) := by
  simp [IntKind.wrap, IntKind.signed, IntKind.bits]
  omega
theorem ONES.small {n j : Nat} (h : ONES n j) (hn : n < 2 ^ 20) : j ≤ 20 := by
  rcases Nat.lt_or_ge 20 j with h1 | h1
  · have h2 := h.span
    have h3 : 2 ^ 21 ≤ 2 ^ j := Nat.pow_le_pow_right (by decide) h1
    have h4 : 1 * 2 ^ j ≤ (n / 2 ^ j + 1) * 2 ^ j := Nat.mul_le_mul_right _ (Nat.le_add_left 1 _)
    generalize n / 2 ^ j = q at *
    omega
  · exact h1
theorem ONES.node {n j : Nat} (h : ONES n j) (hn : n < 2 ^ 20) : Node j (n / 2 ^ j) := by
  have hj := h.small hn
  refine ⟨by omega, Nat.lt_of_le_of_lt (Nat.div_le_self _ _) (Nat.lt_of_lt_of_le hn (Nat.pow_le_pow_right (by decide) (by omega)))⟩
theorem growing_first {w W1 W : World} {B g : Nat} {d : Int} {log n b : Nat} {C : CHUNKS} {f : Nat → Nat → Nat} {x : Nat → Nat} (hnode : ∀ h k, (k + 1) * 2 ^ h ≤ n → AT C log (PLC h k) = some (VAL d f h k)) (hw5 : W1.cell? ⟨g, 5, none⟩ = some (.int .i64 d)) (hw6 : W1.cell? ⟨g, 6, none⟩ = some (.int .u64 ((n + 1 : Nat) : Int)))
    (hheld : Has W1 b (UARR .u8 32 x) 27) (hoff : ¬ FOOT W1 g C b) (hbg : b ≠ g) (hstep : TSTEP w W1 g C C) (hbel : Below B w W1) (hbase : w.heap.size ≤ b)
    (hP : PUSHED W1 B g log (NODES n) (NODES n) (NODES n) C x W) : ∃ C', GROWING w W B g d log n 0 b C C' (LEAFS f n x) := by
  obtain ⟨C', s1, s2, s3, s4⟩ := hP
  have hbl := hheld.lt
  have hx : VAL d (LEAFS f n x) 0 (n / 2 ^ 0) = x := by rw [Nat.pow_zero, Nat.div_one]; exact LEAFS_at f n x
  refine ⟨C', ⟨s1, (s3.pins 5 (by decide)).trans hw5, (s3.pins 6 (by decide)).trans hw6, s1.live 6 (by decide), fun h k hk => ?_, fun i hi => ?_, fun i hi => by omega, ?_, fun hf => ?_, hstep.trans s3.tree, hbel.trans s4, hbase⟩⟩
  · have h1 := PLC_under hk
    rw [s2, if_neg (by omega), hnode h k hk, VAL_congr (fun k hk => (LEAFS_old f n x hk).symm) h k hk]
  · obtain rfl : i = 0 := by omega
    rw [s2, if_pos (Nat.add_zero _), hx]
  · rw [hx]
    exact (s3.same b hbl hbg hoff).trans hheld
  · rcases s3.foot b hf with h1 | h1
    · exact hoff h1
    · omega
theorem GROWING.done {w wx : World} {B g : Nat} {d : Int} {log n j b : Nat} {C Cj : CHUNKS} {f : Nat → Nat → Nat} {x : Nat → Nat} (h : GROWING w wx B g d log n j b C Cj (LEAFS f n x)) (he : n / 2 ^ j % 2 = 0) (hn : n < 2 ^ 20) (hbyte : ∀ k, k < n → ∀ i, f k i < 256) (h8 : ∀ i, x i < 256) (hBg : B ≤ g) : APPENDED w B g d log n C f x wx := by
  have hnd := h.ones.nodes he
  have e1 : NODES (n + 1) = NODES n + 1 + j := by omega
  refine ⟨Cj, ⟨by rw [e1]; exact h.store, h.width, h.size, h.free, fun h1 k hk => ?_, fun k hk i => ?_, by omega, hBg⟩, h.step, h.below⟩
  · by_cases e : (k + 1) * 2 ^ h1 = n + 1
    · obtain ⟨rfl, ho⟩ := ONES.of_span e
      have hle : h1 ≤ j := by
        rcases Nat.lt_or_ge j h1 with hlt | hge
        · have := ho j hlt
          omega
        · exact hge
      rw [ho.place]
      exact h.new h1 hle
    · exact h.old h1 k (by omega)
  · unfold LEAFS
    split
    · exact h8 i
    · exact hbyte k (by omega) i
set_option maxHeartbeats 4000000 in
theorem append_ok {w : World} {B g : Nat} {d : Int} {log n : Nat} {C : CHUNKS} {f : Nat → Nat → Nat} (hF : FOREST w B g d log n C f) (x : Nat → Nat) (h8 : ∀ i, x i < 256) (hn : n < 2 ^ 20) (hT : Tabled w) (hGB : 2 < B) (hB : B ≤ w.heap.size) :
    Calls Tryd.prog 27 #[.pointer (some ⟨g, 0, none⟩), .agg (UARR .u8 32 x)] w fun e w' => e = .returned (.int .u64 (n : Int)) ∧ APPENDED w B g d log n C f x w' := by
  obtain ⟨w0, hw0⟩ : ∃ w0, w.alloc (.cells (UARR .u8 32 x) 27) = w0 := ⟨_, rfl⟩
  have hb0 : Below w.heap.size w w0 := by rw [← hw0]; exact (Below.refl _ _).alloc (Nat.le_refl _) _
  have h30 : Has w0 w.heap.size (UARR .u8 32 x) 27 := by rw [← hw0]; exact Has.new w _ _
  have hF0 := hF.below hb0
  have c6 := hF0.size
  have f6 := hF0.free
  have cl := Go.Proofs.YtnplhejopmoopaaDoor.leaf_ok n (by omega)
  have eu := u64_next (n := n) (by omega)
  go_enter Tryd.func27, Tryd.ntmps27
  go_wp2_with fail
  refine (cl _).mono ?_
  rintro e w1 ⟨rfl, rfl⟩
  clear cl
  go_upto_region 6 with fail
  have hgl := hF.store.lt
  obtain ⟨hS1, hst1⟩ := hF0.store.side 6 (by decide) (.int .u64 ((n : Int) + 1))
  have hbg : w.heap.size ≠ g := by omega
  have h31 : Has (w0.setCell ⟨g, 6, none⟩ (.int .u64 ((n : Int) + 1))) w.heap.size (UARR .u8 32 x) 27 := h30.other hbg _
  have hw5 : (w0.setCell ⟨g, 6, none⟩ (.int .u64 ((n : Int) + 1))).cell? ⟨g, 5, none⟩ = some (.int .i64 d) := (set_off (by decide) _).trans hF0.width
  have hw6 : (w0.setCell ⟨g, 6, none⟩ (.int .u64 ((n : Int) + 1))).cell? ⟨g, 6, none⟩ = some (.int .u64 ((n + 1 : Nat) : Int)) := World.cell?_setCell_same _ _ _ hF0.size
  have hbel1 : Below B w (w0.setCell ⟨g, 6, none⟩ (.int .u64 ((n : Int) + 1))) := (hb0.mono hB).setCell (p := ⟨g, 6, none⟩) hF.base _
  have hst : TSTEP w (w0.setCell ⟨g, 6, none⟩ (.int .u64 ((n : Int) + 1))) g C C := (STEP.below hF.store hb0).tree.trans hst1
  have hoff : ¬ FOOT (w0.setCell ⟨g, 6, none⟩ (.int .u64 ((n : Int) + 1))) g C w.heap.size := fun hf => by
    rcases hst1.foot _ hf with h1 | h1
    · exact Nat.lt_irrefl _ (hF.store.foot_lt (hF.store.foot_below hb0 h1))
    · have := h30.lt
      omega
  have hb3 : w.heap.size ≤ w.heap.size := Nat.le_refl _
  have A1 : Aside ((∀ h k, (k + 1) * 2 ^ h ≤ n → AT C log (PLC h k) = some (VAL d f h k)) ∧ (∀ k, k < n → ∀ i, f k i < 256) ∧ (∀ i, x i < 256) ∧ n < 2 ^ 20 ∧ Tabled w ∧ 2 < B ∧ B ≤ w.heap.size ∧ B ≤ g) := ⟨hF.node, hF.byte, h8, hn, hT, hGB, hB, hF.base⟩
  generalize w0.setCell ⟨g, 6, none⟩ (.int .u64 ((n : Int) + 1)) = W1 at *
  obtain ⟨b3, hb3e⟩ : ∃ b3, w.heap.size = b3 := ⟨_, rfl⟩
  rw [hb3e] at h31 hoff hbg hb3 ⊢
  have A2 : Aside (STORE W1 B g log (NODES n) (NODES n) (NODES n) C ∧ Has W1 b3 (UARR .u8 32 x) 27 ∧ W1.cell? ⟨g, 5, none⟩ = some (.int .i64 d) ∧ W1.cell? ⟨g, 6, none⟩ = some (.int .u64 ((n + 1 : Nat) : Int)) ∧ Below B w W1 ∧ TSTEP w W1 g C C ∧ ¬ FOOT W1 g C b3 ∧ b3 ≠ g ∧ w.heap.size ≤ b3) := ⟨hS1, h31, hw5, hw6, hbel1, hst, hoff, hbg, by omega⟩
  clear hF hF0 h30 hb0 c6 f6 hS1 hst1 hbg h31 hw5 hw6 hbel1 hst hoff hb3 hgl h8 hn hT hGB hB hw0 hb3e
  refine append_first W1 g b3 (NODES n) x (fun W => W = W1.drew) (fun W => PUSHED W1.drew B g log (NODES n) (NODES n) (NODES n) C x W) rfl (fun W e => by rw [e]; exact (show Has W1.drew b3 _ _ from A2.out.2.1).whole) (fun W hP => ?_) (fun W e => ?_) (fun _ _ _ _ _ h => h) ?_
  · obtain ⟨C', s1, s2, s3, s4⟩ := hP
    exact (show Has W b3 (UARR .u8 32 x) 27 from (s3.same b3 A2.out.2.1.lt A2.out.2.2.2.2.2.2.2.1 A2.out.2.2.2.2.2.2.1).trans A2.out.2.1).whole
  · subst e
    have hlt : NODES n < 2 ^ 22 := Nat.lt_trans (NODES_bound (h := 20) A1.out.2.2.2.1) (by decide)
    exact push_ok (A2.out.1.below (Below.refl _ _).drew) x A1.out.2.2.1 (by omega) (by omega) A1.out.2.2.2.2.2.2.2 (by omega)
  · intro W hP
    have hG : ∃ C', GROWING w W B g d log n 0 b3 C C' (LEAFS f n x) := growing_first (W1 := W1.drew) A1.out.1 A2.out.2.2.1 A2.out.2.2.2.1 A2.out.2.1 A2.out.2.2.2.2.2.2.1 A2.out.2.2.2.2.2.2.2.1 (A2.out.2.2.2.2.2.1.trans (STEP.below A2.out.1 (Below.refl _ _).drew).tree) A2.out.2.2.2.2.1.drew A2.out.2.2.2.2.2.2.2.2 hP
    clear hP A2
    obtain ⟨C0, hG⟩ := hG
    have hBW : B ≤ W.heap.size := Nat.le_trans A1.out.2.2.2.2.2.2.1 hG.step.size
    have hG2 := hG.moved hBW
    have hv : VAL d (LEAFS f n x) 0 (n / 2 ^ 0) = x := by rw [Nat.pow_zero, Nat.div_one]; exact LEAFS_at f n x
    rw [hv] at hG2
    have hx3 := hG.held
    rw [hv] at hx3
    have A3 : Aside (GROWING w (W.alloc (.cells (UARR .u8 32 x) 27)) B g d log n 0 W.heap.size C C0 (LEAFS f n x)) := hG2
    have hst := run_storeCells_new (P := Tryd.prog) W 27 (UARR .u8 32 fun _ => 0) (UARR .u8 32 x) (info_HASH _) (by rw [UARR_size, UARR_size]) (UARR_one _ _ _)
    have hsu := UARR_size .u8 32 x
    have hz := zeroHash
    clear hG hG2 hv hBW
    go_wp2_with (first
      | (refine wpList_load_row rfl 27 (.tmp 3) rfl b3 rfl 27 (UARR .u8 32 x) (0, 0) _ hx3 Tryd.underlying27 rfl (info_HASH _) ?_)
      | fail)
    clear hst hsu hx3
    obtain ⟨W2, hW2⟩ : ∃ W2, W.alloc (.cells (UARR .u8 32 x) 27) = W2 := ⟨_, rfl⟩
    rw [hW2] at A3 ⊢
    obtain ⟨b8, hb8⟩ : ∃ b8, W.heap.size = b8 := ⟨_, rfl⟩
    rw [hb8] at A3 ⊢
    clear hW2 hb8
    go_loopg [6, 8] n (fun r s6 s8 wx => ∃ (j b : Nat) (Cj : CHUNKS), s6 = .int .u64 ((NODES n + j : Nat) : Int) ∧ s8 = .pointer (some ⟨b, 0, none⟩) ∧ Aside (j + r = n ∧ GROWING w wx B g d log n j b C Cj (LEAFS f n x)))
    case atStart => exact ⟨0, b8, C0, rfl, rfl, by omega, A3.out⟩
    case round =>
      obtain ⟨j, b, Cj, rfl, rfl, A⟩ := hrel
      clear A3
      have hones := A.out.2.ones
      have hN := hones.node A1.out.2.2.2.1
      have hpl := hones.place
      have cr := Go.Proofs.YtnplhejopmoopaaDoor.right_ok j (n / 2 ^ j) hN
      rw [hpl] at cr
      by_cases hodd : n / 2 ^ j % 2 = 1
      · have hev : decide (n / 2 ^ j % 2 = 1) = true := decide_eq_true hodd
        rw [hev] at cr
        have hbx : B ≤ wr.heap.size := Nat.le_trans A1.out.2.2.2.2.2.2.1 A.out.2.step.size
        have hnx := hones.next hodd
        obtain ⟨r, rfl⟩ : ∃ r, gk = r + 1 := ⟨gk - 1, by have := hnx.lt; have := A.out.1; omega⟩
        have A4 : Aside (GROWING w wr B g d log n j b C Cj (LEAFS f n x) ∧ B ≤ wr.heap.size ∧ ONES n (j + 1) ∧ Node j (n / 2 ^ j) ∧ PLC j (n / 2 ^ j) = NODES n + j ∧ n / 2 ^ j = 2 * (n / 2 ^ (j + 1)) + 1 ∧ j + 1 + r = n ∧ j ≤ 20) := ⟨A.out.2, hbx, hnx, hN, hpl, by rw [half_pow]; omega, by have := A.out.1; omega, hones.small A1.out.2.2.2.1⟩
        clear hev hodd hN hpl hones A hbx hnx
        go_wp2_with fail
        refine (cr _).mono ?_
        rintro e wa ⟨rfl, hba⟩
        clear cr
        have hGa := A4.out.1.keep A4.out.2.1 hba
        have hBa : B ≤ wa.heap.size := Nat.le_trans A4.out.2.1 hba.size
        clear hba
        obtain ⟨L, hL⟩ : ∃ L, VAL d (LEAFS f n x) j (2 * (n / 2 ^ (j + 1))) = L := ⟨_, rfl⟩
        obtain ⟨X, hX⟩ : ∃ X, VAL d (LEAFS f n x) j (n / 2 ^ j) = X := ⟨_, rfl⟩
        obtain ⟨Y, hY⟩ : ∃ Y, VAL d (LEAFS f n x) (j + 1) (n / 2 ^ (j + 1)) = Y := ⟨_, rfl⟩
        have hYN : Y = HASHOF d (1 :: ((List.range 32).map L ++ (List.range 32).map X)) := by
          rw [← hY, VAL, hL, ← A4.out.2.2.2.2.2.1, hX]
          rfl
        have hspan := (ONES.span (n := n) (j := j) fun i hi => A4.out.2.2.1 i (by omega))
        have hleft : (2 * (n / 2 ^ (j + 1)) + 1) * 2 ^ j ≤ n := by
          rw [← A4.out.2.2.2.2.2.1]
          have h1 : (n / 2 ^ j + 1) * 2 ^ j = n / 2 ^ j * 2 ^ j + 2 ^ j := by rw [Nat.add_mul, Nat.one_mul]
          have h2 : 0 < 2 ^ j := Nat.two_pow_pos j
          omega
        have hbytes : ∀ k, k < n + 1 → ∀ i, LEAFS f n x k i < 256 := fun k hk i => by
          unfold LEAFS
          split
          · exact A1.out.2.2.1 i
          · exact A1.out.2.1 k (by omega) i
        have hL8 : ∀ i, L i < 256 := fun i => by rw [← hL]; exact VAL_lt hbytes _ _ (by omega) i
        have hX8 : ∀ i, X i < 256 := fun i => by rw [← hX]; exact VAL_lt hbytes _ _ (by omega) i
        have hY8 : ∀ i, Y i < 256 := fun i => by rw [hYN]; exact STATE_lt d _ _ i
        have hsib : SIB (n / 2 ^ j) = 2 * (n / 2 ^ (j + 1)) := by rw [A4.out.2.2.2.2.2.1]; unfold SIB; rw [if_pos (by omega)]; omega
        have hatL : AT Cj log (PLC j (SIB (n / 2 ^ j))) = some L := by rw [hsib, hGa.old j _ hleft, hL]
        have hltL : PLC j (SIB (n / 2 ^ j)) < NODES n + 1 + j := by rw [hsib]; have := PLC_under hleft; omega
        have hheld : Has wa b (UARR .u8 32 X) 27 := by rw [← hX]; exact hGa.held
        have hTa : Tabled wa := ⟨fun i hi => (hGa.below.cell (by show 2 < B; have := A1.out.2.2.2.2.2.1; omega)).trans (A1.out.2.2.2.2.1.1 i hi), fun i hi => (hGa.below.cell (by show 1 < B; have := A1.out.2.2.2.2.2.1; omega)).trans (A1.out.2.2.2.2.1.2.1 i hi), by have := A1.out.2.2.2.2.2.1; omega⟩
        have A5 : Aside (GROWING w wa B g d log n j b C Cj (LEAFS f n x) ∧ B ≤ wa.heap.size ∧ Has wa b (UARR .u8 32 X) 27 ∧ Tabled wa ∧ (∀ i, L i < 256) ∧ (∀ i, X i < 256) ∧ (∀ i, Y i < 256) ∧ Y = HASHOF d (1 :: ((List.range 32).map L ++ (List.range 32).map X)) ∧ AT Cj log (PLC j (SIB (n / 2 ^ j))) = some L ∧ PLC j (SIB (n / 2 ^ j)) < NODES n + 1 + j ∧ VAL d (LEAFS f n x) (j + 1) (n / 2 ^ (j + 1)) = Y) := ⟨hGa, hBa, hheld, hTa, hL8, hX8, hY8, hYN, hatL, hltL, hY⟩
        clear hGa hBa hheld hTa hL8 hX8 hY8 hYN hatL hltL hY hsib hbytes hleft hspan hX hL
        go_upto_region 10 with fail
        refine append_node wa g b (NODES n + j) d L X Y (fun V => Below wa.heap.size wa V) (Below.refl _ _).drew (fun V hV => ?_) (fun V hV => ?_) (fun V hV => ?_) (fun V hV => ?_) (fun _ _ _ _ _ h => h) ?_
        · have h1 := A5.out.2.2.1.keep hV
          exact ⟨(A5.out.1.keep A5.out.2.1 hV).width, h1.whole, h1⟩
        · exact ((A5.out.1.keep A5.out.2.1 hV).off_row A1.out.2.2.2.2.2.2.1 Y).2.1 5 |>.trans (A5.out.1.keep A5.out.2.1 hV).width
        · have h1 := left_ok (A5.out.1.keep A5.out.2.1 hV).store j (n / 2 ^ j) A4.out.2.2.2.1 (by have := A4.out.2.2.2.2.2.2.2; omega) A5.out.2.2.2.2.2.2.2.2.2.1 L A5.out.2.2.2.2.2.2.2.2.1
          rw [A4.out.2.2.2.2.1] at h1
          refine h1.mono ?_
          rintro e V' ⟨rfl, hb⟩
          exact ⟨rfl, hV.trans (hb.mono hV.size)⟩
        · refine (node_ok d L X A5.out.2.2.2.2.1 A5.out.2.2.2.2.2.1 V (A5.out.2.2.2.1.below hV)).mono ?_
          rintro e V' ⟨rfl, hb⟩
          exact ⟨by rw [A5.out.2.2.2.2.2.2.2.1], hV.trans (hb.mono hV.size)⟩
        · intro W3 hW3
          obtain ⟨w0', hw0', hW3⟩ := hW3
          have hGw := A5.out.1.keep A5.out.2.1 hw0'
          have hrow := hGw.off_row A1.out.2.2.2.2.2.2.1 Y
          rw [← hW3] at hrow
          have A6 : Aside (STORE W3 B g log (NODES n + 1 + j) (NODES n + 1 + j) (NODES n + 1 + j) Cj ∧ W3.cell? ⟨g, 5, none⟩ = some (.int .i64 d) ∧ W3.cell? ⟨g, 6, none⟩ = some (.int .u64 ((n + 1 : Nat) : Int)) ∧ Has W3 b (UARR .u8 32 Y) 27 ∧ ¬ FOOT W3 g Cj b ∧ TSTEP w W3 g C Cj ∧ Below B w W3 ∧ b ≠ g ∧ w.heap.size ≤ b) := ⟨hrow.1, (hrow.2.1 5).trans hGw.width, (hrow.2.1 6).trans hGw.size, hrow.2.2.2.1, hrow.2.2.2.2.1, hrow.2.2.2.2.2.1, hrow.2.2.2.2.2.2, hGw.lt.1, hGw.base⟩
          clear hW3 hGw hrow hw0'
          go_upto_region 11 with fail
          refine append_more W3 g b (NODES n + 1 + j) Y (fun V => V = W3.drew) (fun V => PUSHED W3.drew B g log (NODES n + 1 + j) (NODES n + 1 + j) (NODES n + 1 + j) Cj Y V) rfl (fun V e => by rw [e]; exact (show Has W3.drew b _ _ from A6.out.2.2.2.1).whole) (fun V hP => ?_) (fun V e => ?_) (fun _ _ _ _ _ h => h) ?_
          · obtain ⟨C', s1, s2, s3, s4⟩ := hP
            exact (show Has V b (UARR .u8 32 Y) 27 from (s3.same b A6.out.2.2.2.1.lt A6.out.2.2.2.2.2.2.2.1 A6.out.2.2.2.2.1).trans A6.out.2.2.2.1).whole
          · subst e
            have hlt : NODES n < 2 ^ 22 := Nat.lt_trans (NODES_bound (h := 20) A1.out.2.2.2.1) (by decide)
            have h20 := A4.out.2.2.2.2.2.2.2
            exact push_ok (A6.out.1.below (Below.refl _ _).drew) Y A5.out.2.2.2.2.2.2.1 (by omega) (by omega) A1.out.2.2.2.2.2.2.2 (by omega)
          · intro V hP
            have hG : ∃ C', GROWING w V B g d log n (j + 1) b C C' (LEAFS f n x) := growing_pushed (wx := W3.drew) A6.out.2.1 A6.out.2.2.1 A5.out.1.old A5.out.1.new A4.out.2.2.1 A6.out.2.2.2.1 A5.out.2.2.2.2.2.2.2.2.2.2.symm A6.out.2.2.2.2.1 A6.out.2.2.2.2.2.2.2.1 (A6.out.2.2.2.2.2.1.trans (STEP.below A6.out.1 (Below.refl _ _).drew).tree) A6.out.2.2.2.2.2.2.1.drew A6.out.2.2.2.2.2.2.2.2 hP
            clear hP A6
            obtain ⟨C0', hG⟩ := hG
            have hBV : B ≤ V.heap.size := Nat.le_trans A1.out.2.2.2.2.2.2.1 hG.step.size
            have hG2 := hG.moved hBV
            rw [A5.out.2.2.2.2.2.2.2.2.2.2] at hG2
            have hx3 := hG.held
            rw [A5.out.2.2.2.2.2.2.2.2.2.2] at hx3
            have A7 : Aside (GROWING w (V.alloc (.cells (UARR .u8 32 Y) 27)) B g d log n (j + 1) V.heap.size C C0' (LEAFS f n x)) := hG2
            have hst := run_storeCells_new (P := Tryd.prog) V 27 (UARR .u8 32 fun _ => 0) (UARR .u8 32 Y) (info_HASH _) (by rw [UARR_size, UARR_size]) (UARR_one _ _ _)
            have hsu := UARR_size .u8 32 Y
            have en := u64_next (n := NODES n + j) (by have hlt : NODES n < 2 ^ 22 := Nat.lt_trans (NODES_bound (h := 20) A1.out.2.2.2.1) (by decide); have h20 := A4.out.2.2.2.2.2.2.2; omega)
            clear hG hG2 hBV A5
            go_wp2_with (first
              | (refine wpList_load_row rfl 27 (.tmp 8) rfl b rfl 27 (UARR .u8 32 Y) (0, 0) _ hx3 Tryd.underlying27 rfl (info_HASH _) ?_)
              | fail)
            go_roundg r
            case measure => exact Nat.lt_succ_self _
            case rel => exact ⟨j + 1, V.heap.size, C0', by first | rfl | exact congrArg (Value.int IntKind.u64) en, rfl, A4.out.2.2.2.2.2.2.1, A7.out⟩
      · have hev : decide (n / 2 ^ j % 2 = 1) = false := decide_eq_false hodd
        rw [hev] at cr
        have hbx : B ≤ wr.heap.size := Nat.le_trans A1.out.2.2.2.2.2.2.1 A.out.2.step.size
        have FIN : Aside (∀ W', Below wr.heap.size wr W' → APPENDED w B g d log n C f x W') := fun W' hb => (A.out.2.keep hbx hb).done (by omega) A1.out.2.2.2.1 A1.out.2.1 A1.out.2.2.1 A1.out.2.2.2.2.2.2.2
        clear hev hodd hN hpl hones A hbx
        go_wp2_with fail
        refine (cr _).mono ?_
        rintro e W9 ⟨rfl, hb9⟩
        have hfin := FIN.out _ hb9
        clear cr hb9 FIN
        go_wp2_with fail
        go_ret
        exact ⟨rfl, hfin⟩
end Go.Proofs.YtnplhejopmoopaaDoor.HX

/- The region of folded of package mmr that draws its order. -/
namespace Go.Proofs.YtnplhejopmoopaaDoor.HX
open Go.RowKit
set_option maxRecDepth 100000

end Go.Proofs.YtnplhejopmoopaaDoor.HX

/- folded and Bag of package mmr, hashes as functions. -/
namespace Go.Proofs.YtnplhejopmoopaaDoor.HX
open Go.RowKit
set_option maxRecDepth 100000

/-- a slice of hashes lies there. -/
def HASHES (w : World) (a : Option Addr) (n : Nat) (hs : Nat → Nat → Nat) : Prop := 0 < n → ∃ b o, a = some ⟨b, o, none⟩ ∧ b < w.heap.size ∧ ∀ i, i < n → w.rangeAt b (o + i * 32) (ULIST .u8 32 (hs i))
theorem HASHES.below {w w' : World} {a : Option Addr} {n : Nat} {hs : Nat → Nat → Nat} (h : HASHES w a n hs) (hb : Below w.heap.size w w') : HASHES w' a n hs := fun hn => by
  obtain ⟨b, o, e, hl, hc⟩ := h hn
  exact ⟨b, o, e, Nat.lt_of_lt_of_le hl hb.size, fun i hi => range_below (hc i hi) hb hl⟩
def FOLDF (d : Int) (l r : Nat → Nat) : Nat → Nat := HASHOF d (2 :: ((List.range 32).map l ++ (List.range 32).map r))
def ROOTF (d : Int) (n : Nat) (r : Nat → Nat) : Nat → Nat := HASHOF d (3 :: (BE8 n ++ (List.range 32).map r))
/-- the last one, and k more of n folded into it. -/
def FAF (d : Int) (hs : Nat → Nat → Nat) (n : Nat) : Nat → Nat → Nat
  | 0 => hs (n - 1)
  | k + 1 => FOLDF d (hs (n - 2 - k)) (FAF d hs n k)
def FLDF (d : Int) (hs : Nat → Nat → Nat) (n : Nat) : Nat → Nat := if n = 0 then fun _ => 0 else FAF d hs n (n - 1)
end Go.Proofs.YtnplhejopmoopaaDoor.HX

/- Lists of hashes that are made and grow. -/
namespace Go.Proofs.YtnplhejopmoopaaDoor.HX
open Go.RowKit
set_option maxRecDepth 100000

end Go.Proofs.YtnplhejopmoopaaDoor.HX

/- peaks of package mmr: the hashes of the peaks of an earlier size. -/
namespace Go.Proofs.YtnplhejopmoopaaDoor.HX
open Go.RowKit
set_option maxRecDepth 100000

/-- the hashes of the peaks of m leaves. -/
def PKV (d : Int) (f : Nat → Nat → Nat) (m : Nat) : List (Nat → Nat) := (HS 0 m).map fun h => VAL d f h (2 * (m / 2 ^ (h + 1)))
theorem peak_span {m h : Nat} (hb : m / 2 ^ h % 2 = 1) : (2 * (m / 2 ^ (h + 1)) + 1) * 2 ^ h ≤ m := by
  have e : m / 2 ^ h = 2 * (m / 2 ^ (h + 1)) + 1 := by rw [half_pow]; omega
  rw [← e]
  exact Nat.div_mul_le_self m (2 ^ h)
/-- what is found at a peak. -/
theorem FOREST.peak {w : World} {B g : Nat} {d : Int} {log n : Nat} {C : CHUNKS} {f : Nat → Nat → Nat} (hF : FOREST w B g d log n C f) {m i h : Nat} (hm : m ≤ n) (hi : (HS 0 m)[i]? = some h) :
    PKP m h < 2 ^ 40 ∧ GOTH C log (NODES n) (PKP m h) = VAL d f h (2 * (m / 2 ^ (h + 1))) ∧ GOT C log (NODES n) (PKP m h) = 0 ∧ (PEAKS m)[i]? = some (PKP m h) ∧ (PKV d f m)[i]? = some (VAL d f h (2 * (m / 2 ^ (h + 1)))) := by
  have hb := (HS_set_of 0 h (by decide) (List.mem_of_getElem? hi)).2.2
  have hs := Nat.le_trans (peak_span hb) hm
  have hlt : PKP m h < NODES n := PLC_under hs
  have hat : AT C log (PKP m h) = some (VAL d f h (2 * (m / 2 ^ (h + 1)))) := hF.node h _ hs
  have := hF.store.short
  refine ⟨by omega, ?_, ?_, ?_, ?_⟩
  · unfold GOTH
    rw [if_pos hlt, hat]
    rfl
  · unfold GOT
    rw [if_pos hlt, hat]
    rfl
  · rw [PEAKS, List.getElem?_map, hi]
    rfl
  · rw [PKV, List.getElem?_map, hi]
    rfl
end Go.Proofs.YtnplhejopmoopaaDoor.HX

/- Bag, Old, Root, Peaks, Size of package mmr. -/
namespace Go.Proofs.YtnplhejopmoopaaDoor.HX
open Go.RowKit
set_option maxRecDepth 100000

theorem own_hashes {w : World} {B n : Nat} {v : Value} {l : List (Nat → Nat)} (h : w.ownsRow B 27 32 v n (HL l)) (hl : l.length = n) : ∃ a c, v = .slice a n c ∧ HASHES w a n (fun i => l.getD i fun _ => 0) := by
  obtain ⟨a, c, rfl⟩ := own_shape h
  refine ⟨a, c, rfl, fun hn => ?_⟩
  rcases h.2 with ⟨e, h0⟩ | ⟨g, cap, cur, e, _, hg, _⟩
  · omega
  · simp only [Value.slice.injEq] at e
    obtain ⟨rfl, _, rfl⟩ := e
    refine ⟨g, 0, rfl, (h.lt g rfl).2, fun i hi j u hj => ?_⟩
    have hj32 : j < 32 := by have := (List.getElem?_eq_some_iff.1 hj).1; rwa [ULIST_length] at this
    have hli : l[i]? = some (l.getD i fun _ => 0) := by rw [List.getD_eq_getElem?_getD, List.getElem?_eq_getElem (by omega)]; rfl
    rw [ULIST_get _ _ _ _ hj32] at hj
    rw [← hj, Nat.zero_add, h.cellAt (i * 32 + j) (by omega)]
    exact HL_get l i j _ hli hj32
/-- the root over the first m leaves. -/
def ROOTOF (d : Int) (f : Nat → Nat → Nat) (m : Nat) : Nat → Nat := ROOTF d m (FLDF d (fun i => (PKV d f m).getD i fun _ => 0) (PC m))
theorem size_of {w : World} {B g : Nat} {d : Int} {log n : Nat} {C : CHUNKS} {f : Nat → Nat → Nat} (hF : FOREST w B g d log n C f) :
    Calls Tryd.prog 13 #[.pointer (some ⟨g, 0, none⟩)] w fun e w' => e = .returned (.int .u64 (n : Int)) ∧ w = w' := by
  have c6 := hF.size
  clear hF
  go_enter Tryd.func13, Tryd.ntmps13
  go_wp2
  go_ret
  exact ⟨rfl, rfl⟩
end Go.Proofs.YtnplhejopmoopaaDoor.HX

/- The region of the law's own awake (chapter 6) that draws its order, and that of MmrOld. -/
namespace Go.Proofs.YtnplhejopmoopaaDoor.HX
open Go.RowKit
set_option maxRecDepth 100000

end Go.Proofs.YtnplhejopmoopaaDoor.HX

/- massiflaw6.awake. -/
namespace Go.Proofs.YtnplhejopmoopaaDoor.HX
open Go.RowKit
set_option maxRecDepth 100000

/-- a hash with this first byte, noughts behind it. -/
def HB (x : Nat) : Nat → Nat := fun i => if i = 0 then x else 0
/-- a tree, and three hashes beside it. -/
structure AW (w wx : World) (B g : Nat) (log n : Nat) (C : CHUNKS) (f : Nat → Nat → Nat) (d : Int) (b3 b4 b5 : Nat) (x y z : Nat → Nat) : Prop where
  tree : FOREST wx B g d log n C f
  h3 : Has wx b3 (UARR .u8 32 x) 27
  h4 : Has wx b4 (UARR .u8 32 y) 27
  h5 : Has wx b5 (UARR .u8 32 z) 27
  off : ¬ FOOT wx g C b3 ∧ ¬ FOOT wx g C b4 ∧ ¬ FOOT wx g C b5
  below : Below B w wx
theorem FOREST.ne {w : World} {B g : Nat} {d : Int} {log n b : Nat} {C : CHUNKS} {f : Nat → Nat → Nat} (h : FOREST w B g d log n C f) {c : Array Value} (hb : Has w b c 27) : b ≠ g := fun e => by
  obtain ⟨cs, t, fr, k1, _, _, k4⟩ := h.store.kind
  unfold Has at hb
  rw [e, k1] at hb
  cases Option.some.inj hb
  exact k4 rfl
theorem AW.next {w wx w' : World} {B g : Nat} {log n : Nat} {C : CHUNKS} {f : Nat → Nat → Nat} {d : Int} {b3 b4 b5 : Nat} {x y z u : Nat → Nat} (h : AW w wx B g log n C f d b3 b4 b5 x y z) (hA : APPENDED wx B g d log n C f u w') : ∃ C', AW w w' B g log (n + 1) C' (LEAFS f n u) d b3 b4 b5 x y z := by
  obtain ⟨C', a1, a2, a3⟩ := hA
  have key : ∀ {b : Nat} {c : Array Value}, Has wx b c 27 → ¬ FOOT wx g C b → Has w' b c 27 ∧ ¬ FOOT w' g C' b := fun {b c} hb hf => by
    refine ⟨(a2.same b hb.lt (h.tree.ne hb) hf).trans hb, fun hf' => ?_⟩
    rcases a2.foot b hf' with h1 | h1
    · exact hf h1
    · have := hb.lt
      omega
  exact ⟨C', a1, (key h.h3 h.off.1).1, (key h.h4 h.off.2.1).1, (key h.h5 h.off.2.2).1, ⟨(key h.h3 h.off.1).2, (key h.h4 h.off.2.1).2, (key h.h5 h.off.2.2).2⟩, h.below.trans a3⟩
theorem AW.keep {w wx w' : World} {B g : Nat} {log n : Nat} {C : CHUNKS} {f : Nat → Nat → Nat} {d : Int} {b3 b4 b5 : Nat} {x y z : Nat → Nat} (h : AW w wx B g log n C f d b3 b4 b5 x y z) (hB : B ≤ wx.heap.size) (hb : Below wx.heap.size wx w') : AW w w' B g log n C f d b3 b4 b5 x y z :=
  ⟨h.tree.below hb, h.h3.keep hb, h.h4.keep hb, h.h5.keep hb, ⟨fun hf => h.off.1 (h.tree.store.foot_below hb hf), fun hf => h.off.2.1 (h.tree.store.foot_below hb hf), fun hf => h.off.2.2 (h.tree.store.foot_below hb hf)⟩, h.below.trans (hb.mono hB)⟩
end Go.Proofs.YtnplhejopmoopaaDoor.HX

/- A tree and a list of its earlier roots. -/
namespace Go.Proofs.YtnplhejopmoopaaDoor.HX
open Go.RowKit
set_option maxRecDepth 100000

theorem FOREST.congr {w : World} {B g : Nat} {d : Int} {log n : Nat} {C : CHUNKS} {f f' : Nat → Nat → Nat} (h : FOREST w B g d log n C f) (he : ∀ k, k < n → f k = f' k) : FOREST w B g d log n C f' :=
  ⟨h.store, h.width, h.size, h.free, fun h1 k hk => by rw [h.node h1 k hk, VAL_congr he h1 k hk], fun k hk i => by rw [← he k hk]; exact h.byte k hk i, h.few, h.base⟩
/-- the first k roots. -/
def RTS (d : Int) (hs : Nat → Nat → Nat) (k : Nat) : List (Nat → Nat) := (List.range k).map (ROOTOF d hs)
theorem RTS_length (d : Int) (hs : Nat → Nat → Nat) (k : Nat) : (RTS d hs k).length = k := by simp [RTS]
theorem RTS_get (d : Int) (hs : Nat → Nat → Nat) {k i : Nat} (h : i < k) : (RTS d hs k).getD i (fun _ => 0) = ROOTOF d hs i := by
  rw [List.getD_eq_getElem?_getD, RTS, List.getElem?_map, List.getElem?_range h]
  rfl
/-- a tree of i leaves, a list of its first k roots. -/
structure ROOTS (w wx : World) (B g : Nat) (d : Int) (i k : Nat) (C : CHUNKS) (hs : Nat → Nat → Nat) (v : Value) : Prop where
  tree : FOREST wx B g d 0 i C hs
  own : wx.ownsRow B 27 32 v k (HL (RTS d hs k))
  off : ∀ b, v.ownBlock = some b → ¬ FOOT wx g C b ∧ b ≠ g
  below : Below B w wx
theorem ROOTS.keep {w wx w' : World} {B g : Nat} {d : Int} {i k : Nat} {C : CHUNKS} {hs : Nat → Nat → Nat} {v : Value} (h : ROOTS w wx B g d i k C hs v) (hB : B ≤ wx.heap.size) (hb : Below wx.heap.size wx w') : ROOTS w w' B g d i k C hs v :=
  ⟨h.tree.below hb, own_keep h.own hb, fun b e => ⟨fun hf => (h.off b e).1 (h.tree.store.foot_below hb hf), (h.off b e).2⟩, h.below.trans (hb.mono hB)⟩
theorem ROOTS.appended {w wx w' : World} {B g : Nat} {d : Int} {i k : Nat} {C : CHUNKS} {hs : Nat → Nat → Nat} {v : Value} (h : ROOTS w wx B g d i k C hs v) (hA : APPENDED wx B g d 0 i C hs (hs i) w') : ∃ C', ROOTS w w' B g d (i + 1) k C' hs v := by
  obtain ⟨C', a1, a2, a3⟩ := hA
  refine ⟨C', a1.congr fun k hk => ?_, ?_, fun b e => ⟨fun hf => ?_, (h.off b e).2⟩, h.below.trans a3⟩
  · unfold LEAFS
    split
    · rename_i e; rw [e]
    · rfl
  · refine ⟨h.own.1, h.own.2.imp id ?_⟩
    rintro ⟨g', c, cur, rfl, b, r, rest⟩
    exact ⟨g', c, cur, rfl, b, (a2.same g' (Array.getElem?_eq_some_iff.1 r).1 (h.off g' rfl).2 (h.off g' rfl).1).trans r, rest⟩
  · rcases a2.foot b hf with h1 | h1
    · exact (h.off b e).1 h1
    · have := (h.own.lt b e).2
      omega
/-- where the k-th root lies. -/
theorem ROOTS.at {w wx : World} {B g : Nat} {d : Int} {i k j gl cl : Nat} {C : CHUNKS} {hs : Nat → Nat → Nat} (h : ROOTS w wx B g d i k C hs (.slice (some ⟨gl, 0, none⟩) k cl)) (hj : j < k) : wx.rangeAt gl (j * 32) (ULIST .u8 32 (ROOTOF d hs j)) ∧ gl < wx.heap.size := by
  obtain ⟨a, c, e, hH⟩ := own_hashes h.own (RTS_length d hs k)
  cases e
  obtain ⟨b, o, e, hl, hr⟩ := hH (by omega)
  cases e
  have h1 := hr j hj
  dsimp only at h1
  rw [RTS_get d hs hj, Nat.zero_add] at h1
  exact ⟨h1, hl⟩
end Go.Proofs.YtnplhejopmoopaaDoor.HX

/- Two trees side by side that are grown leaf by leaf. -/
namespace Go.Proofs.YtnplhejopmoopaaDoor
open Go.RowKit
set_option maxRecDepth 100000

structure TWOP (w wx : World) (Bb ga gb : Nat) (d : Int) (n m : Nat) (Ca Cb : HX.CHUNKS) (f f' : Nat → Nat → Nat) : Prop where
  fa : HX.FOREST wx w.heap.size ga d 2 n Ca f
  fb : HX.FOREST wx Bb gb d 2 m Cb f'
  ap : HX.APART wx ga Ca gb Cb
  bel : Below w.heap.size w wx
  sz : Bb ≤ wx.heap.size
  lo : w.heap.size ≤ Bb
theorem TWOP.keep {w wx w' : World} {Bb ga gb : Nat} {d : Int} {n m : Nat} {Ca Cb : HX.CHUNKS} {f f' : Nat → Nat → Nat} (h : TWOP w wx Bb ga gb d n m Ca Cb f f') (hb : Below wx.heap.size wx w') : TWOP w w' Bb ga gb d n m Ca Cb f f' :=
  ⟨h.fa.below hb, h.fb.below hb, h.ap.below h.fa h.fb hb, h.bel.trans (hb.mono h.bel.size), Nat.le_trans h.sz hb.size, h.lo⟩
theorem leafs_same {w : World} {B g : Nat} {d : Int} {log n : Nat} {C : HX.CHUNKS} {f : Nat → Nat → Nat} (h : HX.FOREST w B g d log (n + 1) C (HX.LEAFS f n (f n))) : HX.FOREST w B g d log (n + 1) C f := h.congr fun x hx => by
  unfold HX.LEAFS
  split
  · rename_i e; rw [e]
  · rfl
theorem TWOP.appa {w wx w' : World} {Bb ga gb : Nat} {d : Int} {n m : Nat} {Ca Cb : HX.CHUNKS} {f f' : Nat → Nat → Nat} (h : TWOP w wx Bb ga gb d n m Ca Cb f f') (ha : HX.APPENDED wx w.heap.size ga d 2 n Ca f (f n) w') : ∃ C', TWOP w w' Bb ga gb d (n + 1) m C' Cb f f' := by
  obtain ⟨C', a1, a2, a3⟩ := ha
  obtain ⟨k1, k2⟩ := h.fb.beside h.ap a2
  exact ⟨C', leafs_same a1, k1, k2, h.bel.trans a3, Nat.le_trans h.sz a2.size, h.lo⟩
theorem TWOP.appb {w wx w' : World} {Bb ga gb : Nat} {d : Int} {n m : Nat} {Ca Cb : HX.CHUNKS} {f f' : Nat → Nat → Nat} (h : TWOP w wx Bb ga gb d n m Ca Cb f f') (ha : HX.APPENDED wx Bb gb d 2 m Cb f' (f' m) w') : ∃ C', TWOP w w' Bb ga gb d n (m + 1) Ca C' f f' := by
  obtain ⟨C', a1, a2, a3⟩ := ha
  obtain ⟨k1, k2⟩ := h.fa.beside h.ap.symm a2
  exact ⟨C', k1, leafs_same a1, k2.symm, h.bel.trans (a3.mono h.lo), Nat.le_trans h.sz a2.size, h.lo⟩
/-- both asked for where they part. -/
theorem TWOP.first {w wx : World} {Bb ga gb : Nat} {d : Int} {n : Nat} {Ca Cb : HX.CHUNKS} {f f' : Nat → Nat → Nat} (h : TWOP w wx Bb ga gb d n n Ca Cb f f') (hT : Tabled wx) : Calls Tryd.prog 7 #[.iface 45 (.pointer (some ⟨ga, 0, none⟩)), .iface 45 (.pointer (some ⟨gb, 0, none⟩)), .int .u64 (n : Int)] wx fun e w' => TANS f f' (PFST (fun _ => 0) (fun _ => 0) (TSAME n Ca Cb) n) e ∧ TWOP w w' Bb ga gb d n n Ca Cb f f' :=
  (tfirst_ok h.fa h.fb hT).mono fun _ _ r => ⟨r.1, h.keep r.2⟩
end Go.Proofs.YtnplhejopmoopaaDoor
