/- Texts of PartOne, one behind the other: MmrAppendPlain, MmrAppend, MmrFoldRegion. -/
import Derived.Test.YtnplhejopmoopaaDoorPartOneP25
/- What lies in memory while a leaf is appended. -/
namespace Go.Proofs.YtnplhejopmoopaaDoor.HX
open Go.RowKit
set_option maxRecDepth 100000

/-- the leaf and j nodes above it have been pushed; the last one's hash lies at b. -/
structure GROWING (w wx : World) (B g : Nat) (d : Int) (log n j b : Nat) (C Cj : CHUNKS) (f : Nat → Nat → Nat) : Prop where
  store : STORE wx B g log (NODES n + 1 + j) (NODES n + 1 + j) (NODES n + 1 + j) Cj
  width : wx.cell? ⟨g, 5, none⟩ = some (.int .i64 d)
  size : wx.cell? ⟨g, 6, none⟩ = some (.int .u64 ((n + 1 : Nat) : Int))
  free : wx.frozen? ⟨g, 6, none⟩ = false
  old : ∀ h k, (k + 1) * 2 ^ h ≤ n → AT Cj log (PLC h k) = some (VAL d f h k)
  new : ∀ i, i ≤ j → AT Cj log (NODES n + i) = some (VAL d f i (n / 2 ^ i))
  ones : ONES n j
  held : Has wx b (UARR .u8 32 (VAL d f j (n / 2 ^ j))) 27
  off : ¬ FOOT wx g Cj b
  step : TSTEP w wx g C Cj
  below : Below B w wx
  base : w.heap.size ≤ b
theorem GROWING.lt {w wx : World} {B g : Nat} {d : Int} {log n j b : Nat} {C Cj : CHUNKS} {f : Nat → Nat → Nat} (h : GROWING w wx B g d log n j b C Cj f) : b ≠ g ∧ b < wx.heap.size ∧ g < wx.heap.size := by
  refine ⟨fun e => ?_, h.held.lt, h.store.lt⟩
  obtain ⟨cs, t, fr, k1, _, _, k4⟩ := h.store.kind
  have h1 := h.held
  unfold Has at h1
  rw [e, k1] at h1
  cases Option.some.inj h1
  exact k4 rfl
/-- only new memory. -/
theorem GROWING.keep {w wx w' : World} {B g : Nat} {d : Int} {log n j b : Nat} {C Cj : CHUNKS} {f : Nat → Nat → Nat} (h : GROWING w wx B g d log n j b C Cj f) (hBx : B ≤ wx.heap.size) (hb : Below wx.heap.size wx w') : GROWING w w' B g d log n j b C Cj f := by
  have hg := h.store.lt
  have hst := STEP.below h.store hb
  refine ⟨h.store.below hb, (hb.cell (p := ⟨g, 5, none⟩) hg).trans h.width, (hb.cell (p := ⟨g, 6, none⟩) hg).trans h.size, (World.frozen?_of_block (w := wx) (by exact hb.block g hg)).trans h.free, h.old, h.new, h.ones, h.held.keep hb, fun hf => ?_, h.step.trans hst.tree, h.below.trans (hb.mono hBx), h.base⟩
  rcases hst.foot b hf with h1 | h1
  · exact h.off h1
  · have := h.lt.2.1
    omega
/-- the held hash lies elsewhere now. -/
theorem GROWING.moved {w wx : World} {B g : Nat} {d : Int} {log n j b : Nat} {C Cj : CHUNKS} {f : Nat → Nat → Nat} (h : GROWING w wx B g d log n j b C Cj f) (hBx : B ≤ wx.heap.size) :
    GROWING w (wx.alloc (.cells (UARR .u8 32 (VAL d f j (n / 2 ^ j))) 27)) B g d log n j wx.heap.size C Cj f := by
  have hk := h.keep hBx ((Below.refl _ _).alloc (Nat.le_refl _) (.cells (UARR .u8 32 (VAL d f j (n / 2 ^ j))) 27))
  refine ⟨hk.store, hk.width, hk.size, hk.free, hk.old, hk.new, hk.ones, Has.new _ _ _, fun hf => ?_, hk.step, hk.below, h.step.size⟩
  exact absurd (h.store.foot_lt (h.store.foot_below ((Below.refl wx.heap.size wx).alloc (Nat.le_refl _) _) hf)) (Nat.lt_irrefl _)
/-- the held hash is written over: the next node's. -/
theorem GROWING.off_row {w wx : World} {B g : Nat} {d : Int} {log n j b : Nat} {C Cj : CHUNKS} {f : Nat → Nat → Nat} (h : GROWING w wx B g d log n j b C Cj f) (hBw : B ≤ w.heap.size) (y : Nat → Nat) :
    STORE (wx.setRow b (UARR .u8 32 y)) B g log (NODES n + 1 + j) (NODES n + 1 + j) (NODES n + 1 + j) Cj ∧ (∀ i, (wx.setRow b (UARR .u8 32 y)).cell? ⟨g, i, none⟩ = wx.cell? ⟨g, i, none⟩) ∧ (wx.setRow b (UARR .u8 32 y)).frozen? ⟨g, 6, none⟩ = false ∧ Has (wx.setRow b (UARR .u8 32 y)) b (UARR .u8 32 y) 27 ∧ ¬ FOOT (wx.setRow b (UARR .u8 32 y)) g Cj b ∧ TSTEP w (wx.setRow b (UARR .u8 32 y)) g C Cj ∧ Below B w (wx.setRow b (UARR .u8 32 y)) := by
  have hblk : ∀ x, x ≠ b → (wx.setRow b (UARR .u8 32 y)).heap[x]? = wx.heap[x]? := fun x hx => setRow_other wx b x _ hx
  have hsz : (wx.setRow b (UARR .u8 32 y)).heap.size = wx.heap.size := by simp
  obtain ⟨hbg, hbl, hgl⟩ := h.lt
  obtain ⟨s1, s2, s3⟩ := h.store.same (b := b) (fun x _ hx => hblk x hx) h.off (fun e => hbg e.symm)
  refine ⟨s1, s3, (World.frozen?_of_block (w := wx) (by exact hblk g (fun e => hbg e.symm))).trans h.free, h.held.row _, fun hf => h.off (s2 b hf), ⟨fun x hx => h.step.foot x (s2 x hx), fun x hx hxg hf => ?_, by rw [hsz]; exact h.step.size, (s3 4).trans h.step.pin⟩, below_row h.below (Nat.le_trans hBw h.base) _⟩
  have hxb : x ≠ b := fun e => by have := h.base; omega
  exact (hblk x hxb).trans (h.step.same x hx hxg hf)
/-- the next node is pushed. -/
theorem growing_pushed {w wx w' : World} {B g : Nat} {d : Int} {log n j b : Nat} {C Cj : CHUNKS} {f : Nat → Nat → Nat} {y : Nat → Nat}
    (hw5 : wx.cell? ⟨g, 5, none⟩ = some (.int .i64 d)) (hw6 : wx.cell? ⟨g, 6, none⟩ = some (.int .u64 ((n + 1 : Nat) : Int)))
    (hold : ∀ h k, (k + 1) * 2 ^ h ≤ n → AT Cj log (PLC h k) = some (VAL d f h k)) (hnew : ∀ i, i ≤ j → AT Cj log (NODES n + i) = some (VAL d f i (n / 2 ^ i))) (hones : ONES n (j + 1))
    (hheld : Has wx b (UARR .u8 32 y) 27) (hy : y = VAL d f (j + 1) (n / 2 ^ (j + 1))) (hoff : ¬ FOOT wx g Cj b) (hbg : b ≠ g) (hstep : TSTEP w wx g C Cj) (hbel : Below B w wx) (hbase : w.heap.size ≤ b)
    (hP : PUSHED wx B g log (NODES n + 1 + j) (NODES n + 1 + j) (NODES n + 1 + j) Cj y w') : ∃ C', GROWING w w' B g d log n (j + 1) b C C' f := by
  obtain ⟨C', s1, s2, s3, s4⟩ := hP
  have hbl := hheld.lt
  refine ⟨C', ⟨s1, (s3.pins 5 (by decide)).trans hw5, (s3.pins 6 (by decide)).trans hw6, s1.live 6 (by decide), fun h k hk => ?_, fun i hi => ?_, hones, ?_, fun hf => ?_, hstep.trans s3.tree, hbel.trans s4, hbase⟩⟩
  · rw [s2, if_neg ?_]
    · exact hold h k hk
    · have h1 := PLC_under hk
      omega
  · by_cases e : i = j + 1
    · subst e
      rw [s2, if_pos (by omega), hy]
    · rw [s2, if_neg (by omega)]
      exact hnew i (by omega)
  · rw [← hy]
    exact (s3.same b hbl hbg hoff).trans hheld
  · rcases s3.foot b hf with h1 | h1
    · exact hoff h1
    · omega
end Go.Proofs.YtnplhejopmoopaaDoor.HX

/- Append of package mmr. -/
namespace Go.Proofs.YtnplhejopmoopaaDoor.HX
open Go.RowKit
set_option maxRecDepth 100000

/-- what an append leaves. -/
def APPENDED (w : World) (B g : Nat) (d : Int) (log n : Nat) (C : CHUNKS) (f : Nat → Nat → Nat) (x : Nat → Nat) (w' : World) : Prop := ∃ C', FOREST w' B g d log (n + 1) C' (LEAFS f n x) ∧ TSTEP w w' g C C' ∧ Below B w w'
theorem u64_next {n : Nat} (h : n < 2 ^ 40) : IntKind.u64.wrap ((n : Int) + 1) = ((n + 1 : Nat) : Int) := by
  simp [IntKind.wrap, IntKind.signed, IntKind.bits]
  omega
theorem ONES.small {n j : Nat} (h : ONES n j) (hn : n < 2 ^ 20) : j ≤ 20 := by
  rcases Nat.lt_or_ge 20 j with h1 | h1
  · have h2 := h.span
    have h3 : 2 ^ 21 ≤ 2 ^ j := Nat.pow_le_pow_right (by decide) h1
    have h4 : 1 * 2 ^ j ≤ (n / 2 ^ j + 1) * 2 ^ j := Nat.mul_le_mul_right _ (Nat.le_add_left 1 _)
    generalize n / 2 ^ j = q at *
    omega
  · exact h1
theorem ONES.node {n j : Nat} (h : ONES n j) (hn : n < 2 ^ 20) : Node j (n / 2 ^ j) := by
  have hj := h.small hn
  refine ⟨by omega, Nat.lt_of_le_of_lt (Nat.div_le_self _ _) (Nat.lt_of_lt_of_le hn (Nat.pow_le_pow_right (by decide) (by omega)))⟩
theorem growing_first {w W1 W : World} {B g : Nat} {d : Int} {log n b : Nat} {C : CHUNKS} {f : Nat → Nat → Nat} {x : Nat → Nat} (hnode : ∀ h k, (k + 1) * 2 ^ h ≤ n → AT C log (PLC h k) = some (VAL d f h k)) (hw5 : W1.cell? ⟨g, 5, none⟩ = some (.int .i64 d)) (hw6 : W1.cell? ⟨g, 6, none⟩ = some (.int .u64 ((n + 1 : Nat) : Int)))
    (hheld : Has W1 b (UARR .u8 32 x) 27) (hoff : ¬ FOOT W1 g C b) (hbg : b ≠ g) (hstep : TSTEP w W1 g C C) (hbel : Below B w W1) (hbase : w.heap.size ≤ b)
    (hP : PUSHED W1 B g log (NODES n) (NODES n) (NODES n) C x W) : ∃ C', GROWING w W B g d log n 0 b C C' (LEAFS f n x) := by
  obtain ⟨C', s1, s2, s3, s4⟩ := hP
  have hbl := hheld.lt
  have hx : VAL d (LEAFS f n x) 0 (n / 2 ^ 0) = x := by rw [Nat.pow_zero, Nat.div_one]; exact LEAFS_at f n x
  refine ⟨C', ⟨s1, (s3.pins 5 (by decide)).trans hw5, (s3.pins 6 (by decide)).trans hw6, s1.live 6 (by decide), fun h k hk => ?_, fun i hi => ?_, fun i hi => by omega, ?_, fun hf => ?_, hstep.trans s3.tree, hbel.trans s4, hbase⟩⟩
  · have h1 := PLC_under hk
    rw [s2, if_neg (by omega), hnode h k hk, VAL_congr (fun k hk => (LEAFS_old f n x hk).symm) h k hk]
  · obtain rfl : i = 0 := by omega
    rw [s2, if_pos (Nat.add_zero _), hx]
  · rw [hx]
    exact (s3.same b hbl hbg hoff).trans hheld
  · rcases s3.foot b hf with h1 | h1
    · exact hoff h1
    · omega
theorem GROWING.done {w wx : World} {B g : Nat} {d : Int} {log n j b : Nat} {C Cj : CHUNKS} {f : Nat → Nat → Nat} {x : Nat → Nat} (h : GROWING w wx B g d log n j b C Cj (LEAFS f n x)) (he : n / 2 ^ j % 2 = 0) (hn : n < 2 ^ 20) (hbyte : ∀ k, k < n → ∀ i, f k i < 256) (h8 : ∀ i, x i < 256) (hBg : B ≤ g) : APPENDED w B g d log n C f x wx := by
  have hnd := h.ones.nodes he
  have e1 : NODES (n + 1) = NODES n + 1 + j := by omega
  refine ⟨Cj, ⟨by rw [e1]; exact h.store, h.width, h.size, h.free, fun h1 k hk => ?_, fun k hk i => ?_, by omega, hBg⟩, h.step, h.below⟩
  · by_cases e : (k + 1) * 2 ^ h1 = n + 1
    · obtain ⟨rfl, ho⟩ := ONES.of_span e
      have hle : h1 ≤ j := by
        rcases Nat.lt_or_ge j h1 with hlt | hge
        · have := ho j hlt
          omega
        · exact hge
      rw [ho.place]
      exact h.new h1 hle
    · exact h.old h1 k (by omega)
  · unfold LEAFS
    split
    · exact h8 i
    · exact hbyte k (by omega) i
set_option maxHeartbeats 4000000 in
theorem append_ok {w : World} {B g : Nat} {d : Int} {log n : Nat} {C : CHUNKS} {f : Nat → Nat → Nat} (hF : FOREST w B g d log n C f) (x : Nat → Nat) (h8 : ∀ i, x i < 256) (hn : n < 2 ^ 20) (hT : Tabled w) (hGB : 2 < B) (hB : B ≤ w.heap.size) :
    Calls Tryd.prog 27 #[.pointer (some ⟨g, 0, none⟩), .agg (UARR .u8 32 x)] w fun e w' => e = .returned (.int .u64 (n : Int)) ∧ APPENDED w B g d log n C f x w' := by
  obtain ⟨w0, hw0⟩ : ∃ w0, w.alloc (.cells (UARR .u8 32 x) 27) = w0 := ⟨_, rfl⟩
  have hb0 : Below w.heap.size w w0 := by rw [← hw0]; exact (Below.refl _ _).alloc (Nat.le_refl _) _
  have h30 : Has w0 w.heap.size (UARR .u8 32 x) 27 := by rw [← hw0]; exact Has.new w _ _
  have hF0 := hF.below hb0
  have c6 := hF0.size
  have f6 := hF0.free
  have cl := Go.Proofs.YtnplhejopmoopaaDoor.leaf_ok n (by omega)
  have eu := u64_next (n := n) (by omega)
  go_enter Tryd.func27, Tryd.ntmps27
  go_wp2_with fail
  refine (cl _).mono ?_
  rintro e w1 ⟨rfl, rfl⟩
  clear cl
  go_upto_region 6 with fail
  have hgl := hF.store.lt
  obtain ⟨hS1, hst1⟩ := hF0.store.side 6 (by decide) (.int .u64 ((n : Int) + 1))
  have hbg : w.heap.size ≠ g := by omega
  have h31 : Has (w0.setCell ⟨g, 6, none⟩ (.int .u64 ((n : Int) + 1))) w.heap.size (UARR .u8 32 x) 27 := h30.other hbg _
  have hw5 : (w0.setCell ⟨g, 6, none⟩ (.int .u64 ((n : Int) + 1))).cell? ⟨g, 5, none⟩ = some (.int .i64 d) := (set_off (by decide) _).trans hF0.width
  have hw6 : (w0.setCell ⟨g, 6, none⟩ (.int .u64 ((n : Int) + 1))).cell? ⟨g, 6, none⟩ = some (.int .u64 ((n + 1 : Nat) : Int)) := World.cell?_setCell_same _ _ _ hF0.size
  have hbel1 : Below B w (w0.setCell ⟨g, 6, none⟩ (.int .u64 ((n : Int) + 1))) := (hb0.mono hB).setCell (p := ⟨g, 6, none⟩) hF.base _
  have hst : TSTEP w (w0.setCell ⟨g, 6, none⟩ (.int .u64 ((n : Int) + 1))) g C C := (STEP.below hF.store hb0).tree.trans hst1
  have hoff : ¬ FOOT (w0.setCell ⟨g, 6, none⟩ (.int .u64 ((n : Int) + 1))) g C w.heap.size := fun hf => by
    rcases hst1.foot _ hf with h1 | h1
    · exact Nat.lt_irrefl _ (hF.store.foot_lt (hF.store.foot_below hb0 h1))
    · have := h30.lt
      omega
  have hb3 : w.heap.size ≤ w.heap.size := Nat.le_refl _
  have A1 : Aside ((∀ h k, (k + 1) * 2 ^ h ≤ n → AT C log (PLC h k) = some (VAL d f h k)) ∧ (∀ k, k < n → ∀ i, f k i < 256) ∧ (∀ i, x i < 256) ∧ n < 2 ^ 20 ∧ Tabled w ∧ 2 < B ∧ B ≤ w.heap.size ∧ B ≤ g) := ⟨hF.node, hF.byte, h8, hn, hT, hGB, hB, hF.base⟩
  generalize w0.setCell ⟨g, 6, none⟩ (.int .u64 ((n : Int) + 1)) = W1 at *
  obtain ⟨b3, hb3e⟩ : ∃ b3, w.heap.size = b3 := ⟨_, rfl⟩
  rw [hb3e] at h31 hoff hbg hb3 ⊢
  have A2 : Aside (STORE W1 B g log (NODES n) (NODES n) (NODES n) C ∧ Has W1 b3 (UARR .u8 32 x) 27 ∧ W1.cell? ⟨g, 5, none⟩ = some (.int .i64 d) ∧ W1.cell? ⟨g, 6, none⟩ = some (.int .u64 ((n + 1 : Nat) : Int)) ∧ Below B w W1 ∧ TSTEP w W1 g C C ∧ ¬ FOOT W1 g C b3 ∧ b3 ≠ g ∧ w.heap.size ≤ b3) := ⟨hS1, h31, hw5, hw6, hbel1, hst, hoff, hbg, by omega⟩
  clear hF hF0 h30 hb0 c6 f6 hS1 hst1 hbg h31 hw5 hw6 hbel1 hst hoff hb3 hgl h8 hn hT hGB hB hw0 hb3e
  refine append_first W1 g b3 (NODES n) x (fun W => W = W1.drew) (fun W => PUSHED W1.drew B g log (NODES n) (NODES n) (NODES n) C x W) rfl (fun W e => by rw [e]; exact (show Has W1.drew b3 _ _ from A2.out.2.1).whole) (fun W hP => ?_) (fun W e => ?_) (fun _ _ _ _ _ h => h) ?_
  · obtain ⟨C', s1, s2, s3, s4⟩ := hP
    exact (show Has W b3 (UARR .u8 32 x) 27 from (s3.same b3 A2.out.2.1.lt A2.out.2.2.2.2.2.2.2.1 A2.out.2.2.2.2.2.2.1).trans A2.out.2.1).whole
  · subst e
    have hlt : NODES n < 2 ^ 22 := Nat.lt_trans (NODES_bound (h := 20) A1.out.2.2.2.1) (by decide)
    exact push_ok (A2.out.1.below (Below.refl _ _).drew) x A1.out.2.2.1 (by omega) (by omega) A1.out.2.2.2.2.2.2.2 (by omega)
  · intro W hP
    have hG : ∃ C', GROWING w W B g d log n 0 b3 C C' (LEAFS f n x) := growing_first (W1 := W1.drew) A1.out.1 A2.out.2.2.1 A2.out.2.2.2.1 A2.out.2.1 A2.out.2.2.2.2.2.2.1 A2.out.2.2.2.2.2.2.2.1 (A2.out.2.2.2.2.2.1.trans (STEP.below A2.out.1 (Below.refl _ _).drew).tree) A2.out.2.2.2.2.1.drew A2.out.2.2.2.2.2.2.2.2 hP
    clear hP A2
    obtain ⟨C0, hG⟩ := hG
    have hBW : B ≤ W.heap.size := Nat.le_trans A1.out.2.2.2.2.2.2.1 hG.step.size
    have hG2 := hG.moved hBW
    have hv : VAL d (LEAFS f n x) 0 (n / 2 ^ 0) = x := by rw [Nat.pow_zero, Nat.div_one]; exact LEAFS_at f n x
    rw [hv] at hG2
    have hx3 := hG.held
    rw [hv] at hx3
    have A3 : Aside (GROWING w (W.alloc (.cells (UARR .u8 32 x) 27)) B g d log n 0 W.heap.size C C0 (LEAFS f n x)) := hG2
    have hst := run_storeCells_new (P := Tryd.prog) W 27 (UARR .u8 32 fun _ => 0) (UARR .u8 32 x) (info_HASH _) (by rw [UARR_size, UARR_size]) (UARR_one _ _ _)
    have hsu := UARR_size .u8 32 x
    have hz := zeroHash
    clear hG hG2 hv hBW
    go_wp2_with (first
      | (refine wpList_load_row rfl 27 (.tmp 3) rfl b3 rfl 27 (UARR .u8 32 x) (0, 0) _ hx3 Tryd.underlying27 rfl (info_HASH _) ?_)
      | fail)
    clear hst hsu hx3
    obtain ⟨W2, hW2⟩ : ∃ W2, W.alloc (.cells (UARR .u8 32 x) 27) = W2 := ⟨_, rfl⟩
    rw [hW2] at A3 ⊢
    obtain ⟨b8, hb8⟩ : ∃ b8, W.heap.size = b8 := ⟨_, rfl⟩
    rw [hb8] at A3 ⊢
    clear hW2 hb8
    go_loopg [6, 8] n (fun r s6 s8 wx => ∃ (j b : Nat) (Cj : CHUNKS), s6 = .int .u64 ((NODES n + j : Nat) : Int) ∧ s8 = .pointer (some ⟨b, 0, none⟩) ∧ Aside (j + r = n ∧ GROWING w wx B g d log n j b C Cj (LEAFS f n x)))
    case atStart => exact ⟨0, b8, C0, rfl, rfl, by omega, A3.out⟩
    case round =>
      obtain ⟨j, b, Cj, rfl, rfl, A⟩ := hrel
      clear A3
      have hones := A.out.2.ones
      have hN := hones.node A1.out.2.2.2.1
      have hpl := hones.place
      have cr := Go.Proofs.YtnplhejopmoopaaDoor.right_ok j (n / 2 ^ j) hN
      rw [hpl] at cr
      by_cases hodd : n / 2 ^ j % 2 = 1
      · have hev : decide (n / 2 ^ j % 2 = 1) = true := decide_eq_true hodd
        rw [hev] at cr
        have hbx : B ≤ wr.heap.size := Nat.le_trans A1.out.2.2.2.2.2.2.1 A.out.2.step.size
        have hnx := hones.next hodd
        obtain ⟨r, rfl⟩ : ∃ r, gk = r + 1 := ⟨gk - 1, by have := hnx.lt; have := A.out.1; omega⟩
        have A4 : Aside (GROWING w wr B g d log n j b C Cj (LEAFS f n x) ∧ B ≤ wr.heap.size ∧ ONES n (j + 1) ∧ Node j (n / 2 ^ j) ∧ PLC j (n / 2 ^ j) = NODES n + j ∧ n / 2 ^ j = 2 * (n / 2 ^ (j + 1)) + 1 ∧ j + 1 + r = n ∧ j ≤ 20) := ⟨A.out.2, hbx, hnx, hN, hpl, by rw [half_pow]; omega, by have := A.out.1; omega, hones.small A1.out.2.2.2.1⟩
        clear hev hodd hN hpl hones A hbx hnx
        go_wp2_with fail
        refine (cr _).mono ?_
        rintro e wa ⟨rfl, hba⟩
        clear cr
        have hGa := A4.out.1.keep A4.out.2.1 hba
        have hBa : B ≤ wa.heap.size := Nat.le_trans A4.out.2.1 hba.size
        clear hba
        obtain ⟨L, hL⟩ : ∃ L, VAL d (LEAFS f n x) j (2 * (n / 2 ^ (j + 1))) = L := ⟨_, rfl⟩
        obtain ⟨X, hX⟩ : ∃ X, VAL d (LEAFS f n x) j (n / 2 ^ j) = X := ⟨_, rfl⟩
        obtain ⟨Y, hY⟩ : ∃ Y, VAL d (LEAFS f n x) (j + 1) (n / 2 ^ (j + 1)) = Y := ⟨_, rfl⟩
        have hYN : Y = HASHOF d (1 :: ((List.range 32).map L ++ (List.range 32).map X)) := by
          rw [← hY, VAL, hL, ← A4.out.2.2.2.2.2.1, hX]
          rfl
        have hspan := (ONES.span (n := n) (j := j) fun i hi => A4.out.2.2.1 i (by omega))
        have hleft : (2 * (n / 2 ^ (j + 1)) + 1) * 2 ^ j ≤ n := by
          rw [← A4.out.2.2.2.2.2.1]
          have h1 : (n / 2 ^ j + 1) * 2 ^ j = n / 2 ^ j * 2 ^ j + 2 ^ j := by rw [Nat.add_mul, Nat.one_mul]
          have h2 : 0 < 2 ^ j := Nat.two_pow_pos j
          omega
        have hbytes : ∀ k, k < n + 1 → ∀ i, LEAFS f n x k i < 256 := fun k hk i => by
          unfold LEAFS
          split
          · exact A1.out.2.2.1 i
          · exact A1.out.2.1 k (by omega) i
        have hL8 : ∀ i, L i < 256 := fun i => by rw [← hL]; exact VAL_lt hbytes _ _ (by omega) i
        have hX8 : ∀ i, X i < 256 := fun i => by rw [← hX]; exact VAL_lt hbytes _ _ (by omega) i
        have hY8 : ∀ i, Y i < 256 := fun i => by rw [hYN]; exact STATE_lt d _ _ i
        have hsib : SIB (n / 2 ^ j) = 2 * (n / 2 ^ (j + 1)) := by rw [A4.out.2.2.2.2.2.1]; unfold SIB; rw [if_pos (by omega)]; omega
        have hatL : AT Cj log (PLC j (SIB (n / 2 ^ j))) = some L := by rw [hsib, hGa.old j _ hleft, hL]
        have hltL : PLC j (SIB (n / 2 ^ j)) < NODES n + 1 + j := by rw [hsib]; have := PLC_under hleft; omega
        have hheld : Has wa b (UARR .u8 32 X) 27 := by rw [← hX]; exact hGa.held
        have hTa : Tabled wa := ⟨fun i hi => (hGa.below.cell (by show 2 < B; have := A1.out.2.2.2.2.2.1; omega)).trans (A1.out.2.2.2.2.1.1 i hi), fun i hi => (hGa.below.cell (by show 1 < B; have := A1.out.2.2.2.2.2.1; omega)).trans (A1.out.2.2.2.2.1.2.1 i hi), by have := A1.out.2.2.2.2.2.1; omega⟩
        have A5 : Aside (GROWING w wa B g d log n j b C Cj (LEAFS f n x) ∧ B ≤ wa.heap.size ∧ Has wa b (UARR .u8 32 X) 27 ∧ Tabled wa ∧ (∀ i, L i < 256) ∧ (∀ i, X i < 256) ∧ (∀ i, Y i < 256) ∧ Y = HASHOF d (1 :: ((List.range 32).map L ++ (List.range 32).map X)) ∧ AT Cj log (PLC j (SIB (n / 2 ^ j))) = some L ∧ PLC j (SIB (n / 2 ^ j)) < NODES n + 1 + j ∧ VAL d (LEAFS f n x) (j + 1) (n / 2 ^ (j + 1)) = Y) := ⟨hGa, hBa, hheld, hTa, hL8, hX8, hY8, hYN, hatL, hltL, hY⟩
        clear hGa hBa hheld hTa hL8 hX8 hY8 hYN hatL hltL hY hsib hbytes hleft hspan hX hL
        go_upto_region 10 with fail
        refine append_node wa g b (NODES n + j) d L X Y (fun V => Below wa.heap.size wa V) (Below.refl _ _).drew (fun V hV => ?_) (fun V hV => ?_) (fun V hV => ?_) (fun V hV => ?_) (fun _ _ _ _ _ h => h) ?_
        · have h1 := A5.out.2.2.1.keep hV
          exact ⟨(A5.out.1.keep A5.out.2.1 hV).width, h1.whole, h1⟩
        · exact ((A5.out.1.keep A5.out.2.1 hV).off_row A1.out.2.2.2.2.2.2.1 Y).2.1 5 |>.trans (A5.out.1.keep A5.out.2.1 hV).width
        · have h1 := left_ok (A5.out.1.keep A5.out.2.1 hV).store j (n / 2 ^ j) A4.out.2.2.2.1 (by have := A4.out.2.2.2.2.2.2.2; omega) A5.out.2.2.2.2.2.2.2.2.2.1 L A5.out.2.2.2.2.2.2.2.2.1
          rw [A4.out.2.2.2.2.1] at h1
          refine h1.mono ?_
          rintro e V' ⟨rfl, hb⟩
          exact ⟨rfl, hV.trans (hb.mono hV.size)⟩
        · refine (node_ok d L X A5.out.2.2.2.2.1 A5.out.2.2.2.2.2.1 V (A5.out.2.2.2.1.below hV)).mono ?_
          rintro e V' ⟨rfl, hb⟩
          exact ⟨by rw [A5.out.2.2.2.2.2.2.2.1], hV.trans (hb.mono hV.size)⟩
        · intro W3 hW3
          obtain ⟨w0', hw0', hW3⟩ := hW3
          have hGw := A5.out.1.keep A5.out.2.1 hw0'
          have hrow := hGw.off_row A1.out.2.2.2.2.2.2.1 Y
          rw [← hW3] at hrow
          have A6 : Aside (STORE W3 B g log (NODES n + 1 + j) (NODES n + 1 + j) (NODES n + 1 + j) Cj ∧ W3.cell? ⟨g, 5, none⟩ = some (.int .i64 d) ∧ W3.cell? ⟨g, 6, none⟩ = some (.int .u64 ((n + 1 : Nat) : Int)) ∧ Has W3 b (UARR .u8 32 Y) 27 ∧ ¬ FOOT W3 g Cj b ∧ TSTEP w W3 g C Cj ∧ Below B w W3 ∧ b ≠ g ∧ w.heap.size ≤ b) := ⟨hrow.1, (hrow.2.1 5).trans hGw.width, (hrow.2.1 6).trans hGw.size, hrow.2.2.2.1, hrow.2.2.2.2.1, hrow.2.2.2.2.2.1, hrow.2.2.2.2.2.2, hGw.lt.1, hGw.base⟩
          clear hW3 hGw hrow hw0'
          go_upto_region 11 with fail
          refine append_more W3 g b (NODES n + 1 + j) Y (fun V => V = W3.drew) (fun V => PUSHED W3.drew B g log (NODES n + 1 + j) (NODES n + 1 + j) (NODES n + 1 + j) Cj Y V) rfl (fun V e => by rw [e]; exact (show Has W3.drew b _ _ from A6.out.2.2.2.1).whole) (fun V hP => ?_) (fun V e => ?_) (fun _ _ _ _ _ h => h) ?_
          · obtain ⟨C', s1, s2, s3, s4⟩ := hP
            exact (show Has V b (UARR .u8 32 Y) 27 from (s3.same b A6.out.2.2.2.1.lt A6.out.2.2.2.2.2.2.2.1 A6.out.2.2.2.2.1).trans A6.out.2.2.2.1).whole
          · subst e
            have hlt : NODES n < 2 ^ 22 := Nat.lt_trans (NODES_bound (h := 20) A1.out.2.2.2.1) (by decide)
            have h20 := A4.out.2.2.2.2.2.2.2
            exact push_ok (A6.out.1.below (Below.refl _ _).drew) Y A5.out.2.2.2.2.2.2.1 (by omega) (by omega) A1.out.2.2.2.2.2.2.2 (by omega)
          · intro V hP
            have hG : ∃ C', GROWING w V B g d log n (j + 1) b C C' (LEAFS f n x) := growing_pushed (wx := W3.drew) A6.out.2.1 A6.out.2.2.1 A5.out.1.old A5.out.1.new A4.out.2.2.1 A6.out.2.2.2.1 A5.out.2.2.2.2.2.2.2.2.2.2.symm A6.out.2.2.2.2.1 A6.out.2.2.2.2.2.2.2.1 (A6.out.2.2.2.2.2.1.trans (STEP.below A6.out.1 (Below.refl _ _).drew).tree) A6.out.2.2.2.2.2.2.1.drew A6.out.2.2.2.2.2.2.2.2 hP
            clear hP A6
            obtain ⟨C0', hG⟩ := hG
            have hBV : B ≤ V.heap.size := Nat.le_trans A1.out.2.2.2.2.2.2.1 hG.step.size
            have hG2 := hG.moved hBV
            rw [A5.out.2.2.2.2.2.2.2.2.2.2] at hG2
            have hx3 := hG.held
            rw [A5.out.2.2.2.2.2.2.2.2.2.2] at hx3
            have A7 : Aside (GROWING w (V.alloc (.cells (UARR .u8 32 Y) 27)) B g d log n (j + 1) V.heap.size C C0' (LEAFS f n x)) := hG2
            have hst := run_storeCells_new (P := Tryd.prog) V 27 (UARR .u8 32 fun _ => 0) (UARR .u8 32 Y) (info_HASH _) (by rw [UARR_size, UARR_size]) (UARR_one _ _ _)
            have hsu := UARR_size .u8 32 Y
            have en := u64_next (n := NODES n + j) (by have hlt : NODES n < 2 ^ 22 := Nat.lt_trans (NODES_bound (h := 20) A1.out.2.2.2.1) (by decide); have h20 := A4.out.2.2.2.2.2.2.2; omega)
            clear hG hG2 hBV A5
            go_wp2_with (first
              | (refine wpList_load_row rfl 27 (.tmp 8) rfl b rfl 27 (UARR .u8 32 Y) (0, 0) _ hx3 Tryd.underlying27 rfl (info_HASH _) ?_)
              | fail)
            go_roundg r
            case measure => exact Nat.lt_succ_self _
            case rel => exact ⟨j + 1, V.heap.size, C0', by first | rfl | exact congrArg (Value.int IntKind.u64) en, rfl, A4.out.2.2.2.2.2.2.1, A7.out⟩
      · have hev : decide (n / 2 ^ j % 2 = 1) = false := decide_eq_false hodd
        rw [hev] at cr
        have hbx : B ≤ wr.heap.size := Nat.le_trans A1.out.2.2.2.2.2.2.1 A.out.2.step.size
        have FIN : Aside (∀ W', Below wr.heap.size wr W' → APPENDED w B g d log n C f x W') := fun W' hb => (A.out.2.keep hbx hb).done (by omega) A1.out.2.2.2.1 A1.out.2.1 A1.out.2.2.1 A1.out.2.2.2.2.2.2.2
        clear hev hodd hN hpl hones A hbx
        go_wp2_with fail
        refine (cr _).mono ?_
        rintro e W9 ⟨rfl, hb9⟩
        have hfin := FIN.out _ hb9
        clear cr hb9 FIN
        go_wp2_with fail
        go_ret
        exact ⟨rfl, hfin⟩
end Go.Proofs.YtnplhejopmoopaaDoor.HX

/- The region of folded of package mmr that draws its order. -/
namespace Go.Proofs.YtnplhejopmoopaaDoor.HX
open Go.RowKit
set_option maxRecDepth 100000

def MF8OPS : Array Oper := #[{ dst := some 25, op := Op.move (Operand.tmp 0), type := 3, pos := "grow.go:30", after := #[], guard := none }, { dst := some 26, op := Op.move (Operand.tmp 1), type := 44, pos := "grow.go:30", after := #[], guard := none }, { dst := some 27, op := Op.move (Operand.tmp 7), type := 3, pos := "grow.go:30", after := #[], guard := none }, { dst := some 28, op := Op.indexAddr 44 (Operand.tmp 26) (Operand.tmp 27), type := 0, pos := "grow.go:30", after := #[{ on := 1, ground := Ground.data }, { on := 2, ground := Ground.data }], guard := none }, { dst := some 29, op := Op.load 27 (Operand.tmp 28), type := 27, pos := "grow.go:30", after := #[{ on := 3, ground := Ground.data }], guard := none }, { dst := some 30, op := Op.load 27 (Operand.tmp 6), type := 27, pos := "grow.go:30", after := #[], guard := none }, { dst := some 31, op := Op.call { callee := Callee.value (Operand.func 73), args := #[Operand.tmp 25, Operand.tmp 29, Operand.tmp 30], argTypes := #[3, 27, 27] }, type := 27, pos := "grow.go:30", after := #[{ on := 0, ground := Ground.data }, { on := 4, ground := Ground.data }, { on := 5, ground := Ground.data }], guard := none }, { dst := none, op := Op.store 27 (Operand.tmp 6) (Operand.tmp 31), type := 0, pos := "grow.go:30", after := #[{ on := 6, ground := Ground.data }, { on := 6, ground := Ground.chain }, { on := 0, ground := Ground.phase }, { on := 1, ground := Ground.phase }, { on := 2, ground := Ground.phase }, { on := 3, ground := Ground.phase }, { on := 4, ground := Ground.phase }, { on := 5, ground := Ground.phase }, { on := 6, ground := Ground.phase }], guard := none }]
set_option maxHeartbeats 2000000 in
theorem folded_next {Q : Exit → Act → World → Prop} {u2 u3 u4 u5 u8 u9 u10 u11 u12 u13 u14 u15 u16 u17 u18 u19 u20 u21 u22 u23 u24 u25 u26 u27 u28 u29 u30 u31 u32 : Value} (W : World) (gn o n c b q : Nat) (d : Int) (l x y : Nat → Nat) (hq : (q : Int) < (n : Int)) (I : World → Prop) (h0 : I W.drew) (hI : ∀ w, I w → w.rangeAt gn (o + q * 32) (ULIST .u8 32 l) ∧ Has w b (UARR .u8 32 x) 27) (hRow : ∀ w, I w → (w.setRow b (UARR .u8 32 y)).rangeAt gn (o + q * 32) (ULIST .u8 32 l))
    (c1 : ∀ w, I w → Calls Tryd.prog 73 #[.int .i64 d, .agg (UARR .u8 32 l), .agg (UARR .u8 32 x)] w fun e w' => e = .returned (.agg (UARR .u8 32 y)) ∧ I w') (hQ : ∀ c (a : Act) (t : Tmp) (v : Value) w, Q (.panic c) (a.put (some t) v) w → Q (.panic c) a w)
    (hfin : ∀ (w : World), (∃ w0 : World, I w0 ∧ w = w0.setRow b (UARR .u8 32 y)) → Q .normal { tmps := #[.int .i64 d, .slice (some ⟨gn, o, none⟩) n c, u2, u3, u4, u5, .pointer (some ⟨b, 0, none⟩), .int .i64 (q : Int), u8, u9, u10, u11, u12, u13, u14, u15, u16, u17, u18, u19, u20, u21, u22, u23, u24, .int .i64 d, .slice (some ⟨gn, o, none⟩) n c, .int .i64 (q : Int), .pointer (some ⟨gn, (o + q * 32), none⟩), .agg (UARR .u8 32 l), .agg (UARR .u8 32 x), .agg (UARR .u8 32 y), u32], defers := [] } w) : (Code.region 8 MF8OPS true).wp Tryd.prog Q { tmps := #[.int .i64 d, .slice (some ⟨gn, o, none⟩) n c, u2, u3, u4, u5, .pointer (some ⟨b, 0, none⟩), .int .i64 (q : Int), u8, u9, u10, u11, u12, u13, u14, u15, u16, u17, u18, u19, u20, u21, u22, u23, u24, u25, u26, u27, u28, u29, u30, u31, u32], defers := [] } W := by
  have k5_6_7 : ∀ (w : World), (∃ w0 : World, I w0 ∧ w = w0.setRow b (UARR .u8 32 y)) → wpAnyH Tryd.prog .any MF8OPS Q (fun w : World => w.rangeAt gn (o + q * 32) (ULIST .u8 32 l)) 0 #[true, true, true, true, true, true, true, true] { tmps := #[.int .i64 d, .slice (some ⟨gn, o, none⟩) n c, u2, u3, u4, u5, .pointer (some ⟨b, 0, none⟩), .int .i64 (q : Int), u8, u9, u10, u11, u12, u13, u14, u15, u16, u17, u18, u19, u20, u21, u22, u23, u24, .int .i64 d, .slice (some ⟨gn, o, none⟩) n c, .int .i64 (q : Int), .pointer (some ⟨gn, (o + q * 32), none⟩), .agg (UARR .u8 32 l), .agg (UARR .u8 32 x), .agg (UARR .u8 32 y), u32], defers := [] } w := fun  w hp => by
    exact wpAnyH_done (by kernel_rfl) (hfin  w hp) _
  have k5_6 : ∀ (w : World), (I w) → wpAnyH Tryd.prog .any MF8OPS Q (fun w : World => w.rangeAt gn (o + q * 32) (ULIST .u8 32 l)) 1 #[true, true, true, true, true, true, true, false] { tmps := #[.int .i64 d, .slice (some ⟨gn, o, none⟩) n c, u2, u3, u4, u5, .pointer (some ⟨b, 0, none⟩), .int .i64 (q : Int), u8, u9, u10, u11, u12, u13, u14, u15, u16, u17, u18, u19, u20, u21, u22, u23, u24, .int .i64 d, .slice (some ⟨gn, o, none⟩) n c, .int .i64 (q : Int), .pointer (some ⟨gn, (o + q * 32), none⟩), .agg (UARR .u8 32 l), .agg (UARR .u8 32 x), .agg (UARR .u8 32 y), u32], defers := [] } w := fun  w hp => by
    refine wpAnyH_ready (rs := [7]) (by kernel_rfl) (by simp) ?_
    refine AllReadyH.cons (o := { dst := none, op := Op.store 27 (Operand.tmp 6) (Operand.tmp 31), type := 0, pos := "grow.go:30", after := #[{ on := 6, ground := Ground.data }, { on := 6, ground := Ground.chain }, { on := 0, ground := Ground.phase }, { on := 1, ground := Ground.phase }, { on := 2, ground := Ground.phase }, { on := 3, ground := Ground.phase }, { on := 4, ground := Ground.phase }, { on := 5, ground := Ground.phase }, { on := 6, ground := Ground.phase }], guard := none }) rfl (fun K hK => ?_) ?_
    · exact step_skip rfl (run_skip (store_hash (hI _ hp).2 y)) (have hp : (fun (w : World) => (∃ w0 : World, I w0 ∧ w = w0.setRow b (UARR .u8 32 y)))  _ := ⟨w, hp, rfl⟩; hK.out _ _ ((by obtain ⟨w0, h1, h2⟩ := hp; (first | rw [h2] | skip); exact hRow _ h1)) (fun _ => k5_6_7  _ hp))
    exact AllReadyH.nil
  have k5 : ∀ (w : World), (I w) → wpAnyH Tryd.prog .any MF8OPS Q (fun w : World => w.rangeAt gn (o + q * 32) (ULIST .u8 32 l)) 2 #[true, true, true, true, true, true, false, false] { tmps := #[.int .i64 d, .slice (some ⟨gn, o, none⟩) n c, u2, u3, u4, u5, .pointer (some ⟨b, 0, none⟩), .int .i64 (q : Int), u8, u9, u10, u11, u12, u13, u14, u15, u16, u17, u18, u19, u20, u21, u22, u23, u24, .int .i64 d, .slice (some ⟨gn, o, none⟩) n c, .int .i64 (q : Int), .pointer (some ⟨gn, (o + q * 32), none⟩), .agg (UARR .u8 32 l), .agg (UARR .u8 32 x), u31, u32], defers := [] } w := fun  w hp => by
    refine wpAnyH_ready (rs := [6]) (by kernel_rfl) (by simp) ?_
    refine AllReadyH.cons (o := { dst := some 31, op := Op.call { callee := Callee.value (Operand.func 73), args := #[Operand.tmp 25, Operand.tmp 29, Operand.tmp 30], argTypes := #[3, 27, 27] }, type := 27, pos := "grow.go:30", after := #[{ on := 0, ground := Ground.data }, { on := 4, ground := Ground.data }, { on := 5, ground := Ground.data }], guard := none }) rfl (fun K hK => ?_) ?_
    · rw [if_pos (by rfl)]
      go_simp
      refine (show Calls _ _ _ w (fun e w' => e = .returned (.agg (UARR .u8 32 y)) ∧ (I w')) from c1 w hp).mono ?_
      rintro e w' ⟨rfl, hp⟩
      exact hK.out _ _ ((hI _ hp).1) (fun _ => k5_6  w' hp)
    exact AllReadyH.nil
  have k : ∀ (w : World), (I w) → wpAnyH Tryd.prog .any MF8OPS Q (fun w : World => w.rangeAt gn (o + q * 32) (ULIST .u8 32 l)) 3 #[true, true, true, true, true, false, false, false] { tmps := #[.int .i64 d, .slice (some ⟨gn, o, none⟩) n c, u2, u3, u4, u5, .pointer (some ⟨b, 0, none⟩), .int .i64 (q : Int), u8, u9, u10, u11, u12, u13, u14, u15, u16, u17, u18, u19, u20, u21, u22, u23, u24, .int .i64 d, .slice (some ⟨gn, o, none⟩) n c, .int .i64 (q : Int), .pointer (some ⟨gn, (o + q * 32), none⟩), .agg (UARR .u8 32 l), u30, u31, u32], defers := [] } w := fun  w hp => by
    refine wpAnyH_ready (rs := [5]) (by kernel_rfl) (by simp) ?_
    refine AllReadyH.cons (o := { dst := some 30, op := Op.load 27 (Operand.tmp 6), type := 27, pos := "grow.go:30", after := #[], guard := none }) rfl (fun K hK => ?_) ?_
    · exact step_load rfl 27 (.tmp 6) rfl b 0 rfl (ULIST .u8 32 x) _ (hI _ hp).2.whole Tryd.underlying27 rfl (by rw [ULIST_length]; exact info_hash) (have hp : (fun (w : World) => (I w))  w := hp; hK.out _ _ ((hI _ hp).1) (fun _ => k5  _ hp))
    exact AllReadyH.nil
  have hp := h0
  have hww : (fun w : World => w.rangeAt gn (o + q * 32) (ULIST .u8 32 l)) W.drew := (hI _ hp).1
  have last := k W.drew hp
  have z : wpAnyH Tryd.prog .any MF8OPS Q (fun w : World => w.rangeAt gn (o + q * 32) (ULIST .u8 32 l)) 8 #[false, false, false, false, false, false, false, false] { tmps := #[.int .i64 d, .slice (some ⟨gn, o, none⟩) n c, u2, u3, u4, u5, .pointer (some ⟨b, 0, none⟩), .int .i64 (q : Int), u8, u9, u10, u11, u12, u13, u14, u15, u16, u17, u18, u19, u20, u21, u22, u23, u24, u25, u26, u27, u28, u29, u30, u31, u32], defers := [] } W.drew := by
    have t4 : wpAnyH Tryd.prog .any MF8OPS Q (fun w : World => w.rangeAt gn (o + q * 32) (ULIST .u8 32 l)) 4 #[true, true, true, true, false, false, false, false] { tmps := #[.int .i64 d, .slice (some ⟨gn, o, none⟩) n c, u2, u3, u4, u5, .pointer (some ⟨b, 0, none⟩), .int .i64 (q : Int), u8, u9, u10, u11, u12, u13, u14, u15, u16, u17, u18, u19, u20, u21, u22, u23, u24, .int .i64 d, .slice (some ⟨gn, o, none⟩) n c, .int .i64 (q : Int), .pointer (some ⟨gn, (o + q * 32), none⟩), u29, u30, u31, u32], defers := [] } W.drew :=
      wpAnyH_take (i := 4) (oi := { dst := some 29, op := Op.load 27 (Operand.tmp 28), type := 27, pos := "grow.go:30", after := #[{ on := 3, ground := Ground.data }], guard := none }) (v := .agg (UARR .u8 32 l)) rfl (by kernel_rfl) (by kernel_rfl) (by kernel_rfl) (fun _ _ _ h => hQ _ _ _ _ _ h) (yieldsIf_load_mid (by rfl) 27 (.tmp 28) rfl gn (o + q * 32) rfl (ULIST .u8 32 l) _ (fun w h => h) Tryd.underlying27 rfl (by rw [ULIST_length]; exact info_hash)) hww last
    have t3 : wpAnyH Tryd.prog .any MF8OPS Q (fun w : World => w.rangeAt gn (o + q * 32) (ULIST .u8 32 l)) 5 #[true, true, true, false, false, false, false, false] { tmps := #[.int .i64 d, .slice (some ⟨gn, o, none⟩) n c, u2, u3, u4, u5, .pointer (some ⟨b, 0, none⟩), .int .i64 (q : Int), u8, u9, u10, u11, u12, u13, u14, u15, u16, u17, u18, u19, u20, u21, u22, u23, u24, .int .i64 d, .slice (some ⟨gn, o, none⟩) n c, .int .i64 (q : Int), u28, u29, u30, u31, u32], defers := [] } W.drew :=
      wpAnyH_take (i := 3) (oi := { dst := some 28, op := Op.indexAddr 44 (Operand.tmp 26) (Operand.tmp 27), type := 0, pos := "grow.go:30", after := #[{ on := 1, ground := Ground.data }, { on := 2, ground := Ground.data }], guard := none }) (v := .pointer (some ⟨gn, (o + q * 32), none⟩)) rfl (by kernel_rfl) (by kernel_rfl) (by kernel_rfl) (fun _ _ _ h => hQ _ _ _ _ _ h) (Yields.yieldsIf (Or.inl ⟨by rfl, fun W => by go_simp⟩)) hww t4
    have t2 : wpAnyH Tryd.prog .any MF8OPS Q (fun w : World => w.rangeAt gn (o + q * 32) (ULIST .u8 32 l)) 6 #[true, true, false, false, false, false, false, false] { tmps := #[.int .i64 d, .slice (some ⟨gn, o, none⟩) n c, u2, u3, u4, u5, .pointer (some ⟨b, 0, none⟩), .int .i64 (q : Int), u8, u9, u10, u11, u12, u13, u14, u15, u16, u17, u18, u19, u20, u21, u22, u23, u24, .int .i64 d, .slice (some ⟨gn, o, none⟩) n c, u27, u28, u29, u30, u31, u32], defers := [] } W.drew :=
      wpAnyH_take (i := 2) (oi := { dst := some 27, op := Op.move (Operand.tmp 7), type := 3, pos := "grow.go:30", after := #[], guard := none }) (v := .int .i64 (q : Int)) rfl (by kernel_rfl) (by kernel_rfl) (by kernel_rfl) (fun _ _ _ h => hQ _ _ _ _ _ h) (Yields.yieldsIf (Or.inl ⟨by rfl, fun W => by go_simp⟩)) hww t3
    have t1 : wpAnyH Tryd.prog .any MF8OPS Q (fun w : World => w.rangeAt gn (o + q * 32) (ULIST .u8 32 l)) 7 #[true, false, false, false, false, false, false, false] { tmps := #[.int .i64 d, .slice (some ⟨gn, o, none⟩) n c, u2, u3, u4, u5, .pointer (some ⟨b, 0, none⟩), .int .i64 (q : Int), u8, u9, u10, u11, u12, u13, u14, u15, u16, u17, u18, u19, u20, u21, u22, u23, u24, .int .i64 d, u26, u27, u28, u29, u30, u31, u32], defers := [] } W.drew :=
      wpAnyH_take (i := 1) (oi := { dst := some 26, op := Op.move (Operand.tmp 1), type := 44, pos := "grow.go:30", after := #[], guard := none }) (v := .slice (some ⟨gn, o, none⟩) n c) rfl (by kernel_rfl) (by kernel_rfl) (by kernel_rfl) (fun _ _ _ h => hQ _ _ _ _ _ h) (Yields.yieldsIf (Or.inl ⟨by rfl, fun W => by go_simp⟩)) hww t2
    have t0 : wpAnyH Tryd.prog .any MF8OPS Q (fun w : World => w.rangeAt gn (o + q * 32) (ULIST .u8 32 l)) 8 #[false, false, false, false, false, false, false, false] { tmps := #[.int .i64 d, .slice (some ⟨gn, o, none⟩) n c, u2, u3, u4, u5, .pointer (some ⟨b, 0, none⟩), .int .i64 (q : Int), u8, u9, u10, u11, u12, u13, u14, u15, u16, u17, u18, u19, u20, u21, u22, u23, u24, u25, u26, u27, u28, u29, u30, u31, u32], defers := [] } W.drew :=
      wpAnyH_take (i := 0) (oi := { dst := some 25, op := Op.move (Operand.tmp 0), type := 3, pos := "grow.go:30", after := #[], guard := none }) (v := .int .i64 d) rfl (by kernel_rfl) (by kernel_rfl) (by kernel_rfl) (fun _ _ _ h => hQ _ _ _ _ _ h) (Yields.yieldsIf (Or.inl ⟨by rfl, fun W => by go_simp⟩)) hww t1
    exact t0
  exact wp_region_held_drew (S := (fun w : World => w.rangeAt gn (o + q * 32) (ULIST .u8 32 l))) (by kernel_rfl) hww (fun _ => z)
end Go.Proofs.YtnplhejopmoopaaDoor.HX
