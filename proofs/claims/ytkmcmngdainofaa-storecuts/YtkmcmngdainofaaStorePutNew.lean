/- chunk.put, in raw memory: a new row at the end. -/
import Derived.Test.YtkmcmngdainofaaStorePut
namespace Go.Proofs.Ytkmcmngdainofaa
open Go.RowKit
set_option maxRecDepth 100000

theorem RK_zero : ∀ k, RK 0 k = 0
  | 0 => rfl
  | k + 1 => by rw [RK, RK_zero k]; simp
set_option maxHeartbeats 2000000 in
theorem putnew_raw (B g n p q k : Nat) (v0 : Value) (xs : List Value) (h : Nat → Nat) (w : World) (hbx : Has w g #[v0] 70) (hBg : B ≤ g) (hrow : w.ownsRow B 73 3 v0 n xs) (hn : n ≤ 2 ^ 40) (hk : p % 64 = k) (hq : p / 64 = q) (hp : p < 2 ^ 64) (hB : B ≤ w.heap.size)
    (cf : ∀ W, Below w.heap.size w W → Calls Try.prog 39 #[.pointer (some ⟨g, 0, none⟩), .int .u64 (p : Int)] W fun e w' => e = .returned (.tuple #[.int .i64 (n : Int), .bool false]) ∧ Below W.heap.size W w') :
    Calls Try.prog 35 #[.pointer (some ⟨g, 0, none⟩), .int .u64 (p : Int), .agg (UARR .u8 32 h)] w fun e w' => (∃ v, e = .returned v) ∧ ∃ gr cap gh ch, Has w' g #[.slice (some ⟨gr, 0, none⟩) (n + 1) cap] 70 ∧
      w'.ownsRow B 73 3 (.slice (some ⟨gr, 0, none⟩) (n + 1) cap) (n + 1) (((xs ++ RQL q).set (n * 3 + 2) (.slice (some ⟨gh, 0, none⟩) 1 ch)).set (n * 3 + 1) (.int .u64 ((2 ^ k : Nat) : Int))) ∧
      w'.ownsRow B 33 32 (.slice (some ⟨gh, 0, none⟩) 1 ch) 1 (ULIST .u8 32 h) ∧ w.heap.size ≤ gh ∧ (v0.ownBlock = some gr ∨ w.heap.size ≤ gr) ∧ w.heap.size ≤ w'.heap.size ∧ Below B w w' ∧ ∀ b, b < w.heap.size → b ≠ g → v0.ownBlock ≠ some b → w'.heap[b]? = w.heap[b]? := by
  obtain ⟨w0, hw0⟩ : ∃ w0, w.alloc (.cells (UARR .u8 32 h) 33) = w0 := ⟨_, rfl⟩
  have hb0 : Below w.heap.size w w0 := by rw [← hw0]; exact (Below.refl _ _).alloc (Nat.le_refl _) _
  have h50 : Has w0 w.heap.size (UARR .u8 32 h) 33 := by rw [← hw0]; exact Has.new w _ _
  have cf0 := cf w0 hb0
  have cR0 : ∀ w, Calls Try.prog 17 #[.int .u64 (p : Int)] w fun e w' => e = .returned (.int .u64 (q : Int)) ∧ w = w' := fun w => by have := rowof_ok p w; rw [hq] at this; exact this
  have H : Aside (Has w g #[v0] 70 ∧ B ≤ g ∧ w.ownsRow B 73 3 v0 n xs ∧ n ≤ 2 ^ 40 ∧ p % 64 = k ∧ p < 2 ^ 64 ∧ B ≤ w.heap.size) := ⟨hbx, hBg, hrow, hn, hk, hp, hB⟩
  clear cf hbx hBg hrow hn hk hp hB hq
  go_enter Try.func35, Try.ntmps35
  go_wp2_with fail
  refine cf0.mono ?_
  rintro e wa ⟨rfl, hb1⟩
  clear cf0
  have hba : Below w.heap.size w wa := hb0.trans (hb1.mono hb0.size)
  obtain ⟨a1, a2, a3, a4, a5, a6, a7⟩ := H.out
  have hbxa := a1.keep hba
  have hrowa := own_keep a3 hba
  have h5a := h50.keep hb1
  have hvg : v0.ownBlock ≠ some g := fun e => by
    obtain ⟨cur, hcur, _⟩ := own_block hrowa e
    rw [show wa.heap[g]? = _ from hbxa] at hcur
    cases hcur
  have hv5 : v0.ownBlock ≠ some w.heap.size := fun e => by
    obtain ⟨cur, hcur, _⟩ := own_block a3 e
    have := (Array.getElem?_eq_some_iff.1 hcur).1
    omega
  have cIr := insertr_ok B wa.heap.size n v0 xs q (wa.drew.alloc (.cells (RQ q) 73)) (hrowa.drew.alloc _) (by have := hba.size; simp; omega) a4 (Has.new wa.drew _ _)
  have hgl : g < wa.heap.size := hbxa.lt
  have h5l : w.heap.size < wa.heap.size := h5a.lt
  have cIr' : Calls Try.prog 45 #[v0, .int .i64 (n : Int), .slice (some ⟨wa.heap.size, 0, none⟩) 1 1] (wa.drew.alloc (.cells (RQ q) 73)) fun e w' => ∃ X, e = .returned X ∧ ((∃ gr cap, X = .slice (some ⟨gr, 0, none⟩) (n + 1) cap ∧ w'.ownsRow B 73 3 (.slice (some ⟨gr, 0, none⟩) (n + 1) cap) (n + 1) (xs ++ RQL q) ∧ (wa.drew.alloc (.cells (RQ q) 73)).grownBy w' v0.ownBlock ∧ (v0.ownBlock = some gr ∨ wa.heap.size ≤ gr)) ∧ ∃ y, Has w' g #[y] 70) :=
    cIr.mono fun e w' ⟨gr, cap, h1, h2, h3, h4⟩ => by
      have hbk : w'.heap[g]? = wa.heap[g]? := (h3.block g (by simp; omega) (fun e => hvg e.symm)).trans (Below.heap_alloc wa.drew _ g (by exact hgl))
      exact ⟨_, h1, ⟨gr, cap, rfl, h2, h3, h4.imp id (fun e => by rw [e]; simp)⟩, v0, hbk.trans hbxa⟩
  clear cIr
  go_upto_region 3 with fail
  refine put3 _ _ _ _ _ _ _ _ _ _ _ _ _ _ _ _ _ _ _ _ _ _ _ _ _ _ _ _ _ _ _ _ _ _ _ _ _ _ _ _ _ _ _ _ _ _ _ _ _ _ _ _ _ _ _ _ wa g p n q v0 (fun X w' => ∃ gr cap, X = .slice (some ⟨gr, 0, none⟩) (n + 1) cap ∧ w'.ownsRow B 73 3 (.slice (some ⟨gr, 0, none⟩) (n + 1) cap) (n + 1) (xs ++ RQL q) ∧ (wa.drew.alloc (.cells (RQ q) 73)).grownBy w' v0.ownBlock ∧ (v0.ownBlock = some gr ∨ wa.heap.size ≤ gr)) (fun X w' ⟨gr, cap, h1, _⟩ => ⟨_, _, _, h1⟩) hbxa cR0 cIr' (fun _ _ _ _ _ h => h) ?_
  rintro X wb ⟨⟨gr, cap, rfl, ob, gwb, hgr⟩, y, hyb⟩
  dsimp only
  have hbk : ∀ b, b < wa.heap.size → v0.ownBlock ≠ some b → wb.heap[b]? = wa.heap[b]? := fun b hb hne => (gwb.block b (by simp; omega) (fun e => hne e.symm)).trans (Below.heap_alloc wa.drew _ b (by exact hb))
  have hgrg : gr ≠ g := by
    rcases hgr with e | e
    · exact fun e2 => hvg (by rw [e, e2])
    · omega
  obtain ⟨w1, hw1⟩ : ∃ w1, wb.setCell ⟨g, 0, none⟩ (.slice (some ⟨gr, 0, none⟩) (n + 1) cap) = w1 := ⟨_, rfl⟩
  have hset1 : ∀ b, b ≠ g → w1.heap[b]? = wb.heap[b]? := fun b hb => by rw [← hw1]; exact Below.heap_setCell _ _ _ b (by exact hb)
  have hbx1 : Has w1 g #[.slice (some ⟨gr, 0, none⟩) (n + 1) cap] 70 := by rw [← hw1]; exact hyb.set 0 _
  have hrow1 : w1.ownsRow B 73 3 (.slice (some ⟨gr, 0, none⟩) (n + 1) cap) (n + 1) (xs ++ RQL q) := ⟨ob.1, ob.2.imp id fun ⟨g', c', cur, e, b, r, rest⟩ => ⟨g', c', cur, e, b, by cases e; exact (hset1 gr hgrg).trans r, rest⟩⟩
  have h51 : Has w1 w.heap.size (UARR .u8 32 h) 33 := (hset1 _ (by have := a1.lt; omega)).trans ((hbk _ h5l hv5).trans h5a)
  have hs1 : wa.heap.size ≤ w1.heap.size := by
    have := gwb.size
    rw [← hw1]
    simp at this ⊢
    omega
  have hB1 : Below B w w1 := by
    rw [← hw1]
    have hs := hba.size
    exact ((((hba.mono a7).drew.alloc (by show B ≤ wa.heap.size; omega) _).grown gwb (by simp; omega) (fun b e => by obtain ⟨_, _, hB⟩ := own_block hrowa e; exact hB))).setCell (p := ⟨g, 0, none⟩) a2 _
  have hfr1 : ∀ b, b < w.heap.size → b ≠ g → v0.ownBlock ≠ some b → w1.heap[b]? = w.heap[b]? := fun b hb hne hno => (hset1 b hne).trans ((hbk b (by have := hba.size; omega) hno).trans (hba.block b hb))
  have hlen : xs.length = n * 3 := a3.1
  have ax1 : (xs ++ RQL q)[n * 3 + 1]? = some (.int .u64 ((0 : Nat) : Int)) := by rw [List.getElem?_append_right (by omega), hlen, show n * 3 + 1 - n * 3 = 1 by omega]; rfl
  have ax2 : (xs ++ RQL q)[n * 3 + 2]? = some (.slice none 0 0) := by rw [List.getElem?_append_right (by omega), hlen, show n * 3 + 2 - n * 3 = 2 by omega]; rfl
  rw [hw1]
  obtain ⟨x1, x2, x3, x4⟩ := own_there hrow1 ax1
  obtain ⟨y1, y2, y3, y4⟩ := own_there hrow1 ax2
  have hkk : k < 64 := by rw [← a5]; exact Nat.mod_lt _ (by decide)
  have cB : ∀ w, Calls Try.prog 18 #[.int .u64 (p : Int)] w fun e w' => e = .returned (.int .u64 ((2 ^ k : Nat) : Int)) ∧ w = w' := fun w => by have := bitof_ok p a6 w; rw [a5] at this; exact this
  have cR : ∀ w, w.cell? ⟨gr, n * 3 + 1, none⟩ = some (.int .u64 ((0 : Nat) : Int)) → Calls Try.prog 40 #[.pointer (some ⟨gr, n * 3, none⟩), .int .u64 ((2 ^ k : Nat) : Int)] w fun e w' => e = .returned (.int .i64 ((0 : Nat) : Int)) ∧ w = w' := fun w h => by
    have := rank_ok gr (n * 3) 0 k (by decide) hkk w h
    rw [POP_mod (by omega), RK_zero] at this
    exact this
  have cI := inserth_ok B w1.heap.size 0 (.slice none 0 0) [] h (w1.drew.alloc (.cells (UARR .u8 32 h) 33)) ⟨rfl, .inl ⟨rfl, rfl⟩⟩ (by have := hba.size; simp; omega) (by decide) (Has.new w1.drew _ _)
  have hp2 : 2 ^ k < 2 ^ 64 := Nat.pow_lt_pow_right (by decide) hkk
  have hor : bits .or .u64 ((0 : Nat) : Int) ((2 ^ k : Nat) : Int) = ((2 ^ k : Nat) : Int) := by rw [or_eq (by decide) hp2, Nat.zero_or]
  have G : Aside (gr ≠ g ∧ Has w1 g #[.slice (some ⟨gr, 0, none⟩) (n + 1) cap] 70 ∧ w1.ownsRow B 73 3 (.slice (some ⟨gr, 0, none⟩) (n + 1) cap) (n + 1) (xs ++ RQL q) ∧ gr < w1.heap.size ∧ B ≤ gr ∧ (v0.ownBlock = some gr ∨ wa.heap.size ≤ gr) ∧ wa.heap.size ≤ w1.heap.size ∧ w.heap.size ≤ wa.heap.size ∧ Below B w w1 ∧ (∀ b, b < w.heap.size → b ≠ g → v0.ownBlock ≠ some b → w1.heap[b]? = w.heap[b]?) ∧ (xs ++ RQL q)[n * 3 + 1]? = some (.int .u64 ((0 : Nat) : Int)) ∧ B ≤ w.heap.size) := ⟨hgrg, hbx1, hrow1, x3, x4, hgr, hs1, hba.size, hB1, hfr1, ax1, a7⟩
  have hn1 : (n : Int) < ((n + 1 : Nat) : Int) := by omega
  have hcb := hbx1.cell 0
  obtain ⟨N1, hN1⟩ : ∃ N1, n + 1 = N1 := ⟨_, rfl⟩
  rw [hN1] at G hn1 hcb
  have HN1 : Aside (n + 1 = N1) := hN1
  rw [hN1]
  clear hN1
  obtain ⟨bt, hbt⟩ : ∃ bt, 2 ^ k = bt := ⟨_, rfl⟩
  rw [hbt] at cB cR hor
  have HBT : Aside (2 ^ k = bt) := hbt
  clear hbt
  have cI' : Calls Try.prog 46 #[.slice none 0 0, .int .i64 ((0 : Nat) : Int), .slice (some ⟨w1.heap.size, 0, none⟩) 1 1] (w1.drew.alloc (.cells (UARR .u8 32 h) 33)) fun e w' => ∃ X, e = .returned X ∧ ((∃ gh ch, X = .slice (some ⟨gh, 0, none⟩) 1 ch ∧ w'.ownsRow B 33 32 (.slice (some ⟨gh, 0, none⟩) 1 ch) 1 (ULIST .u8 32 h) ∧ (w1.drew.alloc (.cells (UARR .u8 32 h) 33)).grownBy w' none ∧ w1.heap.size ≤ gh) ∧ ∃ y, w'.cell? ⟨gr, n * 3 + 2, none⟩ = some y ∧ w'.frozen? ⟨gr, n * 3 + 2, none⟩ = false) :=
    cI.mono fun e w' ⟨gh, ch, h1, h2, h3, h4⟩ => by
      have hbk : w'.heap[gr]? = w1.heap[gr]? := (h3.block gr (by simp; omega) (by simp [Value.ownBlock])).trans (Below.heap_alloc w1.drew _ gr (by exact x3))
      refine ⟨_, h1, ⟨gh, ch, rfl, h2, h3, ?_⟩, .slice none 0 0, ?_, ?_⟩
      · rcases h4 with e | e
        · simp [Value.ownBlock] at e
        · rw [e]; simp
      · rw [← y1]
        exact World.cell?_of_block (w := w1) (by exact hbk)
      · unfold World.frozen? at y2 ⊢
        rw [hbk]
        exact y2
  clear cI hbk hset1 hgrg hbx1 hrow1 hs1 hB1 hfr1 ob gwb hyb hw1 a1 a3 hbxa hrowa cIr' hgr ax1 ax2 y3 y4 x4 hp2 hkk
  go_upto_region 5 with fail
  refine put5 _ _ _ _ _ _ _ _ _ _ _ _ _ _ _ _ _ _ _ _ _ _ _ _ _ _ _ _ _ _ _ _ _ _ _ _ _ _ _ _ _ _ _ _ _ _ _ _ _ _ _ _ _ _ _ _ w1 gr n p bt 0 w.heap.size 0 h (.slice none 0 0) (fun X w' => ∃ gh ch, X = .slice (some ⟨gh, 0, none⟩) 1 ch ∧ w'.ownsRow B 33 32 (.slice (some ⟨gh, 0, none⟩) 1 ch) 1 (ULIST .u8 32 h) ∧ (w1.drew.alloc (.cells (UARR .u8 32 h) 33)).grownBy w' none ∧ w1.heap.size ≤ gh) (fun X w' ⟨gh, ch, h1, _⟩ => ⟨_, _, _, h1⟩) x1 y1 x3 h51 cB cR cI' (fun _ _ _ _ _ h => h) ?_
  rintro X w2 ⟨⟨gh, ch, rfl, o2, gw2, hgh⟩, _⟩
  dsimp only
  obtain ⟨g1, g6, g7, g10, g11, g12, g13, g14, g15, g16, g17, g18⟩ := G.out
  have hbk : ∀ b, b < w1.heap.size → w2.heap[b]? = w1.heap[b]? := fun b hb => (gw2.block b (by simp; omega) (by simp)).trans (Below.heap_alloc w1.drew _ b (by exact hb))
  have hrow2 : w2.ownsRow B 73 3 (.slice (some ⟨gr, 0, none⟩) N1 cap) N1 (xs ++ RQL q) := ⟨g7.1, g7.2.imp id fun ⟨g', c', cur, e, b, r, rest⟩ => ⟨g', c', cur, e, b, by cases e; exact (hbk gr g10).trans r, rest⟩⟩
  have hrow3 := own_set hrow2 (n * 3 + 2) (.slice (some ⟨gh, 0, none⟩) 1 ch)
  have hghr : gh ≠ gr := by omega
  have hx3 : ((xs ++ RQL q).set (n * 3 + 2) (.slice (some ⟨gh, 0, none⟩) 1 ch))[n * 3 + 1]? = some (.int .u64 ((0 : Nat) : Int)) := by rw [List.getElem?_set_ne (by omega)]; exact g17
  obtain ⟨z1, z2, z3, -⟩ := own_there hrow3 hx3
  have FIN : Aside (w2.ownsRow B 33 32 (.slice (some ⟨gh, 0, none⟩) 1 ch) 1 (ULIST .u8 32 h) ∧ gh ≠ gr ∧ w1.heap.size ≤ gh ∧ (w2.setCell ⟨gr, n * 3 + 2, none⟩ (.slice (some ⟨gh, 0, none⟩) 1 ch)).ownsRow B 73 3 (.slice (some ⟨gr, 0, none⟩) N1 cap) N1 ((xs ++ RQL q).set (n * 3 + 2) (.slice (some ⟨gh, 0, none⟩) 1 ch)) ∧ w1.heap.size ≤ w2.heap.size ∧ Below B w1 w2 ∧ ∀ b, b < w1.heap.size → w2.heap[b]? = w1.heap[b]?) := by
    refine ⟨o2, hghr, hgh, hrow3, ?_, ?_, hbk⟩
    · have := gw2.size
      simp at this
      omega
    · exact ((Below.refl B w1).drew.alloc (by show B ≤ w1.heap.size; omega) _).grown gw2 (by simp; omega) (fun b e => by cases e)
  clear hrow2 hrow3 hghr hx3 hbk o2 gw2 hgh g1 g6 g7 g10 g11 g12 g13 g14 g15 g16 g17 cR cI' x1 x2 x3 y1 y2 hcb h51
  go_upto_region 6 with fail
  refine put6 _ _ _ _ _ _ _ _ _ _ _ _ _ _ _ _ _ _ _ _ _ _ _ _ _ _ _ _ _ _ _ _ _ _ _ _ _ _ _ _ _ _ _ _ _ _ _ _ _ _ _ _ _ _ _ _ _ (w2.setCell ⟨gr, n * 3 + 2, none⟩ (.slice (some ⟨gh, 0, none⟩) 1 ch)) gr n p bt 0 bt z1 z2 hor cB (fun _ _ _ _ _ h => h) ?_
  dsimp only
  go_end0
  obtain ⟨f1, f2, f3, f4, f5, f6, f7⟩ := FIN.out
  obtain ⟨g1, g6, g7, g10, g11, g12, g13, g14, g15, g16, g17, g18⟩ := G.out
  have hset : ∀ b, b ≠ gr → ((w2.setCell ⟨gr, n * 3 + 2, none⟩ (.slice (some ⟨gh, 0, none⟩) 1 ch)).drew.setCell ⟨gr, n * 3 + 1, none⟩ (.int .u64 (bt : Int))).heap[b]? = w2.heap[b]? := fun b hb => (Below.heap_setCell _ _ _ b (by exact hb)).trans (Below.heap_setCell _ _ _ b (by exact hb))
  have hgl1 : g < w1.heap.size := g6.lt
  rw [HN1.out, HBT.out]
  refine ⟨⟨_, rfl⟩, gr, cap, gh, ch, (hset g (fun e => g1 e.symm)).trans ((f7 g hgl1).trans g6), own_set f4.drew (n * 3 + 1) (.int .u64 (bt : Int)), ?_, ?_, ?_, ?_, ?_, ?_⟩
  · exact ⟨f1.1, f1.2.imp id fun ⟨g', c', cur, e, b, r, rest⟩ => ⟨g', c', cur, e, b, by cases e; exact (hset gh f2).trans r, rest⟩⟩
  · omega
  · exact g12.imp id (fun e => by omega)
  · simp
    omega
  · exact ((g15.trans f6).setCell (p := ⟨gr, n * 3 + 2, none⟩) g11 _).drew.setCell (p := ⟨gr, n * 3 + 1, none⟩) g11 _
  · intro b hb hne hno
    have hbr : b ≠ gr := by
      rcases g12 with e | e
      · exact fun e2 => hno (by rw [e, e2])
      · omega
    exact (hset b hbr).trans ((f7 b (by omega)).trans (g16 b hb hne hno))
end Go.Proofs.Ytkmcmngdainofaa
