/- chunk.put, in raw memory: one hash more in a row that is there. -/
import Derived.Test.YtkmcmngdainofaaStorePutRegions
namespace Go.Proofs.Ytkmcmngdainofaa
open Go.RowKit
set_option maxRecDepth 100000

theorem own_set {w : World} {B s g n cap : Nat} {t : TypeId} {xs : List Value} (h : w.ownsRow B t s (.slice (some ⟨g, 0, none⟩) n cap) n xs) (j : Nat) (u : Value) : (w.setCell ⟨g, j, none⟩ u).ownsRow B t s (.slice (some ⟨g, 0, none⟩) n cap) n (xs.set j u) := by
  rcases h.2 with ⟨h0, _⟩ | ⟨g', cap', cur, e, hb, hg, hle, hm, hsz, hx⟩
  · cases h0
  · cases e
    refine ⟨by rw [List.length_set]; exact h.1, .inr ⟨g, cap, cur.setIfInBounds j u, rfl, hb, (show Has w g cur t from hg).set j u, hle, hm, by rw [Array.size_setIfInBounds]; exact hsz, ?_⟩⟩
    rw [Array.toList_setIfInBounds, List.take_set, hx]
theorem own_there {w : World} {B s g n cap j : Nat} {t : TypeId} {xs : List Value} {u : Value} (h : w.ownsRow B t s (.slice (some ⟨g, 0, none⟩) n cap) n xs) (hj : xs[j]? = some u) : w.cell? ⟨g, j, none⟩ = some u ∧ w.frozen? ⟨g, j, none⟩ = false ∧ g < w.heap.size ∧ B ≤ g := by
  have hlt : j < n * s := by have := (List.getElem?_eq_some_iff.1 hj).1; rw [h.1] at this; exact this
  refine ⟨by rw [h.cellAt j hlt]; exact hj, ?_, (h.lt g rfl).2, (h.lt g rfl).1⟩
  rcases h.2 with ⟨h0, _⟩ | ⟨g', cap', cur, e, hb, hg, _⟩
  · cases h0
  · cases e
    exact (show Has w g cur t from hg).frozen j
theorem own_block {w : World} {B s n : Nat} {t : TypeId} {v : Value} {xs : List Value} (h : w.ownsRow B t s v n xs) {b : Nat} (hb : v.ownBlock = some b) : ∃ cur, w.heap[b]? = some (.cells cur t (0, 0)) ∧ B ≤ b := by
  rcases h.2 with ⟨rfl, _⟩ | ⟨g, cap, cur, rfl, hB, hg, _⟩
  · cases hb
  · cases hb
    exact ⟨cur, hg, hB⟩
theorem own_keep {w w' : World} {base : Nat} {t : TypeId} {s : Nat} {v : Value} {n : Nat} {xs : List Value} (h : w.ownsRow base t s v n xs) (hb : Below w.heap.size w w') : w'.ownsRow base t s v n xs := by
  refine ⟨h.1, h.2.imp id ?_⟩
  rintro ⟨g, c, cur, a, b, r, rest⟩
  exact ⟨g, c, cur, a, b, (hb.block g (Array.getElem?_eq_some_iff.1 r).1).trans r, rest⟩
set_option maxHeartbeats 2000000 in
theorem putold_raw (B g gr i m cap p k live n0 : Nat) (xs ys : List Value) (hv : Value) (h : Nat → Nat) (w : World) (hbx : Has w g #[.slice (some ⟨gr, 0, none⟩) m cap] 70) (hrow : w.ownsRow B 73 3 (.slice (some ⟨gr, 0, none⟩) m cap) m xs) (him : i < m)
    (hl : xs[i * 3 + 1]? = some (.int .u64 (live : Int))) (hhv : xs[i * 3 + 2]? = some hv) (hown : w.ownsRow B 33 32 hv n0 ys) (hrk : RK live k = n0) (hlive : live < 2 ^ 64) (hk : p % 64 = k) (hp : p < 2 ^ 64) (hB : B ≤ w.heap.size) (hn0 : n0 ≤ 1000)
    (cf : ∀ W, Below w.heap.size w W → Calls Try.prog 39 #[.pointer (some ⟨g, 0, none⟩), .int .u64 (p : Int)] W fun e w' => e = .returned (.tuple #[.int .i64 (i : Int), .bool true]) ∧ Below W.heap.size W w') :
    Calls Try.prog 35 #[.pointer (some ⟨g, 0, none⟩), .int .u64 (p : Int), .agg (UARR .u8 32 h)] w fun e w' => (∃ v, e = .returned v) ∧ ∃ gh ch, Has w' g #[.slice (some ⟨gr, 0, none⟩) m cap] 70 ∧
      w'.ownsRow B 73 3 (.slice (some ⟨gr, 0, none⟩) m cap) m ((xs.set (i * 3 + 2) (.slice (some ⟨gh, 0, none⟩) (n0 + 1) ch)).set (i * 3 + 1) (.int .u64 ((live ||| 2 ^ k : Nat) : Int))) ∧
      w'.ownsRow B 33 32 (.slice (some ⟨gh, 0, none⟩) (n0 + 1) ch) (n0 + 1) (ys ++ ULIST .u8 32 h) ∧ (hv.ownBlock = some gh ∨ w.heap.size ≤ gh) ∧ w.heap.size ≤ w'.heap.size ∧ Below B w w' ∧ ∀ b, b < w.heap.size → b ≠ gr → hv.ownBlock ≠ some b → w'.heap[b]? = w.heap[b]? := by
  obtain ⟨w0, hw0⟩ : ∃ w0, w.alloc (.cells (UARR .u8 32 h) 33) = w0 := ⟨_, rfl⟩
  have hb0 : Below w.heap.size w w0 := by rw [← hw0]; exact (Below.refl _ _).alloc (Nat.le_refl _) _
  have h50 : Has w0 w.heap.size (UARR .u8 32 h) 33 := by rw [← hw0]; exact Has.new w _ _
  have cf0 := cf w0 hb0
  have H : Aside (Has w g #[.slice (some ⟨gr, 0, none⟩) m cap] 70 ∧ w.ownsRow B 73 3 (.slice (some ⟨gr, 0, none⟩) m cap) m xs ∧ xs[i * 3 + 1]? = some (.int .u64 (live : Int)) ∧ xs[i * 3 + 2]? = some hv ∧ w.ownsRow B 33 32 hv n0 ys ∧ RK live k = n0 ∧ live < 2 ^ 64 ∧ p % 64 = k ∧ p < 2 ^ 64 ∧ B ≤ w.heap.size ∧ n0 ≤ 1000) := ⟨hbx, hrow, hl, hhv, hown, hrk, hlive, hk, hp, hB, hn0⟩
  have him' : (i : Int) < (m : Int) := by omega
  clear cf hbx hrow hl hhv hown hrk hlive hk hp hB hn0 him
  go_enter Try.func35, Try.ntmps35
  go_wp2_with fail
  refine cf0.mono ?_
  rintro e w1 ⟨rfl, hb1⟩
  clear cf0
  have hb1' : Below w.heap.size w w1 := hb0.trans (hb1.mono hb0.size)
  obtain ⟨a1, a2, a3, a4, a5, a6, a7, a8, a9, a10, a11⟩ := H.out
  have hbx1 := a1.keep hb1'
  have hrow1 := own_keep a2 hb1'
  have hown1 := own_keep a5 hb1'
  have h51 := h50.keep hb1
  have hcb := hbx1.cell 0
  obtain ⟨x1, x2, x3, x4⟩ := own_there hrow1 a3
  obtain ⟨y1, y2, y3, y4⟩ := own_there hrow1 a4
  have hkk : k < 64 := by rw [← a8]; exact Nat.mod_lt _ (by decide)
  have cB : ∀ w, Calls Try.prog 18 #[.int .u64 (p : Int)] w fun e w' => e = .returned (.int .u64 ((2 ^ k : Nat) : Int)) ∧ w = w' := fun w => by have := bitof_ok p a9 w; rw [a8] at this; exact this
  have cR : ∀ w, w.cell? ⟨gr, i * 3 + 1, none⟩ = some (.int .u64 (live : Int)) → Calls Try.prog 40 #[.pointer (some ⟨gr, i * 3, none⟩), .int .u64 ((2 ^ k : Nat) : Int)] w fun e w' => e = .returned (.int .i64 (n0 : Int)) ∧ w = w' := fun w h => by
    have := rank_ok gr (i * 3) live k a7 hkk w h
    rw [POP_mod (by omega), a6] at this
    exact this
  have cI := inserth_ok B w1.heap.size n0 hv ys h (w1.drew.alloc (.cells (UARR .u8 32 h) 33)) (hown1.drew.alloc _) (by have := hb1'.size; simp; omega) a11 (Has.new w1.drew _ _)
  have hgrh : hv.ownBlock ≠ some gr := fun e => by
    obtain ⟨cur, hcur, _⟩ := own_block hown1 e
    rcases hrow1.2 with ⟨h0, _⟩ | ⟨g', cap', cur', e', _, hg, _⟩
    · cases h0
    · cases e'
      rw [hcur] at hg
      cases hg
  have hgg : hv.ownBlock ≠ some g := fun e => by
    obtain ⟨cur, hcur, _⟩ := own_block hown1 e
    rw [show w1.heap[g]? = _ from hbx1] at hcur
    cases hcur
  have hgrg : gr ≠ g := fun e => by
    rcases hrow1.2 with ⟨h0, _⟩ | ⟨g', cap', cur', e', _, hg, _⟩
    · cases h0
    · cases e'
      rw [e, show w1.heap[g]? = _ from hbx1] at hg
      cases hg
  have hp2 : 2 ^ k < 2 ^ 64 := Nat.pow_lt_pow_right (by decide) hkk
  have hor : bits .or .u64 (live : Int) ((2 ^ k : Nat) : Int) = ((live ||| 2 ^ k : Nat) : Int) := or_eq a7 hp2
  have G : Aside (gr ≠ g ∧ hv.ownBlock ≠ some gr ∧ hv.ownBlock ≠ some g ∧ B ≤ w.heap.size ∧ w1.heap.size = w1.drew.heap.size ∧ Has w1 g #[.slice (some ⟨gr, 0, none⟩) m cap] 70 ∧ w1.ownsRow B 73 3 (.slice (some ⟨gr, 0, none⟩) m cap) m xs ∧ w1.ownsRow B 33 32 hv n0 ys ∧ Below w.heap.size w w1 ∧ gr < w1.heap.size ∧ B ≤ gr) := ⟨hgrg, hgrh, hgg, a10, rfl, hbx1, hrow1, hown1, hb1', x3, x4⟩
  clear a1 a2 a5 a6 a7 a8 a9 a10 a11 hgrg hgrh hgg hkk hp2 hown1 hrow1 y3 y4 x4 hbx1
  obtain ⟨bt, hbt⟩ : ∃ bt, 2 ^ k = bt := ⟨_, rfl⟩
  obtain ⟨lb, hlb⟩ : ∃ lb, live ||| 2 ^ k = lb := ⟨_, rfl⟩
  rw [hlb] at hor
  rw [hbt] at cB cR hor
  have HLB : Aside (live ||| 2 ^ k = lb) := hlb
  clear hbt hlb
  have cI' : Calls Try.prog 46 #[hv, .int .i64 (n0 : Int), .slice (some ⟨w1.heap.size, 0, none⟩) 1 1] (w1.drew.alloc (.cells (UARR .u8 32 h) 33)) fun e w' => ∃ X, e = .returned X ∧ ((∃ gh ch, X = .slice (some ⟨gh, 0, none⟩) (n0 + 1) ch ∧ w'.ownsRow B 33 32 (.slice (some ⟨gh, 0, none⟩) (n0 + 1) ch) (n0 + 1) (ys ++ ULIST .u8 32 h) ∧ (w1.drew.alloc (.cells (UARR .u8 32 h) 33)).grownBy w' hv.ownBlock ∧ (hv.ownBlock = some gh ∨ w1.heap.size ≤ gh)) ∧ ∃ y, w'.cell? ⟨gr, i * 3 + 2, none⟩ = some y ∧ w'.frozen? ⟨gr, i * 3 + 2, none⟩ = false) :=
    cI.mono fun e w' ⟨gh, ch, h1, h2, h3, h4⟩ => by
      have hbk : w'.heap[gr]? = w1.heap[gr]? := (h3.block gr (by simp; have := G.out.2.2.2.2.2.2.2.2.2.1; omega) (fun e => G.out.2.1 e.symm)).trans (Below.heap_alloc w1.drew _ gr (by exact G.out.2.2.2.2.2.2.2.2.2.1))
      refine ⟨_, h1, ⟨gh, ch, rfl, h2, h3, h4.imp id (fun e => by rw [e]; simp)⟩, hv, ?_, ?_⟩
      · rw [← y1]
        exact World.cell?_of_block (w := w1) (by exact hbk)
      · unfold World.frozen? at y2 ⊢
        rw [hbk]
        exact y2
  clear cI
  go_upto_region 5 with fail
  refine put5 _ _ _ _ _ _ _ _ _ _ _ _ _ _ _ _ _ _ _ _ _ _ _ _ _ _ _ _ _ _ _ _ _ _ _ _ _ _ _ _ _ _ _ _ _ _ _ _ _ _ _ _ _ _ _ _ w1 gr i p bt n0 w.heap.size live h hv (fun X w' => ∃ gh ch, X = .slice (some ⟨gh, 0, none⟩) (n0 + 1) ch ∧ w'.ownsRow B 33 32 (.slice (some ⟨gh, 0, none⟩) (n0 + 1) ch) (n0 + 1) (ys ++ ULIST .u8 32 h) ∧ (w1.drew.alloc (.cells (UARR .u8 32 h) 33)).grownBy w' hv.ownBlock ∧ (hv.ownBlock = some gh ∨ w1.heap.size ≤ gh)) (fun X w' ⟨gh, ch, h1, _⟩ => ⟨_, _, _, h1⟩) x1 y1 x3 h51 cB cR cI' (fun _ _ _ _ _ h => h) ?_
  rintro X w2 ⟨⟨gh, ch, rfl, o2, gw2, hgh⟩, _⟩
  dsimp only
  obtain ⟨g1, g2, g3, g4, -, g6, g7, g8, g9, g10, g11⟩ := G.out
  have hbk : ∀ b, b < w1.heap.size → hv.ownBlock ≠ some b → w2.heap[b]? = w1.heap[b]? := fun b hb hne => (gw2.block b (by simp; omega) (fun e => hne e.symm)).trans (Below.heap_alloc w1.drew _ b (by exact hb))
  have hrow2 : w2.ownsRow B 73 3 (.slice (some ⟨gr, 0, none⟩) m cap) m xs := ⟨g7.1, g7.2.imp id fun ⟨g', c', cur, e, b, r, rest⟩ => ⟨g', c', cur, e, b, by cases e; exact (hbk gr g10 g2).trans r, rest⟩⟩
  have hrow3 := own_set hrow2 (i * 3 + 2) (.slice (some ⟨gh, 0, none⟩) (n0 + 1) ch)
  have hghr : gh ≠ gr := by
    rcases hgh with e | e
    · exact fun e2 => g2 (by rw [e, e2])
    · omega
  have hx3 : (xs.set (i * 3 + 2) (.slice (some ⟨gh, 0, none⟩) (n0 + 1) ch))[i * 3 + 1]? = some (.int .u64 (live : Int)) := by rw [List.getElem?_set_ne (by omega)]; exact a3
  obtain ⟨z1, z2, z3, -⟩ := own_there hrow3 hx3
  have FIN : Aside (w2.ownsRow B 33 32 (.slice (some ⟨gh, 0, none⟩) (n0 + 1) ch) (n0 + 1) (ys ++ ULIST .u8 32 h) ∧ gh ≠ gr ∧ (hv.ownBlock = some gh ∨ w1.heap.size ≤ gh) ∧ (w2.setCell ⟨gr, i * 3 + 2, none⟩ (.slice (some ⟨gh, 0, none⟩) (n0 + 1) ch)).ownsRow B 73 3 (.slice (some ⟨gr, 0, none⟩) m cap) m (xs.set (i * 3 + 2) (.slice (some ⟨gh, 0, none⟩) (n0 + 1) ch)) ∧ w1.heap.size ≤ w2.heap.size ∧ Below B w1 w2 ∧ ∀ b, b < w1.heap.size → hv.ownBlock ≠ some b → w2.heap[b]? = w1.heap[b]?) := by
    refine ⟨o2, hghr, hgh, hrow3, ?_, ?_, hbk⟩
    · have := gw2.size
      simp at this
      omega
    · have hs := g9.size
      exact ((Below.refl B w1).drew.alloc (by show B ≤ w1.heap.size; omega) _).grown gw2 (by simp; omega) (fun b e => by obtain ⟨_, _, hB⟩ := own_block g8 e; exact hB)
  clear hrow2 hrow3 hghr hx3 hbk o2 gw2 hgh g1 g2 g3 g4 g6 g7 g8 g9 g10 g11 cR cI' x1 x2 x3 y1 y2 hcb h51
  go_upto_region 6 with fail
  refine put6 _ _ _ _ _ _ _ _ _ _ _ _ _ _ _ _ _ _ _ _ _ _ _ _ _ _ _ _ _ _ _ _ _ _ _ _ _ _ _ _ _ _ _ _ _ _ _ _ _ _ _ _ _ _ _ _ _ (w2.setCell ⟨gr, i * 3 + 2, none⟩ (.slice (some ⟨gh, 0, none⟩) (n0 + 1) ch)) gr i p bt live lb z1 z2 hor cB (fun _ _ _ _ _ h => h) ?_
  dsimp only
  go_end0
  obtain ⟨f1, f2, f3, f4, f5, f6, f7⟩ := FIN.out
  obtain ⟨g1, g2, g3, g4, -, g6, g7, g8, g9, g10, g11⟩ := G.out
  have hs9 := g9.size
  have hset : ∀ b, b ≠ gr → ((w2.setCell ⟨gr, i * 3 + 2, none⟩ (.slice (some ⟨gh, 0, none⟩) (n0 + 1) ch)).drew.setCell ⟨gr, i * 3 + 1, none⟩ (.int .u64 (lb : Int))).heap[b]? = w2.heap[b]? := fun b hb => (Below.heap_setCell _ _ _ b (by exact hb)).trans (Below.heap_setCell _ _ _ b (by exact hb))
  have hgl : g < w1.heap.size := g6.lt
  refine ⟨⟨_, rfl⟩, gh, ch, (hset g (fun e => g1 e.symm)).trans ((f7 g hgl g3).trans g6), ?_, ?_, ?_, ?_, ?_, ?_⟩
  · rw [HLB.out]
    exact own_set f4.drew (i * 3 + 1) (.int .u64 (lb : Int))
  · exact ⟨f1.1, f1.2.imp id fun ⟨g', c', cur, e, b, r, rest⟩ => ⟨g', c', cur, e, b, by cases e; exact (hset gh f2).trans r, rest⟩⟩
  · exact f3.imp id (fun e => by omega)
  · simp
    omega
  · exact (((g9.mono g4).trans f6).setCell (p := ⟨gr, i * 3 + 2, none⟩) g11 _).drew.setCell (p := ⟨gr, i * 3 + 1, none⟩) g11 _
  · intro b hb hne hno
    exact (hset b hne).trans ((f7 b (by omega) hno).trans (g9.block b hb))
end Go.Proofs.Ytkmcmngdainofaa
