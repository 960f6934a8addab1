/- Texts of PartOne, one behind the other: StorePut, StorePutNew, StorePutPlain. -/
import Derived.Test.YtnplhejopmoopaaDoorPartOneP12
/- chunk.put, in raw memory: one hash more in a row that is there. -/
namespace Go.Proofs.YtnplhejopmoopaaDoor.HX
open Go.RowKit
set_option maxRecDepth 100000

theorem own_set {w : World} {B s g n cap : Nat} {t : TypeId} {xs : List Value} (h : w.ownsRow B t s (.slice (some ⟨g, 0, none⟩) n cap) n xs) (j : Nat) (u : Value) : (w.setCell ⟨g, j, none⟩ u).ownsRow B t s (.slice (some ⟨g, 0, none⟩) n cap) n (xs.set j u) := by
  rcases h.2 with ⟨h0, _⟩ | ⟨g', cap', cur, e, hb, hg, hle, hm, hsz, hx⟩
  · cases h0
  · cases e
    refine ⟨by rw [List.length_set]; exact h.1, .inr ⟨g, cap, cur.setIfInBounds j u, rfl, hb, (show Has w g cur t from hg).set j u, hle, hm, by rw [Array.size_setIfInBounds]; exact hsz, ?_⟩⟩
    rw [Array.toList_setIfInBounds, List.take_set, hx]
theorem own_there {w : World} {B s g n cap j : Nat} {t : TypeId} {xs : List Value} {u : Value} (h : w.ownsRow B t s (.slice (some ⟨g, 0, none⟩) n cap) n xs) (hj : xs[j]? = some u) : w.cell? ⟨g, j, none⟩ = some u ∧ w.frozen? ⟨g, j, none⟩ = false ∧ g < w.heap.size ∧ B ≤ g := by
  have hlt : j < n * s := by have := (List.getElem?_eq_some_iff.1 hj).1; rw [h.1] at this; exact this
  refine ⟨by rw [h.cellAt j hlt]; exact hj, ?_, (h.lt g rfl).2, (h.lt g rfl).1⟩
  rcases h.2 with ⟨h0, _⟩ | ⟨g', cap', cur, e, hb, hg, _⟩
  · cases h0
  · cases e
    exact (show Has w g cur t from hg).frozen j
theorem own_block {w : World} {B s n : Nat} {t : TypeId} {v : Value} {xs : List Value} (h : w.ownsRow B t s v n xs) {b : Nat} (hb : v.ownBlock = some b) : ∃ cur, w.heap[b]? = some (.cells cur t (0, 0)) ∧ B ≤ b := by
  rcases h.2 with ⟨rfl, _⟩ | ⟨g, cap, cur, rfl, hB, hg, _⟩
  · cases hb
  · cases hb
    exact ⟨cur, hg, hB⟩
theorem own_keep {w w' : World} {base : Nat} {t : TypeId} {s : Nat} {v : Value} {n : Nat} {xs : List Value} (h : w.ownsRow base t s v n xs) (hb : Below w.heap.size w w') : w'.ownsRow base t s v n xs := by
  refine ⟨h.1, h.2.imp id ?_⟩
  rintro ⟨g, c, cur, a, b, r, rest⟩
  exact ⟨g, c, cur, a, b, (hb.block g (Array.getElem?_eq_some_iff.1 r).1).trans r, rest⟩
set_option maxHeartbeats 2000000 in
theorem putold_raw (B g gr i m cap p k live n0 : Nat) (xs ys : List Value) (hv : Value) (h : Nat → Nat) (w : World) (hbx : Has w g #[.slice (some ⟨gr, 0, none⟩) m cap] 115) (hrow : w.ownsRow B 124 3 (.slice (some ⟨gr, 0, none⟩) m cap) m xs) (him : i < m)
    (hl : xs[i * 3 + 1]? = some (.int .u64 (live : Int))) (hhv : xs[i * 3 + 2]? = some hv) (hown : w.ownsRow B 27 32 hv n0 ys) (hrk : RK live k = n0) (hlive : live < 2 ^ 64) (hk : p % 64 = k) (hp : p < 2 ^ 64) (hB : B ≤ w.heap.size) (hn0 : n0 ≤ 1000)
    (cf : ∀ W, Below w.heap.size w W → Calls Tryd.prog 69 #[.pointer (some ⟨g, 0, none⟩), .int .u64 (p : Int)] W fun e w' => e = .returned (.tuple #[.int .i64 (i : Int), .bool true]) ∧ Below W.heap.size W w') :
    Calls Tryd.prog 64 #[.pointer (some ⟨g, 0, none⟩), .int .u64 (p : Int), .agg (UARR .u8 32 h)] w fun e w' => (∃ v, e = .returned v) ∧ ∃ gh ch, Has w' g #[.slice (some ⟨gr, 0, none⟩) m cap] 115 ∧
      w'.ownsRow B 124 3 (.slice (some ⟨gr, 0, none⟩) m cap) m ((xs.set (i * 3 + 2) (.slice (some ⟨gh, 0, none⟩) (n0 + 1) ch)).set (i * 3 + 1) (.int .u64 ((live ||| 2 ^ k : Nat) : Int))) ∧
      w'.ownsRow B 27 32 (.slice (some ⟨gh, 0, none⟩) (n0 + 1) ch) (n0 + 1) (ys ++ ULIST .u8 32 h) ∧ (hv.ownBlock = some gh ∨ w.heap.size ≤ gh) ∧ w.heap.size ≤ w'.heap.size ∧ Below B w w' ∧ ∀ b, b < w.heap.size → b ≠ gr → hv.ownBlock ≠ some b → w'.heap[b]? = w.heap[b]? := by
  obtain ⟨w0, hw0⟩ : ∃ w0, w.alloc (.cells (UARR .u8 32 h) 27) = w0 := ⟨_, rfl⟩
  have hb0 : Below w.heap.size w w0 := by rw [← hw0]; exact (Below.refl _ _).alloc (Nat.le_refl _) _
  have h50 : Has w0 w.heap.size (UARR .u8 32 h) 27 := by rw [← hw0]; exact Has.new w _ _
  have cf0 := cf w0 hb0
  have H : Aside (Has w g #[.slice (some ⟨gr, 0, none⟩) m cap] 115 ∧ w.ownsRow B 124 3 (.slice (some ⟨gr, 0, none⟩) m cap) m xs ∧ xs[i * 3 + 1]? = some (.int .u64 (live : Int)) ∧ xs[i * 3 + 2]? = some hv ∧ w.ownsRow B 27 32 hv n0 ys ∧ RK live k = n0 ∧ live < 2 ^ 64 ∧ p % 64 = k ∧ p < 2 ^ 64 ∧ B ≤ w.heap.size ∧ n0 ≤ 1000) := ⟨hbx, hrow, hl, hhv, hown, hrk, hlive, hk, hp, hB, hn0⟩
  have him' : (i : Int) < (m : Int) := by omega
  clear cf hbx hrow hl hhv hown hrk hlive hk hp hB hn0 him
  go_enter Tryd.func64, Tryd.ntmps64
  go_wp2_with fail
  refine cf0.mono ?_
  rintro e w1 ⟨rfl, hb1⟩
  clear cf0
  have hb1' : Below w.heap.size w w1 := hb0.trans (hb1.mono hb0.size)
  obtain ⟨a1, a2, a3, a4, a5, a6, a7, a8, a9, a10, a11⟩ := H.out
  have hbx1 := a1.keep hb1'
  have hrow1 := own_keep a2 hb1'
  have hown1 := own_keep a5 hb1'
  have h51 := h50.keep hb1
  have hcb := hbx1.cell 0
  obtain ⟨x1, x2, x3, x4⟩ := own_there hrow1 a3
  obtain ⟨y1, y2, y3, y4⟩ := own_there hrow1 a4
  have hkk : k < 64 := by rw [← a8]; exact Nat.mod_lt _ (by decide)
  have cB : ∀ w, Calls Tryd.prog 70 #[.int .u64 (p : Int)] w fun e w' => e = .returned (.int .u64 ((2 ^ k : Nat) : Int)) ∧ w = w' := fun w => by have := bitof_ok p a9 w; rw [a8] at this; exact this
  have cR : ∀ w, w.cell? ⟨gr, i * 3 + 1, none⟩ = some (.int .u64 (live : Int)) → Calls Tryd.prog 71 #[.pointer (some ⟨gr, i * 3, none⟩), .int .u64 ((2 ^ k : Nat) : Int)] w fun e w' => e = .returned (.int .i64 (n0 : Int)) ∧ w = w' := fun w h => by
    have := rank_ok gr (i * 3) live k a7 hkk w h
    rw [POP_mod (by omega), a6] at this
    exact this
  have cI := inserth_ok B w1.heap.size n0 hv ys h (w1.drew.alloc (.cells (UARR .u8 32 h) 27)) (hown1.drew.alloc _) (by have := hb1'.size; simp; omega) a11 (Has.new w1.drew _ _)
  have hgrh : hv.ownBlock ≠ some gr := fun e => by
    obtain ⟨cur, hcur, _⟩ := own_block hown1 e
    rcases hrow1.2 with ⟨h0, _⟩ | ⟨g', cap', cur', e', _, hg, _⟩
    · cases h0
    · cases e'
      rw [hcur] at hg
      cases hg
  have hgg : hv.ownBlock ≠ some g := fun e => by
    obtain ⟨cur, hcur, _⟩ := own_block hown1 e
    rw [show w1.heap[g]? = _ from hbx1] at hcur
    cases hcur
  have hgrg : gr ≠ g := fun e => by
    rcases hrow1.2 with ⟨h0, _⟩ | ⟨g', cap', cur', e', _, hg, _⟩
    · cases h0
    · cases e'
      rw [e, show w1.heap[g]? = _ from hbx1] at hg
      cases hg
  have hp2 : 2 ^ k < 2 ^ 64 := Nat.pow_lt_pow_right (by decide) hkk
  have hor : bits .or .u64 (live : Int) ((2 ^ k : Nat) : Int) = ((live ||| 2 ^ k : Nat) : Int) := or_eq a7 hp2
  have G : Aside (gr ≠ g ∧ hv.ownBlock ≠ some gr ∧ hv.ownBlock ≠ some g ∧ B ≤ w.heap.size ∧ w1.heap.size = w1.drew.heap.size ∧ Has w1 g #[.slice (some ⟨gr, 0, none⟩) m cap] 115 ∧ w1.ownsRow B 124 3 (.slice (some ⟨gr, 0, none⟩) m cap) m xs ∧ w1.ownsRow B 27 32 hv n0 ys ∧ Below w.heap.size w w1 ∧ gr < w1.heap.size ∧ B ≤ gr) := ⟨hgrg, hgrh, hgg, a10, rfl, hbx1, hrow1, hown1, hb1', x3, x4⟩
  clear a1 a2 a5 a6 a7 a8 a9 a10 a11 hgrg hgrh hgg hkk hp2 hown1 hrow1 y3 y4 x4 hbx1
  obtain ⟨bt, hbt⟩ : ∃ bt, 2 ^ k = bt := ⟨_, rfl⟩
  obtain ⟨lb, hlb⟩ : ∃ lb, live ||| 2 ^ k = lb := ⟨_, rfl⟩
  rw [hlb] at hor
  rw [hbt] at cB cR hor
  have HLB : Aside (live ||| 2 ^ k = lb) := hlb
  clear hbt hlb
  have cI' : Calls Tryd.prog 76 #[hv, .int .i64 (n0 : Int), .slice (some ⟨w1.heap.size, 0, none⟩) 1 1] (w1.drew.alloc (.cells (UARR .u8 32 h) 27)) fun e w' => ∃ X, e = .returned X ∧ ((∃ gh ch, X = .slice (some ⟨gh, 0, none⟩) (n0 + 1) ch ∧ w'.ownsRow B 27 32 (.slice (some ⟨gh, 0, none⟩) (n0 + 1) ch) (n0 + 1) (ys ++ ULIST .u8 32 h) ∧ (w1.drew.alloc (.cells (UARR .u8 32 h) 27)).grownBy w' hv.ownBlock ∧ (hv.ownBlock = some gh ∨ w1.heap.size ≤ gh)) ∧ ∃ y, w'.cell? ⟨gr, i * 3 + 2, none⟩ = some y ∧ w'.frozen? ⟨gr, i * 3 + 2, none⟩ = false) :=
    cI.mono fun e w' ⟨gh, ch, h1, h2, h3, h4⟩ => by
      have hbk : w'.heap[gr]? = w1.heap[gr]? := (h3.block gr (by simp; have := G.out.2.2.2.2.2.2.2.2.2.1; omega) (fun e => G.out.2.1 e.symm)).trans (Below.heap_alloc w1.drew _ gr (by exact G.out.2.2.2.2.2.2.2.2.2.1))
      refine ⟨_, h1, ⟨gh, ch, rfl, h2, h3, h4.imp id (fun e => by rw [e]; simp)⟩, hv, ?_, ?_⟩
      · rw [← y1]
        exact World.cell?_of_block (w := w1) (by exact hbk)
      · unfold World.frozen? at y2 ⊢
        rw [hbk]
        exact y2
  clear cI
  go_upto_region 5 with fail
  refine put5 _ _ _ _ _ _ _ _ _ _ _ _ _ _ _ _ _ _ _ _ _ _ _ _ _ _ _ _ _ _ _ _ _ _ _ _ _ _ _ _ _ _ _ _ _ _ _ _ _ _ _ _ _ _ _ _ w1 gr i p bt n0 w.heap.size live h hv (fun X w' => ∃ gh ch, X = .slice (some ⟨gh, 0, none⟩) (n0 + 1) ch ∧ w'.ownsRow B 27 32 (.slice (some ⟨gh, 0, none⟩) (n0 + 1) ch) (n0 + 1) (ys ++ ULIST .u8 32 h) ∧ (w1.drew.alloc (.cells (UARR .u8 32 h) 27)).grownBy w' hv.ownBlock ∧ (hv.ownBlock = some gh ∨ w1.heap.size ≤ gh)) (fun X w' ⟨gh, ch, h1, _⟩ => ⟨_, _, _, h1⟩) x1 y1 x3 h51 cB cR cI' (fun _ _ _ _ _ h => h) ?_
  rintro X w2 ⟨⟨gh, ch, rfl, o2, gw2, hgh⟩, _⟩
  dsimp only
  obtain ⟨g1, g2, g3, g4, -, g6, g7, g8, g9, g10, g11⟩ := G.out
  have hbk : ∀ b, b < w1.heap.size → hv.ownBlock ≠ some b → w2.heap[b]? = w1.heap[b]? := fun b hb hne => (gw2.block b (by simp; omega) (fun e => hne e.symm)).trans (Below.heap_alloc w1.drew _ b (by exact hb))
  have hrow2 : w2.ownsRow B 124 3 (.slice (some ⟨gr, 0, none⟩) m cap) m xs := ⟨g7.1, g7.2.imp id fun ⟨g', c', cur, e, b, r, rest⟩ => ⟨g', c', cur, e, b, by cases e; exact (hbk gr g10 g2).trans r, rest⟩⟩
  have hrow3 := own_set hrow2 (i * 3 + 2) (.slice (some ⟨gh, 0, none⟩) (n0 + 1) ch)
  have hghr : gh ≠ gr := by
    rcases hgh with e | e
    · exact fun e2 => g2 (by rw [e, e2])
    · omega
  have hx3 : (xs.set (i * 3 + 2) (.slice (some ⟨gh, 0, none⟩) (n0 + 1) ch))[i * 3 + 1]? = some (.int .u64 (live : Int)) := by rw [List.getElem?_set_ne (by omega)]; exact a3
  obtain ⟨z1, z2, z3, -⟩ := own_there hrow3 hx3
  have FIN : Aside (w2.ownsRow B 27 32 (.slice (some ⟨gh, 0, none⟩) (n0 + 1) ch) (n0 + 1) (ys ++ ULIST .u8 32 h) ∧ gh ≠ gr ∧ (hv.ownBlock = some gh ∨ w1.heap.size ≤ gh) ∧ (w2.setCell ⟨gr, i * 3 + 2, none⟩ (.slice (some ⟨gh, 0, none⟩) (n0 + 1) ch)).ownsRow B 124 3 (.slice (some ⟨gr, 0, none⟩) m cap) m (xs.set (i * 3 + 2) (.slice (some ⟨gh, 0, none⟩) (n0 + 1) ch)) ∧ w1.heap.size ≤ w2.heap.size ∧ Below B w1 w2 ∧ ∀ b, b < w1.heap.size → hv.ownBlock ≠ some b → w2.heap[b]? = w1.heap[b]?) := by
    refine ⟨o2, hghr, hgh, hrow3, ?_, ?_, hbk⟩
    · have := gw2.size
      simp at this
      omega
    · have hs := g9.size
      exact ((Below.refl B w1).drew.alloc (by show B ≤ w1.heap.size; omega) _).grown gw2 (by simp; omega) (fun b e => by obtain ⟨_, _, hB⟩ := own_block g8 e; exact hB)
  clear hrow2 hrow3 hghr hx3 hbk o2 gw2 hgh g1 g2 g3 g4 g6 g7 g8 g9 g10 g11 cR cI' x1 x2 x3 y1 y2 hcb h51
  go_upto_region 6 with fail
  refine put6 _ _ _ _ _ _ _ _ _ _ _ _ _ _ _ _ _ _ _ _ _ _ _ _ _ _ _ _ _ _ _ _ _ _ _ _ _ _ _ _ _ _ _ _ _ _ _ _ _ _ _ _ _ _ _ _ _ (w2.setCell ⟨gr, i * 3 + 2, none⟩ (.slice (some ⟨gh, 0, none⟩) (n0 + 1) ch)) gr i p bt live lb z1 z2 hor cB (fun _ _ _ _ _ h => h) ?_
  dsimp only
  go_end0
  obtain ⟨f1, f2, f3, f4, f5, f6, f7⟩ := FIN.out
  obtain ⟨g1, g2, g3, g4, -, g6, g7, g8, g9, g10, g11⟩ := G.out
  have hs9 := g9.size
  have hset : ∀ b, b ≠ gr → ((w2.setCell ⟨gr, i * 3 + 2, none⟩ (.slice (some ⟨gh, 0, none⟩) (n0 + 1) ch)).drew.setCell ⟨gr, i * 3 + 1, none⟩ (.int .u64 (lb : Int))).heap[b]? = w2.heap[b]? := fun b hb => (Below.heap_setCell _ _ _ b (by exact hb)).trans (Below.heap_setCell _ _ _ b (by exact hb))
  have hgl : g < w1.heap.size := g6.lt
  refine ⟨⟨_, rfl⟩, gh, ch, (hset g (fun e => g1 e.symm)).trans ((f7 g hgl g3).trans g6), ?_, ?_, ?_, ?_, ?_, ?_⟩
  · rw [HLB.out]
    exact own_set f4.drew (i * 3 + 1) (.int .u64 (lb : Int))
  · exact ⟨f1.1, f1.2.imp id fun ⟨g', c', cur, e, b, r, rest⟩ => ⟨g', c', cur, e, b, by cases e; exact (hset gh f2).trans r, rest⟩⟩
  · exact f3.imp id (fun e => by omega)
  · simp
    omega
  · exact (((g9.mono g4).trans f6).setCell (p := ⟨gr, i * 3 + 2, none⟩) g11 _).drew.setCell (p := ⟨gr, i * 3 + 1, none⟩) g11 _
  · intro b hb hne hno
    exact (hset b hne).trans ((f7 b (by omega) hno).trans (g9.block b hb))
end Go.Proofs.YtnplhejopmoopaaDoor.HX

/- chunk.put, in raw memory: a new row at the end. -/
namespace Go.Proofs.YtnplhejopmoopaaDoor.HX
open Go.RowKit
set_option maxRecDepth 100000

theorem RK_zero : ∀ k, RK 0 k = 0
  | 0 => rfl
  | k + 1 => by rw [RK, RK_zero k]; simp
set_option maxHeartbeats 2000000 in
theorem putnew_raw (B g n p q k : Nat) (v0 : Value) (xs : List Value) (h : Nat → Nat) (w : World) (hbx : Has w g #[v0] 115) (hBg : B ≤ g) (hrow : w.ownsRow B 124 3 v0 n xs) (hn : n ≤ 2 ^ 40) (hk : p % 64 = k) (hq : p / 64 = q) (hp : p < 2 ^ 64) (hB : B ≤ w.heap.size)
    (cf : ∀ W, Below w.heap.size w W → Calls Tryd.prog 69 #[.pointer (some ⟨g, 0, none⟩), .int .u64 (p : Int)] W fun e w' => e = .returned (.tuple #[.int .i64 (n : Int), .bool false]) ∧ Below W.heap.size W w') :
    Calls Tryd.prog 64 #[.pointer (some ⟨g, 0, none⟩), .int .u64 (p : Int), .agg (UARR .u8 32 h)] w fun e w' => (∃ v, e = .returned v) ∧ ∃ gr cap gh ch, Has w' g #[.slice (some ⟨gr, 0, none⟩) (n + 1) cap] 115 ∧
      w'.ownsRow B 124 3 (.slice (some ⟨gr, 0, none⟩) (n + 1) cap) (n + 1) (((xs ++ RQL q).set (n * 3 + 2) (.slice (some ⟨gh, 0, none⟩) 1 ch)).set (n * 3 + 1) (.int .u64 ((2 ^ k : Nat) : Int))) ∧
      w'.ownsRow B 27 32 (.slice (some ⟨gh, 0, none⟩) 1 ch) 1 (ULIST .u8 32 h) ∧ w.heap.size ≤ gh ∧ (v0.ownBlock = some gr ∨ w.heap.size ≤ gr) ∧ w.heap.size ≤ w'.heap.size ∧ Below B w w' ∧ ∀ b, b < w.heap.size → b ≠ g → v0.ownBlock ≠ some b → w'.heap[b]? = w.heap[b]? := by
  obtain ⟨w0, hw0⟩ : ∃ w0, w.alloc (.cells (UARR .u8 32 h) 27) = w0 := ⟨_, rfl⟩
  have hb0 : Below w.heap.size w w0 := by rw [← hw0]; exact (Below.refl _ _).alloc (Nat.le_refl _) _
  have h50 : Has w0 w.heap.size (UARR .u8 32 h) 27 := by rw [← hw0]; exact Has.new w _ _
  have cf0 := cf w0 hb0
  have cR0 : ∀ w, Calls Tryd.prog 75 #[.int .u64 (p : Int)] w fun e w' => e = .returned (.int .u64 (q : Int)) ∧ w = w' := fun w => by have := rowof_ok p w; rw [hq] at this; exact this
  have H : Aside (Has w g #[v0] 115 ∧ B ≤ g ∧ w.ownsRow B 124 3 v0 n xs ∧ n ≤ 2 ^ 40 ∧ p % 64 = k ∧ p < 2 ^ 64 ∧ B ≤ w.heap.size) := ⟨hbx, hBg, hrow, hn, hk, hp, hB⟩
  clear cf hbx hBg hrow hn hk hp hB hq
  go_enter Tryd.func64, Tryd.ntmps64
  go_wp2_with fail
  refine cf0.mono ?_
  rintro e wa ⟨rfl, hb1⟩
  clear cf0
  have hba : Below w.heap.size w wa := hb0.trans (hb1.mono hb0.size)
  obtain ⟨a1, a2, a3, a4, a5, a6, a7⟩ := H.out
  have hbxa := a1.keep hba
  have hrowa := own_keep a3 hba
  have h5a := h50.keep hb1
  have hvg : v0.ownBlock ≠ some g := fun e => by
    obtain ⟨cur, hcur, _⟩ := own_block hrowa e
    rw [show wa.heap[g]? = _ from hbxa] at hcur
    cases hcur
  have hv5 : v0.ownBlock ≠ some w.heap.size := fun e => by
    obtain ⟨cur, hcur, _⟩ := own_block a3 e
    have := (Array.getElem?_eq_some_iff.1 hcur).1
    omega
  have cIr := insertr_ok B wa.heap.size n v0 xs q (wa.drew.alloc (.cells (RQ q) 124)) (hrowa.drew.alloc _) (by have := hba.size; simp; omega) a4 (Has.new wa.drew _ _)
  have hgl : g < wa.heap.size := hbxa.lt
  have h5l : w.heap.size < wa.heap.size := h5a.lt
  have cIr' : Calls Tryd.prog 74 #[v0, .int .i64 (n : Int), .slice (some ⟨wa.heap.size, 0, none⟩) 1 1] (wa.drew.alloc (.cells (RQ q) 124)) fun e w' => ∃ X, e = .returned X ∧ ((∃ gr cap, X = .slice (some ⟨gr, 0, none⟩) (n + 1) cap ∧ w'.ownsRow B 124 3 (.slice (some ⟨gr, 0, none⟩) (n + 1) cap) (n + 1) (xs ++ RQL q) ∧ (wa.drew.alloc (.cells (RQ q) 124)).grownBy w' v0.ownBlock ∧ (v0.ownBlock = some gr ∨ wa.heap.size ≤ gr)) ∧ ∃ y, Has w' g #[y] 115) :=
    cIr.mono fun e w' ⟨gr, cap, h1, h2, h3, h4⟩ => by
      have hbk : w'.heap[g]? = wa.heap[g]? := (h3.block g (by simp; omega) (fun e => hvg e.symm)).trans (Below.heap_alloc wa.drew _ g (by exact hgl))
      exact ⟨_, h1, ⟨gr, cap, rfl, h2, h3, h4.imp id (fun e => by rw [e]; simp)⟩, v0, hbk.trans hbxa⟩
  clear cIr
  go_upto_region 3 with fail
  refine put3 _ _ _ _ _ _ _ _ _ _ _ _ _ _ _ _ _ _ _ _ _ _ _ _ _ _ _ _ _ _ _ _ _ _ _ _ _ _ _ _ _ _ _ _ _ _ _ _ _ _ _ _ _ _ _ _ wa g p n q v0 (fun X w' => ∃ gr cap, X = .slice (some ⟨gr, 0, none⟩) (n + 1) cap ∧ w'.ownsRow B 124 3 (.slice (some ⟨gr, 0, none⟩) (n + 1) cap) (n + 1) (xs ++ RQL q) ∧ (wa.drew.alloc (.cells (RQ q) 124)).grownBy w' v0.ownBlock ∧ (v0.ownBlock = some gr ∨ wa.heap.size ≤ gr)) (fun X w' ⟨gr, cap, h1, _⟩ => ⟨_, _, _, h1⟩) hbxa cR0 cIr' (fun _ _ _ _ _ h => h) ?_
  rintro X wb ⟨⟨gr, cap, rfl, ob, gwb, hgr⟩, y, hyb⟩
  dsimp only
  have hbk : ∀ b, b < wa.heap.size → v0.ownBlock ≠ some b → wb.heap[b]? = wa.heap[b]? := fun b hb hne => (gwb.block b (by simp; omega) (fun e => hne e.symm)).trans (Below.heap_alloc wa.drew _ b (by exact hb))
  have hgrg : gr ≠ g := by
    rcases hgr with e | e
    · exact fun e2 => hvg (by rw [e, e2])
    · omega
  obtain ⟨w1, hw1⟩ : ∃ w1, wb.setCell ⟨g, 0, none⟩ (.slice (some ⟨gr, 0, none⟩) (n + 1) cap) = w1 := ⟨_, rfl⟩
  have hset1 : ∀ b, b ≠ g → w1.heap[b]? = wb.heap[b]? := fun b hb => by rw [← hw1]; exact Below.heap_setCell _ _ _ b (by exact hb)
  have hbx1 : Has w1 g #[.slice (some ⟨gr, 0, none⟩) (n + 1) cap] 115 := by rw [← hw1]; exact hyb.set 0 _
  have hrow1 : w1.ownsRow B 124 3 (.slice (some ⟨gr, 0, none⟩) (n + 1) cap) (n + 1) (xs ++ RQL q) := ⟨ob.1, ob.2.imp id fun ⟨g', c', cur, e, b, r, rest⟩ => ⟨g', c', cur, e, b, by cases e; exact (hset1 gr hgrg).trans r, rest⟩⟩
  have h51 : Has w1 w.heap.size (UARR .u8 32 h) 27 := (hset1 _ (by have := a1.lt; omega)).trans ((hbk _ h5l hv5).trans h5a)
  have hs1 : wa.heap.size ≤ w1.heap.size := by
    have := gwb.size
    rw [← hw1]
    simp at this ⊢
    omega
  have hB1 : Below B w w1 := by
    rw [← hw1]
    have hs := hba.size
    exact ((((hba.mono a7).drew.alloc (by show B ≤ wa.heap.size; omega) _).grown gwb (by simp; omega) (fun b e => by obtain ⟨_, _, hB⟩ := own_block hrowa e; exact hB))).setCell (p := ⟨g, 0, none⟩) a2 _
  have hfr1 : ∀ b, b < w.heap.size → b ≠ g → v0.ownBlock ≠ some b → w1.heap[b]? = w.heap[b]? := fun b hb hne hno => (hset1 b hne).trans ((hbk b (by have := hba.size; omega) hno).trans (hba.block b hb))
  have hlen : xs.length = n * 3 := a3.1
  have ax1 : (xs ++ RQL q)[n * 3 + 1]? = some (.int .u64 ((0 : Nat) : Int)) := by rw [List.getElem?_append_right (by omega), hlen, show n * 3 + 1 - n * 3 = 1 by omega]; rfl
  have ax2 : (xs ++ RQL q)[n * 3 + 2]? = some (.slice none 0 0) := by rw [List.getElem?_append_right (by omega), hlen, show n * 3 + 2 - n * 3 = 2 by omega]; rfl
  rw [hw1]
  obtain ⟨x1, x2, x3, x4⟩ := own_there hrow1 ax1
  obtain ⟨y1, y2, y3, y4⟩ := own_there hrow1 ax2
  have hkk : k < 64 := by rw [← a5]; exact Nat.mod_lt _ (by decide)
  have cB : ∀ w, Calls Tryd.prog 70 #[.int .u64 (p : Int)] w fun e w' => e = .returned (.int .u64 ((2 ^ k : Nat) : Int)) ∧ w = w' := fun w => by have := bitof_ok p a6 w; rw [a5] at this; exact this
  have cR : ∀ w, w.cell? ⟨gr, n * 3 + 1, none⟩ = some (.int .u64 ((0 : Nat) : Int)) → Calls Tryd.prog 71 #[.pointer (some ⟨gr, n * 3, none⟩), .int .u64 ((2 ^ k : Nat) : Int)] w fun e w' => e = .returned (.int .i64 ((0 : Nat) : Int)) ∧ w = w' := fun w h => by
    have := rank_ok gr (n * 3) 0 k (by decide) hkk w h
    rw [POP_mod (by omega), RK_zero] at this
    exact this
  have cI := inserth_ok B w1.heap.size 0 (.slice none 0 0) [] h (w1.drew.alloc (.cells (UARR .u8 32 h) 27)) ⟨rfl, .inl ⟨rfl, rfl⟩⟩ (by have := hba.size; simp; omega) (by decide) (Has.new w1.drew _ _)
  have hp2 : 2 ^ k < 2 ^ 64 := Nat.pow_lt_pow_right (by decide) hkk
  have hor : bits .or .u64 ((0 : Nat) : Int) ((2 ^ k : Nat) : Int) = ((2 ^ k : Nat) : Int) := by rw [or_eq (by decide) hp2, Nat.zero_or]
  have G : Aside (gr ≠ g ∧ Has w1 g #[.slice (some ⟨gr, 0, none⟩) (n + 1) cap] 115 ∧ w1.ownsRow B 124 3 (.slice (some ⟨gr, 0, none⟩) (n + 1) cap) (n + 1) (xs ++ RQL q) ∧ gr < w1.heap.size ∧ B ≤ gr ∧ (v0.ownBlock = some gr ∨ wa.heap.size ≤ gr) ∧ wa.heap.size ≤ w1.heap.size ∧ w.heap.size ≤ wa.heap.size ∧ Below B w w1 ∧ (∀ b, b < w.heap.size → b ≠ g → v0.ownBlock ≠ some b → w1.heap[b]? = w.heap[b]?) ∧ (xs ++ RQL q)[n * 3 + 1]? = some (.int .u64 ((0 : Nat) : Int)) ∧ B ≤ w.heap.size) := ⟨hgrg, hbx1, hrow1, x3, x4, hgr, hs1, hba.size, hB1, hfr1, ax1, a7⟩
  have hn1 : (n : Int) < ((n + 1 : Nat) : Int) := by omega
  have hcb := hbx1.cell 0
  obtain ⟨N1, hN1⟩ : ∃ N1, n + 1 = N1 := ⟨_, rfl⟩
  rw [hN1] at G hn1 hcb
  have HN1 : Aside (n + 1 = N1) := hN1
  rw [hN1]
  clear hN1
  obtain ⟨bt, hbt⟩ : ∃ bt, 2 ^ k = bt := ⟨_, rfl⟩
  rw [hbt] at cB cR hor
  have HBT : Aside (2 ^ k = bt) := hbt
  clear hbt
  have cI' : Calls Tryd.prog 76 #[.slice none 0 0, .int .i64 ((0 : Nat) : Int), .slice (some ⟨w1.heap.size, 0, none⟩) 1 1] (w1.drew.alloc (.cells (UARR .u8 32 h) 27)) fun e w' => ∃ X, e = .returned X ∧ ((∃ gh ch, X = .slice (some ⟨gh, 0, none⟩) 1 ch ∧ w'.ownsRow B 27 32 (.slice (some ⟨gh, 0, none⟩) 1 ch) 1 (ULIST .u8 32 h) ∧ (w1.drew.alloc (.cells (UARR .u8 32 h) 27)).grownBy w' none ∧ w1.heap.size ≤ gh) ∧ ∃ y, w'.cell? ⟨gr, n * 3 + 2, none⟩ = some y ∧ w'.frozen? ⟨gr, n * 3 + 2, none⟩ = false) :=
    cI.mono fun e w' ⟨gh, ch, h1, h2, h3, h4⟩ => by
      have hbk : w'.heap[gr]? = w1.heap[gr]? := (h3.block gr (by simp; omega) (by simp [Value.ownBlock])).trans (Below.heap_alloc w1.drew _ gr (by exact x3))
      refine ⟨_, h1, ⟨gh, ch, rfl, h2, h3, ?_⟩, .slice none 0 0, ?_, ?_⟩
      · rcases h4 with e | e
        · simp [Value.ownBlock] at e
        · rw [e]; simp
      · rw [← y1]
        exact World.cell?_of_block (w := w1) (by exact hbk)
      · unfold World.frozen? at y2 ⊢
        rw [hbk]
        exact y2
  clear cI hbk hset1 hgrg hbx1 hrow1 hs1 hB1 hfr1 ob gwb hyb hw1 a1 a3 hbxa hrowa cIr' hgr ax1 ax2 y3 y4 x4 hp2 hkk
  go_upto_region 5 with fail
  refine put5 _ _ _ _ _ _ _ _ _ _ _ _ _ _ _ _ _ _ _ _ _ _ _ _ _ _ _ _ _ _ _ _ _ _ _ _ _ _ _ _ _ _ _ _ _ _ _ _ _ _ _ _ _ _ _ _ w1 gr n p bt 0 w.heap.size 0 h (.slice none 0 0) (fun X w' => ∃ gh ch, X = .slice (some ⟨gh, 0, none⟩) 1 ch ∧ w'.ownsRow B 27 32 (.slice (some ⟨gh, 0, none⟩) 1 ch) 1 (ULIST .u8 32 h) ∧ (w1.drew.alloc (.cells (UARR .u8 32 h) 27)).grownBy w' none ∧ w1.heap.size ≤ gh) (fun X w' ⟨gh, ch, h1, _⟩ => ⟨_, _, _, h1⟩) x1 y1 x3 h51 cB cR cI' (fun _ _ _ _ _ h => h) ?_
  rintro X w2 ⟨⟨gh, ch, rfl, o2, gw2, hgh⟩, _⟩
  dsimp only
  obtain ⟨g1, g6, g7, g10, g11, g12, g13, g14, g15, g16, g17, g18⟩ := G.out
  have hbk : ∀ b, b < w1.heap.size → w2.heap[b]? = w1.heap[b]? := fun b hb => (gw2.block b (by simp; omega) (by simp)).trans (Below.heap_alloc w1.drew _ b (by exact hb))
  have hrow2 : w2.ownsRow B 124 3 (.slice (some ⟨gr, 0, none⟩) N1 cap) N1 (xs ++ RQL q) := ⟨g7.1, g7.2.imp id fun ⟨g', c', cur, e, b, r, rest⟩ => ⟨g', c', cur, e, b, by cases e; exact (hbk gr g10).trans r, rest⟩⟩
  have hrow3 := own_set hrow2 (n * 3 + 2) (.slice (some ⟨gh, 0, none⟩) 1 ch)
  have hghr : gh ≠ gr := by omega
  have hx3 : ((xs ++ RQL q).set (n * 3 + 2) (.slice (some ⟨gh, 0, none⟩) 1 ch))[n * 3 + 1]? = some (.int .u64 ((0 : Nat) : Int)) := by rw [List.getElem?_set_ne (by omega)]; exact g17
  obtain ⟨z1, z2, z3, -⟩ := own_there hrow3 hx3
  have FIN : Aside (w2.ownsRow B 27 32 (.slice (some ⟨gh, 0, none⟩) 1 ch) 1 (ULIST .u8 32 h) ∧ gh ≠ gr ∧ w1.heap.size ≤ gh ∧ (w2.setCell ⟨gr, n * 3 + 2, none⟩ (.slice (some ⟨gh, 0, none⟩) 1 ch)).ownsRow B 124 3 (.slice (some ⟨gr, 0, none⟩) N1 cap) N1 ((xs ++ RQL q).set (n * 3 + 2) (.slice (some ⟨gh, 0, none⟩) 1 ch)) ∧ w1.heap.size ≤ w2.heap.size ∧ Below B w1 w2 ∧ ∀ b, b < w1.heap.size → w2.heap[b]? = w1.heap[b]?) := by
    refine ⟨o2, hghr, hgh, hrow3, ?_, ?_, hbk⟩
    · have := gw2.size
      simp at this
      omega
    · exact ((Below.refl B w1).drew.alloc (by show B ≤ w1.heap.size; omega) _).grown gw2 (by simp; omega) (fun b e => by cases e)
  clear hrow2 hrow3 hghr hx3 hbk o2 gw2 hgh g1 g6 g7 g10 g11 g12 g13 g14 g15 g16 g17 cR cI' x1 x2 x3 y1 y2 hcb h51
  go_upto_region 6 with fail
  refine put6 _ _ _ _ _ _ _ _ _ _ _ _ _ _ _ _ _ _ _ _ _ _ _ _ _ _ _ _ _ _ _ _ _ _ _ _ _ _ _ _ _ _ _ _ _ _ _ _ _ _ _ _ _ _ _ _ _ (w2.setCell ⟨gr, n * 3 + 2, none⟩ (.slice (some ⟨gh, 0, none⟩) 1 ch)) gr n p bt 0 bt z1 z2 hor cB (fun _ _ _ _ _ h => h) ?_
  dsimp only
  go_end0
  obtain ⟨f1, f2, f3, f4, f5, f6, f7⟩ := FIN.out
  obtain ⟨g1, g6, g7, g10, g11, g12, g13, g14, g15, g16, g17, g18⟩ := G.out
  have hset : ∀ b, b ≠ gr → ((w2.setCell ⟨gr, n * 3 + 2, none⟩ (.slice (some ⟨gh, 0, none⟩) 1 ch)).drew.setCell ⟨gr, n * 3 + 1, none⟩ (.int .u64 (bt : Int))).heap[b]? = w2.heap[b]? := fun b hb => (Below.heap_setCell _ _ _ b (by exact hb)).trans (Below.heap_setCell _ _ _ b (by exact hb))
  have hgl1 : g < w1.heap.size := g6.lt
  rw [HN1.out, HBT.out]
  refine ⟨⟨_, rfl⟩, gr, cap, gh, ch, (hset g (fun e => g1 e.symm)).trans ((f7 g hgl1).trans g6), own_set f4.drew (n * 3 + 1) (.int .u64 (bt : Int)), ?_, ?_, ?_, ?_, ?_, ?_⟩
  · exact ⟨f1.1, f1.2.imp id fun ⟨g', c', cur, e, b, r, rest⟩ => ⟨g', c', cur, e, b, by cases e; exact (hset gh f2).trans r, rest⟩⟩
  · omega
  · exact g12.imp id (fun e => by omega)
  · simp
    omega
  · exact ((g15.trans f6).setCell (p := ⟨gr, n * 3 + 2, none⟩) g11 _).drew.setCell (p := ⟨gr, n * 3 + 1, none⟩) g11 _
  · intro b hb hne hno
    have hbr : b ≠ gr := by
      rcases g12 with e | e
      · exact fun e2 => hno (by rw [e, e2])
      · omega
    exact (hset b hbr).trans ((f7 b (by omega)).trans (g16 b hb hne hno))
end Go.Proofs.YtnplhejopmoopaaDoor.HX

/- What a chunk has when the next place is put: in plain lists. -/
namespace Go.Proofs.YtnplhejopmoopaaDoor.HX
open Go.RowKit
set_option maxRecDepth 100000

theorem or_bit (X k j : Nat) : (X ||| 2 ^ k).testBit j = (X.testBit j || decide (k = j)) := by rw [Nat.testBit_or, Nat.testBit_two_pow]
theorem RK_or {X k : Nat} (h : X.testBit k = false) : ∀ j, RK (X ||| 2 ^ k) j = RK X j + if k < j then 1 else 0
  | 0 => by simp [RK]
  | j + 1 => by
    rw [RK, RK, RK_or h j, or_bit]
    by_cases e : k = j
    · subst e
      rw [h]
      simp
    · have e1 : (X.testBit j || decide (k = j)) = X.testBit j := by simp [e]
      rw [e1]
      generalize (if X.testBit j = true then 1 else 0) = z
      by_cases e2 : k < j
      · have e3 : k < j + 1 := by omega
        simp only [e2, e3, if_true]
        omega
      · have e3 : ¬ k < j + 1 := by omega
        simp only [e2, e3, if_false]
        omega
theorem POP_or {X k : Nat} (h : X.testBit k = false) (hk : k < 64) : POP (X ||| 2 ^ k) = POP X + 1 := by
  rw [POP_RK, POP_RK, RK_or h, if_pos hk]
theorem or_lt {X k : Nat} (hX : X < 2 ^ 64) (hk : k < 64) : X ||| 2 ^ k < 2 ^ 64 := Nat.or_lt_two_pow hX (Nat.pow_lt_pow_right (by decide) hk)
/-- all set bits lie below k: the rank of k is their number. -/
theorem RK_last {X k : Nat} (hk : k ≤ 64) (h : ∀ j, j < 64 → X.testBit j = true → j < k) : RK X k = POP X := by
  rw [POP_RK, RK_none (k := k) hk (fun i a b => by
    cases hb : X.testBit i
    · rfl
    · have := h i b hb; omega)]
/-- one row more, or one hash more in the last row. -/
def MORE (rs : List ROW) (i q k gh ch : Nat) (live : Nat) (hs : List (Nat → Nat)) (h : Nat → Nat) : List ROW := rs.take i ++ [⟨q, live ||| 2 ^ k, gh, ch, hs ++ [h]⟩]
theorem HL_snoc (hs : List (Nat → Nat)) (h : Nat → Nat) : HL (hs ++ [h]) = HL hs ++ ULIST .u8 32 h := by simp [HL]
theorem RC_snoc (rs : List ROW) (r : ROW) : RC (rs ++ [r]) = RC rs ++ [.int .u64 (r.num : Int), .int .u64 (r.live : Int), r.v] := by simp [RC]
theorem set_two (xs : List Value) (n : Nat) (hn : xs.length = n * 3) (a b c b' c' : Value) : ((xs ++ [a, b, c]).set (n * 3 + 2) c').set (n * 3 + 1) b' = xs ++ [a, b', c'] := by
  rw [List.set_append_right _ _ (by omega), List.set_append_right _ _ (by omega), hn, show n * 3 + 2 - n * 3 = 2 by omega, show n * 3 + 1 - n * 3 = 1 by omega]
  rfl
theorem RC_more_old {rs : List ROW} {i q k gh ch : Nat} {r : ROW} {h : Nat → Nat} (hr : rs[i]? = some r) (hi : i + 1 = rs.length) (hq : r.num = q) : RC (MORE rs i q k gh ch r.live r.hs h) = ((RC rs).set (i * 3 + 2) (.slice (some ⟨gh, 0, none⟩) (r.hs.length + 1) ch)).set (i * 3 + 1) (.int .u64 ((r.live ||| 2 ^ k : Nat) : Int)) := by
  have hsplit : rs = rs.take i ++ [r] := by
    have h1 := List.take_append_drop i rs
    have h2 : rs.drop i = [r] := by
      rw [List.drop_eq_getElem_cons (by omega), List.drop_of_length_le (by omega)]
      rw [List.getElem?_eq_getElem (by omega)] at hr
      rw [Option.some.inj hr]
    rw [h2] at h1
    exact h1.symm
  have hl : (RC (rs.take i)).length = i * 3 := by rw [RC_length, List.length_take]; omega
  have e : RC rs = RC (rs.take i) ++ [.int .u64 (r.num : Int), .int .u64 (r.live : Int), r.v] := by
    conv => lhs; rw [hsplit]
    rw [RC_snoc]
  rw [MORE, RC_snoc, e, set_two _ i hl, hq]
  simp [ROW.v]
theorem RC_more_new {rs : List ROW} {n q k gh ch : Nat} {h : Nat → Nat} (hn : rs.length = n) : RC (MORE rs n q k gh ch 0 [] h) = ((RC rs ++ RQL q).set (n * 3 + 2) (.slice (some ⟨gh, 0, none⟩) 1 ch)).set (n * 3 + 1) (.int .u64 ((2 ^ k : Nat) : Int)) := by
  rw [MORE, List.take_of_length_le (by omega), RC_snoc, RQL, set_two _ n (by rw [RC_length, hn])]
  simp [ROW.v]
/-- the next place: behind all that are there. -/
def NEXT (rs : List ROW) (p : Nat) : Prop := ∀ r ∈ rs, r.num < p / 64 ∨ (r.num = p / 64 ∧ ∀ j, j < 64 → r.live.testBit j = true → j < p % 64)
theorem LOOK_take {rs : List ROW} {i p : Nat} {r : ROW} (hs : ∀ s ∈ rs.drop i, s.num ≠ p / 64) : LOOK (rs.take i ++ [r]) p = if r.num = p / 64 ∧ ∀ s ∈ rs.take i, s.num ≠ p / 64 then (if r.live.testBit (p % 64) then r.hs[RK r.live (p % 64)]? else none) else LOOK rs p := by
  unfold LOOK
  rw [List.find?_append]
  conv => rhs; rw [← List.take_append_drop i rs, List.find?_append]
  have hd : (rs.drop i).find? (fun r => r.num == p / 64) = none := List.find?_eq_none.2 fun s h => by simpa using hs s h
  rw [hd]
  cases hf : (rs.take i).find? (fun r => r.num == p / 64) with
  | some s =>
    have hm := List.mem_of_find?_eq_some hf
    have hn : s.num = p / 64 := by simpa using List.find?_some hf
    rw [if_neg (fun h => h.2 s (by rw [List.take_append_drop] at *; exact hm) hn)]
    simp
  | none =>
    have hno : ∀ s ∈ rs.take i, s.num ≠ p / 64 := fun s h => by simpa using List.find?_eq_none.1 hf s h
    by_cases e : r.num = p / 64
    · rw [if_pos ⟨e, by rw [List.take_append_drop]; exact hno⟩]
      simp [e]
    · rw [if_neg (fun h => e h.1)]
      simp [e]
end Go.Proofs.YtnplhejopmoopaaDoor.HX
