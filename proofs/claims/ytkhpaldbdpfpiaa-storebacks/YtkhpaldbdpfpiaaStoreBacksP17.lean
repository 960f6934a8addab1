/- Texts of StoreBacks, one behind the other: StorePutMid. -/
import Derived.Test.YtkhpaldbdpfpiaaStoreBacksP7
import Derived.Test.YtkhpaldbdpfpiaaStoreBacksP16
/- chunk.put at any place, in raw memory. -/
namespace Go.Proofs.Ytkhpaldbdpfpiaa
open Go.RowKit
set_option maxRecDepth 100000

set_option maxHeartbeats 2000000 in
theorem putold_mid (B g gr i m cap p k live n0 rk : Nat) (xs ys : List Value) (hv : Value) (h : Nat → Nat) (w : World) (hbx : Has w g #[.slice (some ⟨gr, 0, none⟩) m cap] 59) (hrow : w.ownsRow B 64 3 (.slice (some ⟨gr, 0, none⟩) m cap) m xs) (him : i < m)
    (hl : xs[i * 3 + 1]? = some (.int .u64 (live : Int))) (hhv : xs[i * 3 + 2]? = some hv) (hown : w.ownsRow B 32 32 hv n0 ys) (hrk : RK live k = rk) (hrn : rk ≤ n0) (hy1 : ∀ u ∈ ys, u.oneCell' = true) (hlive : live < 2 ^ 64) (hk : p % 64 = k) (hp : p < 2 ^ 64) (hB : B ≤ w.heap.size) (hn0 : n0 ≤ 1000)
    (cf : ∀ W, Below w.heap.size w W → Calls Try.prog 25 #[.pointer (some ⟨g, 0, none⟩), .int .u64 (p : Int)] W fun e w' => e = .returned (.tuple #[.int .i64 (i : Int), .bool true]) ∧ Below W.heap.size W w') :
    Calls Try.prog 23 #[.pointer (some ⟨g, 0, none⟩), .int .u64 (p : Int), .agg (UARR .u8 32 h)] w fun e w' => (∃ v, e = .returned v) ∧ ∃ gh ch, Has w' g #[.slice (some ⟨gr, 0, none⟩) m cap] 59 ∧
      w'.ownsRow B 64 3 (.slice (some ⟨gr, 0, none⟩) m cap) m ((xs.set (i * 3 + 2) (.slice (some ⟨gh, 0, none⟩) (n0 + 1) ch)).set (i * 3 + 1) (.int .u64 ((live ||| 2 ^ k : Nat) : Int))) ∧
      w'.ownsRow B 32 32 (.slice (some ⟨gh, 0, none⟩) (n0 + 1) ch) (n0 + 1) (ys.take (rk * 32) ++ ULIST .u8 32 h ++ ys.drop (rk * 32)) ∧ (hv.ownBlock = some gh ∨ w.heap.size ≤ gh) ∧ w.heap.size ≤ w'.heap.size ∧ Below B w w' ∧ ∀ b, b < w.heap.size → b ≠ gr → hv.ownBlock ≠ some b → w'.heap[b]? = w.heap[b]? := by
  obtain ⟨w0, hw0⟩ : ∃ w0, w.alloc (.cells (UARR .u8 32 h) 32) = w0 := ⟨_, rfl⟩
  have hb0 : Below w.heap.size w w0 := by rw [← hw0]; exact (Below.refl _ _).alloc (Nat.le_refl _) _
  have h50 : Has w0 w.heap.size (UARR .u8 32 h) 32 := by rw [← hw0]; exact Has.new w _ _
  have cf0 := cf w0 hb0
  have H : Aside (Has w g #[.slice (some ⟨gr, 0, none⟩) m cap] 59 ∧ w.ownsRow B 64 3 (.slice (some ⟨gr, 0, none⟩) m cap) m xs ∧ xs[i * 3 + 1]? = some (.int .u64 (live : Int)) ∧ xs[i * 3 + 2]? = some hv ∧ w.ownsRow B 32 32 hv n0 ys ∧ RK live k = rk ∧ live < 2 ^ 64 ∧ p % 64 = k ∧ p < 2 ^ 64 ∧ B ≤ w.heap.size ∧ n0 ≤ 1000) := ⟨hbx, hrow, hl, hhv, hown, hrk, hlive, hk, hp, hB, hn0⟩
  have him' : (i : Int) < (m : Int) := by omega
  have HR : Aside (rk ≤ n0 ∧ ∀ u ∈ ys, u.oneCell' = true) := ⟨hrn, hy1⟩
  clear hrn hy1
  clear cf hbx hrow hl hhv hown hrk hlive hk hp hB hn0 him
  go_enter Try.func23, Try.ntmps23
  go_wp2_with fail
  refine cf0.mono ?_
  rintro e w1 ⟨rfl, hb1⟩
  clear cf0
  have hb1' : Below w.heap.size w w1 := hb0.trans (hb1.mono hb0.size)
  obtain ⟨a1, a2, a3, a4, a5, a6, a7, a8, a9, a10, a11⟩ := H.out
  have hbx1 := a1.keep hb1'
  have hrow1 := own_keep a2 hb1'
  have hown1 := own_keep a5 hb1'
  have h51 := h50.keep hb1
  have hcb := hbx1.cell 0
  obtain ⟨x1, x2, x3, x4⟩ := own_there hrow1 a3
  obtain ⟨y1, y2, y3, y4⟩ := own_there hrow1 a4
  have hkk : k < 64 := by rw [← a8]; exact Nat.mod_lt _ (by decide)
  have cB : ∀ w, Calls Try.prog 27 #[.int .u64 (p : Int)] w fun e w' => e = .returned (.int .u64 ((2 ^ k : Nat) : Int)) ∧ w = w' := fun w => by have := bitof_ok p a9 w; rw [a8] at this; exact this
  have cR : ∀ w, w.cell? ⟨gr, i * 3 + 1, none⟩ = some (.int .u64 (live : Int)) → Calls Try.prog 26 #[.pointer (some ⟨gr, i * 3, none⟩), .int .u64 ((2 ^ k : Nat) : Int)] w fun e w' => e = .returned (.int .i64 (rk : Int)) ∧ w = w' := fun w h => by
    have := rank_ok gr (i * 3) live k a7 hkk w h
    rw [POP_mod (by omega), a6] at this
    exact this
  have cI := insmidh_ok B w1.heap.size n0 rk hv ys h (w1.drew.alloc (.cells (UARR .u8 32 h) 32)) (hown1.drew.alloc _) (by have := hb1'.size; simp; omega) a11 HR.out.1 HR.out.2 (Has.new w1.drew _ _) (fun e => by have := (hown1.lt _ e).2; omega)
  have hgrh : hv.ownBlock ≠ some gr := fun e => by
    obtain ⟨cur, hcur, _⟩ := own_block hown1 e
    rcases hrow1.2 with ⟨h0, _⟩ | ⟨g', cap', cur', e', _, hg, _⟩
    · cases h0
    · cases e'
      rw [hcur] at hg
      cases hg
  have hgg : hv.ownBlock ≠ some g := fun e => by
    obtain ⟨cur, hcur, _⟩ := own_block hown1 e
    rw [show w1.heap[g]? = _ from hbx1] at hcur
    cases hcur
  have hgrg : gr ≠ g := fun e => by
    rcases hrow1.2 with ⟨h0, _⟩ | ⟨g', cap', cur', e', _, hg, _⟩
    · cases h0
    · cases e'
      rw [e, show w1.heap[g]? = _ from hbx1] at hg
      cases hg
  have hp2 : 2 ^ k < 2 ^ 64 := Nat.pow_lt_pow_right (by decide) hkk
  have hor : bits .or .u64 (live : Int) ((2 ^ k : Nat) : Int) = ((live ||| 2 ^ k : Nat) : Int) := or_eq a7 hp2
  have G : Aside (gr ≠ g ∧ hv.ownBlock ≠ some gr ∧ hv.ownBlock ≠ some g ∧ B ≤ w.heap.size ∧ w1.heap.size = w1.drew.heap.size ∧ Has w1 g #[.slice (some ⟨gr, 0, none⟩) m cap] 59 ∧ w1.ownsRow B 64 3 (.slice (some ⟨gr, 0, none⟩) m cap) m xs ∧ w1.ownsRow B 32 32 hv n0 ys ∧ Below w.heap.size w w1 ∧ gr < w1.heap.size ∧ B ≤ gr) := ⟨hgrg, hgrh, hgg, a10, rfl, hbx1, hrow1, hown1, hb1', x3, x4⟩
  clear a1 a2 a5 a6 a7 a8 a9 a10 a11 hgrg hgrh hgg hkk hp2 hown1 hrow1 y3 y4 x4 hbx1
  obtain ⟨bt, hbt⟩ : ∃ bt, 2 ^ k = bt := ⟨_, rfl⟩
  obtain ⟨lb, hlb⟩ : ∃ lb, live ||| 2 ^ k = lb := ⟨_, rfl⟩
  rw [hlb] at hor
  rw [hbt] at cB cR hor
  have HLB : Aside (live ||| 2 ^ k = lb) := hlb
  clear hbt hlb
  have cI' : Calls Try.prog 32 #[hv, .int .i64 (rk : Int), .slice (some ⟨w1.heap.size, 0, none⟩) 1 1] (w1.drew.alloc (.cells (UARR .u8 32 h) 32)) fun e w' => ∃ X, e = .returned X ∧ ((∃ gh ch, X = .slice (some ⟨gh, 0, none⟩) (n0 + 1) ch ∧ w'.ownsRow B 32 32 (.slice (some ⟨gh, 0, none⟩) (n0 + 1) ch) (n0 + 1) (ys.take (rk * 32) ++ ULIST .u8 32 h ++ ys.drop (rk * 32)) ∧ (w1.drew.alloc (.cells (UARR .u8 32 h) 32)).grownBy w' hv.ownBlock ∧ (hv.ownBlock = some gh ∨ w1.heap.size ≤ gh)) ∧ ∃ y, w'.cell? ⟨gr, i * 3 + 2, none⟩ = some y ∧ w'.frozen? ⟨gr, i * 3 + 2, none⟩ = false) :=
    cI.mono fun e w' ⟨gh, ch, h1, h2, h3, h4⟩ => by
      have hbk : w'.heap[gr]? = w1.heap[gr]? := (h3.block gr (by simp; have := G.out.2.2.2.2.2.2.2.2.2.1; omega) (fun e => G.out.2.1 e.symm)).trans (Below.heap_alloc w1.drew _ gr (by exact G.out.2.2.2.2.2.2.2.2.2.1))
      refine ⟨_, h1, ⟨gh, ch, rfl, h2, h3, h4.imp id (fun e => by rw [e]; simp)⟩, hv, ?_, ?_⟩
      · rw [← y1]
        exact World.cell?_of_block (w := w1) (by exact hbk)
      · unfold World.frozen? at y2 ⊢
        rw [hbk]
        exact y2
  clear cI
  go_upto_region 5 with fail
  refine put5 _ _ _ _ _ _ _ _ _ _ _ _ _ _ _ _ _ _ _ _ _ _ _ _ _ _ _ _ _ _ _ _ _ _ _ _ _ _ _ _ _ _ _ _ _ _ _ _ _ _ _ _ _ _ _ _ w1 gr i p bt rk w.heap.size live h hv (fun X w' => ∃ gh ch, X = .slice (some ⟨gh, 0, none⟩) (n0 + 1) ch ∧ w'.ownsRow B 32 32 (.slice (some ⟨gh, 0, none⟩) (n0 + 1) ch) (n0 + 1) (ys.take (rk * 32) ++ ULIST .u8 32 h ++ ys.drop (rk * 32)) ∧ (w1.drew.alloc (.cells (UARR .u8 32 h) 32)).grownBy w' hv.ownBlock ∧ (hv.ownBlock = some gh ∨ w1.heap.size ≤ gh)) (fun X w' ⟨gh, ch, h1, _⟩ => ⟨_, _, _, h1⟩) x1 y1 x3 h51 cB cR cI' (fun _ _ _ _ _ h => h) ?_
  rintro X w2 ⟨⟨gh, ch, rfl, o2, gw2, hgh⟩, _⟩
  dsimp only
  obtain ⟨g1, g2, g3, g4, -, g6, g7, g8, g9, g10, g11⟩ := G.out
  have hbk : ∀ b, b < w1.heap.size → hv.ownBlock ≠ some b → w2.heap[b]? = w1.heap[b]? := fun b hb hne => (gw2.block b (by simp; omega) (fun e => hne e.symm)).trans (Below.heap_alloc w1.drew _ b (by exact hb))
  have hrow2 : w2.ownsRow B 64 3 (.slice (some ⟨gr, 0, none⟩) m cap) m xs := ⟨g7.1, g7.2.imp id fun ⟨g', c', cur, e, b, r, rest⟩ => ⟨g', c', cur, e, b, by cases e; exact (hbk gr g10 g2).trans r, rest⟩⟩
  have hrow3 := own_set hrow2 (i * 3 + 2) (.slice (some ⟨gh, 0, none⟩) (n0 + 1) ch)
  have hghr : gh ≠ gr := by
    rcases hgh with e | e
    · exact fun e2 => g2 (by rw [e, e2])
    · omega
  have hx3 : (xs.set (i * 3 + 2) (.slice (some ⟨gh, 0, none⟩) (n0 + 1) ch))[i * 3 + 1]? = some (.int .u64 (live : Int)) := by rw [List.getElem?_set_ne (by omega)]; exact a3
  obtain ⟨z1, z2, z3, -⟩ := own_there hrow3 hx3
  have FIN : Aside (w2.ownsRow B 32 32 (.slice (some ⟨gh, 0, none⟩) (n0 + 1) ch) (n0 + 1) (ys.take (rk * 32) ++ ULIST .u8 32 h ++ ys.drop (rk * 32)) ∧ gh ≠ gr ∧ (hv.ownBlock = some gh ∨ w1.heap.size ≤ gh) ∧ (w2.setCell ⟨gr, i * 3 + 2, none⟩ (.slice (some ⟨gh, 0, none⟩) (n0 + 1) ch)).ownsRow B 64 3 (.slice (some ⟨gr, 0, none⟩) m cap) m (xs.set (i * 3 + 2) (.slice (some ⟨gh, 0, none⟩) (n0 + 1) ch)) ∧ w1.heap.size ≤ w2.heap.size ∧ Below B w1 w2 ∧ ∀ b, b < w1.heap.size → hv.ownBlock ≠ some b → w2.heap[b]? = w1.heap[b]?) := by
    refine ⟨o2, hghr, hgh, hrow3, ?_, ?_, hbk⟩
    · have := gw2.size
      simp at this
      omega
    · have hs := g9.size
      exact ((Below.refl B w1).drew.alloc (by show B ≤ w1.heap.size; omega) _).grown gw2 (by simp; omega) (fun b e => by obtain ⟨_, _, hB⟩ := own_block g8 e; exact hB)
  clear hrow2 hrow3 hghr hx3 hbk o2 gw2 hgh g1 g2 g3 g4 g6 g7 g8 g9 g10 g11 cR cI' x1 x2 x3 y1 y2 hcb h51
  go_upto_region 6 with fail
  refine put6 _ _ _ _ _ _ _ _ _ _ _ _ _ _ _ _ _ _ _ _ _ _ _ _ _ _ _ _ _ _ _ _ _ _ _ _ _ _ _ _ _ _ _ _ _ _ _ _ _ _ _ _ _ _ _ _ _ (w2.setCell ⟨gr, i * 3 + 2, none⟩ (.slice (some ⟨gh, 0, none⟩) (n0 + 1) ch)) gr i p bt live lb z1 z2 hor cB (fun _ _ _ _ _ h => h) ?_
  dsimp only
  go_end0
  obtain ⟨f1, f2, f3, f4, f5, f6, f7⟩ := FIN.out
  obtain ⟨g1, g2, g3, g4, -, g6, g7, g8, g9, g10, g11⟩ := G.out
  have hs9 := g9.size
  have hset : ∀ b, b ≠ gr → ((w2.setCell ⟨gr, i * 3 + 2, none⟩ (.slice (some ⟨gh, 0, none⟩) (n0 + 1) ch)).drew.setCell ⟨gr, i * 3 + 1, none⟩ (.int .u64 (lb : Int))).heap[b]? = w2.heap[b]? := fun b hb => (Below.heap_setCell _ _ _ b (by exact hb)).trans (Below.heap_setCell _ _ _ b (by exact hb))
  have hgl : g < w1.heap.size := g6.lt
  refine ⟨⟨_, rfl⟩, gh, ch, (hset g (fun e => g1 e.symm)).trans ((f7 g hgl g3).trans g6), ?_, ?_, ?_, ?_, ?_, ?_⟩
  · rw [HLB.out]
    exact own_set f4.drew (i * 3 + 1) (.int .u64 (lb : Int))
  · exact ⟨f1.1, f1.2.imp id fun ⟨g', c', cur, e, b, r, rest⟩ => ⟨g', c', cur, e, b, by cases e; exact (hset gh f2).trans r, rest⟩⟩
  · exact f3.imp id (fun e => by omega)
  · simp
    omega
  · exact (((g9.mono g4).trans f6).setCell (p := ⟨gr, i * 3 + 2, none⟩) g11 _).drew.setCell (p := ⟨gr, i * 3 + 1, none⟩) g11 _
  · intro b hb hne hno
    exact (hset b hne).trans ((f7 b (by omega) hno).trans (g9.block b hb))
set_option maxHeartbeats 2000000 in
theorem putnew_mid (B g n i p q k : Nat) (v0 : Value) (xs : List Value) (h : Nat → Nat) (w : World) (hbx : Has w g #[v0] 59) (hBg : B ≤ g) (hrow : w.ownsRow B 64 3 v0 n xs) (hn : n ≤ 2 ^ 40) (hin : i ≤ n) (hx1 : ∀ u ∈ xs, u.oneCell' = true) (hk : p % 64 = k) (hq : p / 64 = q) (hp : p < 2 ^ 64) (hB : B ≤ w.heap.size)
    (cf : ∀ W, Below w.heap.size w W → Calls Try.prog 25 #[.pointer (some ⟨g, 0, none⟩), .int .u64 (p : Int)] W fun e w' => e = .returned (.tuple #[.int .i64 (i : Int), .bool false]) ∧ Below W.heap.size W w') :
    Calls Try.prog 23 #[.pointer (some ⟨g, 0, none⟩), .int .u64 (p : Int), .agg (UARR .u8 32 h)] w fun e w' => (∃ v, e = .returned v) ∧ ∃ gr cap gh ch, Has w' g #[.slice (some ⟨gr, 0, none⟩) (n + 1) cap] 59 ∧
      w'.ownsRow B 64 3 (.slice (some ⟨gr, 0, none⟩) (n + 1) cap) (n + 1) (((xs.take (i * 3) ++ RQL q ++ xs.drop (i * 3)).set (i * 3 + 2) (.slice (some ⟨gh, 0, none⟩) 1 ch)).set (i * 3 + 1) (.int .u64 ((2 ^ k : Nat) : Int))) ∧
      w'.ownsRow B 32 32 (.slice (some ⟨gh, 0, none⟩) 1 ch) 1 (ULIST .u8 32 h) ∧ w.heap.size ≤ gh ∧ (v0.ownBlock = some gr ∨ w.heap.size ≤ gr) ∧ w.heap.size ≤ w'.heap.size ∧ Below B w w' ∧ ∀ b, b < w.heap.size → b ≠ g → v0.ownBlock ≠ some b → w'.heap[b]? = w.heap[b]? := by
  obtain ⟨w0, hw0⟩ : ∃ w0, w.alloc (.cells (UARR .u8 32 h) 32) = w0 := ⟨_, rfl⟩
  have hb0 : Below w.heap.size w w0 := by rw [← hw0]; exact (Below.refl _ _).alloc (Nat.le_refl _) _
  have h50 : Has w0 w.heap.size (UARR .u8 32 h) 32 := by rw [← hw0]; exact Has.new w _ _
  have cf0 := cf w0 hb0
  have cR0 : ∀ w, Calls Try.prog 31 #[.int .u64 (p : Int)] w fun e w' => e = .returned (.int .u64 (q : Int)) ∧ w = w' := fun w => by have := rowof_ok p w; rw [hq] at this; exact this
  have H : Aside (Has w g #[v0] 59 ∧ B ≤ g ∧ w.ownsRow B 64 3 v0 n xs ∧ n ≤ 2 ^ 40 ∧ p % 64 = k ∧ p < 2 ^ 64 ∧ B ≤ w.heap.size) := ⟨hbx, hBg, hrow, hn, hk, hp, hB⟩
  have HI : Aside (i ≤ n ∧ ∀ u ∈ xs, u.oneCell' = true) := ⟨hin, hx1⟩
  clear cf hbx hBg hrow hn hk hp hB hq hin hx1
  go_enter Try.func23, Try.ntmps23
  go_wp2_with fail
  refine cf0.mono ?_
  rintro e wa ⟨rfl, hb1⟩
  clear cf0
  have hba : Below w.heap.size w wa := hb0.trans (hb1.mono hb0.size)
  obtain ⟨a1, a2, a3, a4, a5, a6, a7⟩ := H.out
  have hbxa := a1.keep hba
  have hrowa := own_keep a3 hba
  have h5a := h50.keep hb1
  have hvg : v0.ownBlock ≠ some g := fun e => by
    obtain ⟨cur, hcur, _⟩ := own_block hrowa e
    rw [show wa.heap[g]? = _ from hbxa] at hcur
    cases hcur
  have hv5 : v0.ownBlock ≠ some w.heap.size := fun e => by
    obtain ⟨cur, hcur, _⟩ := own_block a3 e
    have := (Array.getElem?_eq_some_iff.1 hcur).1
    omega
  have cIr := insmidr_ok B wa.heap.size n i v0 xs q (wa.drew.alloc (.cells (RQ q) 64)) (hrowa.drew.alloc _) (by have := hba.size; simp; omega) a4 HI.out.1 HI.out.2 (Has.new wa.drew _ _) (fun e => by have := (hrowa.lt _ e).2; omega)
  have hgl : g < wa.heap.size := hbxa.lt
  have h5l : w.heap.size < wa.heap.size := h5a.lt
  have cIr' : Calls Try.prog 30 #[v0, .int .i64 (i : Int), .slice (some ⟨wa.heap.size, 0, none⟩) 1 1] (wa.drew.alloc (.cells (RQ q) 64)) fun e w' => ∃ X, e = .returned X ∧ ((∃ gr cap, X = .slice (some ⟨gr, 0, none⟩) (n + 1) cap ∧ w'.ownsRow B 64 3 (.slice (some ⟨gr, 0, none⟩) (n + 1) cap) (n + 1) (xs.take (i * 3) ++ RQL q ++ xs.drop (i * 3)) ∧ (wa.drew.alloc (.cells (RQ q) 64)).grownBy w' v0.ownBlock ∧ (v0.ownBlock = some gr ∨ wa.heap.size ≤ gr)) ∧ ∃ y, Has w' g #[y] 59) :=
    cIr.mono fun e w' ⟨gr, cap, h1, h2, h3, h4⟩ => by
      have hbk : w'.heap[g]? = wa.heap[g]? := (h3.block g (by simp; omega) (fun e => hvg e.symm)).trans (Below.heap_alloc wa.drew _ g (by exact hgl))
      exact ⟨_, h1, ⟨gr, cap, rfl, h2, h3, h4.imp id (fun e => by rw [e]; simp)⟩, v0, hbk.trans hbxa⟩
  clear cIr
  go_upto_region 3 with fail
  refine put3 _ _ _ _ _ _ _ _ _ _ _ _ _ _ _ _ _ _ _ _ _ _ _ _ _ _ _ _ _ _ _ _ _ _ _ _ _ _ _ _ _ _ _ _ _ _ _ _ _ _ _ _ _ _ _ _ wa g p i q v0 (fun X w' => ∃ gr cap, X = .slice (some ⟨gr, 0, none⟩) (n + 1) cap ∧ w'.ownsRow B 64 3 (.slice (some ⟨gr, 0, none⟩) (n + 1) cap) (n + 1) (xs.take (i * 3) ++ RQL q ++ xs.drop (i * 3)) ∧ (wa.drew.alloc (.cells (RQ q) 64)).grownBy w' v0.ownBlock ∧ (v0.ownBlock = some gr ∨ wa.heap.size ≤ gr)) (fun X w' ⟨gr, cap, h1, _⟩ => ⟨_, _, _, h1⟩) hbxa cR0 cIr' (fun _ _ _ _ _ h => h) ?_
  rintro X wb ⟨⟨gr, cap, rfl, ob, gwb, hgr⟩, y, hyb⟩
  dsimp only
  have hbk : ∀ b, b < wa.heap.size → v0.ownBlock ≠ some b → wb.heap[b]? = wa.heap[b]? := fun b hb hne => (gwb.block b (by simp; omega) (fun e => hne e.symm)).trans (Below.heap_alloc wa.drew _ b (by exact hb))
  have hgrg : gr ≠ g := by
    rcases hgr with e | e
    · exact fun e2 => hvg (by rw [e, e2])
    · omega
  obtain ⟨w1, hw1⟩ : ∃ w1, wb.setCell ⟨g, 0, none⟩ (.slice (some ⟨gr, 0, none⟩) (n + 1) cap) = w1 := ⟨_, rfl⟩
  have hset1 : ∀ b, b ≠ g → w1.heap[b]? = wb.heap[b]? := fun b hb => by rw [← hw1]; exact Below.heap_setCell _ _ _ b (by exact hb)
  have hbx1 : Has w1 g #[.slice (some ⟨gr, 0, none⟩) (n + 1) cap] 59 := by rw [← hw1]; exact hyb.set 0 _
  have hrow1 : w1.ownsRow B 64 3 (.slice (some ⟨gr, 0, none⟩) (n + 1) cap) (n + 1) (xs.take (i * 3) ++ RQL q ++ xs.drop (i * 3)) := ⟨ob.1, ob.2.imp id fun ⟨g', c', cur, e, b, r, rest⟩ => ⟨g', c', cur, e, b, by cases e; exact (hset1 gr hgrg).trans r, rest⟩⟩
  have h51 : Has w1 w.heap.size (UARR .u8 32 h) 32 := (hset1 _ (by have := a1.lt; omega)).trans ((hbk _ h5l hv5).trans h5a)
  have hs1 : wa.heap.size ≤ w1.heap.size := by
    have := gwb.size
    rw [← hw1]
    simp at this ⊢
    omega
  have hB1 : Below B w w1 := by
    rw [← hw1]
    have hs := hba.size
    exact ((((hba.mono a7).drew.alloc (by show B ≤ wa.heap.size; omega) _).grown gwb (by simp; omega) (fun b e => by obtain ⟨_, _, hB⟩ := own_block hrowa e; exact hB))).setCell (p := ⟨g, 0, none⟩) a2 _
  have hfr1 : ∀ b, b < w.heap.size → b ≠ g → v0.ownBlock ≠ some b → w1.heap[b]? = w.heap[b]? := fun b hb hne hno => (hset1 b hne).trans ((hbk b (by have := hba.size; omega) hno).trans (hba.block b hb))
  have hlen : xs.length = n * 3 := a3.1
  have htl : (xs.take (i * 3)).length = i * 3 := by rw [List.length_take, hlen]; have := HI.out.1; omega
  have ax1 : (xs.take (i * 3) ++ RQL q ++ xs.drop (i * 3))[i * 3 + 1]? = some (.int .u64 ((0 : Nat) : Int)) := by rw [List.append_assoc, List.getElem?_append_right (by omega), htl, show i * 3 + 1 - i * 3 = 1 by omega]; rfl
  have ax2 : (xs.take (i * 3) ++ RQL q ++ xs.drop (i * 3))[i * 3 + 2]? = some (.slice none 0 0) := by rw [List.append_assoc, List.getElem?_append_right (by omega), htl, show i * 3 + 2 - i * 3 = 2 by omega]; rfl
  have hin1 : i < n + 1 := by have := HI.out.1; omega
  rw [hw1]
  obtain ⟨x1, x2, x3, x4⟩ := own_there hrow1 ax1
  obtain ⟨y1, y2, y3, y4⟩ := own_there hrow1 ax2
  have hkk : k < 64 := by rw [← a5]; exact Nat.mod_lt _ (by decide)
  have cB : ∀ w, Calls Try.prog 27 #[.int .u64 (p : Int)] w fun e w' => e = .returned (.int .u64 ((2 ^ k : Nat) : Int)) ∧ w = w' := fun w => by have := bitof_ok p a6 w; rw [a5] at this; exact this
  have cR : ∀ w, w.cell? ⟨gr, i * 3 + 1, none⟩ = some (.int .u64 ((0 : Nat) : Int)) → Calls Try.prog 26 #[.pointer (some ⟨gr, i * 3, none⟩), .int .u64 ((2 ^ k : Nat) : Int)] w fun e w' => e = .returned (.int .i64 ((0 : Nat) : Int)) ∧ w = w' := fun w h => by
    have := rank_ok gr (i * 3) 0 k (by decide) hkk w h
    rw [POP_mod (by omega), RK_zero] at this
    exact this
  have cI := inserth_ok B w1.heap.size 0 (.slice none 0 0) [] h (w1.drew.alloc (.cells (UARR .u8 32 h) 32)) ⟨rfl, .inl ⟨rfl, rfl⟩⟩ (by have := hba.size; simp; omega) (by decide) (Has.new w1.drew _ _)
  have hp2 : 2 ^ k < 2 ^ 64 := Nat.pow_lt_pow_right (by decide) hkk
  have hor : bits .or .u64 ((0 : Nat) : Int) ((2 ^ k : Nat) : Int) = ((2 ^ k : Nat) : Int) := by rw [or_eq (by decide) hp2, Nat.zero_or]
  have G : Aside (gr ≠ g ∧ Has w1 g #[.slice (some ⟨gr, 0, none⟩) (n + 1) cap] 59 ∧ w1.ownsRow B 64 3 (.slice (some ⟨gr, 0, none⟩) (n + 1) cap) (n + 1) (xs.take (i * 3) ++ RQL q ++ xs.drop (i * 3)) ∧ gr < w1.heap.size ∧ B ≤ gr ∧ (v0.ownBlock = some gr ∨ wa.heap.size ≤ gr) ∧ wa.heap.size ≤ w1.heap.size ∧ w.heap.size ≤ wa.heap.size ∧ Below B w w1 ∧ (∀ b, b < w.heap.size → b ≠ g → v0.ownBlock ≠ some b → w1.heap[b]? = w.heap[b]?) ∧ (xs.take (i * 3) ++ RQL q ++ xs.drop (i * 3))[i * 3 + 1]? = some (.int .u64 ((0 : Nat) : Int)) ∧ B ≤ w.heap.size) := ⟨hgrg, hbx1, hrow1, x3, x4, hgr, hs1, hba.size, hB1, hfr1, ax1, a7⟩
  have hn1 : (i : Int) < ((n + 1 : Nat) : Int) := by omega
  have hcb := hbx1.cell 0
  obtain ⟨N1, hN1⟩ : ∃ N1, n + 1 = N1 := ⟨_, rfl⟩
  rw [hN1] at G hn1 hcb
  have HN1 : Aside (n + 1 = N1) := hN1
  rw [hN1]
  clear hN1
  obtain ⟨bt, hbt⟩ : ∃ bt, 2 ^ k = bt := ⟨_, rfl⟩
  rw [hbt] at cB cR hor
  have HBT : Aside (2 ^ k = bt) := hbt
  clear hbt
  have cI' : Calls Try.prog 32 #[.slice none 0 0, .int .i64 ((0 : Nat) : Int), .slice (some ⟨w1.heap.size, 0, none⟩) 1 1] (w1.drew.alloc (.cells (UARR .u8 32 h) 32)) fun e w' => ∃ X, e = .returned X ∧ ((∃ gh ch, X = .slice (some ⟨gh, 0, none⟩) 1 ch ∧ w'.ownsRow B 32 32 (.slice (some ⟨gh, 0, none⟩) 1 ch) 1 (ULIST .u8 32 h) ∧ (w1.drew.alloc (.cells (UARR .u8 32 h) 32)).grownBy w' none ∧ w1.heap.size ≤ gh) ∧ ∃ y, w'.cell? ⟨gr, i * 3 + 2, none⟩ = some y ∧ w'.frozen? ⟨gr, i * 3 + 2, none⟩ = false) :=
    cI.mono fun e w' ⟨gh, ch, h1, h2, h3, h4⟩ => by
      have hbk : w'.heap[gr]? = w1.heap[gr]? := (h3.block gr (by simp; omega) (by simp [Value.ownBlock])).trans (Below.heap_alloc w1.drew _ gr (by exact x3))
      refine ⟨_, h1, ⟨gh, ch, rfl, h2, h3, ?_⟩, .slice none 0 0, ?_, ?_⟩
      · rcases h4 with e | e
        · simp [Value.ownBlock] at e
        · rw [e]; simp
      · rw [← y1]
        exact World.cell?_of_block (w := w1) (by exact hbk)
      · unfold World.frozen? at y2 ⊢
        rw [hbk]
        exact y2
  clear cI hbk hset1 hgrg hbx1 hrow1 hs1 hB1 hfr1 ob gwb hyb hw1 a1 a3 hbxa hrowa cIr' hgr ax1 ax2 y3 y4 x4 hp2 hkk
  go_upto_region 5 with fail
  refine put5 _ _ _ _ _ _ _ _ _ _ _ _ _ _ _ _ _ _ _ _ _ _ _ _ _ _ _ _ _ _ _ _ _ _ _ _ _ _ _ _ _ _ _ _ _ _ _ _ _ _ _ _ _ _ _ _ w1 gr i p bt 0 w.heap.size 0 h (.slice none 0 0) (fun X w' => ∃ gh ch, X = .slice (some ⟨gh, 0, none⟩) 1 ch ∧ w'.ownsRow B 32 32 (.slice (some ⟨gh, 0, none⟩) 1 ch) 1 (ULIST .u8 32 h) ∧ (w1.drew.alloc (.cells (UARR .u8 32 h) 32)).grownBy w' none ∧ w1.heap.size ≤ gh) (fun X w' ⟨gh, ch, h1, _⟩ => ⟨_, _, _, h1⟩) x1 y1 x3 h51 cB cR cI' (fun _ _ _ _ _ h => h) ?_
  rintro X w2 ⟨⟨gh, ch, rfl, o2, gw2, hgh⟩, _⟩
  dsimp only
  obtain ⟨g1, g6, g7, g10, g11, g12, g13, g14, g15, g16, g17, g18⟩ := G.out
  have hbk : ∀ b, b < w1.heap.size → w2.heap[b]? = w1.heap[b]? := fun b hb => (gw2.block b (by simp; omega) (by simp)).trans (Below.heap_alloc w1.drew _ b (by exact hb))
  have hrow2 : w2.ownsRow B 64 3 (.slice (some ⟨gr, 0, none⟩) N1 cap) N1 (xs.take (i * 3) ++ RQL q ++ xs.drop (i * 3)) := ⟨g7.1, g7.2.imp id fun ⟨g', c', cur, e, b, r, rest⟩ => ⟨g', c', cur, e, b, by cases e; exact (hbk gr g10).trans r, rest⟩⟩
  have hrow3 := own_set hrow2 (i * 3 + 2) (.slice (some ⟨gh, 0, none⟩) 1 ch)
  have hghr : gh ≠ gr := by omega
  have hx3 : ((xs.take (i * 3) ++ RQL q ++ xs.drop (i * 3)).set (i * 3 + 2) (.slice (some ⟨gh, 0, none⟩) 1 ch))[i * 3 + 1]? = some (.int .u64 ((0 : Nat) : Int)) := by rw [List.getElem?_set_ne (by omega)]; exact g17
  obtain ⟨z1, z2, z3, -⟩ := own_there hrow3 hx3
  have FIN : Aside (w2.ownsRow B 32 32 (.slice (some ⟨gh, 0, none⟩) 1 ch) 1 (ULIST .u8 32 h) ∧ gh ≠ gr ∧ w1.heap.size ≤ gh ∧ (w2.setCell ⟨gr, i * 3 + 2, none⟩ (.slice (some ⟨gh, 0, none⟩) 1 ch)).ownsRow B 64 3 (.slice (some ⟨gr, 0, none⟩) N1 cap) N1 ((xs.take (i * 3) ++ RQL q ++ xs.drop (i * 3)).set (i * 3 + 2) (.slice (some ⟨gh, 0, none⟩) 1 ch)) ∧ w1.heap.size ≤ w2.heap.size ∧ Below B w1 w2 ∧ ∀ b, b < w1.heap.size → w2.heap[b]? = w1.heap[b]?) := by
    refine ⟨o2, hghr, hgh, hrow3, ?_, ?_, hbk⟩
    · have := gw2.size
      simp at this
      omega
    · exact ((Below.refl B w1).drew.alloc (by show B ≤ w1.heap.size; omega) _).grown gw2 (by simp; omega) (fun b e => by cases e)
  clear hrow2 hrow3 hghr hx3 hbk o2 gw2 hgh g1 g6 g7 g10 g11 g12 g13 g14 g15 g16 g17 cR cI' x1 x2 x3 y1 y2 hcb h51
  go_upto_region 6 with fail
  refine put6 _ _ _ _ _ _ _ _ _ _ _ _ _ _ _ _ _ _ _ _ _ _ _ _ _ _ _ _ _ _ _ _ _ _ _ _ _ _ _ _ _ _ _ _ _ _ _ _ _ _ _ _ _ _ _ _ _ (w2.setCell ⟨gr, i * 3 + 2, none⟩ (.slice (some ⟨gh, 0, none⟩) 1 ch)) gr i p bt 0 bt z1 z2 hor cB (fun _ _ _ _ _ h => h) ?_
  dsimp only
  go_end0
  obtain ⟨f1, f2, f3, f4, f5, f6, f7⟩ := FIN.out
  obtain ⟨g1, g6, g7, g10, g11, g12, g13, g14, g15, g16, g17, g18⟩ := G.out
  have hset : ∀ b, b ≠ gr → ((w2.setCell ⟨gr, i * 3 + 2, none⟩ (.slice (some ⟨gh, 0, none⟩) 1 ch)).drew.setCell ⟨gr, i * 3 + 1, none⟩ (.int .u64 (bt : Int))).heap[b]? = w2.heap[b]? := fun b hb => (Below.heap_setCell _ _ _ b (by exact hb)).trans (Below.heap_setCell _ _ _ b (by exact hb))
  have hgl1 : g < w1.heap.size := g6.lt
  rw [HN1.out, HBT.out]
  refine ⟨⟨_, rfl⟩, gr, cap, gh, ch, (hset g (fun e => g1 e.symm)).trans ((f7 g hgl1).trans g6), own_set f4.drew (i * 3 + 1) (.int .u64 (bt : Int)), ?_, ?_, ?_, ?_, ?_, ?_⟩
  · exact ⟨f1.1, f1.2.imp id fun ⟨g', c', cur, e, b, r, rest⟩ => ⟨g', c', cur, e, b, by cases e; exact (hset gh f2).trans r, rest⟩⟩
  · omega
  · exact g12.imp id (fun e => by omega)
  · simp
    omega
  · exact ((g15.trans f6).setCell (p := ⟨gr, i * 3 + 2, none⟩) g11 _).drew.setCell (p := ⟨gr, i * 3 + 1, none⟩) g11 _
  · intro b hb hne hno
    have hbr : b ≠ gr := by
      rcases g12 with e | e
      · exact fun e2 => hno (by rw [e, e2])
      · omega
    exact (hset b hbr).trans ((f7 b (by omega)).trans (g16 b hb hne hno))
end Go.Proofs.Ytkhpaldbdpfpiaa
