/- chunk.take, in raw memory. -/
import Derived.Test.YtkmcmngdainofaaStoreTakeRegions
namespace Go.Proofs.Ytkmcmngdainofaa
open Go.RowKit Go.Maps
set_option maxRecDepth 100000

/-- what chunk.take leaves in memory: the i-th row has one hash and one bit less; it is taken out if no bit is left. -/
def TOOK (w w' : World) (B g gr cap i m gh ch n1 lb : Nat) (xs ys : List Value) : Prop :=
  ((lb ≠ 0 ∧ Has w' g #[.slice (some ⟨gr, 0, none⟩) m cap] 70 ∧ w'.ownsRow B 73 3 (.slice (some ⟨gr, 0, none⟩) m cap) m xs) ∨
    (lb = 0 ∧ Has w' g #[.slice (some ⟨gr, 0, none⟩) (m - 1) cap] 70 ∧ w'.ownsRow B 73 3 (.slice (some ⟨gr, 0, none⟩) (m - 1) cap) (m - 1) (xs.take (i * 3) ++ xs.drop ((i + 1) * 3)))) ∧
  w'.ownsRow B 33 32 (.slice (some ⟨gh, 0, none⟩) n1 ch) n1 ys ∧ w.heap.size ≤ w'.heap.size ∧ Below B w w' ∧ ∀ b, b < w.heap.size → b ≠ g → b ≠ gr → b ≠ gh → w'.heap[b]? = w.heap[b]?
theorem own_here {w w' : World} {B s n cap b : Nat} {t : TypeId} {xs : List Value} (h : w.ownsRow B t s (.slice (some ⟨b, 0, none⟩) n cap) n xs) (hb : w'.heap[b]? = w.heap[b]?) : w'.ownsRow B t s (.slice (some ⟨b, 0, none⟩) n cap) n xs := own_same h fun b' e => by cases e; exact hb
theorem set_one {xs : List Value} (h : ∀ u ∈ xs, u.oneCell' = true) (j : Nat) (v : Value) (hv : v.oneCell' = true) : ∀ u ∈ xs.set j v, u.oneCell' = true := fun u hu => by
  rcases List.mem_or_eq_of_mem_set hu with h1 | h1
  · exact h u h1
  · rw [h1]; exact hv
set_option maxHeartbeats 4000000 in
theorem take_raw (B g gr i m cap p k live lb n0 n1 rk r1 gh ch : Nat) (xs ys : List Value) (w : World) (hbx : Has w g #[.slice (some ⟨gr, 0, none⟩) m cap] 70) (hrow : w.ownsRow B 73 3 (.slice (some ⟨gr, 0, none⟩) m cap) m xs) (him : i < m)
    (hl : xs[i * 3 + 1]? = some (.int .u64 (live : Int))) (hhv : xs[i * 3 + 2]? = some (.slice (some ⟨gh, 0, none⟩) n0 ch)) (hown : w.ownsRow B 33 32 (.slice (some ⟨gh, 0, none⟩) n0 ch) n0 ys) (hrk : RK live k = rk) (hr1 : rk + 1 = r1) (hn1 : n0 - 1 = n1) (hrn : rk < n0) (hn0 : n0 ≤ 1000) (hlive : live < 2 ^ 64) (hk : p % 64 = k) (hp : p < 2 ^ 64) (hBg : B ≤ g)
    (hlb : bits .andNot .u64 (live : Int) ((2 ^ k : Nat) : Int) = (lb : Int)) (hy1 : ∀ u ∈ ys, u.oneCell' = true) (hx1 : ∀ u ∈ xs, u.oneCell' = true) (hne : gh ≠ gr ∧ g ≠ gr ∧ g ≠ gh)
    (cf : Calls Try.prog 39 #[.pointer (some ⟨g, 0, none⟩), .int .u64 (p : Int)] w fun e w' => e = .returned (.tuple #[.int .i64 (i : Int), .bool true]) ∧ Below w.heap.size w w') :
    Calls Try.prog 41 #[.pointer (some ⟨g, 0, none⟩), .int .u64 (p : Int)] w fun e w' => (∃ v, e = .returned v) ∧ TOOK w w' B g gr cap i m gh ch n1 lb ((xs.set (i * 3 + 2) (.slice (some ⟨gh, 0, none⟩) n1 ch)).set (i * 3 + 1) (.int .u64 (lb : Int))) (ys.take (rk * 32) ++ ys.drop (r1 * 32)) := by
  have him' : (i : Int) < (m : Int) := by omega
  have H : Aside (Has w g #[.slice (some ⟨gr, 0, none⟩) m cap] 70 ∧ w.ownsRow B 73 3 (.slice (some ⟨gr, 0, none⟩) m cap) m xs ∧ i < m ∧ xs[i * 3 + 1]? = some (.int .u64 (live : Int)) ∧ xs[i * 3 + 2]? = some (.slice (some ⟨gh, 0, none⟩) n0 ch) ∧ w.ownsRow B 33 32 (.slice (some ⟨gh, 0, none⟩) n0 ch) n0 ys ∧ (RK live k = rk ∧ rk + 1 = r1 ∧ n0 - 1 = n1 ∧ rk < n0 ∧ n0 ≤ 1000) ∧ live < 2 ^ 64 ∧ p % 64 = k ∧ p < 2 ^ 64 ∧ B ≤ g ∧ (∀ u ∈ ys, u.oneCell' = true) ∧ (∀ u ∈ xs, u.oneCell' = true) ∧ gh ≠ gr ∧ g ≠ gr ∧ g ≠ gh) := ⟨hbx, hrow, him, hl, hhv, hown, ⟨hrk, hr1, hn1, hrn, hn0⟩, hlive, hk, hp, hBg, hy1, hx1, hne.1, hne.2.1, hne.2.2⟩
  have HB : Aside (bits .andNot .u64 (live : Int) ((2 ^ k : Nat) : Int) = (lb : Int)) := hlb
  clear hbx hrow him hl hhv hown hrk hr1 hn1 hrn hn0 hlive hk hp hBg hlb hy1 hx1 hne
  go_enter Try.func41, Try.ntmps41
  go_wp2_with fail
  refine cf.mono ?_
  rintro e w1 ⟨rfl, hb1⟩
  clear cf
  obtain ⟨a1, a2, a3, a4, a5, a6, ⟨a7, a8, a9, a10, a11⟩, a12, a13, a14, a15, a16, a17, a18, a19, a20⟩ := H.out
  have hbx1 := a1.keep hb1
  have hrow1 := own_keep a2 hb1
  have hown1 := own_keep a6 hb1
  have hcb := hbx1.cell 0
  obtain ⟨x1, x2, x3, x4⟩ := own_there hrow1 a4
  obtain ⟨y1, y2, y3, y4⟩ := own_there hrow1 a5
  have hkk : k < 64 := by rw [← a13]; exact Nat.mod_lt _ (by decide)
  have cB : ∀ w, Calls Try.prog 18 #[.int .u64 (p : Int)] w fun e w' => e = .returned (.int .u64 ((2 ^ k : Nat) : Int)) ∧ w = w' := fun w => by have := bitof_ok p a14 w; rw [a13] at this; exact this
  have cR : Calls Try.prog 40 #[.pointer (some ⟨gr, i * 3, none⟩), .int .u64 ((2 ^ k : Nat) : Int)] w1 fun e w' => e = .returned (.int .i64 (rk : Int)) ∧ w1 = w' := by
    have := rank_ok gr (i * 3) live k a12 hkk w1 x1
    rw [POP_mod (by omega), a7] at this
    exact this
  have cD := deleteh_ok B gh n0 ch rk r1 n1 ys w1 hown1 a16 a10 a8 a9
  have hwr : wrap64 ((rk : Int) + 1) = (r1 : Int) := by unfold wrap64; omega
  have hwr2 : IntKind.i64.wrap ((rk : Int) + 1) = (r1 : Int) := (IntWalk.i64_left _).trans hwr
  have hwi : Aside (wrap64 ((i : Int) + 1) = ((i + 1 : Nat) : Int)) := by
    have := (own_cell hrow1).2.2
    show wrap64 _ = _
    unfold wrap64
    unfold maxLen at this
    omega
  have hb2k : Aside (2 ^ k < 2 ^ 64) := Nat.pow_lt_pow_right (by decide) hkk
  obtain ⟨bt, hbt⟩ : ∃ bt, 2 ^ k = bt := ⟨_, rfl⟩
  have HBT : Aside (bits .andNot .u64 (live : Int) (bt : Int) = (lb : Int)) := by rw [← hbt]; exact HB.out
  rw [hbt] at cB cR
  have HH : Aside (Has w1 g #[.slice (some ⟨gr, 0, none⟩) m cap] 70 ∧ w1.ownsRow B 73 3 (.slice (some ⟨gr, 0, none⟩) m cap) m xs ∧ Below w.heap.size w w1 ∧ g < w.heap.size ∧ gr < w.heap.size ∧ gh < w.heap.size) := ⟨hbx1, hrow1, hb1, a1.lt, (own_there a2 a4).2.2.1, (own_cell a6).2.2.2.2.1⟩
  clear a1 a2 a3 a4 a5 a6 a7 a8 a9 a10 a11 a12 a13 a14 a15 a16 a17 a18 a19 a20 hbx1 hrow1 hown1 hbt hkk x2 x3 x4 y2 y3 y4 hb1
  go_wp2_with (first
    | (refine (cB _).mono ?_; rintro e w' ⟨rfl, rfl⟩)
    | (refine cR.mono ?_; rintro e w' ⟨rfl, rfl⟩)
    | fail)
  refine cD.mono ?_
  rintro e w2 ⟨rfl, d1, d2, d3⟩
  clear cD cR hwr hwr2 hcb x1 y1
  obtain ⟨b1, b2, b3, b4, b5, b6⟩ := HH.out
  obtain ⟨a1, a2, a3, a4, a5, a6, -, a12, a13, a14, a15, a16, a17, a18, a19, a20⟩ := H.out
  have hbx2 : Has w2 g #[.slice (some ⟨gr, 0, none⟩) m cap] 70 := (d2 g a20).trans b1
  have hrow2 := own_here b2 (d2 gr (fun e => a18 e.symm))
  obtain ⟨x1, x2, x3, x4⟩ := own_there hrow2 a4
  obtain ⟨y1, y2, y3, y4⟩ := own_there hrow2 a5
  have hrow3 := own_set hrow2 (i * 3 + 2) (.slice (some ⟨gh, 0, none⟩) n1 ch)
  obtain ⟨w3, hw3⟩ : ∃ w3, w2.setCell ⟨gr, i * 3 + 2, none⟩ (.slice (some ⟨gh, 0, none⟩) n1 ch) = w3 := ⟨_, rfl⟩
  rw [hw3] at hrow3
  have hset3 : ∀ b, b ≠ gr → w3.heap[b]? = w2.heap[b]? := fun b hb => by rw [← hw3]; exact Below.heap_setCell _ _ _ b (by exact hb)
  have hbx3 : Has w3 g #[.slice (some ⟨gr, 0, none⟩) m cap] 70 := (hset3 g a19).trans hbx2
  have hown3 := own_here d1 (hset3 gh a18)
  have l3 : (xs.set (i * 3 + 2) (.slice (some ⟨gh, 0, none⟩) n1 ch))[i * 3 + 1]? = some (.int .u64 (live : Int)) := by rw [List.getElem?_set_ne (by omega)]; exact a4
  obtain ⟨z1, z2, -, z4⟩ := own_there hrow3 l3
  have hB3 : Below B w w3 := by rw [← hw3]; exact ((b3.mono (by omega)).trans d3).setCell (p := ⟨gr, i * 3 + 2, none⟩) z4 _
  have HT : Aside (Has w3 g #[.slice (some ⟨gr, 0, none⟩) m cap] 70 ∧ w3.ownsRow B 73 3 (.slice (some ⟨gr, 0, none⟩) m cap) m (xs.set (i * 3 + 2) (.slice (some ⟨gh, 0, none⟩) n1 ch)) ∧ w3.ownsRow B 33 32 (.slice (some ⟨gh, 0, none⟩) n1 ch) n1 (ys.take (rk * 32) ++ ys.drop (r1 * 32)) ∧ Below B w w3 ∧ (∀ b, b < w.heap.size → b ≠ g → b ≠ gr → b ≠ gh → w3.heap[b]? = w.heap[b]?) ∧ B ≤ gr) := ⟨hbx3, hrow3, hown3, hB3, fun b hb _ h1 h2 => (hset3 b h1).trans ((d2 b h2).trans (b3.block b hb)), z4⟩
  clear hbx2 hrow2 hrow3 hset3 hbx3 hown3 hB3 d1 d2 d3 x1 x2 x3 x4 y3 y4 b1 b2 b3 b4 b5 b6 a1 a2 a3 a4 a5 a6 a12 a13 a14 a15 a16 a17 a18 a19 a20 l3 z4
  go_upto_region 4 with fail
  refine take4 _ _ _ _ _ _ _ _ _ _ _ _ _ _ _ _ _ _ _ _ _ _ _ _ _ _ _ _ _ _ _ _ _ _ _ _ _ _ _ _ _ _ _ _ _ _ _ _ _ _ _ _ _ _ _ _ _ _ w3 gr i p bt live lb z1 z2 HBT.out cB (fun _ _ _ _ _ h => h) ?_
  dsimp only
  clear cB hw3 y1 y2 z1 z2
  obtain ⟨c1, c2, c3, c4, c5, c6⟩ := HT.out
  have c2' : w3.drew.ownsRow B 73 3 (.slice (some ⟨gr, 0, none⟩) m cap) m (xs.set (i * 3 + 2) (.slice (some ⟨gh, 0, none⟩) n1 ch)) := c2
  have hrow4 := own_set c2' (i * 3 + 1) (.int .u64 (lb : Int))
  obtain ⟨w4, hw4⟩ : ∃ w4, w3.drew.setCell ⟨gr, i * 3 + 1, none⟩ (.int .u64 (lb : Int)) = w4 := ⟨_, rfl⟩
  rw [hw4] at hrow4 ⊢
  obtain ⟨xs1, hxs1⟩ : ∃ xs1, (xs.set (i * 3 + 2) (.slice (some ⟨gh, 0, none⟩) n1 ch)).set (i * 3 + 1) (.int .u64 (lb : Int)) = xs1 := ⟨_, rfl⟩
  rw [hxs1] at hrow4
  have HX : Aside ((xs.set (i * 3 + 2) (.slice (some ⟨gh, 0, none⟩) n1 ch)).set (i * 3 + 1) (.int .u64 (lb : Int)) = xs1) := hxs1
  have hone : Aside (∀ u ∈ xs1, u.oneCell' = true) := by
    rw [← hxs1]
    exact set_one (set_one H.out.2.2.2.2.2.2.2.2.2.2.2.2.1 _ _ rfl) _ _ rfl
  have hset4 : ∀ b, b ≠ gr → w4.heap[b]? = w3.heap[b]? := fun b hb => by rw [← hw4]; exact Below.heap_setCell _ _ _ b (by exact hb)
  have hlen : i * 3 + 1 < xs.length := (List.getElem?_eq_some_iff.1 H.out.2.2.2.1).1
  have l4 : xs1[i * 3 + 1]? = some (.int .u64 (lb : Int)) := by rw [← hxs1, List.getElem?_set_self (by simpa using hlen)]
  obtain ⟨z1, z2, -, -⟩ := own_there hrow4 l4
  obtain ⟨a1, a2, a3, a4, a5, a6, -, a12, a13, a14, a15, a16, a17, a18, a19, a20⟩ := H.out
  have hbx4 : Has w4 g #[.slice (some ⟨gr, 0, none⟩) m cap] 70 := (hset4 g a19).trans c1
  have hown4 := own_here c3 (hset4 gh a18)
  have hB4 : Below B w w4 := by rw [← hw4]; exact c4.drew.setCell (p := ⟨gr, i * 3 + 1, none⟩) c6 _
  have hfr4 : ∀ b, b < w.heap.size → b ≠ g → b ≠ gr → b ≠ gh → w4.heap[b]? = w.heap[b]? := fun b h1 h2 h3 h4 => (hset4 b h3).trans (c5 b h1 h2 h3 h4)
  by_cases hz : lb = 0
  · have hzb : ((lb : Int) == 0) = true := by simp; omega
    obtain ⟨i1, hi1⟩ : ∃ i1, i + 1 = i1 := ⟨_, rfl⟩
    obtain ⟨m1, hm1⟩ : ∃ m1, m - 1 = m1 := ⟨_, rfl⟩
    have cD := deleter_ok B gr m cap i i1 m1 xs1 w4 hrow4 hone.out a3 hi1 hm1
    have hcb := hbx4.cell 0
    have hwi1 : wrap64 ((i : Int) + 1) = (i1 : Int) := by rw [← hi1]; exact hwi.out
    have hwi2 : IntKind.i64.wrap ((i : Int) + 1) = (i1 : Int) := (IntWalk.i64_left _).trans hwi1
    have HI : Aside (i + 1 = i1 ∧ m - 1 = m1 ∧ lb = 0) := ⟨hi1, hm1, hz⟩
    have HF : Aside (Has w4 g #[.slice (some ⟨gr, 0, none⟩) m cap] 70 ∧ w4.ownsRow B 33 32 (.slice (some ⟨gh, 0, none⟩) n1 ch) n1 (ys.take (rk * 32) ++ ys.drop (r1 * 32)) ∧ Below B w w4 ∧ ∀ b, b < w.heap.size → b ≠ g → b ≠ gr → b ≠ gh → w4.heap[b]? = w.heap[b]?) := ⟨hbx4, hown4, hB4, hfr4⟩
    clear c1 c2 c3 c4 c5 c6 c2' hrow4 hset4 a1 a2 a3 a4 a5 a6 a12 a13 a14 a15 a16 a17 a18 a19 a20 hbx4 hown4 hB4 hfr4 hz l4 hlen hxs1 hw4 hi1 hm1 z2
    go_wp2_with fail
    refine cD.mono ?_
    rintro e w5 ⟨rfl, d1, d2, d3⟩
    clear cD
    obtain ⟨f1, f2, f3, f4⟩ := HF.out
    obtain ⟨a1, a2, a3, a4, a5, a6, -, a12, a13, a14, a15, a16, a17, a18, a19, a20⟩ := H.out
    have hbx5 : Has w5 g #[.slice (some ⟨gr, 0, none⟩) m cap] 70 := (d2 g a19).trans f1
    have hbx6 : Has (w5.setCell ⟨g, 0, none⟩ (.slice (some ⟨gr, 0, none⟩) m1 cap)) g #[.slice (some ⟨gr, 0, none⟩) m1 cap] 70 := hbx5.set 0 _
    have hset6 : ∀ b, b ≠ g → (w5.setCell ⟨g, 0, none⟩ (.slice (some ⟨gr, 0, none⟩) m1 cap)).heap[b]? = w5.heap[b]? := fun b hb => Below.heap_setCell _ _ _ b (by exact hb)
    have E : Aside (TOOK w (w5.setCell ⟨g, 0, none⟩ (.slice (some ⟨gr, 0, none⟩) m1 cap)) B g gr cap i m gh ch n1 lb xs1 (ys.take (rk * 32) ++ ys.drop (r1 * 32))) := by
      have hB6 : Below B w (w5.setCell ⟨g, 0, none⟩ (.slice (some ⟨gr, 0, none⟩) m1 cap)) := (f3.trans d3).setCell (p := ⟨g, 0, none⟩) a15 _
      refine ⟨.inr ⟨HI.out.2.2, by rw [HI.out.2.1]; exact hbx6, ?_⟩, own_here (own_here f2 (d2 gh a18)) (hset6 gh (fun e => a20 e.symm)), hB6.size, hB6, fun b h1 h2 h3 h4 => (hset6 b h2).trans ((d2 b h3).trans (f4 b h1 h2 h3 h4))⟩
      rw [HI.out.2.1, HI.out.1]
      exact own_here d1 (hset6 gr (fun e => a19 e.symm))
    have k1 := hbx5.cell 0
    have k2 := hbx5.frozen 0
    clear f1 f2 f3 f4 a1 a2 a3 a4 a5 a6 a12 a13 a14 a15 a16 a17 a18 a19 a20 d1 d2 d3 hset6 hbx6 hbx5 hwi1 hwi2 hcb z1 hzb
    go_wp2
    go_end0
    rw [HX.out]
    exact ⟨⟨_, rfl⟩, E.out⟩
  · have hzb : ((lb : Int) == 0) = false := by simp; omega
    have E : Aside (TOOK w w4 B g gr cap i m gh ch n1 lb xs1 (ys.take (rk * 32) ++ ys.drop (r1 * 32))) := ⟨.inl ⟨hz, hbx4, hrow4⟩, hown4, hB4.size, hB4, hfr4⟩
    clear c1 c2 c3 c4 c5 c6 c2' hrow4 hset4 a1 a2 a3 a4 a5 a6 a12 a13 a14 a15 a16 a17 a18 a19 a20 hbx4 hown4 hB4 hfr4 hz l4 hlen hxs1 hw4
    go_wp2
    go_end0
    rw [HX.out]
    exact ⟨⟨_, rfl⟩, E.out⟩
end Go.Proofs.Ytkmcmngdainofaa
