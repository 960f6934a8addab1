/- Texts of ManyClimbs, one behind the other: ManyUp, ManyUpNode. -/
import Derived.Test.YtlicfinmibbpdaaGreatDoorManyClimbsP28
/- up of package many: the hash of a node over some leaves, by what is left of the lists. -/
namespace Go.Proofs.YtlicfinmibbpdaaGreatDoor
open Go.RowKit
set_option maxRecDepth 100000

/-- what hears of the steps, in Climb: nothing is done. -/
def HEARD : Value := .func (.func 35) #[] #[]
/-- a list of hashes of the world w0 that does not lie in the block bc. -/
def LSH (w0 : World) (bc : Nat) (v : Value) (n : Nat) (l : List Int) : Prop := ∃ a c, v = .slice a n c ∧ n ≤ c ∧ Flat w0 a n l ∧ ∀ x, a = some x → x.block ≠ bc
/-- the climber in bc has these leaves and nodes left. -/
def CLB (w0 w : World) (bc : Nat) (d : Int) (lv nd : List Int) (i j : Nat) : Prop := (∃ vl vn, Has w bc #[.int .i64 d, vl, vn, HEARD] 113 ∧ LSH w0 bc vl i lv ∧ LSH w0 bc vn j nd) ∧ BUT bc w0 w
theorem CLB.still {w0 w w' : World} {bc : Nat} {d : Int} {lv nd : List Int} {i j : Nat} (h : CLB w0 w bc d lv nd i j) (hb : Below w.heap.size w w') : CLB w0 w' bc d lv nd i j := by
  obtain ⟨⟨vl, vn, h1, h2⟩, h3⟩ := h
  exact ⟨⟨vl, vn, h1.keep hb, h2⟩, h3.trans (BUT.of_below hb (Nat.le_of_lt h1.lt))⟩
theorem CLB.lt {w0 w : World} {bc : Nat} {d : Int} {lv nd : List Int} {i j : Nat} (h : CLB w0 w bc d lv nd i j) : bc < w.heap.size := by
  obtain ⟨⟨vl, vn, h1, h2⟩, h3⟩ := h
  exact h1.lt
theorem LSH.hss {w0 : World} {bc : Nat} {v : Value} {n : Nat} {l : List Int} (h : LSH w0 bc v n l) : HSS n l := by
  obtain ⟨a, c, _, _, h, _⟩ := h
  exact ⟨h.1, h.2.2⟩
theorem LSH.rest {w0 : World} {bc b o n c : Nat} {l : List Int} (hF : Flat w0 (some ⟨b, o, none⟩) n l) (hc : n ≤ c) (hn : 0 < n) (hb : b ≠ bc) : LSH w0 bc (.slice (SLA (some ⟨b, o, none⟩) c 1) (n - 1) (c - 1)) (n - 1) (l.drop 32) := by
  refine ⟨_, _, rfl, by omega, hF.behind 1 hn hc, fun x hx => ?_⟩
  unfold SLA at hx
  dsimp only at hx
  split at hx <;> cases hx <;> exact hb
theorem next_nodes {w0 w : World} {bc : Nat} {d : Int} {lv nd : List Int} {i j : Nat} (h : CLB w0 w bc d lv nd i j) (hj : 0 < j) :
    Calls Tryz.prog 109 #[.pointer (some ⟨bc, 2, none⟩)] w fun e w' => e = .returned (.agg (CELLS (HSH nd 0)).toArray) ∧ CLB w0 w' bc d lv (nd.drop 32) i (j - 1) ∧ BUT bc w w' := by
  obtain ⟨⟨vl, vn, h1, h2, ⟨a, c, rfl, hc, hF, ha⟩⟩, h3⟩ := h
  obtain ⟨b, o, rfl, hlt, _⟩ := hF.2.1 hj
  have hb : b ≠ bc := ha _ rfl
  refine (next_ok bc 2 b o j c nd _ w h1 rfl hj hc hb (hF.but h3 ha)).mono ?_
  rintro e w' ⟨rfl, q1, q2⟩
  exact ⟨rfl, ⟨⟨vl, _, q1, h2, LSH.rest hF hc hj hb⟩, h3.trans q2⟩, q2⟩
theorem next_leaves {w0 w : World} {bc : Nat} {d : Int} {lv nd : List Int} {i j : Nat} (h : CLB w0 w bc d lv nd i j) (hi : 0 < i) :
    Calls Tryz.prog 109 #[.pointer (some ⟨bc, 1, none⟩)] w fun e w' => e = .returned (.agg (CELLS (HSH lv 0)).toArray) ∧ CLB w0 w' bc d (lv.drop 32) nd (i - 1) j ∧ BUT bc w w' := by
  obtain ⟨⟨vl, vn, h1, ⟨a, c, rfl, hc, hF, ha⟩, h2⟩, h3⟩ := h
  obtain ⟨b, o, rfl, hlt, _⟩ := hF.2.1 hi
  have hb : b ≠ bc := ha _ rfl
  refine (next_ok bc 1 b o i c lv _ w h1 rfl hi hc hb (hF.but h3 ha)).mono ?_
  rintro e w' ⟨rfl, q1, q2⟩
  exact ⟨rfl, ⟨⟨_, vn, q1, LSH.rest hF hc hi hb, h2⟩, h3.trans q2⟩, q2⟩
theorem has_range10 {w : World} {g : Nat} {l : List Value} {t : TypeId} (h : Has w g l.toArray t) : w.rangeAt g 0 l := fun j v hv => by rw [Nat.zero_add, h.cell, List.getElem?_toArray]; exact hv
theorem heard_ok (A B Y : List Int) (w : World) : Calls Tryz.prog 35 #[.agg (MSTP A B Y)] w fun e w' => e = .returned (.tuple #[]) ∧ Below w.heap.size w w' := by
  obtain ⟨V, hV⟩ : ∃ V, MSTP A B Y = V := ⟨_, rfl⟩
  rw [hV]
  have hb : Aside (Below w.heap.size w (w.alloc (.cells V 73))) := (Below.refl _ _).alloc (Nat.le_refl _) _
  go_enter Tryz.func35, Tryz.ntmps35
  go_wp2_with fail
  exact bodyPost_end (v := .tuple #[]) (by simp [results, Tryz.f35]) rfl ⟨rfl, hb.out⟩
theorem BUT.set_new {bc g : Nat} {w w' : World} (h : BUT bc w w') (hg : w.heap.size ≤ g) (hc : bc < w.heap.size) (cs : Array Value) : BUT bc w (w'.setRow g cs) :=
  ⟨fun q hq hne => (setRow_other w' g q cs (by omega)).trans (h.1 q hq hne), below_row h.2 (by omega) cs⟩
theorem CLB.set_new {w0 w : World} {bc g : Nat} {d : Int} {lv nd : List Int} {i j : Nat} (h : CLB w0 w bc d lv nd i j) (hg : w0.heap.size ≤ g) (hc : bc < w0.heap.size) (cs : Array Value) : CLB w0 (w.setRow g cs) bc d lv nd i j := by
  obtain ⟨⟨vl, vn, h1, h2⟩, h3⟩ := h
  exact ⟨⟨vl, vn, h1.row_other (by omega) cs, h2⟩, h3.set_new hg hc cs⟩
set_option maxHeartbeats 4000000 in
/-- no leaf under it: the next node. -/
theorem up_none (w0 w : World) (bc : Nat) (d : Int) (p : Int) (lv nd : List Int) (i j c : Nat) (a : Option Addr) (hC : CLB w0 w bc d lv nd i j) (hc0 : bc < w0.heap.size) (hj : 0 < j) (y32 : (HSH nd 0).length = 32) :
    Calls Tryz.prog 71 #[.pointer (some ⟨bc, 0, none⟩), .int .u64 p, .slice a 0 c] w fun e w' => e = .returned (.agg (CELLS (HSH nd 0)).toArray) ∧ CLB w0 w' bc d lv (nd.drop 32) i (j - 1) ∧ BUT bc w w' := by
  have hlt := hC.lt
  have hs0 : w0.heap.size ≤ w.heap.size := hC.2.2.size
  obtain ⟨W0, hW0⟩ : ∃ W0, w.alloc (.cells ZARR 38) = W0 := ⟨_, rfl⟩
  have hb0 : Below w.heap.size w W0 := by rw [← hW0]; exact (Below.refl _ _).alloc (Nat.le_refl _) _
  have hH0 : Has W0 w.heap.size (CELLS ZND).toArray 38 := by rw [← hW0, ZARR_eq]; exact Has.new _ _ _
  have cn := next_nodes (hC.still hb0) hj
  have HA : Aside (Below w.heap.size w W0 ∧ Has W0 w.heap.size (CELLS ZND).toArray 38 ∧ bc < w0.heap.size ∧ w0.heap.size ≤ w.heap.size ∧ bc < w.heap.size) := ⟨hb0, hH0, hc0, hs0, hlt⟩
  clear hC hb0 hH0 hc0 hs0 hlt hj
  generalize HSH nd 0 = Y at *
  generalize nd.drop 32 = nd' at *
  generalize j - 1 = j' at *
  go_enter Tryz.func71, Tryz.ntmps71
  go_upto_region 2 with fail
  clear hW0
  go_wp2_with fail
  refine cn.mono ?_
  rintro e w1 ⟨rfl, q1, q2⟩
  clear cn
  have H1 : Has w1 w.heap.size (CELLS ZND).toArray 38 := (q2.1 _ (HA.out.2.1.lt) (by have := HA.out.2.2.2.2; omega)).trans HA.out.2.1
  have FN : Aside (CLB w0 (w1.setRow w.heap.size (CELLS Y).toArray) bc d lv nd' i j' ∧ BUT bc w (w1.setRow w.heap.size (CELLS Y).toArray)) :=
    ⟨q1.set_new HA.out.2.2.2.1 HA.out.2.2.1 _, ((BUT.of_below HA.out.1 (Nat.le_of_lt HA.out.2.2.2.2)).trans q2).set_new (Nat.le_refl _) HA.out.2.2.2.2 _⟩
  clear q1 q2 HA
  go_wp2_with (refine wpList_store_row rfl 38 (.tmp 6) (.tmp 21) rfl _ _ rfl rfl 38 _ H1 (info_arr y32) (by simp [CELLS, y32]; rfl) (cells_one Y) ?_)
  refine bodyPost_ret (v := .agg (CELLS Y).toArray) (results_first rfl _ _ w.heap.size 38 _ (0, 0) _ _ rfl (Has.row H1 _) Tryz.underlying38 (info_arr y32)) rfl ⟨rfl, FN.out⟩
set_option maxHeartbeats 4000000 in
/-- a leaf. -/
theorem up_leaf (w0 w : World) (bc : Nat) (d : Int) (k : Nat) (hN : Node 0 k) (lv nd : List Int) (i j n c : Nat) (a : Option Addr) (hn : 0 < n) (hC : CLB w0 w bc d lv nd i j) (hc0 : bc < w0.heap.size) (hi : 0 < i) (y32 : (HSH lv 0).length = 32) :
    Calls Tryz.prog 71 #[.pointer (some ⟨bc, 0, none⟩), .int .u64 ((PLC 0 k : Nat) : Int), .slice a n c] w fun e w' => e = .returned (.agg (CELLS (HSH lv 0)).toArray) ∧ CLB w0 w' bc d (lv.drop 32) nd (i - 1) j ∧ BUT bc w w' := by
  have hlt := hC.lt
  have hs0 : w0.heap.size ≤ w.heap.size := hC.2.2.size
  have hn0 : ((n : Int) == 0) = false := beq_eq_false_iff_ne.2 (by omega)
  obtain ⟨W0, hW0⟩ : ∃ W0, w.alloc (.cells ZARR 38) = W0 := ⟨_, rfl⟩
  have hb0 : Below w.heap.size w W0 := by rw [← hW0]; exact (Below.refl _ _).alloc (Nat.le_refl _) _
  have hH0 : Has W0 w.heap.size (CELLS ZND).toArray 38 := by rw [← hW0, ZARR_eq]; exact Has.new _ _ _
  have ck := kids_leaf ((PLC 0 k : Nat) : Int) k W0 (.node hN)
  have HA : Aside (Below w.heap.size w W0 ∧ Has W0 w.heap.size (CELLS ZND).toArray 38 ∧ bc < w0.heap.size ∧ w0.heap.size ≤ w.heap.size ∧ bc < w.heap.size) := ⟨hb0, hH0, hc0, hs0, hlt⟩
  have CN : Aside (∀ W, Below W0.heap.size W0 W → Calls Tryz.prog 109 #[.pointer (some ⟨bc, 1, none⟩)] W fun e w' => e = .returned (.agg (CELLS (HSH lv 0)).toArray) ∧ CLB w0 w' bc d (lv.drop 32) nd (i - 1) j ∧ BUT bc W w') := fun W hb => next_leaves ((hC.still hb0).still hb) hi
  clear hC hb0 hH0 hc0 hs0 hlt hi hn hN
  generalize ((PLC 0 k : Nat) : Int) = P at *
  generalize HSH lv 0 = Y at *
  generalize lv.drop 32 = lv' at *
  generalize i - 1 = i' at *
  go_enter Tryz.func71, Tryz.ntmps71
  go_upto_region 3 with fail
  clear hW0
  go_wp2_with fail
  refine ck.mono ?_
  rintro e w1 ⟨rfl, h1⟩
  clear ck
  have cn := CN.out w1 h1
  have HB : Aside (Below w.heap.size w w1 ∧ Has w1 w.heap.size (CELLS ZND).toArray 38 ∧ bc < w0.heap.size ∧ w0.heap.size ≤ w.heap.size ∧ bc < w.heap.size) := ⟨HA.out.1.trans (h1.mono HA.out.1.size), HA.out.2.1.keep h1, HA.out.2.2.1, HA.out.2.2.2.1, HA.out.2.2.2.2⟩
  clear HA h1 CN
  go_wp2_with fail
  refine cn.mono ?_
  rintro e w2 ⟨rfl, q1, q2⟩
  clear cn
  have H1 : Has w2 w.heap.size (CELLS ZND).toArray 38 := (q2.1 _ (HB.out.2.1.lt) (by have := HB.out.2.2.2.2; omega)).trans HB.out.2.1
  have FN : Aside (CLB w0 (w2.setRow w.heap.size (CELLS Y).toArray) bc d lv' nd i' j ∧ BUT bc w (w2.setRow w.heap.size (CELLS Y).toArray)) :=
    ⟨q1.set_new HB.out.2.2.2.1 HB.out.2.2.1 _, ((BUT.of_below HB.out.1 (Nat.le_of_lt HB.out.2.2.2.2)).trans q2).set_new (Nat.le_refl _) HB.out.2.2.2.2 _⟩
  clear q1 q2 HB
  go_wp2_with (refine wpList_store_row rfl 38 (.tmp 6) (.tmp 33) rfl _ _ rfl rfl 38 _ H1 (info_arr y32) (by simp [CELLS, y32]; rfl) (cells_one Y) ?_)
  refine bodyPost_ret (v := .agg (CELLS Y).toArray) (results_first rfl _ _ w.heap.size 38 _ (0, 0) _ _ rfl (Has.row H1 _) Tryz.underlying38 (info_arr y32)) rfl ⟨rfl, FN.out⟩
/-- what lies there while a node is worked out of its kids. -/
structure UPQ (w0 w W : World) (bc : Nat) (d : Int) (lv nd : List Int) (i j b6 bl br : Nat) (A B : List Int) : Prop where
  clb : CLB w0 W bc d lv nd i j
  but : BUT bc w W
  res : Has W b6 (CELLS ZND).toArray 38
  l : Has W bl (CELLS A).toArray 38
  r : Has W br (CELLS B).toArray 38
  n : w.heap.size = b6 ∧ b6 < bl ∧ bl < br ∧ w0.heap.size ≤ w.heap.size ∧ bc < w0.heap.size
theorem UPQ.below {w0 w W W' : World} {bc : Nat} {d : Int} {lv nd : List Int} {i j b6 bl br : Nat} {A B : List Int} (h : UPQ w0 w W bc d lv nd i j b6 bl br A B) (hb : Below W.heap.size W W') : UPQ w0 w W' bc d lv nd i j b6 bl br A B :=
  ⟨h.clb.still hb, h.but.trans (BUT.of_below hb (Nat.le_of_lt h.clb.lt)), h.res.keep hb, h.l.keep hb, h.r.keep hb, h.n⟩
theorem UPQ.row {w0 w W : World} {bc : Nat} {d : Int} {lv nd : List Int} {i j b6 bl br b : Nat} {A B : List Int} (h : UPQ w0 w W bc d lv nd i j b6 bl br A B) (hb : br < b) (cs : Array Value) : UPQ w0 w (W.setRow b cs) bc d lv nd i j b6 bl br A B := by
  have hn := h.n
  exact ⟨h.clb.set_new (by omega) (by omega) cs, h.but.set_new (by omega) (by omega) cs, h.res.row_other (by omega) cs, h.l.row_other (by omega) cs, h.r.row_other (by omega) cs, h.n⟩
theorem UPQ.s9 {w0 w W : World} {bc : Nat} {d : Int} {lv nd : List Int} {i j b6 bl br : Nat} {A B : List Int} (h : UPQ w0 w W bc d lv nd i j b6 bl br A B) : W.rangeAt bl 0 (CELLS A) ∧ W.rangeAt br 0 (CELLS B) ∧ W.cell? ⟨bc, 0, none⟩ = some (.int .i64 d) := by
  obtain ⟨⟨vl, vn, h1, _⟩, _⟩ := h.clb
  exact ⟨has_range10 h.l, has_range10 h.r, h1.cell 0⟩
theorem UPQ.s10 {w0 w W : World} {bc : Nat} {d : Int} {lv nd : List Int} {i j b6 bl br b : Nat} {A B Y : List Int} (h : UPQ w0 w W bc d lv nd i j b6 bl br A B) (hs : Has W b (MSTP A B Y) 73) : W.rangeAt b 0 (CELLS A ++ CELLS B ++ CELLS Y) ∧ W.cell? ⟨bc, 3, none⟩ = some (.func (.func 35) #[] #[]) := by
  obtain ⟨⟨vl, vn, h1, _⟩, _⟩ := h.clb
  exact ⟨has_range10 hs, h1.cell 3⟩
theorem MSTP_last {W : World} {b : Nat} {A B Y : List Int} (lA : A.length = 32) (lB : B.length = 32) (h : Has W b (MSTP A B Y) 73) : W.rangeAt b 64 (CELLS Y) := fun j v hv => by
  rw [h.cell, MSTP, List.getElem?_toArray, List.getElem?_append_right (by simp [CELLS, lA, lB])]
  rw [show 64 + j - (CELLS A ++ CELLS B).length = j by simp [CELLS, lA, lB]]
  exact hv
end Go.Proofs.YtlicfinmibbpdaaGreatDoor

/- up of package many: a node over leaves, and the whole by induction. -/
namespace Go.Proofs.YtlicfinmibbpdaaGreatDoor
open Go.RowKit
set_option maxRecDepth 100000

/-- where indices lie. -/
def INDB (w0 : World) (bc : Nat) (a : Option Addr) : Prop := ∀ x, a = some x → x.block ≠ bc ∧ x.block < w0.heap.size ∧ x.spot = none
theorem NUML.but {bc : Nat} {w w' : World} {a : Option Addr} {L : List Nat} (h : NUML w a L) (hb : BUT bc w w') (ha : INDB w bc a) : NUML w' a L := fun h0 => by
  obtain ⟨b, o, e, hlt, hc⟩ := h h0
  exact ⟨b, o, e, Nat.lt_of_lt_of_le hlt hb.2.size, fun i x hx => (World.cell?_of_block (w := w) (by exact hb.1 b hlt (ha _ e).1)).trans (hc i x hx)⟩
theorem NUML.back {bc : Nat} {w w' : World} {a : Option Addr} {L : List Nat} (h : NUML w' a L) (hb : BUT bc w w') (ha : INDB w bc a) : NUML w a L := fun h0 => by
  obtain ⟨b, o, e, hlt, hc⟩ := h h0
  have hl : b < w.heap.size := (ha _ e).2.1
  exact ⟨b, o, e, hl, fun i x hx => (World.cell?_of_block (w := w') (by exact (hb.1 b hl (ha _ e).1).symm)).trans (hc i x hx)⟩
/-- what up answers. -/
def UPM (w0 w : World) (bc : Nat) (d : Int) (Y lv nd : List Int) (i j : Nat) (e : Ending) (w' : World) : Prop := e = .returned (.agg (CELLS Y).toArray) ∧ CLB w0 w' bc d lv nd i j ∧ BUT bc w w'
set_option maxHeartbeats 8000000 in
theorem up_node (w0 w : World) (bc : Nat) (d : Int) (h k : Nat) (hN : Node (h + 1) k) (L : List Nat) (a : Option Addr) (n c : Nat) (hl : L.length = n) (hn : n < 2 ^ 40) (hR : RISES L) (hc : n ≤ c) (hnil : a = none → c = 0) (hbl : INDB w0 bc a) (hL : NUML w0 a L) (hn0 : 0 < n)
    (lv nd lv1 nd1 lv2 nd2 A B : List Int) (i j i1 j1 i2 j2 : Nat) (hC : CLB w0 w bc d lv nd i j) (hc0 : bc < w0.heap.size) (hX : ∀ W, Below bc w0 W → HX.Tabled W) (hA : IsH A) (hB : IsH B)
    (c1 : ∀ r W, RANKS L ((2 * k + 1) * 2 ^ h) r → CLB w0 W bc d lv nd i j → Calls Tryz.prog 71 #[.pointer (some ⟨bc, 0, none⟩), .int .u64 ((PLC h (2 * k) : Nat) : Int), .slice a r c] W (UPM w0 W bc d A lv1 nd1 i1 j1))
    (c2 : ∀ r a' W, RANKS L ((2 * k + 1) * 2 ^ h) r → NUML w0 a' (L.drop r) → INDB w0 bc a' → (a' = none → c - r = 0) → CLB w0 W bc d lv1 nd1 i1 j1 → Calls Tryz.prog 71 #[.pointer (some ⟨bc, 0, none⟩), .int .u64 ((PLC h (2 * k + 1) : Nat) : Int), .slice a' (n - r) (c - r)] W (UPM w0 W bc d B lv2 nd2 i2 j2)) :
    Calls Tryz.prog 71 #[.pointer (some ⟨bc, 0, none⟩), .int .u64 ((PLC (h + 1) k : Nat) : Int), .slice a n c] w (UPM w0 w bc d (NODEH d A B) lv2 nd2 i2 j2) := by
  have hnb : ((n : Int) == 0) = false := beq_eq_false_iff_ne.2 (by omega)
  have hlt := hC.lt
  have hs0 : w0.heap.size ≤ w.heap.size := hC.2.2.size
  obtain ⟨hNl, hNr⟩ := hN.kid
  obtain ⟨W0, hW0⟩ : ∃ W0, w.alloc (.cells ZARR 38) = W0 := ⟨_, rfl⟩
  obtain ⟨b6, hb6⟩ : ∃ b6, w.heap.size = b6 := ⟨_, rfl⟩
  have hb0 : Below w.heap.size w W0 := by rw [← hW0]; exact (Below.refl _ _).alloc (Nat.le_refl _) _
  have hH0 : Has W0 b6 (CELLS ZND).toArray 38 := by rw [← hW0, ZARR_eq, ← hb6]; exact Has.new _ _ _
  have ck := kids_ok h k hN W0
  have HA : Aside (Below w.heap.size w W0 ∧ Has W0 b6 (CELLS ZND).toArray 38 ∧ bc < w0.heap.size ∧ w0.heap.size ≤ w.heap.size ∧ bc < w.heap.size ∧ CLB w0 W0 bc d lv nd i j ∧ w.heap.size = b6) := ⟨hb0, hH0, hc0, hs0, hlt, hC.still hb0, hb6⟩
  have HL : Aside (L.length = n ∧ n < 2 ^ 40 ∧ RISES L ∧ n ≤ c ∧ (a = none → c = 0) ∧ INDB w0 bc a ∧ NUML w0 a L ∧ Node h (2 * k)) := ⟨hl, hn, hR, hc, hnil, hbl, hL, hNl⟩
  have C1 : Aside _ := c1
  have C2 : Aside _ := c2
  have HY : Aside (IsH A ∧ IsH B ∧ ∀ W, Below bc w0 W → HX.Tabled W) := ⟨hA, hB, hX⟩
  clear hC hb0 hH0 hc0 hs0 hlt hl hn hR hc hnil hbl hL hn0 hNl hNr hN hX hA hB c1 c2
  generalize ((PLC (h + 1) k : Nat) : Int) = P at *
  go_enter Tryz.func71, Tryz.ntmps71
  go_upto_region 3 with fail
  clear hW0 hb6
  go_wp2_with fail
  refine ck.mono ?_
  rintro e w1 ⟨rfl, h1⟩
  clear ck
  have k1 : CLB w0 w1 bc d lv nd i j := HA.out.2.2.2.2.2.1.still h1
  have cs := split_ok h (2 * k) HL.out.2.2.2.2.2.2.2 a n c L HL.out.1 HL.out.2.1 HL.out.2.2.1 HL.out.2.2.2.1 HL.out.2.2.2.2.1 (fun x e => (HL.out.2.2.2.2.2.1 x e).2.2) w1 (HL.out.2.2.2.2.2.2.1.but k1.2 HL.out.2.2.2.2.2.1)
  have K1 : Aside (CLB w0 w1 bc d lv nd i j ∧ Below w.heap.size w w1 ∧ Has w1 b6 (CELLS ZND).toArray 38) := ⟨k1, HA.out.1.trans (h1.mono HA.out.1.size), HA.out.2.1.keep h1⟩
  clear h1 k1
  go_wp2_with fail
  refine cs.mono ?_
  rintro e w2 ⟨r, a', rfl, hs⟩
  clear cs
  have hbl' : INDB w0 bc a' := fun x hx => by
    obtain ⟨y, e2, e3⟩ := hs.block x hx
    have q := HL.out.2.2.2.2.2.1 y e2
    exact ⟨by rw [e3]; exact q.1, by rw [e3]; exact q.2.1, hs.spot x hx⟩
  have hL' : NUML w0 a' (L.drop r) := hs.lies.back K1.out.1.2 hbl'
  have K2 : Aside (CLB w0 w2 bc d lv nd i j ∧ Below w.heap.size w w2 ∧ Has w2 b6 (CELLS ZND).toArray 38) := ⟨K1.out.1.still hs.below, K1.out.2.1.trans (hs.below.mono K1.out.2.1.size), K1.out.2.2.keep hs.below⟩
  have cu := C1.out r w2 hs.rank K2.out.1
  have CV : Aside (∀ W, CLB w0 W bc d lv1 nd1 i1 j1 → Calls Tryz.prog 71 #[.pointer (some ⟨bc, 0, none⟩), .int .u64 ((PLC h (2 * k + 1) : Nat) : Int), .slice a' (n - r) (c - r)] W (UPM w0 W bc d B lv2 nd2 i2 j2)) := fun W hW => C2.out r a' W hs.rank hL' hbl' hs.nil hW
  clear hs hbl' hL' K1 C1 C2 HL
  generalize n - r = n' at *
  generalize c - r = c' at *
  go_wp2_with fail
  refine cu.mono ?_
  rintro e w3 ⟨rfl, h3, h4⟩
  clear cu
  have lA := HY.out.1.1
  have lB := HY.out.2.1.1
  have K3 : Aside (CLB w0 w3 bc d lv1 nd1 i1 j1 ∧ BUT bc w w3 ∧ Has w3 b6 (CELLS ZND).toArray 38) := ⟨h3, (BUT.of_below K2.out.2.1 (Nat.le_of_lt HA.out.2.2.2.2.1)).trans h4, (h4.1 b6 K2.out.2.2.lt (by have := HA.out; omega)).trans K2.out.2.2⟩
  clear h3 h4 K2
  go_upto_region 8 with (refine wpList_store_row rfl 38 (.tmp 12) (.tmp 43) rfl _ _ rfl rfl 38 _ (Has.new w3 _ _) (info_arr lA) (by simp [CELLS, lA]) (cells_one A) ?_; rw [World.setRow_alloc_new])
  have K4 : Aside (CLB w0 (w3.alloc (.cells (CELLS A).toArray 38)) bc d lv1 nd1 i1 j1 ∧ BUT bc w (w3.alloc (.cells (CELLS A).toArray 38)) ∧ Has (w3.alloc (.cells (CELLS A).toArray 38)) b6 (CELLS ZND).toArray 38 ∧ Has (w3.alloc (.cells (CELLS A).toArray 38)) w3.heap.size (CELLS A).toArray 38 ∧ b6 < w3.heap.size) := by
    have hb : Below w3.heap.size w3 (w3.alloc (.cells (CELLS A).toArray 38)) := (Below.refl _ _).alloc (Nat.le_refl _) _
    exact ⟨K3.out.1.still hb, K3.out.2.1.trans (BUT.of_below hb (Nat.le_of_lt K3.out.1.lt)), K3.out.2.2.alloc _, Has.new _ _ _, K3.out.2.2.lt⟩
  clear K3
  generalize w3.alloc (.cells (CELLS A).toArray 38) = w4 at *
  generalize w3.heap.size = bl at *
  have cu := CV.out w4 K4.out.1
  go_wp2_with fail
  refine cu.mono ?_
  rintro e w5 ⟨rfl, h3, h4⟩
  clear cu CV
  have K5 : Aside (CLB w0 w5 bc d lv2 nd2 i2 j2 ∧ BUT bc w w5 ∧ Has w5 b6 (CELLS ZND).toArray 38 ∧ Has w5 bl (CELLS A).toArray 38) := ⟨h3, K4.out.2.1.trans h4, (h4.1 b6 K4.out.2.2.1.lt (by have := HA.out; omega)).trans K4.out.2.2.1, (h4.1 bl K4.out.2.2.2.1.lt (by have := HA.out; have := K4.out.2.2.2.2; omega)).trans K4.out.2.2.2.1⟩
  have hbb : b6 < bl := K4.out.2.2.2.2
  clear h3 h4 K4
  go_upto_region 9 with (refine wpList_store_row rfl 38 (.tmp 13) (.tmp 47) rfl _ _ rfl rfl 38 _ (Has.new w5 _ _) (info_arr lB) (by simp [CELLS, lB]) (cells_one B) ?_; rw [World.setRow_alloc_new])
  have K6 : Aside (UPQ w0 w (w5.alloc (.cells (CELLS B).toArray 38)) bc d lv2 nd2 i2 j2 b6 bl w5.heap.size A B) := by
    have hb : Below w5.heap.size w5 (w5.alloc (.cells (CELLS B).toArray 38)) := (Below.refl _ _).alloc (Nat.le_refl _) _
    exact ⟨K5.out.1.still hb, K5.out.2.1.trans (BUT.of_below hb (Nat.le_of_lt K5.out.1.lt)), K5.out.2.2.1.alloc _, K5.out.2.2.2.alloc _, Has.new _ _ _, HA.out.2.2.2.2.2.2, hbb, K5.out.2.2.2.lt, HA.out.2.2.2.1, HA.out.2.2.1⟩
  clear K5 HA hbb
  generalize w5.alloc (.cells (CELLS B).toArray 38) = w6 at *
  generalize w5.heap.size = br at *
  have hY := NODEH_is d A B
  have CN : Aside (∀ W, UPQ w0 w W bc d lv2 nd2 i2 j2 b6 bl br A B → Calls Tryz.prog 47 #[.int .i64 d, .agg (CELLS A).toArray, .agg (CELLS B).toArray] W fun e w' => e = .returned (.agg (CELLS (NODEH d A B)).toArray) ∧ Below W.heap.size W w') := fun W hW => nodeh_ok d A B HY.out.1 HY.out.2.1 W (HY.out.2.2 W hW.clb.2.2)
  clear HY
  generalize NODEH d A B = Y at *
  have lY := hY.1
  clear hY
  refine mup9 w6 d bc bl br A B Y lA lB lY (fun W => UPQ w0 w W bc d lv2 nd2 i2 j2 b6 bl br A B) (fun W => UPQ w0 w W bc d lv2 nd2 i2 j2 b6 bl br A B) (fun b W => UPQ w0 w W bc d lv2 nd2 i2 j2 b6 bl br A B ∧ Has W b (MSTP ZND ZND ZND) 73 ∧ br < b) (fun b W => UPQ w0 w W bc d lv2 nd2 i2 j2 b6 bl br A B ∧ Has W b (MSTP ZND ZND ZND) 73 ∧ br < b) (fun b W => UPQ w0 w W bc d lv2 nd2 i2 j2 b6 bl br A B ∧ Has W b (MSTP A B Y) 73 ∧ br < b) (K6.out.below (Below.refl _ w6).drew) (fun W h => h.s9) (fun W h => h.s9) (fun b W h => h.1.s9) (fun b W h => h.1.s9) (fun b W h => h.1.s9) (fun W h => (CN.out W h).mono ?_) (fun b W h => (CN.out W h.1).mono ?_) (fun W h => ⟨h.below ((Below.refl _ _).alloc (Nat.le_refl _) _), Has.new _ _ _, h.r.lt⟩) (fun W h => ⟨h.below ((Below.refl _ _).alloc (Nat.le_refl _) _), Has.new _ _ _, h.r.lt⟩) (fun b W h => h.2.1) (fun b W h => ⟨h.1.row h.2.2 _, h.2.1.row _, h.2.2⟩) (fun _ _ _ _ _ h => h) ?_
  · rintro e w' ⟨rfl, hb⟩
    exact ⟨rfl, h.below hb⟩
  · rintro e w' ⟨rfl, hb⟩
    exact ⟨rfl, h.1.below hb, h.2.1.keep hb, h.2.2⟩
  · intro bs w7 h7
    dsimp only
    have K7 : Aside (UPQ w0 w w7 bc d lv2 nd2 i2 j2 b6 bl br A B ∧ Has w7 bs (MSTP A B Y) 73 ∧ br < bs) := h7
    clear h7 K6 CN
    go_upto_region 10 with fail
    refine mup10 w7 bc bs A B Y lA lB lY (fun W => UPQ w0 w W bc d lv2 nd2 i2 j2 b6 bl br A B ∧ Has W bs (MSTP A B Y) 73) (fun W => UPQ w0 w W bc d lv2 nd2 i2 j2 b6 bl br A B ∧ Has W bs (MSTP A B Y) 73) ⟨K7.out.1.below (Below.refl _ w7).drew, K7.out.2.1⟩ (fun W h => h.1.s10 h.2) (fun W h => h.1.s10 h.2) (fun W h => (heard_ok A B Y W).mono ?_) (fun _ _ _ _ _ h => h) ?_
    · rintro e w' ⟨rfl, hb⟩
      exact ⟨rfl, h.1.below hb, h.2.keep hb⟩
    · intro w8 h8
      dsimp only
      have hat := MSTP_last lA lB h8.2
      have hres := h8.1.res
      have FN : Aside (UPM w0 w bc d Y lv2 nd2 i2 j2 (.returned (.agg (CELLS Y).toArray)) (w8.setRow b6 (CELLS Y).toArray)) := by
        have hn := h8.1.n
        exact ⟨rfl, h8.1.clb.set_new (by omega) (by omega) _, h8.1.but.set_new (by omega) (by omega) _⟩
      clear h8 K7
      go_wp2_with (first
        | (refine wpList_load_mid rfl 38 (.tmp 64) rfl bs 64 rfl (CELLS Y) _ hat Tryz.underlying38 rfl (info_cells lY) ?_)
        | (refine wpList_store_row rfl 38 (.tmp 6) (.tmp 65) rfl _ _ rfl rfl 38 _ hres (info_arr lY) (by simp [CELLS, lY]; rfl) (cells_one Y) ?_))
      refine bodyPost_ret (v := .agg (CELLS Y).toArray) (results_first rfl _ _ b6 38 _ (0, 0) _ _ rfl (Has.row hres _) Tryz.underlying38 (info_arr lY)) rfl FN.out
theorem ranks_one {L : List Nat} {t r r' : Nat} (h : RANKS L t r) (h' : RANKS L t r') : r = r' := by
  have e := h.take.trans h'.take.symm
  have := congrArg List.length e
  rw [List.length_take, List.length_take] at this
  have := h.le
  have := h'.le
  omega
/-- the whole of up. -/
theorem up_ok (w0 : World) (bc : Nat) (d : Int) (hc0 : bc < w0.heap.size) (hX : ∀ W, Below bc w0 W → HX.Tabled W) : ∀ (h k : Nat), Node h k → ∀ (L : List Nat) (a : Option Addr) (n c : Nat) (lv nd : List Int) (i j : Nat) (w : World), L.length = n → n < 2 ^ 40 → UNR h k L → n ≤ c → (a = none → c = 0) → INDB w0 bc a → NUML w0 a L → CLB w0 w bc d lv nd i j → n ≤ i → (NEED h k L).length ≤ j →
    Calls Tryz.prog 71 #[.pointer (some ⟨bc, 0, none⟩), .int .u64 ((PLC h k : Nat) : Int), .slice a n c] w (UPM w0 w bc d (MUP d h k L lv nd).1 (MUP d h k L lv nd).2.1 (MUP d h k L lv nd).2.2 (i - n) (j - (NEED h k L).length)) := by
  intro h
  induction h with
  | zero =>
    intro k hN L a n c lv nd i j w hl hn hU hc hnil hbl hL hC hi hj
    have hsl := hC.1
    cases L with
    | nil =>
      obtain rfl : n = 0 := by simpa using hl.symm
      rw [NEED_nil] at hj ⊢
      obtain ⟨vl, vn, _, _, q⟩ := hsl
      exact up_none w0 w bc d _ lv nd i j c a hC hc0 hj (q.hss.first hj).1
    | cons x l =>
      obtain rfl := hU.leaf
      obtain rfl : n = 1 := by simpa using hl.symm
      obtain ⟨vl, vn, _, q, _⟩ := hsl
      exact up_leaf w0 w bc d k hN lv nd i j 1 c a (by decide) hC hc0 hi (q.hss.first hi).1
  | succ h ih =>
    intro k hN L a n c lv nd i j w hl hn hU hc hnil hbl hL hC hi hj
    by_cases hLe : L = []
    · subst hLe
      obtain rfl : n = 0 := by simpa using hl.symm
      rw [NEED_nil] at hj ⊢
      obtain ⟨vl, vn, _, _, q⟩ := hC.1
      rw [MUP_nil]
      exact up_none w0 w bc d _ lv nd i j c a hC hc0 hj (q.hss.first hj).1
    · obtain ⟨r, hr⟩ := ranks_some hU.1 ((2 * k + 1) * 2 ^ h)
      have hN' := NEED_take hLe hr
      have hle := hr.le
      rw [hN', List.length_append] at hj
      obtain ⟨hNl, hNr⟩ := hN.kid
      have ht : (L.take r).length = r := by rw [List.length_take]; omega
      have hd : (L.drop r).length = n - r := by rw [List.length_drop, hl]
      obtain ⟨vl, vn, _, q1, q2⟩ := hC.1
      have s1 := MUP_spec d h (2 * k) (L.take r) lv nd i j (hU.left hr) q1.hss q2.hss (by omega) (by omega)
      have s2 := MUP_spec d h (2 * k + 1) (L.drop r) _ _ _ _ (hU.right hr) s1.2.1 s1.2.2 (by omega) (by omega)
      have hp : 0 < L.length := List.length_pos_iff.2 hLe
      have hL1 : NUML w0 a (L.take r) := fun h0 => by
        obtain ⟨b, o, e, hl, hcc⟩ := hL hp
        refine ⟨b, o, e, hl, fun i x hx => hcc i x ?_⟩
        rw [List.getElem?_take] at hx
        split at hx
        · exact hx
        · cases hx
      have cu := up_node w0 w bc d h k hN L a n c hl hn hU.1 hc hnil hbl hL (by omega) lv nd _ _ _ _ _ _ i j _ _ _ _ hC hc0 hX s1.1 s2.1
        (fun r' W hr' hW => by
          obtain rfl := ranks_one hr' hr
          exact ih (2 * k) hNl (L.take r') a r' c lv nd i j W ht (by omega) (hU.left hr) (by omega) hnil hbl hL1 hW (by omega) (by omega))
        (fun r' a' W hr' hLa hba hna hW => by
          obtain rfl := ranks_one hr' hr
          exact ih (2 * k + 1) hNr (L.drop r') a' (n - r') (c - r') _ _ _ _ W hd (by omega) (hU.right hr) (by omega) hna hba hLa hW (by omega) (by omega))
      rw [MUP_take hLe hr, hN', List.length_append]
      rwa [show i - r - (n - r) = i - n by omega, Nat.sub_sub] at cu
end Go.Proofs.YtlicfinmibbpdaaGreatDoor
