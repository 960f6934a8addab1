/- Texts of PartOne, one behind the other: PartAskRegion, PartAskTree, MmrTree, ProofPlain, PartTree, HashFast. -/
import Derived.Deep.MidRow
import Derived.Deep.RegionHeld3
import Derived.Test.YtnplhejopmoopaaDoorPartOneP22
/- The region of part.First's closure that draws its order: what was told is loaded and stored again. -/
namespace Go.Proofs.YtnplhejopmoopaaDoor
open Go.RowKit
set_option maxRecDepth 100000

def PAKOPS : Array Oper := #[{ dst := some 24, op := Op.load 27 (Operand.tmp 5), type := 27, pos := "part.go:23", after := #[], guard := none }, { dst := some 25, op := Op.load 27 (Operand.tmp 6), type := 27, pos := "part.go:23", after := #[{ on := 3, ground := Ground.gcOnly Departure.lateStores }], guard := none }, { dst := some 26, op := Op.move (Operand.tmp 7), type := 32, pos := "part.go:23", after := #[{ on := 4, ground := Ground.gcOnly Departure.lateStores }], guard := none }, { dst := none, op := Op.store 27 (Operand.tmp 5) (Operand.tmp 24), type := 0, pos := "part.go:23", after := #[{ on := 0, ground := Ground.data }, { on := 0, ground := Ground.phase }, { on := 1, ground := Ground.textOnly Departure.lateStores }, { on := 2, ground := Ground.textOnly Departure.lateStores }], guard := none }, { dst := none, op := Op.store 27 (Operand.tmp 6) (Operand.tmp 25), type := 0, pos := "part.go:23", after := #[{ on := 1, ground := Ground.data }, { on := 3, ground := Ground.chain }, { on := 0, ground := Ground.phase }, { on := 1, ground := Ground.phase }, { on := 2, ground := Ground.textOnly Departure.lateStores }, { on := 3, ground := Ground.phase }], guard := none }, { dst := some 7, op := Op.assign (Operand.tmp 26), type := 32, pos := "part.go:23", after := #[{ on := 2, ground := Ground.data }, { on := 4, ground := Ground.chain }, { on := 0, ground := Ground.phase }, { on := 1, ground := Ground.phase }, { on := 2, ground := Ground.phase }, { on := 3, ground := Ground.phase }, { on := 4, ground := Ground.phase }], guard := none }]
set_option maxHeartbeats 2000000 in
theorem pask5 {Q : Exit → Act → World → Prop} {u0 u1 u2 u3 u4 u8 u9 u10 u11 u12 u13 u14 u15 u16 u17 u18 u19 u20 u21 u22 u23 u24 u25 u26 : Value} (W : World) (bx bz : Nat) (X Y : Nat → Nat) (E : Int) (P : World → Prop) (h0 : P W.drew) (k0 : ∀ w, P w → HX.Has w bx (HX.UARR .u8 32 X) 27 ∧ HX.Has w bz (HX.UARR .u8 32 Y) 27) (k1 : ∀ w, P w → P (w.setRow bx (HX.UARR .u8 32 X))) (k2 : ∀ w, P w → P (w.setRow bz (HX.UARR .u8 32 Y))) (hQ : ∀ c (a : Act) (t : Tmp) (v : Value) w, Q (.panic c) (a.put (some t) v) w → Q (.panic c) a w)
    (hfin : ∀ (w : World), (P w) → Q .normal { tmps := #[u0, u1, u2, u3, u4, .pointer (some ⟨bx, 0, none⟩), .pointer (some ⟨bz, 0, none⟩), .int .i64 E, u8, u9, u10, u11, u12, u13, u14, u15, u16, u17, u18, u19, u20, u21, u22, u23, .agg (HX.UARR .u8 32 X), .agg (HX.UARR .u8 32 Y), .int .i64 E], defers := [] } w) : (Code.region 5 PAKOPS true).wp Tryd.prog Q { tmps := #[u0, u1, u2, u3, u4, .pointer (some ⟨bx, 0, none⟩), .pointer (some ⟨bz, 0, none⟩), .int .i64 E, u8, u9, u10, u11, u12, u13, u14, u15, u16, u17, u18, u19, u20, u21, u22, u23, u24, u25, u26], defers := [] } W := by
  have kst3_4 : ∀ (w : World), (P w) → wpAnyH Tryd.prog .any PAKOPS Q (fun w : World => w.rangeAt bx 0 (HX.ULIST .u8 32 X) ∧ w.rangeAt bz 0 (HX.ULIST .u8 32 Y)) 0 #[true, true, true, true, true, true] { tmps := #[u0, u1, u2, u3, u4, .pointer (some ⟨bx, 0, none⟩), .pointer (some ⟨bz, 0, none⟩), .int .i64 E, u8, u9, u10, u11, u12, u13, u14, u15, u16, u17, u18, u19, u20, u21, u22, u23, .agg (HX.UARR .u8 32 X), .agg (HX.UARR .u8 32 Y), .int .i64 E], defers := [] } w := fun  w hp => by
    exact wpAnyH_done (by kernel_rfl) (hfin  w hp) _
  have ekst3_4 : ∀ (w : World), (P w) → wpAnyH Tryd.prog .any PAKOPS Q (fun w : World => w.rangeAt bx 0 (HX.ULIST .u8 32 X) ∧ w.rangeAt bz 0 (HX.ULIST .u8 32 Y)) 1 #[true, true, true, true, true, false] { tmps := #[u0, u1, u2, u3, u4, .pointer (some ⟨bx, 0, none⟩), .pointer (some ⟨bz, 0, none⟩), .int .i64 E, u8, u9, u10, u11, u12, u13, u14, u15, u16, u17, u18, u19, u20, u21, u22, u23, .agg (HX.UARR .u8 32 X), .agg (HX.UARR .u8 32 Y), .int .i64 E], defers := [] } w := fun  w hp => by
    have hww : (fun w : World => w.rangeAt bx 0 (HX.ULIST .u8 32 X) ∧ w.rangeAt bz 0 (HX.ULIST .u8 32 Y)) w := ⟨(k0 _ hp).1.whole, (k0 _ hp).2.whole⟩
    have last := kst3_4  w hp
    refine wpAnyH_take (i := 5) (oi := { dst := some 7, op := Op.assign (Operand.tmp 26), type := 32, pos := "part.go:23", after := #[{ on := 2, ground := Ground.data }, { on := 4, ground := Ground.chain }, { on := 0, ground := Ground.phase }, { on := 1, ground := Ground.phase }, { on := 2, ground := Ground.phase }, { on := 3, ground := Ground.phase }, { on := 4, ground := Ground.phase }], guard := none }) (v := .int .i64 E) rfl (by kernel_rfl) (by kernel_rfl) (by kernel_rfl) (fun _ _ _ h => hQ _ _ _ _ _ h) (Yields.yieldsIf (Or.inl ⟨by rfl, fun W => by go_simp⟩)) hww ?_
    simp only [Act.put, List.setIfInBounds_toArray, List.set_cons_zero, List.set_cons_succ]
    exact last
  have kst3 : ∀ (w : World), (P w) → wpAnyH Tryd.prog .any PAKOPS Q (fun w : World => w.rangeAt bx 0 (HX.ULIST .u8 32 X) ∧ w.rangeAt bz 0 (HX.ULIST .u8 32 Y)) 2 #[true, true, true, true, false, false] { tmps := #[u0, u1, u2, u3, u4, .pointer (some ⟨bx, 0, none⟩), .pointer (some ⟨bz, 0, none⟩), .int .i64 E, u8, u9, u10, u11, u12, u13, u14, u15, u16, u17, u18, u19, u20, u21, u22, u23, .agg (HX.UARR .u8 32 X), .agg (HX.UARR .u8 32 Y), .int .i64 E], defers := [] } w := fun  w hp => by
    refine wpAnyH_ready (rs := [4]) (by kernel_rfl) (by simp) ?_
    refine AllReadyH.cons (o := { dst := none, op := Op.store 27 (Operand.tmp 6) (Operand.tmp 25), type := 0, pos := "part.go:23", after := #[{ on := 1, ground := Ground.data }, { on := 3, ground := Ground.chain }, { on := 0, ground := Ground.phase }, { on := 1, ground := Ground.phase }, { on := 2, ground := Ground.textOnly Departure.lateStores }, { on := 3, ground := Ground.phase }], guard := none }) rfl (fun KQ hKQ => ?_) ?_
    · exact step_skip rfl (run_skip (HX.store_hash (k0 _ hp).2 Y)) (have hp : (fun (w : World) => (P w))  _ := k2 _ hp; hKQ.out _ _ (⟨(k0 _ hp).1.whole, (k0 _ hp).2.whole⟩) (fun _ => ekst3_4  _ hp))
    exact AllReadyH.nil
  have kst : ∀ (w : World), (P w) → wpAnyH Tryd.prog .any PAKOPS Q (fun w : World => w.rangeAt bx 0 (HX.ULIST .u8 32 X) ∧ w.rangeAt bz 0 (HX.ULIST .u8 32 Y)) 3 #[true, true, true, false, false, false] { tmps := #[u0, u1, u2, u3, u4, .pointer (some ⟨bx, 0, none⟩), .pointer (some ⟨bz, 0, none⟩), .int .i64 E, u8, u9, u10, u11, u12, u13, u14, u15, u16, u17, u18, u19, u20, u21, u22, u23, .agg (HX.UARR .u8 32 X), .agg (HX.UARR .u8 32 Y), .int .i64 E], defers := [] } w := fun  w hp => by
    refine wpAnyH_ready (rs := [3]) (by kernel_rfl) (by simp) ?_
    refine AllReadyH.cons (o := { dst := none, op := Op.store 27 (Operand.tmp 5) (Operand.tmp 24), type := 0, pos := "part.go:23", after := #[{ on := 0, ground := Ground.data }, { on := 0, ground := Ground.phase }, { on := 1, ground := Ground.textOnly Departure.lateStores }, { on := 2, ground := Ground.textOnly Departure.lateStores }], guard := none }) rfl (fun KQ hKQ => ?_) ?_
    · exact step_skip rfl (run_skip (HX.store_hash (k0 _ hp).1 X)) (have hp : (fun (w : World) => (P w))  _ := k1 _ hp; hKQ.out _ _ (⟨(k0 _ hp).1.whole, (k0 _ hp).2.whole⟩) (fun _ => kst3  _ hp))
    exact AllReadyH.nil
  have hp := h0
  have hww : (fun w : World => w.rangeAt bx 0 (HX.ULIST .u8 32 X) ∧ w.rangeAt bz 0 (HX.ULIST .u8 32 Y)) W.drew := ⟨(k0 _ hp).1.whole, (k0 _ hp).2.whole⟩
  have last := kst W.drew hp
  have z : wpAnyH Tryd.prog .any PAKOPS Q (fun w : World => w.rangeAt bx 0 (HX.ULIST .u8 32 X) ∧ w.rangeAt bz 0 (HX.ULIST .u8 32 Y)) 6 #[false, false, false, false, false, false] { tmps := #[u0, u1, u2, u3, u4, .pointer (some ⟨bx, 0, none⟩), .pointer (some ⟨bz, 0, none⟩), .int .i64 E, u8, u9, u10, u11, u12, u13, u14, u15, u16, u17, u18, u19, u20, u21, u22, u23, u24, u25, u26], defers := [] } W.drew := by
    refine wpAnyH_take (i := 0) (oi := { dst := some 24, op := Op.load 27 (Operand.tmp 5), type := 27, pos := "part.go:23", after := #[], guard := none }) (v := .agg (HX.UARR .u8 32 X)) rfl (by kernel_rfl) (by kernel_rfl) (by kernel_rfl) (fun _ _ _ h => hQ _ _ _ _ _ h) (yieldsIf_load_mid (by rfl) 27 (.tmp 5) rfl bx 0 rfl (HX.ULIST .u8 32 X) _ (fun w h => h.1) Tryd.underlying27 rfl (by rw [HX.ULIST_length]; exact HX.info_hash)) hww ?_
    simp only [Act.put, List.setIfInBounds_toArray, List.set_cons_zero, List.set_cons_succ]
    refine wpAnyH_take (i := 1) (oi := { dst := some 25, op := Op.load 27 (Operand.tmp 6), type := 27, pos := "part.go:23", after := #[{ on := 3, ground := Ground.gcOnly Departure.lateStores }], guard := none }) (v := .agg (HX.UARR .u8 32 Y)) rfl (by kernel_rfl) (by kernel_rfl) (by kernel_rfl) (fun _ _ _ h => hQ _ _ _ _ _ h) (yieldsIf_load_mid (by rfl) 27 (.tmp 6) rfl bz 0 rfl (HX.ULIST .u8 32 Y) _ (fun w h => h.2) Tryd.underlying27 rfl (by rw [HX.ULIST_length]; exact HX.info_hash)) hww ?_
    simp only [Act.put, List.setIfInBounds_toArray, List.set_cons_zero, List.set_cons_succ]
    refine wpAnyH_take (i := 2) (oi := { dst := some 26, op := Op.move (Operand.tmp 7), type := 32, pos := "part.go:23", after := #[{ on := 4, ground := Ground.gcOnly Departure.lateStores }], guard := none }) (v := .int .i64 E) rfl (by kernel_rfl) (by kernel_rfl) (by kernel_rfl) (fun _ _ _ h => hQ _ _ _ _ _ h) (Yields.yieldsIf (Or.inl ⟨by rfl, fun W => by go_simp⟩)) hww ?_
    simp only [Act.put, List.setIfInBounds_toArray, List.set_cons_zero, List.set_cons_succ]
    exact last
  exact wp_region_held_drew (S := (fun w : World => w.rangeAt bx 0 (HX.ULIST .u8 32 X) ∧ w.rangeAt bz 0 (HX.ULIST .u8 32 Y))) (by kernel_rfl) hww (fun _ => z)
end Go.Proofs.YtnplhejopmoopaaDoor

/- part.First's closure: both sources are asked for one place. -/
namespace Go.Proofs.YtnplhejopmoopaaDoor
open Go.RowKit
set_option maxRecDepth 100000

theorem results_askt {fn : Func} {p q r : Tmp} {ty : TypeId} (h : fn.results = #[.cell p ty, .cell q ty, .tmp r]) (tmps : Array Value) (w : World) (g g2 : Nat) (t : TypeId) (cs cs2 : Array Value) (fr fr2 : Nat × Nat) (k : Nat) (el : TypeId)
    (hp : tmps.getD p undef = .pointer (some ⟨g, 0, none⟩)) (hp2 : tmps.getD q undef = .pointer (some ⟨g2, 0, none⟩)) (hg : w.heap[g]? = some (.cells cs t fr)) (hg2 : w.heap[g2]? = some (.cells cs2 t fr2)) (v : Value) (hq : tmps.getD r undef = v)
    (hu : Tryd.prog.underlying ty = some (.array k el)) (hi : (Tryd.prog.info? ty).map (·.size) = some cs.size) (hi2 : (Tryd.prog.info? ty).map (·.size) = some cs2.size) :
    (results fn tmps).run Tryd.prog w = .ok (.tuple #[.agg cs, .agg cs2, v]) w := by
  have hp' : tmps[p]?.getD undef = .pointer (some ⟨g, 0, none⟩) := by simpa using hp
  have hp2' : tmps[q]?.getD undef = .pointer (some ⟨g2, 0, none⟩) := by simpa using hp2
  have hq' : tmps[r]?.getD undef = v := by simpa using hq
  simp [results, h, hp', hp2', hq', asAddr, run_loadVar_row w g t ty cs fr (.array k el) hg hu rfl hi, run_loadVar_row w g2 t ty cs2 fr2 (.array k el) hg2 hu rfl hi2]
theorem src_two {s : SRCD} {w w2 w4 : World} {b1 b2 b3 p q : Nat} {LA LB : List Nat} {f : Nat} (h : PSRC s ∧ LOB s w b1 b2 b3 ∧ s.V p ∧ LB.length ≤ 130 ∧ s.fn = f ∧ LOC s 45 w b1 b2 b3 LA LB q (fun _ => 0) (fun _ => 0) w2 ∧ s.P LA LB w2) (hE : s.EA p = 0) (h4 : s.P (LA ++ [p]) LB w4) : Calls Tryd.prog f #[.pointer (some ⟨s.gb, 0, none⟩), .int .u64 (p : Int)] w4 fun e w' => e = .returned (.tuple #[.agg (HX.UARR .u8 32 (s.B p)), .int .i64 (s.EB p)]) ∧ s.P (LA ++ [p]) (LB ++ [p]) w' ∧ KEP s.FT w4 w' := by
  obtain ⟨a, _, c, d, e, _⟩ := h
  rw [← e]
  exact a.two LA LB w4 p c d hE h4
set_option maxHeartbeats 4000000 in
theorem askt_ok (s : SRCD) (hfn : s.fn = 15) (src : PSRC s) (p : Nat) (hp : s.V p) (LA LB : List Nat) (b1 b2 b3 q : Nat) (hq : q ≤ 1000) (hA : LA.length ≤ 130) (hB : LB.length ≤ 130) (w : World) (hP : s.P LA LB w) (o : LOB s w b1 b2 b3)
    (c1 : Has w b1 #[.int .i64 (q : Int)] 3) (c2 : Has w b2 #[.iface 45 (.pointer (some ⟨s.ga, 0, none⟩))] 63) (c3 : Has w b3 #[.iface 45 (.pointer (some ⟨s.gb, 0, none⟩))] 63) :
    Calls Tryd.prog 21 #[.int .u64 (p : Int), .pointer (some ⟨b1, 0, none⟩), .pointer (some ⟨b2, 0, none⟩), .pointer (some ⟨b3, 0, none⟩)] w (PASK s w b1 LA LB q p) := by
  have hz := HX.zeroHash
  have L0 := LOC.first src hP o c1 c2 c3
  obtain ⟨w1, hw1⟩ : ∃ w1, (w.alloc (.cells (HX.UARR .u8 32 fun _ => 0) 27)).alloc (.cells (HX.UARR .u8 32 fun _ => 0) 27) = w1 := ⟨_, rfl⟩
  rw [hw1] at L0
  have x1 : w1.cell? ⟨b1, 0, none⟩ = some (.int .i64 (q : Int)) := L0.c1.cell 0
  have z1 := L0.c1.frozen 0
  have eq1 : wrap64 ((q : Int) + 1) = ((q + 1 : Nat) : Int) := by unfold wrap64; omega
  have L1 := L0.count src o
  obtain ⟨q1, hq1⟩ : ∃ q1, q + 1 = q1 := ⟨_, rfl⟩
  obtain ⟨w2, hw2⟩ : ∃ w2, w1.setCell ⟨b1, 0, none⟩ (.int .i64 ((q + 1 : Nat) : Int)) = w2 := ⟨_, rfl⟩
  rw [hw2] at L1
  have x2 : w2.cell? ⟨b2, 0, none⟩ = some (.iface 45 (.pointer (some ⟨s.ga, 0, none⟩))) := L1.c2.cell 0
  have cA := src.one LA LB w2 p hp hA L1.st
  rw [hfn] at cA
  have SA : Aside (PSRC s ∧ LOB s w b1 b2 b3 ∧ s.V p ∧ LB.length ≤ 130 ∧ s.fn = 15 ∧ LOC s 45 w b1 b2 b3 LA LB (q + 1) (fun _ => 0) (fun _ => 0) w2 ∧ s.P LA LB w2) := ⟨src, o, hp, hB, hfn, L1, L1.st⟩
  rw [hq1] at eq1 hw2
  have HQ : Aside (q + 1 = q1) := hq1
  clear L0 L1 hA hB hq hP c1 c2 c3 o src hp hfn hq1
  go_enter Tryd.func21, Tryd.ntmps21
  go_wp2_with fail
  refine cA.mono ?_
  rintro e w3 ⟨rfl, hP3, hk3⟩
  clear cA x1 z1 x2 hw1 hw2 eq1
  have L3 : LOC s 45 w b1 b2 b3 (LA ++ [p]) LB (q + 1) (fun _ => 0) (fun _ => 0) w3 := SA.out.2.2.2.2.2.1.told SA.out.2.1 hP3 hk3
  have hst := HX.store_cells32 (show HX.Has w3 w.heap.size (HX.UARR .u8 32 fun _ => 0) 27 from L3.cx) (s.A p)
  have hsu := HX.UARR_size .u8 32 (s.A p)
  have L4 := L3.putx SA.out.1 SA.out.2.1 (s.A p)
  obtain ⟨w4, hw4⟩ : ∃ w4, w3.setRow w.heap.size (HX.UARR .u8 32 (s.A p)) = w4 := ⟨_, rfl⟩
  rw [hw4] at hst L4
  have SB : Aside (LOC s 45 w b1 b2 b3 (LA ++ [p]) LB (q + 1) (s.A p) (fun _ => 0) w4) := L4
  clear hP3 hk3 L3
  by_cases hE : s.EA p = 0
  · have x3 : w4.cell? ⟨b3, 0, none⟩ = some (.iface 45 (.pointer (some ⟨s.gb, 0, none⟩))) := L4.c3.cell 0
    have cB := src_two SA.out hE L4.st
    clear L4 hw4
    have hE' : (s.EA p == 0) = true := by simp [hE]
    have EE : Aside (s.EA p = 0) := hE
    clear hE
    go_wp2_with fail
    refine cB.mono ?_
    rintro e w5 ⟨rfl, hP5, hk5⟩
    clear cB x3 hst hsu hE'
    have L5 : LOC s 45 w b1 b2 b3 (LA ++ [p]) (LB ++ [p]) (q + 1) (s.A p) (fun _ => 0) w5 := SB.out.told SA.out.2.1 hP5 hk5
    have hst := HX.store_cells32 (show HX.Has w5 (w.heap.size + 1) (HX.UARR .u8 32 fun _ => 0) 27 from L5.cy) (s.B p)
    have hsu := HX.UARR_size .u8 32 (s.B p)
    have L6 := L5.puty SA.out.1 SA.out.2.1 (s.B p)
    obtain ⟨w6, hw6⟩ : ∃ w6, w5.setRow (w.heap.size + 1) (HX.UARR .u8 32 (s.B p)) = w6 := ⟨_, rfl⟩
    rw [hw6] at hst L6
    clear hP5 hk5 L5 hw6
    go_upto_region 5 with fail
    refine pask5 w6 w.heap.size (w.heap.size + 1) (s.A p) (s.B p) (s.EB p) (fun W => LOC s 45 w b1 b2 b3 (LA ++ [p]) (LB ++ [p]) (q + 1) (s.A p) (s.B p) W) (L6.drewN SA.out.1 1) (fun W h => ⟨h.cx, h.cy⟩) (fun W h => h.putx SA.out.1 SA.out.2.1 (s.A p)) (fun W h => h.puty SA.out.1 SA.out.2.1 (s.B p)) (fun _ _ _ _ _ h => h) (fun W h => ?_)
    clear L6 hst
    have hsa := HX.UARR_size .u8 32 (s.A p)
    go_wp2_with fail
    refine bodyPost_ret (v := .tuple #[.agg (HX.UARR .u8 32 (s.A p)), .agg (HX.UARR .u8 32 (s.B p)), .int .i64 (s.EB p)]) ?_ rfl (h.done (.inr ⟨EE.out, rfl, rfl, rfl, rfl, rfl⟩))
    exact results_askt rfl _ _ w.heap.size (w.heap.size + 1) 27 _ _ (0, 0) (0, 0) _ _ rfl rfl h.cx h.cy _ rfl Tryd.underlying27 (HX.info_HASH _) (HX.info_HASH _)
  · have hE' : (s.EA p == 0) = false := by simp [hE]
    have EE : Aside (¬ s.EA p = 0) := hE
    clear hE L4 hw4
    go_upto_region 5 with fail
    refine pask5 w4 w.heap.size (w.heap.size + 1) (s.A p) (fun _ => 0) (s.EA p) (fun W => LOC s 45 w b1 b2 b3 (LA ++ [p]) LB (q + 1) (s.A p) (fun _ => 0) W) (SB.out.drewN SA.out.1 1) (fun W h => ⟨h.cx, h.cy⟩) (fun W h => h.putx SA.out.1 SA.out.2.1 (s.A p)) (fun W h => h.puty SA.out.1 SA.out.2.1 (fun _ => 0)) (fun _ _ _ _ _ h => h) (fun W h => ?_)
    clear hst
    go_wp2_with fail
    refine bodyPost_ret (v := .tuple #[.agg (HX.UARR .u8 32 (s.A p)), .agg (HX.UARR .u8 32 fun _ => 0), .int .i64 (s.EA p)]) ?_ rfl (h.done (.inl ⟨EE.out, rfl, rfl, rfl⟩))
    exact results_askt rfl _ _ w.heap.size (w.heap.size + 1) 27 _ _ (0, 0) (0, 0) _ _ rfl rfl h.cx h.cy _ rfl Tryd.underlying27 (HX.info_HASH _) (HX.info_HASH _)
end Go.Proofs.YtnplhejopmoopaaDoor

/- A tree as it lies in memory: its store, its width, its size; each node's hash. -/
namespace Go.Proofs.YtnplhejopmoopaaDoor.HX
open Go.RowKit
set_option maxRecDepth 100000

/-- the tree at g has the leaves f, n of them. -/
structure FOREST (w : World) (B g : Nat) (d : Int) (log n : Nat) (C : CHUNKS) (f : Nat → Nat → Nat) : Prop where
  store : STORE w B g log (NODES n) (NODES n) (NODES n) C
  width : w.cell? ⟨g, 5, none⟩ = some (.int .i64 d)
  size : w.cell? ⟨g, 6, none⟩ = some (.int .u64 (n : Int))
  free : w.frozen? ⟨g, 6, none⟩ = false
  node : ∀ h k, (k + 1) * 2 ^ h ≤ n → AT C log (PLC h k) = some (VAL d f h k)
  byte : ∀ k, k < n → ∀ i, f k i < 256
  few : n ≤ 2 ^ 20
  base : B ≤ g
def TFRESH (d : Int) (log : Nat) : Array Value := #[.int .i64 (log : Int), .int .u64 0, .int .u64 0, .map none, .map none, .int .i64 d, .int .u64 0]
theorem FOREST.new {w : World} {B g : Nat} {d : Int} {log : Nat} (h : Has w g (TFRESH d log) 77) (hl : log ≤ 16) (hB : B ≤ g) (f : Nat → Nat → Nat) : FOREST w B g d log 0 (fun _ => none) f := by
  refine ⟨⟨hl, by decide, h.cell 0, h.cell 1, h.cell 2, fun i _ => h.frozen i, ⟨_, _, _, h, by decide, by decide, by decide⟩, ⟨none, h.cell 3, fun _ _ => rfl, fun b e => by cases e⟩, fun k gc rs e => (by cases e), fun k k' gc gc' rs rs' _ e => by cases e⟩, h.cell 5, h.cell 6, h.frozen 6, fun h k hk => ?_, fun k hk => by omega, by decide, hB⟩
  have := last_lt h k
  omega
theorem FOREST.below {w w' : World} {B g : Nat} {d : Int} {log n : Nat} {C : CHUNKS} {f : Nat → Nat → Nat} (h : FOREST w B g d log n C f) (hb : Below w.heap.size w w') : FOREST w' B g d log n C f := by
  have hg := h.store.lt
  refine ⟨h.store.below hb, (hb.cell (p := ⟨g, 5, none⟩) hg).trans h.width, (hb.cell (p := ⟨g, 6, none⟩) hg).trans h.size, ?_, h.node, h.byte, h.few, h.base⟩
  exact (World.frozen?_of_block (w := w) (by exact hb.block g hg)).trans h.free
set_option maxHeartbeats 1000000 in
theorem treenew_ok (d : Int) (log : Nat) (h : log ≤ 16) (w : World) : Calls Tryd.prog 26 #[.int .i64 d, .int .i64 (log : Int)] w fun e w' =>
    ∃ g, e = .returned (.tuple #[.pointer (some ⟨g, 0, none⟩), .int .i64 0]) ∧ w.heap.size ≤ g ∧ Has w' g (TFRESH d log) 77 ∧ Below w.heap.size w w' := by
  have cn := storenew_ok log h w
  obtain ⟨w1, hw1⟩ : ∃ w1, w.alloc (.cells (FRESH log) 75) = w1 := ⟨_, rfl⟩
  rw [hw1] at cn
  have hH : Has w1 w.heap.size (FRESH log) 75 := by rw [← hw1]; exact Has.new w _ _
  have hb : Below w.heap.size w w1 := by rw [← hw1]; exact (Below.refl _ _).alloc (Nat.le_refl _) _
  clear hw1
  go_enter Tryd.func26, Tryd.ntmps26
  go_wp2_with fail
  refine cn.mono ?_
  rintro e w2 ⟨rfl, rfl⟩
  clear cn
  have x0 := hH.cell 0
  have x1 := hH.cell 1
  have x2 := hH.cell 2
  have x3 := hH.cell 3
  have x4 := hH.cell 4
  go_wp2_with fail
  go_ret2
  exact ⟨_, rfl, hb.size, Has.new _ _ _, hb.alloc hb.size _⟩
end Go.Proofs.YtnplhejopmoopaaDoor.HX

/- Which nodes a proof has, as spots: the siblings on the way up and the other peaks; the peaks of an earlier size and the spots behind it. -/
namespace Go.Proofs.YtnplhejopmoopaaDoor

/-- two spots have no leaf together. -/
def Off (s t : Nat × Nat) : Prop := (s.2 + 1) * 2 ^ s.1 ≤ t.2 * 2 ^ t.1 ∨ (t.2 + 1) * 2 ^ t.1 ≤ s.2 * 2 ^ s.1
/-- how many leaves lie under spots. -/
def SIZE (l : List (Nat × Nat)) : Nat := (l.map fun s => 2 ^ s.1).sum
theorem succ_pow (k h : Nat) : (k + 1) * 2 ^ h = k * 2 ^ h + 2 ^ h := by rw [Nat.add_mul, Nat.one_mul]
theorem Tile.size {l : List (Nat × Nat)} : ∀ {a b : Nat}, Tile a l b → a + SIZE l = b := by
  induction l with
  | nil => intro a b h; have : a = b := h; simp [SIZE, this]
  | cons s l ih =>
    intro a b ⟨h1, h2, h3⟩
    have := ih h3
    rw [succ_pow, h2] at this
    simp only [SIZE, List.map_cons, List.sum_cons] at this ⊢
    omega
theorem Tile.within {l : List (Nat × Nat)} : ∀ {a b : Nat}, Tile a l b → ∀ s ∈ l, a ≤ s.2 * 2 ^ s.1 ∧ (s.2 + 1) * 2 ^ s.1 ≤ b ∧ Node s.1 s.2 := by
  induction l with
  | nil => intro a b _ s hs; simp at hs
  | cons t l ih =>
    intro a b ⟨h1, h2, h3⟩ s hs
    rcases List.mem_cons.1 hs with rfl | hs
    · exact ⟨by omega, h3.bound.1, h1⟩
    · have := ih h3 s hs
      have h4 := succ_pow t.2 t.1
      have h5 := Nat.two_pow_pos t.1
      exact ⟨by omega, this.2⟩
theorem Tile.off {l : List (Nat × Nat)} : ∀ {a b : Nat}, Tile a l b → l.Pairwise Off := by
  induction l with
  | nil => intro a b _; exact List.Pairwise.nil
  | cons t l ih =>
    intro a b ⟨h1, h2, h3⟩
    refine List.Pairwise.cons (fun s hs => ?_) (ih h3)
    exact .inl (h3.within s hs).1
end Go.Proofs.YtnplhejopmoopaaDoor

/- part.First of two trees. -/
namespace Go.Proofs.YtnplhejopmoopaaDoor
open Go.RowKit
set_option maxRecDepth 100000

theorem inn_node {h k n : Nat} (hk : (k + 1) * 2 ^ h ≤ n) (hn : n ≤ 4611686018427387904) : Node h k := by
  have h1 : 2 ^ h ≤ (k + 1) * 2 ^ h := Nat.le_mul_of_pos_left _ (by omega)
  have h2 : h ≤ 62 := by
    rcases Nat.lt_or_ge 62 h with h3 | h3
    · have := Nat.pow_le_pow_right (n := 2) (by decide) h3
      omega
    · exact h3
  refine ⟨h2, ?_⟩
  have h3 : (k + 1) * 2 ^ h ≤ 2 ^ (62 - h) * 2 ^ h := by
    rw [← Nat.pow_add, show 62 - h + h = 62 by omega]
    omega
  have := Nat.le_of_mul_le_mul_right h3 (Nat.two_pow_pos h)
  omega
theorem leaf_inn {k n : Nat} (h : k < n) : (k + 1) * 2 ^ 0 ≤ n := by
  rw [Nat.pow_zero]
  omega
theorem inn_lt {h k n : Nat} (hk : (k + 1) * 2 ^ h ≤ n) : PLC h k < NODES n := by
  have h2 := PLC_last h k
  have h3 : NODES ((k + 1) * 2 ^ h - 1) < NODES ((k + 1) * 2 ^ h) := NODES_lt (by have := last_lt h k; omega)
  have h4 := NODES_le hk
  have h5 : PLC h k < NODES ((k + 1) * 2 ^ h) := by
    have e : (k + 1) * 2 ^ h = k * 2 ^ h + 2 ^ h := Nat.succ_mul k (2 ^ h)
    have h6 := PLC_eq h k
    have h7 := NODES_add ((k + 1) * 2 ^ h)
    have h8 : PC ((k + 1) * 2 ^ h) = PC (k + 1) := PC_shift h (k + 1)
    have h9 := PC_succ k
    have e2 : 2 ^ (h + 1) * (k + 1) = 2 * ((k + 1) * 2 ^ h) := by rw [Nat.pow_succ, Nat.mul_comm (2 ^ h) 2, Nat.mul_assoc, Nat.mul_comm (2 ^ h) (k + 1)]
    omega
  omega
theorem goth_at {w : World} {B g : Nat} {d : Int} {log n h k : Nat} {C : HX.CHUNKS} {f : Nat → Nat → Nat} (hF : HX.FOREST w B g d log n C f) (hs : (k + 1) * 2 ^ h ≤ n) : HX.GOTH C log (NODES n) (PLC h k) = HX.VAL d f h k ∧ HX.GOT C log (NODES n) (PLC h k) = 0 := by
  have h1 := inn_lt hs
  unfold HX.GOTH HX.GOT
  rw [if_pos h1, if_pos h1, hF.node h k hs]
  exact ⟨rfl, rfl⟩
/-- two trees, as two sources. -/
def TSR (w0 : World) (ga gb n : Nat) (Ca Cb : HX.CHUNKS) : SRCD := ⟨15, ga, gb, fun p => HX.GOTH Ca 2 (NODES n) p, fun p => HX.GOTH Cb 2 (NODES n) p, fun _ => 0, fun _ => 0, fun p => ∃ h k, (k + 1) * 2 ^ h ≤ n ∧ p = PLC h k, fun _ k => k < w0.heap.size, fun _ _ w => Below w0.heap.size w0 w⟩
/-- whether two trees tell the same. -/
def TSAME (n : Nat) (Ca Cb : HX.CHUNKS) (p : Nat) : Bool := (List.range 32).all fun i => HX.GOTH Ca 2 (NODES n) p i == HX.GOTH Cb 2 (NODES n) p i
theorem tsr_src {w0 : World} {Ba ga Bb gb n : Nat} {d d' : Int} {Ca Cb : HX.CHUNKS} {fa fb : Nat → Nat → Nat} (hA : HX.FOREST w0 Ba ga d 2 n Ca fa) (hB : HX.FOREST w0 Bb gb d' 2 n Cb fb) : PSRC (TSR w0 ga gb n Ca Cb) := by
  have hfew := hA.few
  have hnn : NODES n < 2 ^ 22 := Nat.lt_of_le_of_lt (NODES_le hfew) (by have := NODES_bound (n := 2 ^ 20) (h := 21) (by decide); omega)
  refine ⟨fun LA LB w p hV _ hP => ?_, fun LA LB w p hV _ _ hP => ?_, fun LA LB w w' hP hO => ⟨⟨hO.os.trans hP.os, hO.tape.trans hP.tape, hO.output.trans hP.output, Nat.le_trans hP.size hO.size, fun k hk => (hO.block k hk).trans (hP.block k hk)⟩, fun k hk => hk⟩, fun LA LB w k hP hk => Nat.lt_of_lt_of_le hk hP.size⟩
  · obtain ⟨h, k, hk, rfl⟩ := hV
    have hl := inn_lt hk
    have c := HX.treenode_ok (hA.below hP).store (PLC h k) (by omega)
    rw [(goth_at hA hk).2] at c
    refine c.mono fun e w' h => ⟨h.1, Below.trans hP (h.2.mono hP.size), ⟨h.2.size, fun q hq _ => h.2.block q hq, fun q hq => .inl hq⟩⟩
  · obtain ⟨h, k, hk, rfl⟩ := hV
    have hl := inn_lt hk
    have c := HX.treenode_ok (hB.below hP).store (PLC h k) (by omega)
    rw [(goth_at hB hk).2] at c
    refine c.mono fun e w' h => ⟨h.1, Below.trans hP (h.2.mono hP.size), ⟨h.2.size, fun q hq _ => h.2.block q hq, fun q hq => .inl hq⟩⟩
/-- what First answers of two trees: none, or a leaf. -/
def TANS (fa fb : Nat → Nat → Nat) (o : POUT × List Nat × List Nat) (e : Ending) : Prop :=
  (o.1 = .err 210 ∧ e = .returned (.tuple #[.agg (PTG 0 (fun _ => 0) (fun _ => 0) 0), .int .i64 210])) ∨ (∃ k, o.1 = .leaf k ∧ e = .returned (.tuple #[.agg (PTG k (fa k) (fb k) o.2.1.length), .int .i64 0]))
theorem tsame_up {w0 : World} {Ba ga Bb gb n : Nat} {d : Int} {Ca Cb : HX.CHUNKS} {fa fb : Nat → Nat → Nat} (hA : HX.FOREST w0 Ba ga d 2 n Ca fa) (hB : HX.FOREST w0 Bb gb d 2 n Cb fb) (h k : Nat) (hk : (k + 1) * 2 ^ (h + 1) ≤ n) (h1 : TSAME n Ca Cb (PLC h (2 * k)) = true) (h2 : TSAME n Ca Cb (PLC h (2 * k + 1)) = true) : TSAME n Ca Cb (PLC (h + 1) k) = true := by
  have e : (k + 1) * 2 ^ (h + 1) = (2 * k + 1 + 1) * 2 ^ h := by rw [Nat.pow_succ, show 2 * k + 1 + 1 = (k + 1) * 2 by omega, Nat.mul_assoc, Nat.mul_comm (2 ^ h) 2]
  have i2 : (2 * k + 1 + 1) * 2 ^ h ≤ n := by omega
  have i1 : (2 * k + 1) * 2 ^ h ≤ n := Nat.le_trans (Nat.mul_le_mul_right _ (by omega)) i2
  unfold TSAME at *
  rw [(goth_at hA i1).1, (goth_at hB i1).1] at h1
  rw [(goth_at hA i2).1, (goth_at hB i2).1] at h2
  rw [(goth_at hA hk).1, (goth_at hB hk).1]
  simp only [List.all_eq_true, List.mem_range, beq_iff_eq] at h1 h2 ⊢
  intro i hi
  rw [HX.VAL, HX.VAL, HX.NODEF, HX.NODEF]
  have e1 : (List.range 32).map (HX.VAL d fa h (2 * k)) = (List.range 32).map (HX.VAL d fb h (2 * k)) := List.map_congr_left fun x hx => h1 x (by simpa using hx)
  have e2 : (List.range 32).map (HX.VAL d fa h (2 * k + 1)) = (List.range 32).map (HX.VAL d fb h (2 * k + 1)) := List.map_congr_left fun x hx => h2 x (by simpa using hx)
  rw [e1, e2]
theorem tsame_comm (n : Nat) (Ca Cb : HX.CHUNKS) : TSAME n Ca Cb = TSAME n Cb Ca := by
  funext p
  unfold TSAME
  congr 1
  funext i
  exact Bool.beq_comm
theorem tsame_self (n : Nat) (C : HX.CHUNKS) (p : Nat) : TSAME n C C p = true := by simp [TSAME]
theorem tsame_leaf {w0 : World} {Ba ga Bb gb n k : Nat} {d d' : Int} {Ca Cb : HX.CHUNKS} {fa fb : Nat → Nat → Nat} (hA : HX.FOREST w0 Ba ga d 2 n Ca fa) (hB : HX.FOREST w0 Bb gb d' 2 n Cb fb) (hk : k < n) : TSAME n Ca Cb (PLC 0 k) = ((List.range 32).all fun i => fa k i == fb k i) := by
  unfold TSAME
  rw [(goth_at hA (h := 0) (k := k) (leaf_inn hk)).1, (goth_at hB (h := 0) (k := k) (leaf_inn hk)).1]
  rfl
theorem tfirst_ok {w0 : World} {Ba ga Bb gb n : Nat} {d : Int} {Ca Cb : HX.CHUNKS} {fa fb : Nat → Nat → Nat} (hA : HX.FOREST w0 Ba ga d 2 n Ca fa) (hB : HX.FOREST w0 Bb gb d 2 n Cb fb) (hT : Tabled w0) :
    Calls Tryd.prog 7 #[.iface 45 (.pointer (some ⟨ga, 0, none⟩)), .iface 45 (.pointer (some ⟨gb, 0, none⟩)), .int .u64 (n : Int)] w0 fun e w' => TANS fa fb (PFST (fun _ => 0) (fun _ => 0) (TSAME n Ca Cb) n) e ∧ Below w0.heap.size w0 w' := by
  have hfew := hA.few
  have hn : n ≤ 4611686018427387904 := by omega
  have src := tsr_src hA hB
  have h0 : 0 < w0.heap.size := by have := hA.store.lt; omega
  have c := first_ok (TSR w0 ga gb n Ca Cb) src 45 (fun w LA LB p q hp hq hA hB hP b1 b2 b3 o c1 c2 c3 => askt_ok _ rfl src p hp LA LB b1 b2 b3 q hq hA hB w hP o c1 c2 c3) n hn (fun h k => (k + 1) * 2 ^ h ≤ n) (fun h k hk => ⟨⟨h, k, hk, rfl⟩, inn_node hk hn⟩) (fun h k hk => by
    have e : (k + 1) * 2 ^ (h + 1) = (2 * k + 1 + 1) * 2 ^ h := by rw [Nat.pow_succ, show 2 * k + 1 + 1 = (k + 1) * 2 by omega, Nat.mul_assoc, Nat.mul_comm (2 ^ h) 2]
    rw [e] at hk
    exact ⟨Nat.le_trans (Nat.mul_le_mul_right _ (by omega)) hk, hk⟩) (fun x hx => ((tile_span (a := 0) hn (Nat.zero_le n)).within x hx).2.1) w0 (Below.refl _ _) (fun k hk => hk) hT h0
  refine c.mono fun e w' hans => ?_
  obtain ⟨hb, ho⟩ := hans
  refine ⟨?_, hb⟩
  have hS : SAME (TSR w0 ga gb n Ca Cb) = TSAME n Ca Cb := rfl
  rw [hS] at ho
  show TANS fa fb (PFST (fun _ => 0) (fun _ => 0) (TSAME n Ca Cb) n) e
  have hcase := PFST_tree (S := TSAME n Ca Cb) hn (tsame_up hA hB)
  rcases ho with ⟨E, h1, h2⟩ | ⟨k, h1, h2⟩
  · rcases hcase with ⟨h3, _⟩ | ⟨k, h3, _⟩
    · have e1 : POUT.err E = POUT.err 210 := h1.symm.trans h3
      injection e1 with e2
      subst e2
      exact .inl ⟨h3, h2⟩
    · have e1 : POUT.err E = POUT.leaf k := h1.symm.trans h3
      cases e1
  · rcases hcase with ⟨h3, _⟩ | ⟨k', h3, h4, _⟩
    · have e1 : POUT.leaf k = POUT.err 210 := h1.symm.trans h3
      cases e1
    · have e1 : POUT.leaf k = POUT.leaf k' := h1.symm.trans h3
      injection e1 with e2
      subst e2
      refine .inr ⟨k, h3, ?_⟩
      rw [h2]
      have ea := (goth_at hA (h := 0) (k := k) (leaf_inn h4)).1
      have eb := (goth_at hB (h := 0) (k := k) (leaf_inn h4)).1
      show _ = Ending.returned (.tuple #[.agg (PTG k (fa k) (fb k) _), .int .i64 0])
      have ea' : (TSR w0 ga gb n Ca Cb).A (PLC 0 k) = fa k := ea
      have eb' : (TSR w0 ga gb n Ca Cb).B (PLC 0 k) = fb k := eb
      rw [ea', eb']
      rfl
end Go.Proofs.YtnplhejopmoopaaDoor

/- One step of the hash reckoned out by the kernel from lists: the words, the states eight rounds apart. -/
namespace Go.Proofs.YtnplhejopmoopaaDoor.HX
open Go.RowKit
set_option maxRecDepth 100000

/-- are these the words of a block? -/
def SCHK (b : Nat → Nat) (L : List Nat) : Bool := (List.range 16).all (fun t => L.getD t 0 == WORDAT b (4 * t)) && (List.range 48).all (fun k => L.getD (16 + k) 0 == (SPILL 17 19 10 (L.getD (14 + k) 0) + L.getD (9 + k) 0 + SPILL 7 18 3 (L.getD (1 + k) 0) + L.getD k 0) % 4294967296)
theorem SCHK_ok {b : Nat → Nat} {L : List Nat} (h : SCHK b L = true) : ∀ t, t < 64 → SCH b t = L.getD t 0 := by
  unfold SCHK at h
  rw [Bool.and_eq_true, List.all_eq_true, List.all_eq_true] at h
  obtain ⟨h1, h2⟩ := h
  intro t
  induction t using Nat.strongRecOn with
  | ind t ih =>
    intro ht
    by_cases h16 : t < 16
    · have := h1 t (List.mem_range.2 h16)
      rw [SCH_first b t h16]
      exact (beq_iff_eq.1 this).symm
    · obtain ⟨k, rfl⟩ : ∃ k, t = 16 + k := ⟨t - 16, by omega⟩
      have := h2 k (List.mem_range.2 (by omega))
      rw [SCH_next b k (by omega), ih (14 + k) (by omega) (by omega), ih (9 + k) (by omega) (by omega), ih (1 + k) (by omega) (by omega), ih k (by omega) (by omega)]
      exact (beq_iff_eq.1 this).symm
/-- eight rounds. -/
def R8 (L : List Nat) (t : Nat) (S : ST) : ST := RND (KC (t + 7)) (L.getD (t + 7) 0) (RND (KC (t + 6)) (L.getD (t + 6) 0) (RND (KC (t + 5)) (L.getD (t + 5) 0) (RND (KC (t + 4)) (L.getD (t + 4) 0) (RND (KC (t + 3)) (L.getD (t + 3) 0) (RND (KC (t + 2)) (L.getD (t + 2) 0) (RND (KC (t + 1)) (L.getD (t + 1) 0) (RND (KC t) (L.getD t 0) S)))))))
theorem R8_run {x : Nat → Nat} {L : List Nat} (hx : ∀ t, t < 64 → x t = L.getD t 0) (s : ST) (t : Nat) (ht : t + 8 ≤ 64) : RUN x s (t + 8) = R8 L t (RUN x s t) := by
  unfold R8
  rw [← hx t (by omega), ← hx (t + 1) (by omega), ← hx (t + 2) (by omega), ← hx (t + 3) (by omega), ← hx (t + 4) (by omega), ← hx (t + 5) (by omega), ← hx (t + 6) (by omega), ← hx (t + 7) (by omega)]
  rfl
theorem run_fast {x : Nat → Nat} {L : List Nat} (hx : ∀ t, t < 64 → x t = L.getD t 0) {s s0 s1 s2 s3 s4 s5 s6 s7 s8 : ST} (h0 : s = s0) (h1 : R8 L 0 s0 = s1) (h2 : R8 L 8 s1 = s2) (h3 : R8 L 16 s2 = s3) (h4 : R8 L 24 s3 = s4) (h5 : R8 L 32 s4 = s5) (h6 : R8 L 40 s5 = s6) (h7 : R8 L 48 s6 = s7) (h8 : R8 L 56 s7 = s8) : RUN x s 64 = s8 := by
  rw [R8_run hx s 56 (by decide), R8_run hx s 48 (by decide), R8_run hx s 40 (by decide), R8_run hx s 32 (by decide), R8_run hx s 24 (by decide), R8_run hx s 16 (by decide), R8_run hx s 8 (by decide), R8_run hx s 0 (by decide), RUN, h0, h1, h2, h3, h4, h5, h6, h7, h8]
theorem comp_fast (s b : Nat → Nat) (L : List Nat) (s0 s1 s2 s3 s4 s5 s6 s7 s8 : ST) (O : List Nat) (hL : SCHK b L = true) (h0 : STOF s = s0) (h1 : R8 L 0 s0 = s1) (h2 : R8 L 8 s1 = s2) (h3 : R8 L 16 s2 = s3) (h4 : R8 L 24 s3 = s4) (h5 : R8 L 32 s4 = s5) (h6 : R8 L 40 s5 = s6) (h7 : R8 L 48 s6 = s7) (h8 : R8 L 56 s7 = s8)
    (hO : (List.range 32).map (NARROW 32 (BYTEW fun i => (WORDAT s (4 * i) + s8.at i) % 4294967296)) = O) : (List.range 32).map (COMP 32 s b) = O := by
  rw [← hO]
  have h := run_fast (SCHK_ok hL) h0 h1 h2 h3 h4 h5 h6 h7 h8
  unfold COMP
  have e : OUTW s b = fun i => (WORDAT s (4 * i) + s8.at i) % 4294967296 := funext fun i => by rw [OUTW, h]
  rw [e]
end Go.Proofs.YtnplhejopmoopaaDoor.HX
