/- Texts of FindPlays, one behind the other: FindReverseRegion, FindReverse, ManySearch, ManyPlain, ManySplit. -/
import Derived.BigQuiet
import Derived.Deep.Cut
import Derived.Test.YtlbcnaenhghieaaFindPlaysP3
/- The region of slices.Reverse of numbers that draws its order. -/
namespace Go.Proofs.Ytlbcnaenhghieaa
open Go.RowKit
set_option maxRecDepth 100000

theorem store_u64 {w : World} {b o : Nat} {y : Int} (h : ∃ u, w.cell? ⟨b, o, none⟩ = some u) (hf : w.frozen? ⟨b, o, none⟩ = false) : (Instr.storeAt 31 (.pointer (some ⟨b, o, none⟩)) (.int .u64 y)).run Try.prog w = .ok () (w.setCell ⟨b, o, none⟩ (.int .u64 y)) := by
  obtain ⟨u, h⟩ := h
  go_simp
def FV3OPS : Array Oper := #[{ dst := some 14, op := Op.move (Operand.tmp 0), type := 36, pos := "slices.go:485", after := #[], guard := none }, { dst := some 15, op := Op.move (Operand.tmp 2), type := 3, pos := "slices.go:485", after := #[], guard := none }, { dst := some 16, op := Op.move (Operand.tmp 0), type := 36, pos := "slices.go:485", after := #[{ on := 13, ground := Ground.gcOnly Departure.lateStores }], guard := none }, { dst := some 17, op := Op.move (Operand.tmp 3), type := 3, pos := "slices.go:485", after := #[{ on := 13, ground := Ground.gcOnly Departure.lateStores }], guard := none }, { dst := some 18, op := Op.move (Operand.tmp 0), type := 36, pos := "slices.go:485", after := #[], guard := none }, { dst := some 19, op := Op.move (Operand.tmp 3), type := 3, pos := "slices.go:485", after := #[], guard := none }, { dst := some 20, op := Op.indexAddr 36 (Operand.tmp 18) (Operand.tmp 19), type := 0, pos := "slices.go:485", after := #[{ on := 4, ground := Ground.data }, { on := 5, ground := Ground.data }], guard := none }, { dst := some 21, op := Op.load 31 (Operand.tmp 20), type := 31, pos := "slices.go:485", after := #[{ on := 6, ground := Ground.data }], guard := none }, { dst := some 22, op := Op.move (Operand.tmp 0), type := 36, pos := "slices.go:485", after := #[], guard := none }, { dst := some 23, op := Op.move (Operand.tmp 2), type := 3, pos := "slices.go:485", after := #[], guard := none }, { dst := some 24, op := Op.indexAddr 36 (Operand.tmp 22) (Operand.tmp 23), type := 0, pos := "slices.go:485", after := #[{ on := 8, ground := Ground.data }, { on := 9, ground := Ground.data }], guard := none }, { dst := some 25, op := Op.load 31 (Operand.tmp 24), type := 31, pos := "slices.go:485", after := #[{ on := 10, ground := Ground.data }], guard := none }, { dst := some 26, op := Op.indexAddr 36 (Operand.tmp 14) (Operand.tmp 15), type := 0, pos := "slices.go:485", after := #[{ on := 0, ground := Ground.data }, { on := 1, ground := Ground.data }, { on := 0, ground := Ground.phase }, { on := 1, ground := Ground.phase }, { on := 2, ground := Ground.textOnly Departure.lateStores }, { on := 3, ground := Ground.textOnly Departure.lateStores }, { on := 4, ground := Ground.phase }, { on := 5, ground := Ground.phase }, { on := 6, ground := Ground.phase }, { on := 7, ground := Ground.phase }, { on := 8, ground := Ground.textOnly Departure.lateStores }, { on := 9, ground := Ground.textOnly Departure.lateStores }, { on := 10, ground := Ground.textOnly Departure.lateStoresUnsure }, { on := 11, ground := Ground.phase }], guard := none }, { dst := none, op := Op.store 31 (Operand.tmp 26) (Operand.tmp 21), type := 0, pos := "slices.go:485", after := #[{ on := 12, ground := Ground.data }, { on := 7, ground := Ground.data }, { on := 0, ground := Ground.phase }, { on := 1, ground := Ground.phase }, { on := 2, ground := Ground.textOnly Departure.lateStores }, { on := 3, ground := Ground.textOnly Departure.lateStores }, { on := 4, ground := Ground.phase }, { on := 5, ground := Ground.phase }, { on := 6, ground := Ground.phase }, { on := 7, ground := Ground.phase }, { on := 8, ground := Ground.textOnly Departure.lateStores }, { on := 9, ground := Ground.textOnly Departure.lateStores }, { on := 10, ground := Ground.textOnly Departure.lateStoresUnsure }, { on := 11, ground := Ground.phase }], guard := none }, { dst := some 27, op := Op.indexAddr 36 (Operand.tmp 16) (Operand.tmp 17), type := 0, pos := "slices.go:485", after := #[{ on := 2, ground := Ground.data }, { on := 3, ground := Ground.data }, { on := 0, ground := Ground.phase }, { on := 1, ground := Ground.phase }, { on := 2, ground := Ground.phase }, { on := 3, ground := Ground.phase }, { on := 4, ground := Ground.phase }, { on := 5, ground := Ground.phase }, { on := 6, ground := Ground.phase }, { on := 7, ground := Ground.phase }, { on := 8, ground := Ground.phase }, { on := 9, ground := Ground.phase }, { on := 10, ground := Ground.phase }, { on := 11, ground := Ground.phase }, { on := 12, ground := Ground.phase }, { on := 13, ground := Ground.phase }], guard := none }, { dst := none, op := Op.store 31 (Operand.tmp 27) (Operand.tmp 25), type := 0, pos := "slices.go:485", after := #[{ on := 14, ground := Ground.data }, { on := 11, ground := Ground.data }, { on := 13, ground := Ground.chain }, { on := 0, ground := Ground.phase }, { on := 1, ground := Ground.phase }, { on := 2, ground := Ground.phase }, { on := 3, ground := Ground.phase }, { on := 4, ground := Ground.phase }, { on := 5, ground := Ground.phase }, { on := 6, ground := Ground.phase }, { on := 7, ground := Ground.phase }, { on := 8, ground := Ground.phase }, { on := 9, ground := Ground.phase }, { on := 10, ground := Ground.phase }, { on := 11, ground := Ground.phase }, { on := 12, ground := Ground.phase }, { on := 13, ground := Ground.phase }], guard := none }]
set_option maxHeartbeats 2000000 in
theorem frev3 {Q : Exit → Act → World → Prop} {u1 u4 u5 u6 u7 u8 u9 u10 u11 u12 u13 u14 u15 u16 u17 u18 u19 u20 u21 u22 u23 u24 u25 u26 u27 : Value} (W : World) (g n c i j : Nat) (hi : (i : Int) < (n : Int)) (hj : (j : Int) < (n : Int)) (x y : Int) (P0 P1 P2 : World → Prop) (h0 : P0 W.drew) (c0 : ∀ w, P0 w → w.cell? ⟨g, i, none⟩ = some (.int .u64 x) ∧ w.cell? ⟨g, j, none⟩ = some (.int .u64 y)) (m0 : ∀ w, P0 w → (∃ u, w.cell? ⟨g, i, none⟩ = some u) ∧ w.frozen? ⟨g, i, none⟩ = false) (m1 : ∀ w, P1 w → (∃ u, w.cell? ⟨g, j, none⟩ = some u) ∧ w.frozen? ⟨g, j, none⟩ = false) (s0 : ∀ w, P0 w → P1 (w.setCell ⟨g, i, none⟩ (.int .u64 y))) (s1 : ∀ w, P1 w → P2 (w.setCell ⟨g, j, none⟩ (.int .u64 x))) (hQ : ∀ c (a : Act) (t : Tmp) (v : Value) w, Q (.panic c) (a.put (some t) v) w → Q (.panic c) a w)
    (hfin : ∀ (w : World), (P2 w) → Q .normal { tmps := #[.slice (some ⟨g, 0, none⟩) n c, u1, .int .i64 (i : Int), .int .i64 (j : Int), u4, u5, u6, u7, u8, u9, u10, u11, u12, u13, .slice (some ⟨g, 0, none⟩) n c, .int .i64 (i : Int), .slice (some ⟨g, 0, none⟩) n c, .int .i64 (j : Int), .slice (some ⟨g, 0, none⟩) n c, .int .i64 (j : Int), .pointer (some ⟨g, j, none⟩), .int .u64 y, .slice (some ⟨g, 0, none⟩) n c, .int .i64 (i : Int), .pointer (some ⟨g, i, none⟩), .int .u64 x, .pointer (some ⟨g, i, none⟩), .pointer (some ⟨g, j, none⟩)], defers := [] } w) : (Code.region 3 FV3OPS true).wp Try.prog Q { tmps := #[.slice (some ⟨g, 0, none⟩) n c, u1, .int .i64 (i : Int), .int .i64 (j : Int), u4, u5, u6, u7, u8, u9, u10, u11, u12, u13, u14, u15, u16, u17, u18, u19, u20, u21, u22, u23, u24, u25, u26, u27], defers := [] } W := by
  have kst7_11_13_15 : ∀ (w : World), (P2 w) → wpAnyH Try.prog .any FV3OPS Q (fun _ : World => True) 0 #[true, true, true, true, true, true, true, true, true, true, true, true, true, true, true, true] { tmps := #[.slice (some ⟨g, 0, none⟩) n c, u1, .int .i64 (i : Int), .int .i64 (j : Int), u4, u5, u6, u7, u8, u9, u10, u11, u12, u13, .slice (some ⟨g, 0, none⟩) n c, .int .i64 (i : Int), .slice (some ⟨g, 0, none⟩) n c, .int .i64 (j : Int), .slice (some ⟨g, 0, none⟩) n c, .int .i64 (j : Int), .pointer (some ⟨g, j, none⟩), .int .u64 y, .slice (some ⟨g, 0, none⟩) n c, .int .i64 (i : Int), .pointer (some ⟨g, i, none⟩), .int .u64 x, .pointer (some ⟨g, i, none⟩), .pointer (some ⟨g, j, none⟩)], defers := [] } w := fun  w hp => by
    exact wpAnyH_done (by kernel_rfl) (hfin  w hp) _
  have kst7_11_13 : ∀ (w : World), (P1 w) → wpAnyH Try.prog .any FV3OPS Q (fun _ : World => True) 1 #[true, true, true, true, true, true, true, true, true, true, true, true, true, true, true, false] { tmps := #[.slice (some ⟨g, 0, none⟩) n c, u1, .int .i64 (i : Int), .int .i64 (j : Int), u4, u5, u6, u7, u8, u9, u10, u11, u12, u13, .slice (some ⟨g, 0, none⟩) n c, .int .i64 (i : Int), .slice (some ⟨g, 0, none⟩) n c, .int .i64 (j : Int), .slice (some ⟨g, 0, none⟩) n c, .int .i64 (j : Int), .pointer (some ⟨g, j, none⟩), .int .u64 y, .slice (some ⟨g, 0, none⟩) n c, .int .i64 (i : Int), .pointer (some ⟨g, i, none⟩), .int .u64 x, .pointer (some ⟨g, i, none⟩), .pointer (some ⟨g, j, none⟩)], defers := [] } w := fun  w hp => by
    refine wpAnyH_ready (rs := [15]) (by kernel_rfl) (by simp) ?_
    refine AllReadyH.cons (o := { dst := none, op := Op.store 31 (Operand.tmp 27) (Operand.tmp 25), type := 0, pos := "slices.go:485", after := #[{ on := 14, ground := Ground.data }, { on := 11, ground := Ground.data }, { on := 13, ground := Ground.chain }, { on := 0, ground := Ground.phase }, { on := 1, ground := Ground.phase }, { on := 2, ground := Ground.phase }, { on := 3, ground := Ground.phase }, { on := 4, ground := Ground.phase }, { on := 5, ground := Ground.phase }, { on := 6, ground := Ground.phase }, { on := 7, ground := Ground.phase }, { on := 8, ground := Ground.phase }, { on := 9, ground := Ground.phase }, { on := 10, ground := Ground.phase }, { on := 11, ground := Ground.phase }, { on := 12, ground := Ground.phase }, { on := 13, ground := Ground.phase }], guard := none }) rfl (fun KQ hKQ => ?_) ?_
    · exact step_skip rfl (run_skip (store_u64 (m1 _ hp).1 (m1 _ hp).2)) (have hp : (fun (w : World) => (P2 w))  _ := s1 _ hp; hKQ.out _ _ (trivial) (fun _ => kst7_11_13_15  _ hp))
    exact AllReadyH.nil
  have ekst7_11_13 : ∀ (w : World), (P1 w) → wpAnyH Try.prog .any FV3OPS Q (fun _ : World => True) 2 #[true, true, true, true, true, true, true, true, true, true, true, true, true, true, false, false] { tmps := #[.slice (some ⟨g, 0, none⟩) n c, u1, .int .i64 (i : Int), .int .i64 (j : Int), u4, u5, u6, u7, u8, u9, u10, u11, u12, u13, .slice (some ⟨g, 0, none⟩) n c, .int .i64 (i : Int), .slice (some ⟨g, 0, none⟩) n c, .int .i64 (j : Int), .slice (some ⟨g, 0, none⟩) n c, .int .i64 (j : Int), .pointer (some ⟨g, j, none⟩), .int .u64 y, .slice (some ⟨g, 0, none⟩) n c, .int .i64 (i : Int), .pointer (some ⟨g, i, none⟩), .int .u64 x, .pointer (some ⟨g, i, none⟩), u27], defers := [] } w := fun  w hp => by
    have hww : (fun _ : World => True) w := trivial
    have last := kst7_11_13  w hp
    refine wpAnyH_take (i := 14) (oi := { dst := some 27, op := Op.indexAddr 36 (Operand.tmp 16) (Operand.tmp 17), type := 0, pos := "slices.go:485", after := #[{ on := 2, ground := Ground.data }, { on := 3, ground := Ground.data }, { on := 0, ground := Ground.phase }, { on := 1, ground := Ground.phase }, { on := 2, ground := Ground.phase }, { on := 3, ground := Ground.phase }, { on := 4, ground := Ground.phase }, { on := 5, ground := Ground.phase }, { on := 6, ground := Ground.phase }, { on := 7, ground := Ground.phase }, { on := 8, ground := Ground.phase }, { on := 9, ground := Ground.phase }, { on := 10, ground := Ground.phase }, { on := 11, ground := Ground.phase }, { on := 12, ground := Ground.phase }, { on := 13, ground := Ground.phase }], guard := none }) (v := .pointer (some ⟨g, j, none⟩)) rfl (by kernel_rfl) (by kernel_rfl) (by kernel_rfl) (fun _ _ _ h => hQ _ _ _ _ _ h) (Yields.yieldsIf (Or.inl ⟨by rfl, fun W => by go_simp⟩)) hww ?_
    simp only [Act.put, List.setIfInBounds_toArray, List.set_cons_zero, List.set_cons_succ]
    exact last
  have kst7_11 : ∀ (w : World), (P0 w) → wpAnyH Try.prog .any FV3OPS Q (fun _ : World => True) 3 #[true, true, true, true, true, true, true, true, true, true, true, true, true, false, false, false] { tmps := #[.slice (some ⟨g, 0, none⟩) n c, u1, .int .i64 (i : Int), .int .i64 (j : Int), u4, u5, u6, u7, u8, u9, u10, u11, u12, u13, .slice (some ⟨g, 0, none⟩) n c, .int .i64 (i : Int), .slice (some ⟨g, 0, none⟩) n c, .int .i64 (j : Int), .slice (some ⟨g, 0, none⟩) n c, .int .i64 (j : Int), .pointer (some ⟨g, j, none⟩), .int .u64 y, .slice (some ⟨g, 0, none⟩) n c, .int .i64 (i : Int), .pointer (some ⟨g, i, none⟩), .int .u64 x, .pointer (some ⟨g, i, none⟩), u27], defers := [] } w := fun  w hp => by
    refine wpAnyH_ready (rs := [13]) (by kernel_rfl) (by simp) ?_
    refine AllReadyH.cons (o := { dst := none, op := Op.store 31 (Operand.tmp 26) (Operand.tmp 21), type := 0, pos := "slices.go:485", after := #[{ on := 12, ground := Ground.data }, { on := 7, ground := Ground.data }, { on := 0, ground := Ground.phase }, { on := 1, ground := Ground.phase }, { on := 2, ground := Ground.textOnly Departure.lateStores }, { on := 3, ground := Ground.textOnly Departure.lateStores }, { on := 4, ground := Ground.phase }, { on := 5, ground := Ground.phase }, { on := 6, ground := Ground.phase }, { on := 7, ground := Ground.phase }, { on := 8, ground := Ground.textOnly Departure.lateStores }, { on := 9, ground := Ground.textOnly Departure.lateStores }, { on := 10, ground := Ground.textOnly Departure.lateStoresUnsure }, { on := 11, ground := Ground.phase }], guard := none }) rfl (fun KQ hKQ => ?_) ?_
    · exact step_skip rfl (run_skip (store_u64 (m0 _ hp).1 (m0 _ hp).2)) (have hp : (fun (w : World) => (P1 w))  _ := s0 _ hp; hKQ.out _ _ (trivial) (fun _ => ekst7_11_13  _ hp))
    exact AllReadyH.nil
  have ekst7_11 : ∀ (w : World), (P0 w) → wpAnyH Try.prog .any FV3OPS Q (fun _ : World => True) 4 #[true, true, true, true, true, true, true, true, true, true, true, true, false, false, false, false] { tmps := #[.slice (some ⟨g, 0, none⟩) n c, u1, .int .i64 (i : Int), .int .i64 (j : Int), u4, u5, u6, u7, u8, u9, u10, u11, u12, u13, .slice (some ⟨g, 0, none⟩) n c, .int .i64 (i : Int), .slice (some ⟨g, 0, none⟩) n c, .int .i64 (j : Int), .slice (some ⟨g, 0, none⟩) n c, .int .i64 (j : Int), .pointer (some ⟨g, j, none⟩), .int .u64 y, .slice (some ⟨g, 0, none⟩) n c, .int .i64 (i : Int), .pointer (some ⟨g, i, none⟩), .int .u64 x, u26, u27], defers := [] } w := fun  w hp => by
    have hww : (fun _ : World => True) w := trivial
    have last := kst7_11  w hp
    refine wpAnyH_take (i := 12) (oi := { dst := some 26, op := Op.indexAddr 36 (Operand.tmp 14) (Operand.tmp 15), type := 0, pos := "slices.go:485", after := #[{ on := 0, ground := Ground.data }, { on := 1, ground := Ground.data }, { on := 0, ground := Ground.phase }, { on := 1, ground := Ground.phase }, { on := 2, ground := Ground.textOnly Departure.lateStores }, { on := 3, ground := Ground.textOnly Departure.lateStores }, { on := 4, ground := Ground.phase }, { on := 5, ground := Ground.phase }, { on := 6, ground := Ground.phase }, { on := 7, ground := Ground.phase }, { on := 8, ground := Ground.textOnly Departure.lateStores }, { on := 9, ground := Ground.textOnly Departure.lateStores }, { on := 10, ground := Ground.textOnly Departure.lateStoresUnsure }, { on := 11, ground := Ground.phase }], guard := none }) (v := .pointer (some ⟨g, i, none⟩)) rfl (by kernel_rfl) (by kernel_rfl) (by kernel_rfl) (fun _ _ _ h => hQ _ _ _ _ _ h) (Yields.yieldsIf (Or.inl ⟨by rfl, fun W => by go_simp⟩)) hww ?_
    simp only [Act.put, List.setIfInBounds_toArray, List.set_cons_zero, List.set_cons_succ]
    exact last
  have kst7 : ∀ (w : World), (P0 w) → wpAnyH Try.prog .any FV3OPS Q (fun _ : World => True) 5 #[true, true, true, true, true, true, true, true, true, true, true, false, false, false, false, false] { tmps := #[.slice (some ⟨g, 0, none⟩) n c, u1, .int .i64 (i : Int), .int .i64 (j : Int), u4, u5, u6, u7, u8, u9, u10, u11, u12, u13, .slice (some ⟨g, 0, none⟩) n c, .int .i64 (i : Int), .slice (some ⟨g, 0, none⟩) n c, .int .i64 (j : Int), .slice (some ⟨g, 0, none⟩) n c, .int .i64 (j : Int), .pointer (some ⟨g, j, none⟩), .int .u64 y, .slice (some ⟨g, 0, none⟩) n c, .int .i64 (i : Int), .pointer (some ⟨g, i, none⟩), u25, u26, u27], defers := [] } w := fun  w hp => by
    refine wpAnyH_ready (rs := [11]) (by kernel_rfl) (by simp) ?_
    refine AllReadyH.cons (o := { dst := some 25, op := Op.load 31 (Operand.tmp 24), type := 31, pos := "slices.go:485", after := #[{ on := 10, ground := Ground.data }], guard := none }) rfl (fun KQ hKQ => ?_) ?_
    · exact step_valw (by rfl) (by have hx := (c0 _ hp).1; go_simp) (have hp : (fun (w : World) => (P0 w))  w := hp; hKQ.out _ _ (trivial) (fun _ => ekst7_11  _ hp))
    exact AllReadyH.nil
  have ekst11_7 : ∀ (w : World), (P0 w) → wpAnyH Try.prog .any FV3OPS Q (fun _ : World => True) 4 #[true, true, true, true, true, true, true, true, true, true, true, true, false, false, false, false] { tmps := #[.slice (some ⟨g, 0, none⟩) n c, u1, .int .i64 (i : Int), .int .i64 (j : Int), u4, u5, u6, u7, u8, u9, u10, u11, u12, u13, .slice (some ⟨g, 0, none⟩) n c, .int .i64 (i : Int), .slice (some ⟨g, 0, none⟩) n c, .int .i64 (j : Int), .slice (some ⟨g, 0, none⟩) n c, .int .i64 (j : Int), .pointer (some ⟨g, j, none⟩), .int .u64 y, .slice (some ⟨g, 0, none⟩) n c, .int .i64 (i : Int), .pointer (some ⟨g, i, none⟩), .int .u64 x, u26, u27], defers := [] } w := fun  w hp => by
    have hww : (fun _ : World => True) w := trivial
    have last := kst7_11  w hp
    refine wpAnyH_take (i := 12) (oi := { dst := some 26, op := Op.indexAddr 36 (Operand.tmp 14) (Operand.tmp 15), type := 0, pos := "slices.go:485", after := #[{ on := 0, ground := Ground.data }, { on := 1, ground := Ground.data }, { on := 0, ground := Ground.phase }, { on := 1, ground := Ground.phase }, { on := 2, ground := Ground.textOnly Departure.lateStores }, { on := 3, ground := Ground.textOnly Departure.lateStores }, { on := 4, ground := Ground.phase }, { on := 5, ground := Ground.phase }, { on := 6, ground := Ground.phase }, { on := 7, ground := Ground.phase }, { on := 8, ground := Ground.textOnly Departure.lateStores }, { on := 9, ground := Ground.textOnly Departure.lateStores }, { on := 10, ground := Ground.textOnly Departure.lateStoresUnsure }, { on := 11, ground := Ground.phase }], guard := none }) (v := .pointer (some ⟨g, i, none⟩)) rfl (by kernel_rfl) (by kernel_rfl) (by kernel_rfl) (fun _ _ _ h => hQ _ _ _ _ _ h) (Yields.yieldsIf (Or.inl ⟨by rfl, fun W => by go_simp⟩)) hww ?_
    simp only [Act.put, List.setIfInBounds_toArray, List.set_cons_zero, List.set_cons_succ]
    exact last
  have kst11 : ∀ (w : World), (P0 w) → wpAnyH Try.prog .any FV3OPS Q (fun _ : World => True) 5 #[true, true, true, true, true, true, true, false, true, true, true, true, false, false, false, false] { tmps := #[.slice (some ⟨g, 0, none⟩) n c, u1, .int .i64 (i : Int), .int .i64 (j : Int), u4, u5, u6, u7, u8, u9, u10, u11, u12, u13, .slice (some ⟨g, 0, none⟩) n c, .int .i64 (i : Int), .slice (some ⟨g, 0, none⟩) n c, .int .i64 (j : Int), .slice (some ⟨g, 0, none⟩) n c, .int .i64 (j : Int), .pointer (some ⟨g, j, none⟩), u21, .slice (some ⟨g, 0, none⟩) n c, .int .i64 (i : Int), .pointer (some ⟨g, i, none⟩), .int .u64 x, u26, u27], defers := [] } w := fun  w hp => by
    refine wpAnyH_ready (rs := [7]) (by kernel_rfl) (by simp) ?_
    refine AllReadyH.cons (o := { dst := some 21, op := Op.load 31 (Operand.tmp 20), type := 31, pos := "slices.go:485", after := #[{ on := 6, ground := Ground.data }], guard := none }) rfl (fun KQ hKQ => ?_) ?_
    · exact step_valw (by rfl) (by have hx := (c0 _ hp).2; go_simp) (have hp : (fun (w : World) => (P0 w))  w := hp; hKQ.out _ _ (trivial) (fun _ => ekst11_7  _ hp))
    exact AllReadyH.nil
  have kst : ∀ (w : World), (P0 w) → wpAnyH Try.prog .any FV3OPS Q (fun _ : World => True) 6 #[true, true, true, true, true, true, true, false, true, true, true, false, false, false, false, false] { tmps := #[.slice (some ⟨g, 0, none⟩) n c, u1, .int .i64 (i : Int), .int .i64 (j : Int), u4, u5, u6, u7, u8, u9, u10, u11, u12, u13, .slice (some ⟨g, 0, none⟩) n c, .int .i64 (i : Int), .slice (some ⟨g, 0, none⟩) n c, .int .i64 (j : Int), .slice (some ⟨g, 0, none⟩) n c, .int .i64 (j : Int), .pointer (some ⟨g, j, none⟩), u21, .slice (some ⟨g, 0, none⟩) n c, .int .i64 (i : Int), .pointer (some ⟨g, i, none⟩), u25, u26, u27], defers := [] } w := fun  w hp => by
    refine wpAnyH_ready (rs := [7, 11]) (by kernel_rfl) (by simp) ?_
    refine AllReadyH.cons (o := { dst := some 21, op := Op.load 31 (Operand.tmp 20), type := 31, pos := "slices.go:485", after := #[{ on := 6, ground := Ground.data }], guard := none }) rfl (fun KQ hKQ => ?_) ?_
    · exact step_valw (by rfl) (by have hx := (c0 _ hp).2; go_simp) (have hp : (fun (w : World) => (P0 w))  w := hp; hKQ.out _ _ (trivial) (fun _ => kst7  _ hp))
    refine AllReadyH.cons (o := { dst := some 25, op := Op.load 31 (Operand.tmp 24), type := 31, pos := "slices.go:485", after := #[{ on := 10, ground := Ground.data }], guard := none }) rfl (fun KQ hKQ => ?_) ?_
    · exact step_valw (by rfl) (by have hx := (c0 _ hp).1; go_simp) (have hp : (fun (w : World) => (P0 w))  w := hp; hKQ.out _ _ (trivial) (fun _ => kst11  _ hp))
    exact AllReadyH.nil
  have hp := h0
  have hww : (fun _ : World => True) W.drew := trivial
  have last := kst W.drew hp
  have z : wpAnyH Try.prog .any FV3OPS Q (fun _ : World => True) 16 #[false, false, false, false, false, false, false, false, false, false, false, false, false, false, false, false] { tmps := #[.slice (some ⟨g, 0, none⟩) n c, u1, .int .i64 (i : Int), .int .i64 (j : Int), u4, u5, u6, u7, u8, u9, u10, u11, u12, u13, u14, u15, u16, u17, u18, u19, u20, u21, u22, u23, u24, u25, u26, u27], defers := [] } W.drew := by
    refine wpAnyH_take (i := 0) (oi := { dst := some 14, op := Op.move (Operand.tmp 0), type := 36, pos := "slices.go:485", after := #[], guard := none }) (v := .slice (some ⟨g, 0, none⟩) n c) rfl (by kernel_rfl) (by kernel_rfl) (by kernel_rfl) (fun _ _ _ h => hQ _ _ _ _ _ h) (Yields.yieldsIf (Or.inl ⟨by rfl, fun W => by go_simp⟩)) hww ?_
    simp only [Act.put, List.setIfInBounds_toArray, List.set_cons_zero, List.set_cons_succ]
    refine wpAnyH_take (i := 1) (oi := { dst := some 15, op := Op.move (Operand.tmp 2), type := 3, pos := "slices.go:485", after := #[], guard := none }) (v := .int .i64 (i : Int)) rfl (by kernel_rfl) (by kernel_rfl) (by kernel_rfl) (fun _ _ _ h => hQ _ _ _ _ _ h) (Yields.yieldsIf (Or.inl ⟨by rfl, fun W => by go_simp⟩)) hww ?_
    simp only [Act.put, List.setIfInBounds_toArray, List.set_cons_zero, List.set_cons_succ]
    refine wpAnyH_take (i := 2) (oi := { dst := some 16, op := Op.move (Operand.tmp 0), type := 36, pos := "slices.go:485", after := #[{ on := 13, ground := Ground.gcOnly Departure.lateStores }], guard := none }) (v := .slice (some ⟨g, 0, none⟩) n c) rfl (by kernel_rfl) (by kernel_rfl) (by kernel_rfl) (fun _ _ _ h => hQ _ _ _ _ _ h) (Yields.yieldsIf (Or.inl ⟨by rfl, fun W => by go_simp⟩)) hww ?_
    simp only [Act.put, List.setIfInBounds_toArray, List.set_cons_zero, List.set_cons_succ]
    refine wpAnyH_take (i := 3) (oi := { dst := some 17, op := Op.move (Operand.tmp 3), type := 3, pos := "slices.go:485", after := #[{ on := 13, ground := Ground.gcOnly Departure.lateStores }], guard := none }) (v := .int .i64 (j : Int)) rfl (by kernel_rfl) (by kernel_rfl) (by kernel_rfl) (fun _ _ _ h => hQ _ _ _ _ _ h) (Yields.yieldsIf (Or.inl ⟨by rfl, fun W => by go_simp⟩)) hww ?_
    simp only [Act.put, List.setIfInBounds_toArray, List.set_cons_zero, List.set_cons_succ]
    refine wpAnyH_take (i := 4) (oi := { dst := some 18, op := Op.move (Operand.tmp 0), type := 36, pos := "slices.go:485", after := #[], guard := none }) (v := .slice (some ⟨g, 0, none⟩) n c) rfl (by kernel_rfl) (by kernel_rfl) (by kernel_rfl) (fun _ _ _ h => hQ _ _ _ _ _ h) (Yields.yieldsIf (Or.inl ⟨by rfl, fun W => by go_simp⟩)) hww ?_
    simp only [Act.put, List.setIfInBounds_toArray, List.set_cons_zero, List.set_cons_succ]
    refine wpAnyH_take (i := 5) (oi := { dst := some 19, op := Op.move (Operand.tmp 3), type := 3, pos := "slices.go:485", after := #[], guard := none }) (v := .int .i64 (j : Int)) rfl (by kernel_rfl) (by kernel_rfl) (by kernel_rfl) (fun _ _ _ h => hQ _ _ _ _ _ h) (Yields.yieldsIf (Or.inl ⟨by rfl, fun W => by go_simp⟩)) hww ?_
    simp only [Act.put, List.setIfInBounds_toArray, List.set_cons_zero, List.set_cons_succ]
    refine wpAnyH_take (i := 6) (oi := { dst := some 20, op := Op.indexAddr 36 (Operand.tmp 18) (Operand.tmp 19), type := 0, pos := "slices.go:485", after := #[{ on := 4, ground := Ground.data }, { on := 5, ground := Ground.data }], guard := none }) (v := .pointer (some ⟨g, j, none⟩)) rfl (by kernel_rfl) (by kernel_rfl) (by kernel_rfl) (fun _ _ _ h => hQ _ _ _ _ _ h) (Yields.yieldsIf (Or.inl ⟨by rfl, fun W => by go_simp⟩)) hww ?_
    simp only [Act.put, List.setIfInBounds_toArray, List.set_cons_zero, List.set_cons_succ]
    refine wpAnyH_take (i := 8) (oi := { dst := some 22, op := Op.move (Operand.tmp 0), type := 36, pos := "slices.go:485", after := #[], guard := none }) (v := .slice (some ⟨g, 0, none⟩) n c) rfl (by kernel_rfl) (by kernel_rfl) (by kernel_rfl) (fun _ _ _ h => hQ _ _ _ _ _ h) (Yields.yieldsIf (Or.inl ⟨by rfl, fun W => by go_simp⟩)) hww ?_
    simp only [Act.put, List.setIfInBounds_toArray, List.set_cons_zero, List.set_cons_succ]
    refine wpAnyH_take (i := 9) (oi := { dst := some 23, op := Op.move (Operand.tmp 2), type := 3, pos := "slices.go:485", after := #[], guard := none }) (v := .int .i64 (i : Int)) rfl (by kernel_rfl) (by kernel_rfl) (by kernel_rfl) (fun _ _ _ h => hQ _ _ _ _ _ h) (Yields.yieldsIf (Or.inl ⟨by rfl, fun W => by go_simp⟩)) hww ?_
    simp only [Act.put, List.setIfInBounds_toArray, List.set_cons_zero, List.set_cons_succ]
    refine wpAnyH_take (i := 10) (oi := { dst := some 24, op := Op.indexAddr 36 (Operand.tmp 22) (Operand.tmp 23), type := 0, pos := "slices.go:485", after := #[{ on := 8, ground := Ground.data }, { on := 9, ground := Ground.data }], guard := none }) (v := .pointer (some ⟨g, i, none⟩)) rfl (by kernel_rfl) (by kernel_rfl) (by kernel_rfl) (fun _ _ _ h => hQ _ _ _ _ _ h) (Yields.yieldsIf (Or.inl ⟨by rfl, fun W => by go_simp⟩)) hww ?_
    simp only [Act.put, List.setIfInBounds_toArray, List.set_cons_zero, List.set_cons_succ]
    exact last
  exact wp_region_held_drew (S := (fun _ : World => True)) (by kernel_rfl) hww (fun _ => z)
end Go.Proofs.Ytlbcnaenhghieaa

/- slices.Reverse of numbers. -/
namespace Go.Proofs.Ytlbcnaenhghieaa
open Go.RowKit
set_option maxRecDepth 100000

/-- the first i and the last i have changed places. -/
def REVD (L : List Nat) (i : Nat) : List Nat := (List.range L.length).map fun k => if k < i ∨ L.length - 1 - k < i then L.getD (L.length - 1 - k) 0 else L.getD k 0
theorem REVD_length (L : List Nat) (i : Nat) : (REVD L i).length = L.length := by simp [REVD]
theorem REVD_get (L : List Nat) {i k : Nat} (h : k < L.length) : (REVD L i)[k]? = some (if k < i ∨ L.length - 1 - k < i then L.getD (L.length - 1 - k) 0 else L.getD k 0) := by
  unfold REVD
  rw [List.getElem?_map, List.getElem?_range h]
  rfl
theorem REVD_zero (L : List Nat) : REVD L 0 = L := by
  apply List.ext_getElem?
  intro k
  by_cases h : k < L.length
  · rw [REVD_get L h, if_neg (by omega), List.getElem?_eq_getElem h, List.getD_eq_getElem?_getD, List.getElem?_eq_getElem h]
    rfl
  · rw [List.getElem?_eq_none (by rw [REVD_length]; omega), List.getElem?_eq_none (by omega)]
theorem REVD_end (L : List Nat) {i : Nat} (h : L.length ≤ 2 * i + 1) : REVD L i = L.reverse := by
  apply List.ext_getElem?
  intro k
  by_cases hk : k < L.length
  · rw [REVD_get L hk, List.getElem?_reverse hk]
    have e : ∀ j, j < L.length → some (L.getD j 0) = L[j]? := fun j hj => by
      rw [List.getD_eq_getElem?_getD, List.getElem?_eq_getElem hj]
      rfl
    by_cases c : k < i ∨ L.length - 1 - k < i
    · rw [if_pos c]
      exact e _ (by omega)
    · rw [if_neg c, e k hk]
      congr 1
      omega
  · rw [List.getElem?_eq_none (by rw [REVD_length]; omega), List.getElem?_eq_none (by simp; omega)]
theorem REVD_step (L : List Nat) {i j : Nat} (h : i < j) (hj : i + j + 1 = L.length) : ((REVD L i).set i (L.getD j 0)).set j (L.getD i 0) = REVD L (i + 1) := by
  apply List.ext_getElem?
  intro k
  have hl := REVD_length L i
  by_cases hk : k < L.length
  · rw [List.getElem?_set, List.getElem?_set, REVD_get L hk, REVD_get L hk]
    simp only [List.length_set, hl]
    by_cases c : j = k
    · subst c
      rw [if_pos rfl, if_pos hk, if_pos (by omega)]
      congr 2
      omega
    · rw [if_neg c]
      by_cases c2 : i = k
      · subst c2
        rw [if_pos rfl, if_pos hk, if_pos (by omega)]
        congr 2
        omega
      · rw [if_neg c2]
        by_cases c3 : k < i ∨ L.length - 1 - k < i
        · rw [if_pos c3, if_pos (by omega)]
        · rw [if_neg c3, if_neg (by omega)]
  · rw [List.getElem?_eq_none (by simp only [List.length_set, hl]; omega), List.getElem?_eq_none (by rw [REVD_length]; omega)]
theorem UCELLS_get (l : List Nat) (k : Nat) : (UCELLS l)[k]? = (l[k]?).map fun (x : Nat) => Value.int .u64 (x : Int) := by
  unfold UCELLS
  rw [List.getElem?_map]
theorem UCELLS_set (l : List Nat) (k x : Nat) : (UCELLS l).set k (.int .u64 (x : Int)) = UCELLS (l.set k x) := by simp [UCELLS, List.map_set]
/-- a list of numbers of one's own, on its way. -/
structure REVS (w0 w : World) (B g n c : Nat) (L X : List Nat) : Prop where
  len : L.length = n
  own : w.ownsRow B 31 1 (.slice (some ⟨g, 0, none⟩) n c) n (UCELLS X)
  out : ∀ k, k ≠ g → w.heap[k]? = w0.heap[k]?
  bel : Below B w0 w
theorem REVS.put {w0 w : World} {B g n c : Nat} {L X : List Nat} (h : REVS w0 w B g n c L X) (k x : Nat) : REVS w0 (w.setCell ⟨g, k, none⟩ (.int .u64 (x : Int))) B g n c L (X.set k x) := by
  refine ⟨h.len, by rw [← UCELLS_set]; exact (h.own.stored k _).1, fun j hj => (Below.heap_setCell _ _ _ j hj).trans (h.out j hj), ?_⟩
  exact h.bel.setCell (by
    rcases h.own.2 with ⟨e, _⟩ | ⟨g', cap, cur, e, hb, _⟩
    · cases e
    · cases e
      exact hb) _
set_option maxHeartbeats 4000000 in
theorem rev_nums {w : World} {B g n c : Nat} {L : List Nat} (hL : L.length = n) (h : w.ownsRow B 31 1 (.slice (some ⟨g, 0, none⟩) n c) n (UCELLS L)) (hn : n ≤ 1000000) : Calls Try.prog 21 #[.slice (some ⟨g, 0, none⟩) n c] w fun e w' => e = .returned (.tuple #[]) ∧ REVS w w' B g n c L L.reverse := by
  have A0 : Aside (REVS w w B g n c L (REVD L 0)) := ⟨hL, by rw [REVD_zero]; exact h, fun _ _ => rfl, Below.refl _ _⟩
  have HN : Aside (n ≤ 1000000) := hn
  have e1 : wrap64 ((n : Int) - 1) = (n : Int) - 1 := by unfold wrap64; omega
  clear h hn hL
  go_enter Try.func21, Try.ntmps21
  go_wp2_with fail
  go_loopg [2, 3] n (fun q s2 s3 wx => ∃ i : Nat, s2 = .int .i64 (i : Int) ∧ s3 = .int .i64 ((n : Int) - 1 - (i : Int)) ∧ Aside (i + q = n ∧ REVS w wx B g n c L (REVD L i)))
  case atStart => exact ⟨0, rfl, by rw [e1]; simp, by omega, A0.out⟩
  case round =>
    obtain ⟨i, rfl, rfl, A⟩ := hrel
    by_cases hc : (i : Int) < (n : Int) - 1 - (i : Int)
    · obtain ⟨j, hj⟩ : ∃ j, i + j + 1 = n := ⟨n - 1 - i, by omega⟩
      have ej : (n : Int) - 1 - (i : Int) = (j : Int) := by omega
      have hij : i < j := by omega
      rw [ej] at hc ⊢
      cases gk with
      | zero => have := A.out.1; omega
      | succ q =>
        have hlt : (i : Int) < (n : Int) := by omega
        have hlt2 : (j : Int) < (n : Int) := by omega
        have e2 : wrap64 ((i : Int) + 1) = ((i + 1 : Nat) : Int) := by have := HN.out; unfold wrap64; omega
        have e3 : wrap64 ((j : Int) - 1) = (n : Int) - 1 - ((i + 1 : Nat) : Int) := by have := HN.out; unfold wrap64; omega
        have hl := A.out.2.len
        have hi2 : (REVD L i)[i]? = some (L.getD i 0) := by rw [REVD_get L (by omega), if_neg (by omega)]
        have hj2 : (REVD L i)[j]? = some (L.getD j 0) := by rw [REVD_get L (by omega), if_neg (by omega)]
        have R : Aside (i + q + 1 = n ∧ REVS w wr B g n c L (REVD L i) ∧ REVD L (i + 1) = ((REVD L i).set i (L.getD j 0)).set j (L.getD i 0)) := ⟨by have := A.out.1; omega, A.out.2, (REVD_step L hij (by omega)).symm⟩
        have hcx : ∀ k x, k < n → (REVD L i)[k]? = some x → wr.cell? ⟨g, k, none⟩ = some (.int .u64 (x : Int)) := fun k x hk e => by
          rw [A.out.2.own.cellAt k (by omega), UCELLS_get, e]
          rfl
        have hx := hcx i _ (by omega) hi2
        have hy := hcx j _ (by omega) hj2
        have HIJ : Aside (i < j ∧ j < n) := ⟨hij, by omega⟩
        clear A hij hj ej hi2 hj2 hcx hl
        generalize L.getD i 0 = x at *
        generalize L.getD j 0 = y at *
        go_upto_region 3 with fail
        refine frev3 wr g n c i j hlt hlt2 (x : Int) (y : Int) (fun W => W = wr.drew) (fun W => W = wr.drew.setCell ⟨g, i, none⟩ (.int .u64 (y : Int))) (fun W => W = (wr.drew.setCell ⟨g, i, none⟩ (.int .u64 (y : Int))).setCell ⟨g, j, none⟩ (.int .u64 (x : Int))) rfl ?_ ?_ ?_ (by rintro W rfl; rfl) (by rintro W rfl; rfl) (fun _ _ _ _ _ h => h) ?_
        · rintro W rfl
          exact ⟨hx, hy⟩
        · rintro W rfl
          exact ⟨⟨_, hx⟩, R.out.2.1.own.frozenAt i⟩
        · rintro W rfl
          have Z := R.out.2.1.put i y
          have k := Z.own.cellAt j (by have := HIJ.out; omega)
          rw [UCELLS_get, List.getElem?_set_ne (by have := HIJ.out; omega), REVD_get L (by have := HIJ.out; have := Z.len; omega)] at k
          exact ⟨⟨_, k⟩, Z.own.frozenAt j⟩
        · rintro W rfl
          have Z : Aside (REVS w ((wr.drew.setCell ⟨g, i, none⟩ (.int .u64 (y : Int))).setCell ⟨g, j, none⟩ (.int .u64 (x : Int))) B g n c L (REVD L (i + 1))) := by
            have h0 : REVS w wr.drew B g n c L (REVD L i) := ⟨R.out.2.1.len, R.out.2.1.own, R.out.2.1.out, R.out.2.1.bel.drew⟩
            show REVS _ _ _ _ _ _ _ _
            rw [R.out.2.2]
            exact (h0.put i y).put j x
          generalize (wr.drew.setCell ⟨g, i, none⟩ (.int .u64 (y : Int))).setCell ⟨g, j, none⟩ (.int .u64 (x : Int)) = W2 at *
          clear hx hy
          go_wp2
          go_roundg q
          case measure => exact Nat.lt_succ_self _
          case rel => exact ⟨i + 1, by rw [e2], by rw [e3], by have := R.out.1; omega, Z.out⟩
    · have Z : Aside (REVS w wr B g n c L L.reverse) := by
        have := A.out.2
        rwa [REVD_end L (by have := this.len; omega)] at this
      clear A
      go_wp2
      exact bodyPost_end (v := .tuple #[]) (by simp [results, Try.f21]) rfl ⟨rfl, Z.out⟩
theorem rev_none (w : World) : Calls Try.prog 21 #[.slice none 0 0] w fun e w' => e = .returned (.tuple #[]) ∧ w = w' := by
  go_enter Try.func21, Try.ntmps21
  go_wp2
  refine wp_loop_rounds 1 ?_
  rw [rounds_succ]
  go_wp2
  exact bodyPost_end (v := .tuple #[]) (by simp [results, Try.f21]) rfl ⟨rfl, rfl⟩
end Go.Proofs.Ytlbcnaenhghieaa

/- A list of numbers that lies there; slices.BinarySearch over a rising one. -/
namespace Go.Proofs.Ytlbcnaenhghieaa
open Go.RowKit
set_option maxRecDepth 100000

/-- numbers that lie there, at any place of a block. -/
def NUML (w : World) (a : Option Addr) (L : List Nat) : Prop := 0 < L.length → ∃ b o, a = some ⟨b, o, none⟩ ∧ b < w.heap.size ∧ ∀ i x, L[i]? = some x → w.cell? ⟨b, o + i, none⟩ = some (.int .u64 ((x : Nat) : Int))
theorem NUML.below {w w' : World} {a : Option Addr} {L : List Nat} {B : Nat} (h : NUML w a L) (hb : Below B w w') (hB : ∀ x, a = some x → x.block < B) : NUML w' a L := fun h0 => by
  obtain ⟨b, o, e, hl, hc⟩ := h h0
  have h1 : b < B := hB _ e
  exact ⟨b, o, e, by have := hb.size; omega, fun i x hx => (hb.cell (p := ⟨b, o + i, none⟩) h1).trans (hc i x hx)⟩
/-- each one above the one ahead. -/
def RISES (L : List Nat) : Prop := ∀ (i j x y : Nat), i < j → L[i]? = some x → L[j]? = some y → x < y
/-- k of them are below t. -/
structure RANKS (L : List Nat) (t k : Nat) : Prop where
  le : k ≤ L.length
  lo : ∀ i x, i < k → L[i]? = some x → x < t
  hi : ∀ i x, k ≤ i → L[i]? = some x → t ≤ x
end Go.Proofs.Ytlbcnaenhghieaa

/- Which nodes leaves need: plain. -/
namespace Go.Proofs.Ytlbcnaenhghieaa
set_option maxRecDepth 100000

/-- the first r of a rising list are those below t. -/
theorem RANKS.take : ∀ {L : List Nat} {t r : Nat}, RANKS L t r → L.take r = L.filter fun y => decide (y < t)
  | [], t, r, _ => by simp
  | x :: l, t, 0, h => by
    rw [List.take_zero]
    symm
    rw [List.filter_eq_nil_iff]
    intro y hy
    obtain ⟨i, hi⟩ := List.getElem?_of_mem hy
    have := h.hi i y (Nat.zero_le _) hi
    simp
    omega
  | x :: l, t, r + 1, h => by
    have hx : x < t := h.lo 0 x (by omega) rfl
    have h' : RANKS l t r := ⟨by have := h.le; simp at this; omega, fun i y hi hy => h.lo (i + 1) y (by omega) (by simpa using hy), fun i y hi hy => h.hi (i + 1) y (by omega) (by simpa using hy)⟩
    rw [List.take_succ_cons, List.filter_cons_of_pos (by simpa using hx), h'.take]
theorem RANKS.drop : ∀ {L : List Nat} {t r : Nat}, RANKS L t r → L.drop r = L.filter fun y => !decide (y < t)
  | [], t, r, _ => by simp
  | x :: l, t, 0, h => by
    rw [List.drop_zero]
    symm
    rw [List.filter_eq_self]
    intro y hy
    obtain ⟨i, hi⟩ := List.getElem?_of_mem hy
    have := h.hi i y (Nat.zero_le _) hi
    simp
    omega
  | x :: l, t, r + 1, h => by
    have hx : x < t := h.lo 0 x (by omega) rfl
    have h' : RANKS l t r := ⟨by have := h.le; simp at this; omega, fun i y hi hy => h.lo (i + 1) y (by omega) (by simpa using hy), fun i y hi hy => h.hi (i + 1) y (by omega) (by simpa using hy)⟩
    rw [List.drop_succ_cons, List.filter_cons_of_neg (by simpa using hx), h'.drop]
theorem RISES.take {L : List Nat} (h : RISES L) (r : Nat) : RISES (L.take r) := fun i j x y hij hx hy => by
  rw [List.getElem?_take] at hx hy
  split at hx
  · split at hy
    · exact h i j x y hij hx hy
    · cases hy
  · cases hx
theorem RISES.drop {L : List Nat} (h : RISES L) (r : Nat) : RISES (L.drop r) := fun i j x y hij hx hy => by
  rw [List.getElem?_drop] at hx hy
  exact h (r + i) (r + j) x y (by omega) hx hy
end Go.Proofs.Ytlbcnaenhghieaa

/- What split of package many answers. -/
namespace Go.Proofs.Ytlbcnaenhghieaa
open Go.RowKit
set_option maxRecDepth 100000

/-- what split answers. -/
structure SPLIT (w w' : World) (a : Option Addr) (n c : Nat) (L : List Nat) (t r : Nat) (a' : Option Addr) : Prop where
  rank : RANKS L t r
  lies : NUML w a' (L.drop r)
  nil : a' = none → c - r = 0
  block : ∀ x, a' = some x → ∃ y, a = some y ∧ x.block = y.block
  spot : ∀ x, a' = some x → x.spot = none
  below : Below w.heap.size w w'
end Go.Proofs.Ytlbcnaenhghieaa
