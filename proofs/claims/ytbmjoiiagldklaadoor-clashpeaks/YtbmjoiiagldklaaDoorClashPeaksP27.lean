/- Texts of ClashPeaks, one behind the other: ClashRet, ClashMeet, ClashTold. -/
import Derived.Test.YtbmjoiiagldklaaDoorClashPeaksP5
import Derived.Test.YtbmjoiiagldklaaDoorClashPeaksP14
import Derived.Test.YtbmjoiiagldklaaDoorClashPeaksP23
import Derived.Test.YtbmjoiiagldklaaDoorClashPeaksP26
/- What clash's calls hand back: the last region of each, which draws its order. -/
namespace Go.Proofs.YtbmjoiiagldklaaDoor
open Go.RowKit
set_option maxRecDepth 100000

def CRPeaksOPS : Array Oper := #[{ dst := some 56, op := Op.move (Operand.tmp 14), type := 54, pos := "clash.go:29", after := #[], guard := none }, { dst := some 57, op := Op.nilCheck (Operand.tmp 56), type := 0, pos := "clash.go:29", after := #[{ on := 0, ground := Ground.data }], guard := none }, { dst := some 58, op := Op.fieldAddr 59 (Operand.tmp 57) 2, type := 0, pos := "clash.go:29", after := #[{ on := 1, ground := Ground.data }], guard := none }, { dst := some 59, op := Op.load 32 (Operand.tmp 58), type := 32, pos := "clash.go:29", after := #[{ on := 2, ground := Ground.data }], guard := none }, { dst := some 60, op := Op.move (Operand.tmp 14), type := 54, pos := "clash.go:29", after := #[{ on := 8, ground := Ground.gcOnly Departure.lateStores }], guard := none }, { dst := some 61, op := Op.nilCheck (Operand.tmp 60), type := 0, pos := "clash.go:29", after := #[{ on := 4, ground := Ground.data }, { on := 8, ground := Ground.gcOnly Departure.lateStores }], guard := none }, { dst := some 62, op := Op.fieldAddr 59 (Operand.tmp 61) 3, type := 0, pos := "clash.go:29", after := #[{ on := 5, ground := Ground.data }, { on := 8, ground := Ground.gcOnly Departure.lateStores }], guard := none }, { dst := some 63, op := Op.load 4 (Operand.tmp 62), type := 4, pos := "clash.go:29", after := #[{ on := 6, ground := Ground.data }, { on := 8, ground := Ground.gcOnly Departure.lateStores }], guard := none }, { dst := none, op := Op.store 32 (Operand.tmp 8) (Operand.tmp 59), type := 0, pos := "clash.go:29", after := #[{ on := 3, ground := Ground.data }, { on := 0, ground := Ground.phase }, { on := 1, ground := Ground.phase }, { on := 2, ground := Ground.phase }, { on := 3, ground := Ground.phase }, { on := 4, ground := Ground.textOnly Departure.lateStores }, { on := 5, ground := Ground.textOnly Departure.lateStores }, { on := 6, ground := Ground.textOnly Departure.lateStores }, { on := 7, ground := Ground.textOnly Departure.lateStores }], guard := none }, { dst := some 9, op := Op.assign (Operand.tmp 63), type := 4, pos := "clash.go:29", after := #[{ on := 7, ground := Ground.data }, { on := 8, ground := Ground.chain }, { on := 0, ground := Ground.phase }, { on := 1, ground := Ground.phase }, { on := 2, ground := Ground.phase }, { on := 3, ground := Ground.phase }, { on := 4, ground := Ground.phase }, { on := 5, ground := Ground.phase }, { on := 6, ground := Ground.phase }, { on := 7, ground := Ground.phase }, { on := 8, ground := Ground.phase }], guard := none }]
set_option maxHeartbeats 2000000 in
theorem retPeaks {Q : Exit → Act → World → Prop} {u0 u1 u2 u3 u4 u5 u6 u7 u9 u10 u11 u12 u13 u15 u16 u17 u18 u19 u20 u21 u22 u23 u24 u25 u26 u27 u28 u29 u30 u31 u32 u33 u34 u35 u36 u37 u38 u39 u40 u41 u42 u43 u44 u45 u46 u47 u48 u49 u50 u51 u52 u53 u54 u55 u56 u57 u58 u59 u60 u61 u62 u63 : Value} (W : World) (b bz : Nat) (a1 a2 : Option Addr) (n1 c1 n2 c2 : Nat) (fd : Bool) (P0 P2 : World → Prop) (h0 : P0 W.drew) (t0 : ∀ w, P0 w → (fun w : World => w.cell? ⟨b, 2, none⟩ = some (.slice a1 n1 c1) ∧ w.cell? ⟨b, 3, none⟩ = some (.slice a2 n2 c2) ∧ w.cell? ⟨b, 4, none⟩ = some (.bool fd)) w) (t2 : ∀ w, P2 w → (fun w : World => w.cell? ⟨b, 2, none⟩ = some (.slice a1 n1 c1) ∧ w.cell? ⟨b, 3, none⟩ = some (.slice a2 n2 c2) ∧ w.cell? ⟨b, 4, none⟩ = some (.bool fd)) w) (kz : ∀ w, P0 w → Has w bz #[.slice none 0 0, .slice none 0 0] 32) (st : ∀ w, P0 w → P2 ((w.setCell ⟨bz, 0, none⟩ (.slice a1 n1 c1)).setCell ⟨bz, 1, none⟩ (.slice a2 n2 c2))) (hQ : ∀ c (a : Act) (t : Tmp) (v : Value) w, Q (.panic c) (a.put (some t) v) w → Q (.panic c) a w)
    (hfin : ∀ (w : World), (P2 w) → Q .normal { tmps := #[u0, u1, u2, u3, u4, u5, u6, u7, .pointer (some ⟨bz, 0, none⟩), .bool fd, u10, u11, u12, u13, .pointer (some ⟨b, 0, none⟩), u15, u16, u17, u18, u19, u20, u21, u22, u23, u24, u25, u26, u27, u28, u29, u30, u31, u32, u33, u34, u35, u36, u37, u38, u39, u40, u41, u42, u43, u44, u45, u46, u47, u48, u49, u50, u51, u52, u53, u54, u55, .pointer (some ⟨b, 0, none⟩), .pointer (some ⟨b, 0, none⟩), .pointer (some ⟨b, 2, none⟩), .agg #[.slice a1 n1 c1, .slice a2 n2 c2], .pointer (some ⟨b, 0, none⟩), .pointer (some ⟨b, 0, none⟩), .pointer (some ⟨b, 4, none⟩), .bool fd], defers := [] } w) : (Code.region 8 CRPeaksOPS true).wp Tryd.prog Q { tmps := #[u0, u1, u2, u3, u4, u5, u6, u7, .pointer (some ⟨bz, 0, none⟩), u9, u10, u11, u12, u13, .pointer (some ⟨b, 0, none⟩), u15, u16, u17, u18, u19, u20, u21, u22, u23, u24, u25, u26, u27, u28, u29, u30, u31, u32, u33, u34, u35, u36, u37, u38, u39, u40, u41, u42, u43, u44, u45, u46, u47, u48, u49, u50, u51, u52, u53, u54, u55, u56, u57, u58, u59, u60, u61, u62, u63], defers := [] } W := by
  have kst8 : ∀ (w : World), (P2 w) → wpAnyH Tryd.prog .any CRPeaksOPS Q (fun w : World => w.cell? ⟨b, 2, none⟩ = some (.slice a1 n1 c1) ∧ w.cell? ⟨b, 3, none⟩ = some (.slice a2 n2 c2) ∧ w.cell? ⟨b, 4, none⟩ = some (.bool fd)) 0 #[true, true, true, true, true, true, true, true, true, true] { tmps := #[u0, u1, u2, u3, u4, u5, u6, u7, .pointer (some ⟨bz, 0, none⟩), .bool fd, u10, u11, u12, u13, .pointer (some ⟨b, 0, none⟩), u15, u16, u17, u18, u19, u20, u21, u22, u23, u24, u25, u26, u27, u28, u29, u30, u31, u32, u33, u34, u35, u36, u37, u38, u39, u40, u41, u42, u43, u44, u45, u46, u47, u48, u49, u50, u51, u52, u53, u54, u55, .pointer (some ⟨b, 0, none⟩), .pointer (some ⟨b, 0, none⟩), .pointer (some ⟨b, 2, none⟩), .agg #[.slice a1 n1 c1, .slice a2 n2 c2], .pointer (some ⟨b, 0, none⟩), .pointer (some ⟨b, 0, none⟩), .pointer (some ⟨b, 4, none⟩), .bool fd], defers := [] } w := fun  w hp => by
    exact wpAnyH_done (by kernel_rfl) (hfin  w hp) _
  have ekst_8 : ∀ (w : World), (P2 w) → wpAnyH Tryd.prog .any CRPeaksOPS Q (fun w : World => w.cell? ⟨b, 2, none⟩ = some (.slice a1 n1 c1) ∧ w.cell? ⟨b, 3, none⟩ = some (.slice a2 n2 c2) ∧ w.cell? ⟨b, 4, none⟩ = some (.bool fd)) 1 #[true, true, true, true, true, true, true, true, true, false] { tmps := #[u0, u1, u2, u3, u4, u5, u6, u7, .pointer (some ⟨bz, 0, none⟩), u9, u10, u11, u12, u13, .pointer (some ⟨b, 0, none⟩), u15, u16, u17, u18, u19, u20, u21, u22, u23, u24, u25, u26, u27, u28, u29, u30, u31, u32, u33, u34, u35, u36, u37, u38, u39, u40, u41, u42, u43, u44, u45, u46, u47, u48, u49, u50, u51, u52, u53, u54, u55, .pointer (some ⟨b, 0, none⟩), .pointer (some ⟨b, 0, none⟩), .pointer (some ⟨b, 2, none⟩), .agg #[.slice a1 n1 c1, .slice a2 n2 c2], .pointer (some ⟨b, 0, none⟩), .pointer (some ⟨b, 0, none⟩), .pointer (some ⟨b, 4, none⟩), .bool fd], defers := [] } w := fun  w hp => by
    have hww : (fun w : World => w.cell? ⟨b, 2, none⟩ = some (.slice a1 n1 c1) ∧ w.cell? ⟨b, 3, none⟩ = some (.slice a2 n2 c2) ∧ w.cell? ⟨b, 4, none⟩ = some (.bool fd)) w := t2 _ hp
    have last := kst8  w hp
    refine wpAnyH_take (i := 9) (oi := { dst := some 9, op := Op.assign (Operand.tmp 63), type := 4, pos := "clash.go:29", after := #[{ on := 7, ground := Ground.data }, { on := 8, ground := Ground.chain }, { on := 0, ground := Ground.phase }, { on := 1, ground := Ground.phase }, { on := 2, ground := Ground.phase }, { on := 3, ground := Ground.phase }, { on := 4, ground := Ground.phase }, { on := 5, ground := Ground.phase }, { on := 6, ground := Ground.phase }, { on := 7, ground := Ground.phase }, { on := 8, ground := Ground.phase }], guard := none }) (v := .bool fd) rfl (by kernel_rfl) (by kernel_rfl) (by kernel_rfl) (fun _ _ _ h => hQ _ _ _ _ _ h) (Yields.yieldsIf (Or.inl ⟨by rfl, fun W => by go_simp⟩)) hww ?_
    simp only [Act.put, List.setIfInBounds_toArray, List.set_cons_zero, List.set_cons_succ]
    exact last
  have kst : ∀ (w : World), (P0 w) → wpAnyH Tryd.prog .any CRPeaksOPS Q (fun w : World => w.cell? ⟨b, 2, none⟩ = some (.slice a1 n1 c1) ∧ w.cell? ⟨b, 3, none⟩ = some (.slice a2 n2 c2) ∧ w.cell? ⟨b, 4, none⟩ = some (.bool fd)) 2 #[true, true, true, true, true, true, true, true, false, false] { tmps := #[u0, u1, u2, u3, u4, u5, u6, u7, .pointer (some ⟨bz, 0, none⟩), u9, u10, u11, u12, u13, .pointer (some ⟨b, 0, none⟩), u15, u16, u17, u18, u19, u20, u21, u22, u23, u24, u25, u26, u27, u28, u29, u30, u31, u32, u33, u34, u35, u36, u37, u38, u39, u40, u41, u42, u43, u44, u45, u46, u47, u48, u49, u50, u51, u52, u53, u54, u55, .pointer (some ⟨b, 0, none⟩), .pointer (some ⟨b, 0, none⟩), .pointer (some ⟨b, 2, none⟩), .agg #[.slice a1 n1 c1, .slice a2 n2 c2], .pointer (some ⟨b, 0, none⟩), .pointer (some ⟨b, 0, none⟩), .pointer (some ⟨b, 4, none⟩), .bool fd], defers := [] } w := fun  w hp => by
    refine wpAnyH_ready (rs := [8]) (by kernel_rfl) (by simp) ?_
    refine AllReadyH.cons (o := { dst := none, op := Op.store 32 (Operand.tmp 8) (Operand.tmp 59), type := 0, pos := "clash.go:29", after := #[{ on := 3, ground := Ground.data }, { on := 0, ground := Ground.phase }, { on := 1, ground := Ground.phase }, { on := 2, ground := Ground.phase }, { on := 3, ground := Ground.phase }, { on := 4, ground := Ground.textOnly Departure.lateStores }, { on := 5, ground := Ground.textOnly Departure.lateStores }, { on := 6, ground := Ground.textOnly Departure.lateStores }, { on := 7, ground := Ground.textOnly Departure.lateStores }], guard := none }) rfl (fun KQ hKQ => ?_) ?_
    · exact (have x0 : w.cell? ⟨bz, 0, none⟩ = some (.slice none 0 0) := (kz w hp).cell 0; have x1 : w.cell? ⟨bz, 1, none⟩ = some (.slice none 0 0) := (kz w hp).cell 1; have f0 := (kz w hp).frozen 0; have f1 := (kz w hp).frozen 1; step_skip (by rfl) (by go_simp) (have hp : (fun (w : World) => (P2 w))  _ := st w hp; hKQ.out _ _ (t2 _ hp) (fun _ => ekst_8  _ hp)))
    exact AllReadyH.nil
  have hp := h0
  have hww : (fun w : World => w.cell? ⟨b, 2, none⟩ = some (.slice a1 n1 c1) ∧ w.cell? ⟨b, 3, none⟩ = some (.slice a2 n2 c2) ∧ w.cell? ⟨b, 4, none⟩ = some (.bool fd)) W.drew := t0 _ hp
  have last := kst W.drew hp
  have z : wpAnyH Tryd.prog .any CRPeaksOPS Q (fun w : World => w.cell? ⟨b, 2, none⟩ = some (.slice a1 n1 c1) ∧ w.cell? ⟨b, 3, none⟩ = some (.slice a2 n2 c2) ∧ w.cell? ⟨b, 4, none⟩ = some (.bool fd)) 10 #[false, false, false, false, false, false, false, false, false, false] { tmps := #[u0, u1, u2, u3, u4, u5, u6, u7, .pointer (some ⟨bz, 0, none⟩), u9, u10, u11, u12, u13, .pointer (some ⟨b, 0, none⟩), u15, u16, u17, u18, u19, u20, u21, u22, u23, u24, u25, u26, u27, u28, u29, u30, u31, u32, u33, u34, u35, u36, u37, u38, u39, u40, u41, u42, u43, u44, u45, u46, u47, u48, u49, u50, u51, u52, u53, u54, u55, u56, u57, u58, u59, u60, u61, u62, u63], defers := [] } W.drew := by
    refine wpAnyH_take (i := 0) (oi := { dst := some 56, op := Op.move (Operand.tmp 14), type := 54, pos := "clash.go:29", after := #[], guard := none }) (v := .pointer (some ⟨b, 0, none⟩)) rfl (by kernel_rfl) (by kernel_rfl) (by kernel_rfl) (fun _ _ _ h => hQ _ _ _ _ _ h) (Yields.yieldsIf (Or.inl ⟨by rfl, fun W => by go_simp⟩)) hww ?_
    simp only [Act.put, List.setIfInBounds_toArray, List.set_cons_zero, List.set_cons_succ]
    refine wpAnyH_take (i := 1) (oi := { dst := some 57, op := Op.nilCheck (Operand.tmp 56), type := 0, pos := "clash.go:29", after := #[{ on := 0, ground := Ground.data }], guard := none }) (v := .pointer (some ⟨b, 0, none⟩)) rfl (by kernel_rfl) (by kernel_rfl) (by kernel_rfl) (fun _ _ _ h => hQ _ _ _ _ _ h) (Yields.yieldsIf (Or.inl ⟨by rfl, fun W => by go_simp⟩)) hww ?_
    simp only [Act.put, List.setIfInBounds_toArray, List.set_cons_zero, List.set_cons_succ]
    refine wpAnyH_take (i := 2) (oi := { dst := some 58, op := Op.fieldAddr 59 (Operand.tmp 57) 2, type := 0, pos := "clash.go:29", after := #[{ on := 1, ground := Ground.data }], guard := none }) (v := .pointer (some ⟨b, 2, none⟩)) rfl (by kernel_rfl) (by kernel_rfl) (by kernel_rfl) (fun _ _ _ h => hQ _ _ _ _ _ h) (Yields.yieldsIf (Or.inl ⟨by rfl, fun W => by go_simp⟩)) hww ?_
    simp only [Act.put, List.setIfInBounds_toArray, List.set_cons_zero, List.set_cons_succ]
    refine wpAnyH_take (i := 3) (oi := { dst := some 59, op := Op.load 32 (Operand.tmp 58), type := 32, pos := "clash.go:29", after := #[{ on := 2, ground := Ground.data }], guard := none }) (v := .agg #[.slice a1 n1 c1, .slice a2 n2 c2]) rfl (by kernel_rfl) (by kernel_rfl) (by kernel_rfl) (fun _ _ _ h => hQ _ _ _ _ _ h) (Or.inl ⟨by rfl, fun w hw => by have hx := hw.1; have hy := hw.2.1; go_simp⟩) hww ?_
    simp only [Act.put, List.setIfInBounds_toArray, List.set_cons_zero, List.set_cons_succ]
    refine wpAnyH_take (i := 4) (oi := { dst := some 60, op := Op.move (Operand.tmp 14), type := 54, pos := "clash.go:29", after := #[{ on := 8, ground := Ground.gcOnly Departure.lateStores }], guard := none }) (v := .pointer (some ⟨b, 0, none⟩)) rfl (by kernel_rfl) (by kernel_rfl) (by kernel_rfl) (fun _ _ _ h => hQ _ _ _ _ _ h) (Yields.yieldsIf (Or.inl ⟨by rfl, fun W => by go_simp⟩)) hww ?_
    simp only [Act.put, List.setIfInBounds_toArray, List.set_cons_zero, List.set_cons_succ]
    refine wpAnyH_take (i := 5) (oi := { dst := some 61, op := Op.nilCheck (Operand.tmp 60), type := 0, pos := "clash.go:29", after := #[{ on := 4, ground := Ground.data }, { on := 8, ground := Ground.gcOnly Departure.lateStores }], guard := none }) (v := .pointer (some ⟨b, 0, none⟩)) rfl (by kernel_rfl) (by kernel_rfl) (by kernel_rfl) (fun _ _ _ h => hQ _ _ _ _ _ h) (Yields.yieldsIf (Or.inl ⟨by rfl, fun W => by go_simp⟩)) hww ?_
    simp only [Act.put, List.setIfInBounds_toArray, List.set_cons_zero, List.set_cons_succ]
    refine wpAnyH_take (i := 6) (oi := { dst := some 62, op := Op.fieldAddr 59 (Operand.tmp 61) 3, type := 0, pos := "clash.go:29", after := #[{ on := 5, ground := Ground.data }, { on := 8, ground := Ground.gcOnly Departure.lateStores }], guard := none }) (v := .pointer (some ⟨b, 4, none⟩)) rfl (by kernel_rfl) (by kernel_rfl) (by kernel_rfl) (fun _ _ _ h => hQ _ _ _ _ _ h) (Yields.yieldsIf (Or.inl ⟨by rfl, fun W => by go_simp⟩)) hww ?_
    simp only [Act.put, List.setIfInBounds_toArray, List.set_cons_zero, List.set_cons_succ]
    refine wpAnyH_take (i := 7) (oi := { dst := some 63, op := Op.load 4 (Operand.tmp 62), type := 4, pos := "clash.go:29", after := #[{ on := 6, ground := Ground.data }, { on := 8, ground := Ground.gcOnly Departure.lateStores }], guard := none }) (v := .bool fd) rfl (by kernel_rfl) (by kernel_rfl) (by kernel_rfl) (fun _ _ _ h => hQ _ _ _ _ _ h) (Or.inl ⟨by rfl, fun w hw => by have hx := hw.2.2; go_simp⟩) hww ?_
    simp only [Act.put, List.setIfInBounds_toArray, List.set_cons_zero, List.set_cons_succ]
    exact last
  exact wp_region_held_drew (S := (fun w : World => w.cell? ⟨b, 2, none⟩ = some (.slice a1 n1 c1) ∧ w.cell? ⟨b, 3, none⟩ = some (.slice a2 n2 c2) ∧ w.cell? ⟨b, 4, none⟩ = some (.bool fd))) (by kernel_rfl) hww (fun _ => z)
end Go.Proofs.YtbmjoiiagldklaaDoor

/- clash's meet, and what a call hands back. -/
namespace Go.Proofs.YtbmjoiiagldklaaDoor
open Go.RowKit
set_option maxRecDepth 100000

theorem built_met (d : Int) (g : Nat) : Tryd.prog.built 59 [(0, .int .i64 d), (1, .map (some g))] = some #[.int .i64 d, .map (some g), .slice none 0 0, .slice none 0 0, .bool false] := by kernel_rfl
/-- what meet answers: nothing has been met. -/
theorem meet_ok (d : Int) (w : World) (ok : Nat → Prop) : Calls Tryd.prog 23 #[.int .i64 d] w fun e w' => e = .returned (.pointer (some ⟨w.heap.size + 1, 0, none⟩)) ∧ MET w' w.heap.size w'.heap.size ok (w.heap.size + 1) w.heap.size d [] ∧ Below w.heap.size w w' := by
  have hmk : (Instr.makeMap 57 none).run Tryd.prog w = .ok (.map (some w.heap.size)) (w.alloc (.map #[] 0)) := rfl
  have hb : ∀ W, (Instr.build 59 #[(0, .int .i64 d), (1, .map (some w.heap.size))]).run Tryd.prog W = .ok (.agg #[.int .i64 d, .map (some w.heap.size), .slice none 0 0, .slice none 0 0, .bool false]) W := fun W => run_build (P := Tryd.prog) W 59 #[(0, .int .i64 d), (1, .map (some w.heap.size))] _ (built_met d w.heap.size)
  go_enter Tryd.func23, Tryd.ntmps23
  go_wp2
  go_ret
  have hh : Has ((w.alloc (.map #[] 0)).alloc (.cells #[.int .i64 d, .map (some w.heap.size), .slice none 0 0, .slice none 0 0, .bool false] 59)) (w.heap.size + 1) #[.int .i64 d, .map (some w.heap.size), .slice none 0 0, .slice none 0 0, .bool false] 59 := Has.at _ _ _ (by simp)
  refine ⟨rfl, ⟨⟨by omega, by simp⟩, ⟨Nat.le_refl _, by simp; omega⟩, by omega, Nat.le_refl _, ⟨_, _, _, _, _, _, hh, fun s t e => by simp [CLS] at e⟩, _, (World.ownsMap_made w _ _ _).alloc _, fun h _ _ => by simp [Maps.has], fun h t _ e => by simp [FST] at e⟩, ((Below.refl _ _).alloc (Nat.le_refl _) _).alloc (by simp) _⟩
/-- what one of clash's calls answers: nothing, or these two texts, each in memory of its own. -/
def CLASHED (w : World) (X : Option (List Nat × List Nat)) (e : Ending) (w' : World) : Prop := Below w.heap.size w w' ∧ match X with
  | none => e = .returned (.tuple #[.agg #[.slice none 0 0, .slice none 0 0], .bool false])
  | some (s, t) => ∃ gA cA gB cB, e = .returned (.tuple #[.agg #[.slice (some ⟨gA, 0, none⟩) s.length cA, .slice (some ⟨gB, 0, none⟩) t.length cB], .bool true]) ∧ OWNT w' w.heap.size gA cA s ∧ OWNT w' w.heap.size gB cB t ∧ gA ≠ gB
/-- the end of a call that has found something. -/
theorem MET.told {w0 w w' : World} {base top b g bz : Nat} {ok : Nat → Prop} {d : Int} {T : List (List Nat)} (h : MET w base top ok b g d T) {a1 : Option Addr} {n1 c1 : Nat} {a2 : Option Addr} {n2 c2 : Nat} {fd : Bool} (hB : Has w b #[.int .i64 d, .map (some g), .slice a1 n1 c1, .slice a2 n2 c2, .bool fd] 59) {s t : List Nat} (hc : CLS d T = some (s, t)) (hbase : w0.heap.size ≤ base) (hw : Below w0.heap.size w0 w') (hk : ∀ k, k ≠ bz → w'.heap[k]? = w.heap[k]?) (hz : ∀ k, ok k → k ≠ bz) : fd = true ∧ CLASHED w0 (some (s, t)) (.returned (.tuple #[.agg #[.slice a1 n1 c1, .slice a2 n2 c2], .bool fd])) w' := by
  obtain ⟨a3, n3, c3, a4, n4, c4, h1, h2⟩ := h.blk
  have e : some (Obj.cells #[.int .i64 d, .map (some g), .slice a1 n1 c1, .slice a2 n2 c2, .bool fd] 59) = some (Obj.cells #[.int .i64 d, .map (some g), .slice a3 n3 c3, .slice a4 n4 c4, .bool (CLS d T).isSome] 59) := hB.symm.trans h1
  simp only [Option.some.injEq, Obj.cells.injEq, Array.mk.injEq, List.cons.injEq, Value.slice.injEq, Value.bool.injEq, and_true, true_and] at e
  obtain ⟨⟨r1, r2, r3⟩, ⟨r4, r5, r6⟩, r7⟩ := e
  rw [hc] at r7
  obtain ⟨gA, cA, gB, cB, e1, e2, o1, o2, n1', l1, l2, -⟩ := h2 s t hc
  simp only [Value.slice.injEq] at e1 e2
  refine ⟨r7, hw, gA, cA, gB, cB, ?_, ?_, ?_, n1'⟩
  · rw [r1, r2, r3, r4, r5, r6, r7, e1.1, e1.2.1, e1.2.2, e2.1, e2.2.1, e2.2.2]
    rfl
  · have := o1.at (hk gA (hz gA l1.2))
    exact ⟨own_mono this.1 hbase, this.2⟩
  · have := o2.at (hk gB (hz gB l2.2))
    exact ⟨own_mono this.1 hbase, this.2⟩
end Go.Proofs.YtbmjoiiagldklaaDoor

/- What two calls tell, held against the law's fair. -/
namespace Go.Proofs.YtbmjoiiagldklaaDoor
open Go.RowKit
set_option maxRecDepth 100000

/-- what two calls of Peaks bring: the same, twice. -/
structure TOLD2 (w : World) (B9 : Nat) (X : Option (List Nat × List Nat)) (C0 C1 D0 D1 : Value) (o1 o2 : Bool) : Prop where
  no : X = none → C0 = .slice none 0 0 ∧ C1 = .slice none 0 0 ∧ D0 = .slice none 0 0 ∧ D1 = .slice none 0 0 ∧ o1 = false ∧ o2 = false
  yes : ∀ s t, X = some (s, t) → o1 = true ∧ o2 = true ∧ ∃ gA cA gB cB gC cC gD cD, C0 = .slice (some ⟨gA, 0, none⟩) s.length cA ∧ C1 = .slice (some ⟨gB, 0, none⟩) t.length cB ∧ D0 = .slice (some ⟨gC, 0, none⟩) s.length cC ∧ D1 = .slice (some ⟨gD, 0, none⟩) t.length cD ∧ OWNT w B9 gA cA s ∧ OWNT w B9 gB cB t ∧ OWNT w B9 gC cC s ∧ OWNT w B9 gD cD t ∧ (gA ≠ gB ∧ gA ≠ gC ∧ gA ≠ gD ∧ gB ≠ gC ∧ gB ≠ gD ∧ gC ≠ gD)
theorem TOLD2.below {w w' : World} {B9 : Nat} {X : Option (List Nat × List Nat)} {C0 C1 D0 D1 : Value} {o1 o2 : Bool} (h : TOLD2 w B9 X C0 C1 D0 D1 o1 o2) (hb : Below w.heap.size w w') : TOLD2 w' B9 X C0 C1 D0 D1 o1 o2 := by
  refine ⟨h.no, fun s t e => ?_⟩
  obtain ⟨e1, e2, gA, cA, gB, cB, gC, cC, gD, cD, q1, q2, q3, q4, r1, r2, r3, r4, r5⟩ := h.yes s t e
  exact ⟨e1, e2, gA, cA, gB, cB, gC, cC, gD, cD, q1, q2, q3, q4, r1.at (hb.block _ r1.lt.2), r2.at (hb.block _ r2.lt.2), r3.at (hb.block _ r3.lt.2), r4.at (hb.block _ r4.lt.2), r5⟩
/-- the first answer. -/
def TOLD1 (w : World) (B9 : Nat) (X : Option (List Nat × List Nat)) (C0 C1 : Value) (o1 : Bool) : Prop := (X = none → C0 = .slice none 0 0 ∧ C1 = .slice none 0 0 ∧ o1 = false) ∧ ∀ s t, X = some (s, t) → o1 = true ∧ ∃ gA cA gB cB, C0 = .slice (some ⟨gA, 0, none⟩) s.length cA ∧ C1 = .slice (some ⟨gB, 0, none⟩) t.length cB ∧ OWNT w B9 gA cA s ∧ OWNT w B9 gB cB t ∧ gA ≠ gB
theorem TOLD1.below {w w' : World} {B9 : Nat} {X : Option (List Nat × List Nat)} {C0 C1 : Value} {o1 : Bool} (h : TOLD1 w B9 X C0 C1 o1) (hb : Below w.heap.size w w') : TOLD1 w' B9 X C0 C1 o1 := by
  refine ⟨h.1, fun s t e => ?_⟩
  obtain ⟨e1, gA, cA, gB, cB, q1, q2, r1, r2, r5⟩ := h.2 s t e
  exact ⟨e1, gA, cA, gB, cB, q1, q2, r1.at (hb.block _ r1.lt.2), r2.at (hb.block _ r2.lt.2), r5⟩
theorem CLASHED.told {w w' : World} {X : Option (List Nat × List Nat)} {e : Ending} (h : CLASHED w X e w') : ∃ a1 n1 c1 a2 n2 c2 o, e = .returned (.tuple #[.agg #[.slice a1 n1 c1, .slice a2 n2 c2], .bool o]) ∧ TOLD1 w' w.heap.size X (.slice a1 n1 c1) (.slice a2 n2 c2) o ∧ Below w.heap.size w w' := by
  obtain ⟨hb, h⟩ := h
  cases X with
  | none => exact ⟨_, _, _, _, _, _, _, h, ⟨fun _ => ⟨rfl, rfl, rfl⟩, fun s t e => by cases e⟩, hb⟩
  | some x =>
    obtain ⟨s, t⟩ := x
    obtain ⟨gA, cA, gB, cB, h1, h2, h3, h4⟩ := h
    refine ⟨_, _, _, _, _, _, _, h1, ⟨(fun e => by cases e), fun s' t' e => ?_⟩, hb⟩
    cases e
    exact ⟨rfl, gA, cA, gB, cB, rfl, rfl, h2, h3, h4⟩
theorem TOLD1.two {w w' w2 : World} {B9 : Nat} {X : Option (List Nat × List Nat)} {C0 C1 D0 D1 : Value} {o1 o2 : Bool} (h : TOLD1 w B9 X C0 C1 o1) (hb : Below w.heap.size w w') (hs : w.heap.size ≤ w2.heap.size) (h2 : TOLD1 w' w2.heap.size X D0 D1 o2) (h9 : B9 ≤ w.heap.size) : TOLD2 w' B9 X C0 C1 D0 D1 o1 o2 := by
  refine ⟨fun e => ?_, fun s t e => ?_⟩
  · obtain ⟨a, b, c⟩ := h.1 e
    obtain ⟨a', b', c'⟩ := h2.1 e
    exact ⟨a, b, a', b', c, c'⟩
  · obtain ⟨e1, gA, cA, gB, cB, q1, q2, r1, r2, r5⟩ := h.2 s t e
    obtain ⟨e1', gC, cC, gD, cD, q1', q2', r1', r2', r5'⟩ := h2.2 s t e
    have l1 := r1.lt
    have l2 := r2.lt
    have l3 := r1'.lt
    have l4 := r2'.lt
    refine ⟨e1, e1', gA, cA, gB, cB, gC, cC, gD, cD, q1, q2, q1', q2', r1.at (hb.block _ r1.lt.2), r2.at (hb.block _ r2.lt.2), ⟨own_mono r1'.1 (by omega), r1'.2⟩, ⟨own_mono r2'.1 (by omega), r2'.2⟩, r5, by omega, by omega, by omega, by omega, r5'⟩
/-- fair of what two calls bring, where it should be told just if there is something. -/
theorem fair_told (d : Int) (B9 : Nat) (X : Option (List Nat × List Nat)) (C0 C1 D0 D1 : Value) (o1 o2 : Bool) (w : World) (h9 : B9 ≤ w.heap.size) (h : TOLD2 w B9 X C0 C1 D0 D1 o1 o2) (hX : ∀ s t, X = some (s, t) → s ≠ t ∧ HSHT d s = HSHT d t) : Calls Tryd.prog 8 #[.int .i64 d, .agg #[C0, C1], .agg #[D0, D1], .bool o1, .bool o2, .bool X.isSome] w fun e w' => e = .returned (.bool true) ∧ Below B9 w w' := by
  cases X with
  | none =>
    obtain ⟨rfl, rfl, rfl, rfl, rfl, rfl⟩ := h.no rfl
    refine (fair_none d w).mono ?_
    rintro e w' ⟨rfl, hb⟩
    exact ⟨rfl, hb.mono h9⟩
  | some x =>
    obtain ⟨s, t⟩ := x
    obtain ⟨rfl, rfl, gA, cA, gB, cB, gC, cC, gD, cD, rfl, rfl, rfl, rfl, r1, r2, r3, r4, r5⟩ := h.yes s t rfl
    exact fair_some d B9 s t gA cA gB cB gC cC gD cD w h9 r1 r2 r3 r4 r5 (HOLDS_of (hX s t rfl).1 (hX s t rfl).2)
end Go.Proofs.YtbmjoiiagldklaaDoor
