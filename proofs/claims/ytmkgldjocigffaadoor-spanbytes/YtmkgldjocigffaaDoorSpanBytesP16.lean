/- Texts of SpanBytes, one behind the other: SpanProofRegion, ManyIndex, ManyNeedE, ManyWritten, ManyWhole, ManyDecodePlain, ManyHash, ManyHashApp, ManyReadRegion, ManyNeedD, ManyRead, ManyProofCall. -/
import Derived.Laws.CopyOwn
import Derived.Deep.RegionLaw
import Derived.Test.YtmkgldjocigffaaDoorSpanBytesP15
/- The region of span.reader's proof that draws its order. -/
namespace Go.Proofs.YtmkgldjocigffaaDoor
open Go.RowKit
set_option maxRecDepth 100000

theorem store_num20 {w : World} {b o : Nat} {x : Int} (h : ∃ u, w.cell? ⟨b, o, none⟩ = some u) (hf : w.frozen? ⟨b, o, none⟩ = false) : (Instr.storeAt 22 (.pointer (some ⟨b, o, none⟩)) (.int .u64 x)).run Tryd.prog w = .ok () (w.setCell ⟨b, o, none⟩ (.int .u64 x)) := by
  obtain ⟨u, h⟩ := h
  go_simp
def SPR5OPS : Array Oper := #[{ dst := some 14, op := Op.fieldAddr 37 (Operand.tmp 3) 1, type := 0, pos := "bytes.go:38", after := #[], guard := none }, { dst := some 15, op := Op.load 22 (Operand.tmp 14), type := 22, pos := "bytes.go:38", after := #[{ on := 0, ground := Ground.data }], guard := none }, { dst := some 16, op := Op.move (Operand.tmp 0), type := 87, pos := "bytes.go:38", after := #[], guard := none }, { dst := some 17, op := Op.fieldAddr 37 (Operand.tmp 3) 0, type := 0, pos := "bytes.go:38", after := #[], guard := none }, { dst := some 18, op := Op.load 22 (Operand.tmp 17), type := 22, pos := "bytes.go:38", after := #[{ on := 3, ground := Ground.data }], guard := none }, { dst := some 19, op := Op.fieldAddr 37 (Operand.tmp 3) 1, type := 0, pos := "bytes.go:38", after := #[], guard := none }, { dst := some 20, op := Op.load 22 (Operand.tmp 19), type := 22, pos := "bytes.go:38", after := #[{ on := 5, ground := Ground.data }], guard := none }, { dst := some 21, op := Op.binOp BinOp.sub 22 (Operand.tmp 18) (Operand.tmp 20) 22, type := 22, pos := "bytes.go:38", after := #[{ on := 4, ground := Ground.data }, { on := 6, ground := Ground.data }], guard := none }, { dst := some 22, op := Op.call { callee := Callee.value (Operand.func 60), args := #[Operand.tmp 16, Operand.tmp 21, Operand.const (Value.int IntKind.i64 32)], argTypes := #[87, 22, 24] }, type := 22, pos := "bytes.go:38", after := #[{ on := 2, ground := Ground.data }, { on := 7, ground := Ground.data }], guard := none }, { dst := some 23, op := Op.binOp BinOp.add 22 (Operand.tmp 15) (Operand.tmp 22) 22, type := 22, pos := "bytes.go:38", after := #[{ on := 1, ground := Ground.data }, { on := 8, ground := Ground.data }], guard := none }, { dst := some 24, op := Op.fieldAddr 37 (Operand.tmp 3) 2, type := 0, pos := "bytes.go:38", after := #[{ on := 0, ground := Ground.phase }, { on := 1, ground := Ground.phase }, { on := 2, ground := Ground.phase }, { on := 3, ground := Ground.phase }, { on := 4, ground := Ground.phase }, { on := 5, ground := Ground.phase }, { on := 6, ground := Ground.phase }, { on := 7, ground := Ground.phase }, { on := 8, ground := Ground.phase }, { on := 9, ground := Ground.phase }], guard := none }, { dst := none, op := Op.store 22 (Operand.tmp 24) (Operand.tmp 23), type := 0, pos := "bytes.go:38", after := #[{ on := 10, ground := Ground.data }, { on := 9, ground := Ground.data }, { on := 8, ground := Ground.chain }, { on := 0, ground := Ground.phase }, { on := 1, ground := Ground.phase }, { on := 2, ground := Ground.phase }, { on := 3, ground := Ground.phase }, { on := 4, ground := Ground.phase }, { on := 5, ground := Ground.phase }, { on := 6, ground := Ground.phase }, { on := 7, ground := Ground.phase }, { on := 8, ground := Ground.phase }, { on := 9, ground := Ground.phase }], guard := none }]
set_option maxHeartbeats 2000000 in
theorem sproof5 {Q : Exit → Act → World → Prop} {u1 u2 u4 u5 u6 u7 u8 u9 u10 u11 u12 u13 u14 u15 u16 u17 u18 u19 u20 u21 u22 u23 u24 u25 u26 u27 u28 u29 u30 u31 u32 u33 u34 : Value} (W : World) (rb pb SZ F D : Nat) (P0 : World → Prop) (P1 P2 : Nat → World → Prop) (h0 : P0 W.drew) (t0 : ∀ w, P0 w → (fun w : World => w.cell? ⟨pb, 0, none⟩ = some (.int .u64 (SZ : Int)) ∧ w.cell? ⟨pb, 1, none⟩ = some (.int .u64 (F : Int))) w) (t1 : ∀ x w, P1 x w → (fun w : World => w.cell? ⟨pb, 0, none⟩ = some (.int .u64 (SZ : Int)) ∧ w.cell? ⟨pb, 1, none⟩ = some (.int .u64 (F : Int))) w) (t2 : ∀ x w, P2 x w → (fun w : World => w.cell? ⟨pb, 0, none⟩ = some (.int .u64 (SZ : Int)) ∧ w.cell? ⟨pb, 1, none⟩ = some (.int .u64 (F : Int))) w) (hle : ∀ x w, P1 x w → x ≤ D) (e1 : IntKind.u64.wrap ((SZ : Int) - (F : Int)) = (D : Int)) (e2 : ∀ x : Nat, x ≤ D → IntKind.u64.wrap ((F : Int) + (x : Int)) = ((F + x : Nat) : Int))
    (c1 : ∀ w, P0 w → Calls Tryd.prog 60 #[.pointer (some ⟨rb, 0, none⟩), .int .u64 (D : Int), .int .i64 32] w fun e w' => ∃ x : Nat, e = .returned (.int .u64 (x : Int)) ∧ P1 x w')
    (m1 : ∀ x w, P1 x w → (∃ u, w.cell? ⟨pb, 2, none⟩ = some u) ∧ w.frozen? ⟨pb, 2, none⟩ = false) (st : ∀ x w, P1 x w → P2 x (w.setCell ⟨pb, 2, none⟩ (.int .u64 ((F + x : Nat) : Int)))) (hQ : ∀ c (a : Act) (t : Tmp) (v : Value) w, Q (.panic c) (a.put (some t) v) w → Q (.panic c) a w)
    (hfin : ∀ (x : Nat) (w : World), (P2 x w) → Q .normal { tmps := #[.pointer (some ⟨rb, 0, none⟩), u1, u2, .pointer (some ⟨pb, 0, none⟩), u4, u5, u6, u7, u8, u9, u10, u11, u12, u13, .pointer (some ⟨pb, 1, none⟩), .int .u64 (F : Int), .pointer (some ⟨rb, 0, none⟩), .pointer (some ⟨pb, 0, none⟩), .int .u64 (SZ : Int), .pointer (some ⟨pb, 1, none⟩), .int .u64 (F : Int), .int .u64 (D : Int), .int .u64 (x : Int), .int .u64 ((F + x : Nat) : Int), .pointer (some ⟨pb, 2, none⟩), u25, u26, u27, u28, u29, u30, u31, u32, u33, u34], defers := [] } w) : (Code.region 5 SPR5OPS true).wp Tryd.prog Q { tmps := #[.pointer (some ⟨rb, 0, none⟩), u1, u2, .pointer (some ⟨pb, 0, none⟩), u4, u5, u6, u7, u8, u9, u10, u11, u12, u13, u14, u15, u16, u17, u18, u19, u20, u21, u22, u23, u24, u25, u26, u27, u28, u29, u30, u31, u32, u33, u34], defers := [] } W := by
  have kst8_11 : ∀ (x : Nat) (w : World), (P2 x w) → wpAnyH Tryd.prog .any SPR5OPS Q (fun w : World => w.cell? ⟨pb, 0, none⟩ = some (.int .u64 (SZ : Int)) ∧ w.cell? ⟨pb, 1, none⟩ = some (.int .u64 (F : Int))) 0 #[true, true, true, true, true, true, true, true, true, true, true, true] { tmps := #[.pointer (some ⟨rb, 0, none⟩), u1, u2, .pointer (some ⟨pb, 0, none⟩), u4, u5, u6, u7, u8, u9, u10, u11, u12, u13, .pointer (some ⟨pb, 1, none⟩), .int .u64 (F : Int), .pointer (some ⟨rb, 0, none⟩), .pointer (some ⟨pb, 0, none⟩), .int .u64 (SZ : Int), .pointer (some ⟨pb, 1, none⟩), .int .u64 (F : Int), .int .u64 (D : Int), .int .u64 (x : Int), .int .u64 ((F + x : Nat) : Int), .pointer (some ⟨pb, 2, none⟩), u25, u26, u27, u28, u29, u30, u31, u32, u33, u34], defers := [] } w := fun x w hp => by
    exact wpAnyH_done (by kernel_rfl) (hfin x w hp) _
  have kst8 : ∀ (x : Nat) (w : World), (P1 x w) → wpAnyH Tryd.prog .any SPR5OPS Q (fun w : World => w.cell? ⟨pb, 0, none⟩ = some (.int .u64 (SZ : Int)) ∧ w.cell? ⟨pb, 1, none⟩ = some (.int .u64 (F : Int))) 1 #[true, true, true, true, true, true, true, true, true, true, true, false] { tmps := #[.pointer (some ⟨rb, 0, none⟩), u1, u2, .pointer (some ⟨pb, 0, none⟩), u4, u5, u6, u7, u8, u9, u10, u11, u12, u13, .pointer (some ⟨pb, 1, none⟩), .int .u64 (F : Int), .pointer (some ⟨rb, 0, none⟩), .pointer (some ⟨pb, 0, none⟩), .int .u64 (SZ : Int), .pointer (some ⟨pb, 1, none⟩), .int .u64 (F : Int), .int .u64 (D : Int), .int .u64 (x : Int), .int .u64 ((F + x : Nat) : Int), .pointer (some ⟨pb, 2, none⟩), u25, u26, u27, u28, u29, u30, u31, u32, u33, u34], defers := [] } w := fun x w hp => by
    refine wpAnyH_ready (rs := [11]) (by kernel_rfl) (by simp) ?_
    refine AllReadyH.cons (o := { dst := none, op := Op.store 22 (Operand.tmp 24) (Operand.tmp 23), type := 0, pos := "bytes.go:38", after := #[{ on := 10, ground := Ground.data }, { on := 9, ground := Ground.data }, { on := 8, ground := Ground.chain }, { on := 0, ground := Ground.phase }, { on := 1, ground := Ground.phase }, { on := 2, ground := Ground.phase }, { on := 3, ground := Ground.phase }, { on := 4, ground := Ground.phase }, { on := 5, ground := Ground.phase }, { on := 6, ground := Ground.phase }, { on := 7, ground := Ground.phase }, { on := 8, ground := Ground.phase }, { on := 9, ground := Ground.phase }], guard := none }) rfl (fun KQ hKQ => ?_) ?_
    · exact step_skip rfl (run_skip (store_num20 (m1 _ _ hp).1 (m1 _ _ hp).2)) (have hp : (fun (x : Nat) (w : World) => (P2 x w)) x _ := st _ _ hp; hKQ.out _ _ (t2 _ _ hp) (fun _ => kst8_11 x _ hp))
    exact AllReadyH.nil
  have ekst_8 : ∀ (x : Nat) (w : World), (P1 x w) → wpAnyH Tryd.prog .any SPR5OPS Q (fun w : World => w.cell? ⟨pb, 0, none⟩ = some (.int .u64 (SZ : Int)) ∧ w.cell? ⟨pb, 1, none⟩ = some (.int .u64 (F : Int))) 3 #[true, true, true, true, true, true, true, true, true, false, false, false] { tmps := #[.pointer (some ⟨rb, 0, none⟩), u1, u2, .pointer (some ⟨pb, 0, none⟩), u4, u5, u6, u7, u8, u9, u10, u11, u12, u13, .pointer (some ⟨pb, 1, none⟩), .int .u64 (F : Int), .pointer (some ⟨rb, 0, none⟩), .pointer (some ⟨pb, 0, none⟩), .int .u64 (SZ : Int), .pointer (some ⟨pb, 1, none⟩), .int .u64 (F : Int), .int .u64 (D : Int), .int .u64 (x : Int), u23, u24, u25, u26, u27, u28, u29, u30, u31, u32, u33, u34], defers := [] } w := fun x w hp => by
    have hww : (fun w : World => w.cell? ⟨pb, 0, none⟩ = some (.int .u64 (SZ : Int)) ∧ w.cell? ⟨pb, 1, none⟩ = some (.int .u64 (F : Int))) w := t1 _ _ hp
    have last := kst8 x w hp
    refine wpAnyH_take (i := 9) (oi := { dst := some 23, op := Op.binOp BinOp.add 22 (Operand.tmp 15) (Operand.tmp 22) 22, type := 22, pos := "bytes.go:38", after := #[{ on := 1, ground := Ground.data }, { on := 8, ground := Ground.data }], guard := none }) (v := .int .u64 ((F + x : Nat) : Int)) rfl (by kernel_rfl) (by kernel_rfl) (by kernel_rfl) (fun _ _ _ h => hQ _ _ _ _ _ h) (Or.inl ⟨by rfl, fun w hw => by have hx := e2 x (hle _ _ hp); go_simp⟩) hww ?_
    simp only [Act.put, List.setIfInBounds_toArray, List.set_cons_zero, List.set_cons_succ]
    refine wpAnyH_take (i := 10) (oi := { dst := some 24, op := Op.fieldAddr 37 (Operand.tmp 3) 2, type := 0, pos := "bytes.go:38", after := #[{ on := 0, ground := Ground.phase }, { on := 1, ground := Ground.phase }, { on := 2, ground := Ground.phase }, { on := 3, ground := Ground.phase }, { on := 4, ground := Ground.phase }, { on := 5, ground := Ground.phase }, { on := 6, ground := Ground.phase }, { on := 7, ground := Ground.phase }, { on := 8, ground := Ground.phase }, { on := 9, ground := Ground.phase }], guard := none }) (v := .pointer (some ⟨pb, 2, none⟩)) rfl (by kernel_rfl) (by kernel_rfl) (by kernel_rfl) (fun _ _ _ h => hQ _ _ _ _ _ h) (Yields.yieldsIf (Or.inl ⟨by rfl, fun W => by go_simp⟩)) hww ?_
    simp only [Act.put, List.setIfInBounds_toArray, List.set_cons_zero, List.set_cons_succ]
    exact last
  have kst : ∀ (w : World), (P0 w) → wpAnyH Tryd.prog .any SPR5OPS Q (fun w : World => w.cell? ⟨pb, 0, none⟩ = some (.int .u64 (SZ : Int)) ∧ w.cell? ⟨pb, 1, none⟩ = some (.int .u64 (F : Int))) 4 #[true, true, true, true, true, true, true, true, false, false, false, false] { tmps := #[.pointer (some ⟨rb, 0, none⟩), u1, u2, .pointer (some ⟨pb, 0, none⟩), u4, u5, u6, u7, u8, u9, u10, u11, u12, u13, .pointer (some ⟨pb, 1, none⟩), .int .u64 (F : Int), .pointer (some ⟨rb, 0, none⟩), .pointer (some ⟨pb, 0, none⟩), .int .u64 (SZ : Int), .pointer (some ⟨pb, 1, none⟩), .int .u64 (F : Int), .int .u64 (D : Int), u22, u23, u24, u25, u26, u27, u28, u29, u30, u31, u32, u33, u34], defers := [] } w := fun  w hp => by
    refine wpAnyH_ready (rs := [8]) (by kernel_rfl) (by simp) ?_
    refine AllReadyH.cons (o := { dst := some 22, op := Op.call { callee := Callee.value (Operand.func 60), args := #[Operand.tmp 16, Operand.tmp 21, Operand.const (Value.int IntKind.i64 32)], argTypes := #[87, 22, 24] }, type := 22, pos := "bytes.go:38", after := #[{ on := 2, ground := Ground.data }, { on := 7, ground := Ground.data }], guard := none }) rfl (fun KQ hKQ => ?_) ?_
    · rw [if_pos (by rfl)]
      go_simp
      refine (show Calls _ _ _ w (fun e w' => ∃ (x : Nat), e = .returned (.int .u64 (x : Int)) ∧ (P1 x w')) from c1 w hp).mono ?_
      rintro e w' ⟨x, rfl, hp⟩
      exact hKQ.out _ _ (t1 _ _ hp) (fun _ => ekst_8 x w' hp)
    exact AllReadyH.nil
  have hp := h0
  have hww : (fun w : World => w.cell? ⟨pb, 0, none⟩ = some (.int .u64 (SZ : Int)) ∧ w.cell? ⟨pb, 1, none⟩ = some (.int .u64 (F : Int))) W.drew := t0 _ hp
  have last := kst W.drew hp
  have z : wpAnyH Tryd.prog .any SPR5OPS Q (fun w : World => w.cell? ⟨pb, 0, none⟩ = some (.int .u64 (SZ : Int)) ∧ w.cell? ⟨pb, 1, none⟩ = some (.int .u64 (F : Int))) 12 #[false, false, false, false, false, false, false, false, false, false, false, false] { tmps := #[.pointer (some ⟨rb, 0, none⟩), u1, u2, .pointer (some ⟨pb, 0, none⟩), u4, u5, u6, u7, u8, u9, u10, u11, u12, u13, u14, u15, u16, u17, u18, u19, u20, u21, u22, u23, u24, u25, u26, u27, u28, u29, u30, u31, u32, u33, u34], defers := [] } W.drew := by
    refine wpAnyH_take (i := 0) (oi := { dst := some 14, op := Op.fieldAddr 37 (Operand.tmp 3) 1, type := 0, pos := "bytes.go:38", after := #[], guard := none }) (v := .pointer (some ⟨pb, 1, none⟩)) rfl (by kernel_rfl) (by kernel_rfl) (by kernel_rfl) (fun _ _ _ h => hQ _ _ _ _ _ h) (Yields.yieldsIf (Or.inl ⟨by rfl, fun W => by go_simp⟩)) hww ?_
    simp only [Act.put, List.setIfInBounds_toArray, List.set_cons_zero, List.set_cons_succ]
    refine wpAnyH_take (i := 1) (oi := { dst := some 15, op := Op.load 22 (Operand.tmp 14), type := 22, pos := "bytes.go:38", after := #[{ on := 0, ground := Ground.data }], guard := none }) (v := .int .u64 (F : Int)) rfl (by kernel_rfl) (by kernel_rfl) (by kernel_rfl) (fun _ _ _ h => hQ _ _ _ _ _ h) (Or.inl ⟨by rfl, fun w hw => by have hx := hw.2; go_simp⟩) hww ?_
    simp only [Act.put, List.setIfInBounds_toArray, List.set_cons_zero, List.set_cons_succ]
    refine wpAnyH_take (i := 2) (oi := { dst := some 16, op := Op.move (Operand.tmp 0), type := 87, pos := "bytes.go:38", after := #[], guard := none }) (v := .pointer (some ⟨rb, 0, none⟩)) rfl (by kernel_rfl) (by kernel_rfl) (by kernel_rfl) (fun _ _ _ h => hQ _ _ _ _ _ h) (Yields.yieldsIf (Or.inl ⟨by rfl, fun W => by go_simp⟩)) hww ?_
    simp only [Act.put, List.setIfInBounds_toArray, List.set_cons_zero, List.set_cons_succ]
    refine wpAnyH_take (i := 3) (oi := { dst := some 17, op := Op.fieldAddr 37 (Operand.tmp 3) 0, type := 0, pos := "bytes.go:38", after := #[], guard := none }) (v := .pointer (some ⟨pb, 0, none⟩)) rfl (by kernel_rfl) (by kernel_rfl) (by kernel_rfl) (fun _ _ _ h => hQ _ _ _ _ _ h) (Yields.yieldsIf (Or.inl ⟨by rfl, fun W => by go_simp⟩)) hww ?_
    simp only [Act.put, List.setIfInBounds_toArray, List.set_cons_zero, List.set_cons_succ]
    refine wpAnyH_take (i := 4) (oi := { dst := some 18, op := Op.load 22 (Operand.tmp 17), type := 22, pos := "bytes.go:38", after := #[{ on := 3, ground := Ground.data }], guard := none }) (v := .int .u64 (SZ : Int)) rfl (by kernel_rfl) (by kernel_rfl) (by kernel_rfl) (fun _ _ _ h => hQ _ _ _ _ _ h) (Or.inl ⟨by rfl, fun w hw => by have hx := hw.1; go_simp⟩) hww ?_
    simp only [Act.put, List.setIfInBounds_toArray, List.set_cons_zero, List.set_cons_succ]
    refine wpAnyH_take (i := 5) (oi := { dst := some 19, op := Op.fieldAddr 37 (Operand.tmp 3) 1, type := 0, pos := "bytes.go:38", after := #[], guard := none }) (v := .pointer (some ⟨pb, 1, none⟩)) rfl (by kernel_rfl) (by kernel_rfl) (by kernel_rfl) (fun _ _ _ h => hQ _ _ _ _ _ h) (Yields.yieldsIf (Or.inl ⟨by rfl, fun W => by go_simp⟩)) hww ?_
    simp only [Act.put, List.setIfInBounds_toArray, List.set_cons_zero, List.set_cons_succ]
    refine wpAnyH_take (i := 6) (oi := { dst := some 20, op := Op.load 22 (Operand.tmp 19), type := 22, pos := "bytes.go:38", after := #[{ on := 5, ground := Ground.data }], guard := none }) (v := .int .u64 (F : Int)) rfl (by kernel_rfl) (by kernel_rfl) (by kernel_rfl) (fun _ _ _ h => hQ _ _ _ _ _ h) (Or.inl ⟨by rfl, fun w hw => by have hx := hw.2; go_simp⟩) hww ?_
    simp only [Act.put, List.setIfInBounds_toArray, List.set_cons_zero, List.set_cons_succ]
    refine wpAnyH_take (i := 7) (oi := { dst := some 21, op := Op.binOp BinOp.sub 22 (Operand.tmp 18) (Operand.tmp 20) 22, type := 22, pos := "bytes.go:38", after := #[{ on := 4, ground := Ground.data }, { on := 6, ground := Ground.data }], guard := none }) (v := .int .u64 (D : Int)) rfl (by kernel_rfl) (by kernel_rfl) (by kernel_rfl) (fun _ _ _ h => hQ _ _ _ _ _ h) (Or.inl ⟨by rfl, fun w hw => by have hx := e1; go_simp⟩) hww ?_
    simp only [Act.put, List.setIfInBounds_toArray, List.set_cons_zero, List.set_cons_succ]
    exact last
  exact wp_region_held_drew (S := (fun w : World => w.cell? ⟨pb, 0, none⟩ = some (.int .u64 (SZ : Int)) ∧ w.cell? ⟨pb, 1, none⟩ = some (.int .u64 (F : Int)))) (by kernel_rfl) hww (fun _ => z)
end Go.Proofs.YtmkgldjocigffaaDoor

/- index of the reader of package many: so many indices, each as what is between it and the one ahead. -/
namespace Go.Proofs.YtmkgldjocigffaaDoor
open Go.RowKit
set_option maxRecDepth 100000

end Go.Proofs.YtmkgldjocigffaaDoor

/- needUnder and need of package many, with the closure of Encode. -/
namespace Go.Proofs.YtmkgldjocigffaaDoor
open Go.RowKit
set_option maxRecDepth 100000

end Go.Proofs.YtmkgldjocigffaaDoor

/- written of package many: a proof in bytes. -/
namespace Go.Proofs.YtmkgldjocigffaaDoor
open Go.RowKit
set_option maxRecDepth 100000

end Go.Proofs.YtmkgldjocigffaaDoor

/- mustBeWhole of package many: it gives up where a proof has other leaves than there are, or other nodes than they need. -/
namespace Go.Proofs.YtmkgldjocigffaaDoor
open Go.RowKit
set_option maxRecDepth 100000

/-- the number in bl is how many of K are left behind acc. -/
structure COUNTING (K : Nat) (w0 w : World) (bl : Nat) (acc : List Nat) : Prop where
  le : acc.length ≤ K
  row : Has w bl #[.int .i64 ((K - acc.length : Nat) : Int)] 3
  keep : ∀ b, b < w0.heap.size → b ≠ bl → w.heap[b]? = w0.heap[b]?
  lt : bl < w0.heap.size
  below : Below bl w0 w
end Go.Proofs.YtmkgldjocigffaaDoor

/- What Decode of package many answers, of any bytes: plain. -/
namespace Go.Proofs.YtmkgldjocigffaaDoor
set_option maxRecDepth 100000

/-- an error, the size, the indices, the nodes' bytes. -/
abbrev MANS := Int × Nat × List Nat × List Int
def MERR (E : Int) : MANS := (E, 0, [], [])
end Go.Proofs.YtmkgldjocigffaaDoor

/- hash of the reader of package many: the next 32 bytes. -/
namespace Go.Proofs.YtmkgldjocigffaaDoor
open Go.RowKit
set_option maxRecDepth 100000

end Go.Proofs.YtmkgldjocigffaaDoor

/- A hash is put behind a list of hashes, and where it then lies. -/
namespace Go.Proofs.YtmkgldjocigffaaDoor
open Go.RowKit
set_option maxRecDepth 100000

end Go.Proofs.YtmkgldjocigffaaDoor

/- The region of the closure of Decode of package many that draws its order. -/
namespace Go.Proofs.YtmkgldjocigffaaDoor
open Go.RowKit
set_option maxRecDepth 100000

end Go.Proofs.YtmkgldjocigffaaDoor

/- needUnder and need of package many, with the closure of Decode. -/
namespace Go.Proofs.YtmkgldjocigffaaDoor
open Go.RowKit
set_option maxRecDepth 100000

end Go.Proofs.YtmkgldjocigffaaDoor

/- The closure of Decode of package many: the next node is read and put behind the others. -/
namespace Go.Proofs.YtmkgldjocigffaaDoor
open Go.RowKit
set_option maxRecDepth 100000

end Go.Proofs.YtmkgldjocigffaaDoor

/- proof of the reader of package many: the whole of it. -/
namespace Go.Proofs.YtmkgldjocigffaaDoor
open Go.RowKit
set_option maxRecDepth 100000

theorem STAY.high {w W : World} {rb : Nat} (h : STAY w W rb) {pb i : Nat} {v : Value} (hp : w.heap.size ≤ pb) (hr : rb ≤ w.heap.size) : STAY w (W.setCell ⟨pb, i, none⟩ v) rb := ⟨fun k hk hne => (Below.heap_setCell W ⟨pb, i, none⟩ v k (by show k ≠ pb; omega)).trans (h.kp k hk hne), h.bl.setCell (p := ⟨pb, i, none⟩) (by show rb ≤ pb; omega) _⟩
/-- what proof does. -/
def PROVED (w : World) (rb : Nat) (A : MANS) (e : Ending) (w' : World) : Prop :=
  (A.1 = 0 ∧ ∃ a c a2 K c2, e = .returned (.agg #[.int .u64 (A.2.1 : Int), .slice a A.2.2.1.length c, .slice a2 K c2]) ∧ w'.ownsRow w.heap.size 22 1 (.slice a A.2.2.1.length c) A.2.2.1.length (UCELLS A.2.2.1) ∧ w'.ownsRow w.heap.size 60 32 (.slice a2 K c2) K (CELLS A.2.2.2) ∧ A.2.2.2.length = 32 * K ∧ STAY w w' rb) ∨ (A.1 ≠ 0 ∧ e = .panicked (WRONG A.1) ∧ STAY w w' rb)
theorem PROVED.die {w w' : World} {rb : Nat} {A : MANS} {E : Int} (hA : A = MERR E) (hE : E ≠ 0) (hs : STAY w w' rb) : PROVED w rb A (.panicked (WRONG E)) w' := by
  rw [hA]
  exact .inr ⟨hE, rfl, hs⟩
abbrev ZMANY : Array Value := #[.int .u64 0, .slice none 0 0, .slice none 0 0]
theorem own_hold9 {w w' : World} {B s n : Nat} {t : TypeId} {v : Value} {xs : List Value} (h : w.ownsRow B t s v n xs) (hk : ∀ k, v.ownBlock = some k → w'.heap[k]? = w.heap[k]?) : w'.ownsRow B t s v n xs := own_heap h hk
end Go.Proofs.YtmkgldjocigffaaDoor
