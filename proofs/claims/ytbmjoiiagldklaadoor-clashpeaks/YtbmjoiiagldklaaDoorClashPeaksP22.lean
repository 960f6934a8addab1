/- Texts of ClashPeaks, one behind the other: ClashBagRegions, VerifyReachRegion, CutJoins, VerifyReach. -/
import Derived.Test.YtbmjoiiagldklaaDoorClashPeaksP5
import Derived.Test.YtbmjoiiagldklaaDoorClashPeaksP7
import Derived.Test.YtbmjoiiagldklaaDoorClashPeaksP13
import Derived.Test.YtbmjoiiagldklaaDoorClashPeaksP14
import Derived.Test.YtbmjoiiagldklaaDoorClashPeaksP21
/- The regions of clash's bag that draw their order. -/
namespace Go.Proofs.YtbmjoiiagldklaaDoor
open Go.RowKit Go.Shelf
set_option maxRecDepth 100000

theorem step_val_in9 {F : Fence} {n : Nat} {ops : Array Oper} {o : Oper} {a : Act} {w w' : World} {K : Act → World → Prop} {Q : Exit → Act → World → Prop} {E : Prop} {v : Value} (hg : o.guard = none) (hd : ∀ c, o.op ≠ .defer c) (hab : o.about Tryd.prog w a.eval = none)
    (hrun : (execOp a.eval o).run Tryd.prog w = .ok (.value v) w') (h : K (a.put o.dst v) w') : if Region.wanted o (yielded ops a.tmps) = true then Oper.wpIn F n Tryd.prog o a w K Q else E := by
  have hw : Region.wanted o (yielded ops a.tmps) = true := by simp [Region.wanted, hg]
  rw [if_pos hw]
  refine ⟨fun f hf => (by rw [hab] at hf; cases hf), ?_⟩
  rw [Oper.semAt_eq _ _ _ hd, hrun]
  exact h
theorem step_skip_in9 {F : Fence} {n : Nat} {ops : Array Oper} {o : Oper} {a : Act} {w w' : World} {K : Act → World → Prop} {Q : Exit → Act → World → Prop} {E : Prop} (hg : o.guard = none) (hd : ∀ c, o.op ≠ .defer c) (hab : o.about Tryd.prog w a.eval = none)
    (hrun : (execOp a.eval o).run Tryd.prog w = .ok .skip w') (h : K (a.put o.dst undef) w') : if Region.wanted o (yielded ops a.tmps) = true then Oper.wpIn F n Tryd.prog o a w K Q else E := by
  have hw : Region.wanted o (yielded ops a.tmps) = true := by simp [Region.wanted, hg]
  rw [if_pos hw]
  refine ⟨fun f hf => (by rw [hab] at hf; cases hf), ?_⟩
  rw [Oper.semAt_eq _ _ _ hd, hrun]
  exact h
theorem step_call_in9 {F : Fence} {n : Nat} {ops : Array Oper} {o : Oper} {a : Act} {w : World} {K : Act → World → Prop} {Q : Exit → Act → World → Prop} {E : Prop} (hg : o.guard = none) (hd : ∀ c, o.op ≠ .defer c) (hF : ∀ f, F.fn f) (hn : F.depth.isSome = true → 1 ≤ n) {f : FuncId} {args : Array Value}
    (hrun : (execOp a.eval o).run Tryd.prog w = .ok (.enter f args) w) (h : CallsIn F (n - 1) Tryd.prog f args w fun e w' => ∃ v, e = .returned v ∧ K (a.put o.dst v) w') : if Region.wanted o (yielded ops a.tmps) = true then Oper.wpIn F n Tryd.prog o a w K Q else E := by
  have hw : Region.wanted o (yielded ops a.tmps) = true := by simp [Region.wanted, hg]
  rw [if_pos hw]
  refine ⟨fun f _ => hF f, ?_⟩
  rw [Oper.semAt_eq _ _ _ hd, hrun]
  refine ⟨hn, h.mono ?_⟩
  rintro e w' ⟨v, rfl, hk⟩
  exact hk
theorem store_hash9 {w : World} {g : Nat} {A X : List Int} (h : Has w g (CELLS A).toArray 26) (lA : A.length = 32) (lX : X.length = 32) : (Instr.storeAt 26 (.pointer (some ⟨g, 0, none⟩)) (.agg (CELLS X).toArray)).run Tryd.prog w = .ok () (w.setRow g (CELLS X).toArray) := by
  simp only [Instr.storeAt, Instr.sureAddr, Sem.run_bind, Sem.run_pure, Result.andThen]
  exact run_storeVar_row w g 26 26 (CELLS A).toArray (CELLS X).toArray h (info_arr lX) (by simp [CELLS, lA, lX]) (cells_one X)
def CB8OPS : Array Oper := #[{ dst := some 24, op := Op.load 54 (Operand.tmp 3), type := 54, pos := "met.go:50", after := #[], guard := none }, { dst := some 25, op := Op.move (Operand.tmp 1), type := 22, pos := "met.go:50", after := #[], guard := none }, { dst := some 26, op := Op.load 26 (Operand.tmp 6), type := 26, pos := "met.go:50", after := #[], guard := none }, { dst := some 27, op := Op.call { callee := Callee.value (Operand.func 51), args := #[Operand.tmp 25, Operand.tmp 26], argTypes := #[22, 26] }, type := 30, pos := "met.go:50", after := #[{ on := 1, ground := Ground.data }, { on := 2, ground := Ground.data }], guard := none }, { dst := some 28, op := Op.call { callee := Callee.value (Operand.func 49), args := #[Operand.tmp 24, Operand.tmp 27], argTypes := #[54, 30] }, type := 26, pos := "met.go:50", after := #[{ on := 0, ground := Ground.data }, { on := 3, ground := Ground.data }, { on := 3, ground := Ground.chain }], guard := none }]
set_option maxHeartbeats 1000000 in
theorem bag8 {F : Fence} {n : Nat} (hF : ∀ f, F.fn f) (hn : F.depth.isSome = true → 1 ≤ n) {Q : Exit → Act → World → Prop} {u0 u2 u4 u5 u7 u8 u9 u10 u11 u12 u13 u14 u15 u16 u17 u18 u19 u20 u21 u22 u23 u24 u25 u26 u27 u28 : Value} {df : List Deferred} (W : World) (b3 b6 b N : Nat) (A X : List Int) (lA : A.length = 32) (c3 : W.cell? ⟨b3, 0, none⟩ = some (.pointer (some ⟨b, 0, none⟩))) (r6 : W.rangeAt b6 0 (CELLS A)) (P1 : Nat → Nat → World → Prop) (P2 : World → Prop) (k1 : ∀ gt c w, P1 gt c w → w.cell? ⟨b3, 0, none⟩ = some (.pointer (some ⟨b, 0, none⟩)))
    (cF : CallsIn F (n - 1) Tryd.prog 51 #[.int .u64 (N : Int), .agg (CELLS A).toArray] W.drew fun e w' => ∃ (gt : Nat) (c : Nat), e = .returned (.slice (some ⟨gt, 0, none⟩) 41 c) ∧ P1 gt c w')
    (cT : ∀ gt c w, P1 gt c w → CallsIn F (n - 1) Tryd.prog 49 #[.pointer (some ⟨b, 0, none⟩), .slice (some ⟨gt, 0, none⟩) 41 c] w fun e w' => e = .returned (.agg (CELLS X).toArray) ∧ P2 w')
    (h : ∀ (gt c : Nat) w, P2 w → Q .normal { tmps := #[u0, .int .u64 (N : Int), u2, .pointer (some ⟨b3, 0, none⟩), u4, u5, .pointer (some ⟨b6, 0, none⟩), u7, u8, u9, u10, u11, u12, u13, u14, u15, u16, u17, u18, u19, u20, u21, u22, u23, .pointer (some ⟨b, 0, none⟩), .int .u64 (N : Int), .agg (CELLS A).toArray, .slice (some ⟨gt, 0, none⟩) 41 c, .agg (CELLS X).toArray], defers := df } w) :
    (Code.region 8 CB8OPS true).wpIn F n Tryd.prog Q { tmps := #[u0, .int .u64 (N : Int), u2, .pointer (some ⟨b3, 0, none⟩), u4, u5, .pointer (some ⟨b6, 0, none⟩), u7, u8, u9, u10, u11, u12, u13, u14, u15, u16, u17, u18, u19, u20, u21, u22, u23, u24, u25, u26, u27, u28], defers := df } W := by
  have d6 : W.drew.rangeAt b6 0 (CELLS A) := (World.rangeAt_drew _ _ _ _).2 r6
  have d3 : W.drew.cell? ⟨b3, 0, none⟩ = some (.pointer (some ⟨b, 0, none⟩)) := c3
  have h11111 : ∀ (gt c : Nat) (w : World), P2 w → wpAnyIn F n Tryd.prog .any CB8OPS Q 0 #[true, true, true, true, true] { tmps := #[u0, .int .u64 (N : Int), u2, .pointer (some ⟨b3, 0, none⟩), u4, u5, .pointer (some ⟨b6, 0, none⟩), u7, u8, u9, u10, u11, u12, u13, u14, u15, u16, u17, u18, u19, u20, u21, u22, u23, .pointer (some ⟨b, 0, none⟩), .int .u64 (N : Int), .agg (CELLS A).toArray, .slice (some ⟨gt, 0, none⟩) 41 c, .agg (CELLS X).toArray], defers := df } w := fun gt c w hp => by
    exact wpAnyIn_done (by kernel_rfl) (h gt c w hp) _
  have h11110 : ∀ (gt c : Nat) (w : World), P1 gt c w → wpAnyIn F n Tryd.prog .any CB8OPS Q 1 #[true, true, true, true, false] { tmps := #[u0, .int .u64 (N : Int), u2, .pointer (some ⟨b3, 0, none⟩), u4, u5, .pointer (some ⟨b6, 0, none⟩), u7, u8, u9, u10, u11, u12, u13, u14, u15, u16, u17, u18, u19, u20, u21, u22, u23, .pointer (some ⟨b, 0, none⟩), .int .u64 (N : Int), .agg (CELLS A).toArray, .slice (some ⟨gt, 0, none⟩) 41 c, u28], defers := df } w := fun gt c w hp => by
    refine wpAnyIn_ready (rs := [4]) (by kernel_rfl) (by simp) ?_
    refine AllReadyIn.cons (o := { dst := some 28, op := Op.call { callee := Callee.value (Operand.func 49), args := #[Operand.tmp 24, Operand.tmp 27], argTypes := #[54, 30] }, type := 26, pos := "met.go:50", after := #[{ on := 0, ground := Ground.data }, { on := 3, ground := Ground.data }, { on := 3, ground := Ground.chain }], guard := none }) rfl (fun K hK => ?_) ?_
    · refine step_call_in9 rfl (by intro c h; cases h) hF hn (by go_simp) ((cT gt c w hp).mono ?_)
      rintro e w' ⟨rfl, hp⟩
      exact ⟨_, rfl, hK _ _ (h11111 gt c w' hp)⟩
    exact AllReadyIn.nil
  have h01110 : ∀ (gt c : Nat) (w : World), P1 gt c w → wpAnyIn F n Tryd.prog .any CB8OPS Q 2 #[false, true, true, true, false] { tmps := #[u0, .int .u64 (N : Int), u2, .pointer (some ⟨b3, 0, none⟩), u4, u5, .pointer (some ⟨b6, 0, none⟩), u7, u8, u9, u10, u11, u12, u13, u14, u15, u16, u17, u18, u19, u20, u21, u22, u23, u24, .int .u64 (N : Int), .agg (CELLS A).toArray, .slice (some ⟨gt, 0, none⟩) 41 c, u28], defers := df } w := fun gt c w hp => by
    refine wpAnyIn_ready (rs := [0]) (by kernel_rfl) (by simp) ?_
    refine AllReadyIn.cons (o := { dst := some 24, op := Op.load 54 (Operand.tmp 3), type := 54, pos := "met.go:50", after := #[], guard := none }) rfl (fun K hK => ?_) ?_
    · exact step_val_in9 (v := .pointer (some ⟨b, 0, none⟩)) rfl (by intro c h; cases h) rfl (by have hx := k1 gt c w hp; go_simp) (hK _ _ (h11110 gt c w hp))
    exact AllReadyIn.nil
  have h11100 : wpAnyIn F n Tryd.prog .any CB8OPS Q 2 #[true, true, true, false, false] { tmps := #[u0, .int .u64 (N : Int), u2, .pointer (some ⟨b3, 0, none⟩), u4, u5, .pointer (some ⟨b6, 0, none⟩), u7, u8, u9, u10, u11, u12, u13, u14, u15, u16, u17, u18, u19, u20, u21, u22, u23, .pointer (some ⟨b, 0, none⟩), .int .u64 (N : Int), .agg (CELLS A).toArray, u27, u28], defers := df } W.drew :=  by
    refine wpAnyIn_ready (rs := [3]) (by kernel_rfl) (by simp) ?_
    refine AllReadyIn.cons (o := { dst := some 27, op := Op.call { callee := Callee.value (Operand.func 51), args := #[Operand.tmp 25, Operand.tmp 26], argTypes := #[22, 26] }, type := 30, pos := "met.go:50", after := #[{ on := 1, ground := Ground.data }, { on := 2, ground := Ground.data }], guard := none }) rfl (fun K hK => ?_) ?_
    · refine step_call_in9 rfl (by intro c h; cases h) hF hn (by go_simp) (cF.mono ?_)
      rintro e w' ⟨gt, c, rfl, hp⟩
      exact ⟨_, rfl, hK _ _ (h11110 gt c w' hp)⟩
    exact AllReadyIn.nil
  have h01100 : wpAnyIn F n Tryd.prog .any CB8OPS Q 3 #[false, true, true, false, false] { tmps := #[u0, .int .u64 (N : Int), u2, .pointer (some ⟨b3, 0, none⟩), u4, u5, .pointer (some ⟨b6, 0, none⟩), u7, u8, u9, u10, u11, u12, u13, u14, u15, u16, u17, u18, u19, u20, u21, u22, u23, u24, .int .u64 (N : Int), .agg (CELLS A).toArray, u27, u28], defers := df } W.drew :=  by
    refine wpAnyIn_ready (rs := [0, 3]) (by kernel_rfl) (by simp) ?_
    refine AllReadyIn.cons (o := { dst := some 24, op := Op.load 54 (Operand.tmp 3), type := 54, pos := "met.go:50", after := #[], guard := none }) rfl (fun K hK => ?_) ?_
    · exact step_val_in9 (v := .pointer (some ⟨b, 0, none⟩)) rfl (by intro c h; cases h) rfl (by have hx := d3; go_simp) (hK _ _ h11100)
    refine AllReadyIn.cons (o := { dst := some 27, op := Op.call { callee := Callee.value (Operand.func 51), args := #[Operand.tmp 25, Operand.tmp 26], argTypes := #[22, 26] }, type := 30, pos := "met.go:50", after := #[{ on := 1, ground := Ground.data }, { on := 2, ground := Ground.data }], guard := none }) rfl (fun K hK => ?_) ?_
    · refine step_call_in9 rfl (by intro c h; cases h) hF hn (by go_simp) (cF.mono ?_)
      rintro e w' ⟨gt, c, rfl, hp⟩
      exact ⟨_, rfl, hK _ _ (h01110 gt c w' hp)⟩
    exact AllReadyIn.nil
  have h10100 : wpAnyIn F n Tryd.prog .any CB8OPS Q 3 #[true, false, true, false, false] { tmps := #[u0, .int .u64 (N : Int), u2, .pointer (some ⟨b3, 0, none⟩), u4, u5, .pointer (some ⟨b6, 0, none⟩), u7, u8, u9, u10, u11, u12, u13, u14, u15, u16, u17, u18, u19, u20, u21, u22, u23, .pointer (some ⟨b, 0, none⟩), u25, .agg (CELLS A).toArray, u27, u28], defers := df } W.drew :=  by
    refine wpAnyIn_ready (rs := [1]) (by kernel_rfl) (by simp) ?_
    refine AllReadyIn.cons (o := { dst := some 25, op := Op.move (Operand.tmp 1), type := 22, pos := "met.go:50", after := #[], guard := none }) rfl (fun K hK => ?_) ?_
    · exact step_val_in9 (v := .int .u64 (N : Int)) rfl (by intro c h; cases h) rfl rfl (hK _ _ h11100)
    exact AllReadyIn.nil
  have h11000 : wpAnyIn F n Tryd.prog .any CB8OPS Q 3 #[true, true, false, false, false] { tmps := #[u0, .int .u64 (N : Int), u2, .pointer (some ⟨b3, 0, none⟩), u4, u5, .pointer (some ⟨b6, 0, none⟩), u7, u8, u9, u10, u11, u12, u13, u14, u15, u16, u17, u18, u19, u20, u21, u22, u23, .pointer (some ⟨b, 0, none⟩), .int .u64 (N : Int), u26, u27, u28], defers := df } W.drew :=  by
    refine wpAnyIn_ready (rs := [2]) (by kernel_rfl) (by simp) ?_
    refine AllReadyIn.cons (o := { dst := some 26, op := Op.load 26 (Operand.tmp 6), type := 26, pos := "met.go:50", after := #[], guard := none }) rfl (fun K hK => ?_) ?_
    · exact step_val_in9 (v := .agg (CELLS A).toArray) rfl (by intro c h; cases h) rfl (run_value9 (run_loadAt_mid (P := Tryd.prog) W.drew b6 0 26 _ _ d6 Tryd.underlying26 rfl (info_cells lA))) (hK _ _ h11100)
    exact AllReadyIn.nil
  have h00100 : wpAnyIn F n Tryd.prog .any CB8OPS Q 4 #[false, false, true, false, false] { tmps := #[u0, .int .u64 (N : Int), u2, .pointer (some ⟨b3, 0, none⟩), u4, u5, .pointer (some ⟨b6, 0, none⟩), u7, u8, u9, u10, u11, u12, u13, u14, u15, u16, u17, u18, u19, u20, u21, u22, u23, u24, u25, .agg (CELLS A).toArray, u27, u28], defers := df } W.drew :=  by
    refine wpAnyIn_ready (rs := [0, 1]) (by kernel_rfl) (by simp) ?_
    refine AllReadyIn.cons (o := { dst := some 24, op := Op.load 54 (Operand.tmp 3), type := 54, pos := "met.go:50", after := #[], guard := none }) rfl (fun K hK => ?_) ?_
    · exact step_val_in9 (v := .pointer (some ⟨b, 0, none⟩)) rfl (by intro c h; cases h) rfl (by have hx := d3; go_simp) (hK _ _ h10100)
    refine AllReadyIn.cons (o := { dst := some 25, op := Op.move (Operand.tmp 1), type := 22, pos := "met.go:50", after := #[], guard := none }) rfl (fun K hK => ?_) ?_
    · exact step_val_in9 (v := .int .u64 (N : Int)) rfl (by intro c h; cases h) rfl rfl (hK _ _ h01100)
    exact AllReadyIn.nil
  have h01000 : wpAnyIn F n Tryd.prog .any CB8OPS Q 4 #[false, true, false, false, false] { tmps := #[u0, .int .u64 (N : Int), u2, .pointer (some ⟨b3, 0, none⟩), u4, u5, .pointer (some ⟨b6, 0, none⟩), u7, u8, u9, u10, u11, u12, u13, u14, u15, u16, u17, u18, u19, u20, u21, u22, u23, u24, .int .u64 (N : Int), u26, u27, u28], defers := df } W.drew :=  by
    refine wpAnyIn_ready (rs := [0, 2]) (by kernel_rfl) (by simp) ?_
    refine AllReadyIn.cons (o := { dst := some 24, op := Op.load 54 (Operand.tmp 3), type := 54, pos := "met.go:50", after := #[], guard := none }) rfl (fun K hK => ?_) ?_
    · exact step_val_in9 (v := .pointer (some ⟨b, 0, none⟩)) rfl (by intro c h; cases h) rfl (by have hx := d3; go_simp) (hK _ _ h11000)
    refine AllReadyIn.cons (o := { dst := some 26, op := Op.load 26 (Operand.tmp 6), type := 26, pos := "met.go:50", after := #[], guard := none }) rfl (fun K hK => ?_) ?_
    · exact step_val_in9 (v := .agg (CELLS A).toArray) rfl (by intro c h; cases h) rfl (run_value9 (run_loadAt_mid (P := Tryd.prog) W.drew b6 0 26 _ _ d6 Tryd.underlying26 rfl (info_cells lA))) (hK _ _ h01100)
    exact AllReadyIn.nil
  have h10000 : wpAnyIn F n Tryd.prog .any CB8OPS Q 4 #[true, false, false, false, false] { tmps := #[u0, .int .u64 (N : Int), u2, .pointer (some ⟨b3, 0, none⟩), u4, u5, .pointer (some ⟨b6, 0, none⟩), u7, u8, u9, u10, u11, u12, u13, u14, u15, u16, u17, u18, u19, u20, u21, u22, u23, .pointer (some ⟨b, 0, none⟩), u25, u26, u27, u28], defers := df } W.drew :=  by
    refine wpAnyIn_ready (rs := [1, 2]) (by kernel_rfl) (by simp) ?_
    refine AllReadyIn.cons (o := { dst := some 25, op := Op.move (Operand.tmp 1), type := 22, pos := "met.go:50", after := #[], guard := none }) rfl (fun K hK => ?_) ?_
    · exact step_val_in9 (v := .int .u64 (N : Int)) rfl (by intro c h; cases h) rfl rfl (hK _ _ h11000)
    refine AllReadyIn.cons (o := { dst := some 26, op := Op.load 26 (Operand.tmp 6), type := 26, pos := "met.go:50", after := #[], guard := none }) rfl (fun K hK => ?_) ?_
    · exact step_val_in9 (v := .agg (CELLS A).toArray) rfl (by intro c h; cases h) rfl (run_value9 (run_loadAt_mid (P := Tryd.prog) W.drew b6 0 26 _ _ d6 Tryd.underlying26 rfl (info_cells lA))) (hK _ _ h10100)
    exact AllReadyIn.nil
  have h00000 : wpAnyIn F n Tryd.prog .any CB8OPS Q 5 #[false, false, false, false, false] { tmps := #[u0, .int .u64 (N : Int), u2, .pointer (some ⟨b3, 0, none⟩), u4, u5, .pointer (some ⟨b6, 0, none⟩), u7, u8, u9, u10, u11, u12, u13, u14, u15, u16, u17, u18, u19, u20, u21, u22, u23, u24, u25, u26, u27, u28], defers := df } W.drew :=  by
    refine wpAnyIn_ready (rs := [0, 1, 2]) (by kernel_rfl) (by simp) ?_
    refine AllReadyIn.cons (o := { dst := some 24, op := Op.load 54 (Operand.tmp 3), type := 54, pos := "met.go:50", after := #[], guard := none }) rfl (fun K hK => ?_) ?_
    · exact step_val_in9 (v := .pointer (some ⟨b, 0, none⟩)) rfl (by intro c h; cases h) rfl (by have hx := d3; go_simp) (hK _ _ h10000)
    refine AllReadyIn.cons (o := { dst := some 25, op := Op.move (Operand.tmp 1), type := 22, pos := "met.go:50", after := #[], guard := none }) rfl (fun K hK => ?_) ?_
    · exact step_val_in9 (v := .int .u64 (N : Int)) rfl (by intro c h; cases h) rfl rfl (hK _ _ h01000)
    refine AllReadyIn.cons (o := { dst := some 26, op := Op.load 26 (Operand.tmp 6), type := 26, pos := "met.go:50", after := #[], guard := none }) rfl (fun K hK => ?_) ?_
    · exact step_val_in9 (v := .agg (CELLS A).toArray) rfl (by intro c h; cases h) rfl (run_value9 (run_loadAt_mid (P := Tryd.prog) W.drew b6 0 26 _ _ d6 Tryd.underlying26 rfl (info_cells lA))) (hK _ _ h00100)
    exact AllReadyIn.nil
  refine wpIn_region_any (by kernel_rfl) ?_
  exact h00000
def CB7OPS : Array Oper := #[{ dst := some 19, op := Op.load 54 (Operand.tmp 3), type := 54, pos := "met.go:47", after := #[], guard := none }, { dst := some 20, op := Op.load 26 (Operand.tmp 8), type := 26, pos := "met.go:47", after := #[], guard := none }, { dst := some 21, op := Op.load 26 (Operand.tmp 6), type := 26, pos := "met.go:47", after := #[], guard := none }, { dst := some 22, op := Op.call { callee := Callee.value (Operand.func 50), args := #[Operand.tmp 20, Operand.tmp 21], argTypes := #[26, 26] }, type := 30, pos := "met.go:47", after := #[{ on := 1, ground := Ground.data }, { on := 2, ground := Ground.data }], guard := none }, { dst := some 23, op := Op.call { callee := Callee.value (Operand.func 49), args := #[Operand.tmp 19, Operand.tmp 22], argTypes := #[54, 30] }, type := 26, pos := "met.go:47", after := #[{ on := 0, ground := Ground.data }, { on := 3, ground := Ground.data }, { on := 3, ground := Ground.chain }], guard := none }, { dst := none, op := Op.store 26 (Operand.tmp 6) (Operand.tmp 23), type := 0, pos := "met.go:47", after := #[{ on := 4, ground := Ground.data }, { on := 4, ground := Ground.chain }, { on := 0, ground := Ground.phase }, { on := 1, ground := Ground.phase }, { on := 2, ground := Ground.phase }, { on := 3, ground := Ground.phase }, { on := 4, ground := Ground.phase }], guard := none }]
set_option maxHeartbeats 1000000 in
theorem bag7 {F : Fence} {n : Nat} (hF : ∀ f, F.fn f) (hn : F.depth.isSome = true → 1 ≤ n) {Q : Exit → Act → World → Prop} {u0 u1 u2 u4 u5 u7 u9 u10 u11 u12 u13 u14 u15 u16 u17 u18 u19 u20 u21 u22 u23 u24 u25 u26 u27 u28 : Value} {df : List Deferred} (W : World) (b3 b6 b8 b : Nat) (L A X : List Int) (lL : L.length = 32) (lA : A.length = 32) (lX : X.length = 32) (c3 : W.cell? ⟨b3, 0, none⟩ = some (.pointer (some ⟨b, 0, none⟩))) (r8 : W.rangeAt b8 0 (CELLS L)) (r6 : W.rangeAt b6 0 (CELLS A)) (P1 : Nat → Nat → World → Prop) (P2 : World → Prop) (k1 : ∀ gt c w, P1 gt c w → w.cell? ⟨b3, 0, none⟩ = some (.pointer (some ⟨b, 0, none⟩)))
    (cF : CallsIn F (n - 1) Tryd.prog 50 #[.agg (CELLS L).toArray, .agg (CELLS A).toArray] W.drew fun e w' => ∃ (gt : Nat) (c : Nat), e = .returned (.slice (some ⟨gt, 0, none⟩) 65 c) ∧ P1 gt c w')
    (cT : ∀ gt c w, P1 gt c w → CallsIn F (n - 1) Tryd.prog 49 #[.pointer (some ⟨b, 0, none⟩), .slice (some ⟨gt, 0, none⟩) 65 c] w fun e w' => e = .returned (.agg (CELLS X).toArray) ∧ P2 w')
    (st : ∀ w, P2 w → Has w b6 (CELLS A).toArray 26) (h : ∀ (gt c : Nat) w, P2 w → Q .normal { tmps := #[u0, u1, u2, .pointer (some ⟨b3, 0, none⟩), u4, u5, .pointer (some ⟨b6, 0, none⟩), u7, .pointer (some ⟨b8, 0, none⟩), u9, u10, u11, u12, u13, u14, u15, u16, u17, u18, .pointer (some ⟨b, 0, none⟩), .agg (CELLS L).toArray, .agg (CELLS A).toArray, .slice (some ⟨gt, 0, none⟩) 65 c, .agg (CELLS X).toArray, u24, u25, u26, u27, u28], defers := df } (w.setRow b6 (CELLS X).toArray)) :
    (Code.region 7 CB7OPS true).wpIn F n Tryd.prog Q { tmps := #[u0, u1, u2, .pointer (some ⟨b3, 0, none⟩), u4, u5, .pointer (some ⟨b6, 0, none⟩), u7, .pointer (some ⟨b8, 0, none⟩), u9, u10, u11, u12, u13, u14, u15, u16, u17, u18, u19, u20, u21, u22, u23, u24, u25, u26, u27, u28], defers := df } W := by
  have d8 : W.drew.rangeAt b8 0 (CELLS L) := (World.rangeAt_drew _ _ _ _).2 r8
  have d6 : W.drew.rangeAt b6 0 (CELLS A) := (World.rangeAt_drew _ _ _ _).2 r6
  have d3 : W.drew.cell? ⟨b3, 0, none⟩ = some (.pointer (some ⟨b, 0, none⟩)) := c3
  have h111111 : ∀ (gt c : Nat) (w : World), P2 w → wpAnyIn F n Tryd.prog .any CB7OPS Q 0 #[true, true, true, true, true, true] { tmps := #[u0, u1, u2, .pointer (some ⟨b3, 0, none⟩), u4, u5, .pointer (some ⟨b6, 0, none⟩), u7, .pointer (some ⟨b8, 0, none⟩), u9, u10, u11, u12, u13, u14, u15, u16, u17, u18, .pointer (some ⟨b, 0, none⟩), .agg (CELLS L).toArray, .agg (CELLS A).toArray, .slice (some ⟨gt, 0, none⟩) 65 c, .agg (CELLS X).toArray, u24, u25, u26, u27, u28], defers := df } (w.setRow b6 (CELLS X).toArray) := fun gt c w hp => by
    exact wpAnyIn_done (by kernel_rfl) (h gt c w hp) _
  have h111110 : ∀ (gt c : Nat) (w : World), P2 w → wpAnyIn F n Tryd.prog .any CB7OPS Q 1 #[true, true, true, true, true, false] { tmps := #[u0, u1, u2, .pointer (some ⟨b3, 0, none⟩), u4, u5, .pointer (some ⟨b6, 0, none⟩), u7, .pointer (some ⟨b8, 0, none⟩), u9, u10, u11, u12, u13, u14, u15, u16, u17, u18, .pointer (some ⟨b, 0, none⟩), .agg (CELLS L).toArray, .agg (CELLS A).toArray, .slice (some ⟨gt, 0, none⟩) 65 c, .agg (CELLS X).toArray, u24, u25, u26, u27, u28], defers := df } w := fun gt c w hp => by
    refine wpAnyIn_ready (rs := [5]) (by kernel_rfl) (by simp) ?_
    refine AllReadyIn.cons (o := { dst := none, op := Op.store 26 (Operand.tmp 6) (Operand.tmp 23), type := 0, pos := "met.go:47", after := #[{ on := 4, ground := Ground.data }, { on := 4, ground := Ground.chain }, { on := 0, ground := Ground.phase }, { on := 1, ground := Ground.phase }, { on := 2, ground := Ground.phase }, { on := 3, ground := Ground.phase }, { on := 4, ground := Ground.phase }], guard := none }) rfl (fun K hK => ?_) ?_
    · exact step_skip_in9 rfl (by intro c h; cases h) rfl (run_skip9 (store_hash9 (st w hp) lA lX)) (hK _ _ (h111111 gt c w hp))
    exact AllReadyIn.nil
  have h111100 : ∀ (gt c : Nat) (w : World), P1 gt c w → wpAnyIn F n Tryd.prog .any CB7OPS Q 2 #[true, true, true, true, false, false] { tmps := #[u0, u1, u2, .pointer (some ⟨b3, 0, none⟩), u4, u5, .pointer (some ⟨b6, 0, none⟩), u7, .pointer (some ⟨b8, 0, none⟩), u9, u10, u11, u12, u13, u14, u15, u16, u17, u18, .pointer (some ⟨b, 0, none⟩), .agg (CELLS L).toArray, .agg (CELLS A).toArray, .slice (some ⟨gt, 0, none⟩) 65 c, u23, u24, u25, u26, u27, u28], defers := df } w := fun gt c w hp => by
    refine wpAnyIn_ready (rs := [4]) (by kernel_rfl) (by simp) ?_
    refine AllReadyIn.cons (o := { dst := some 23, op := Op.call { callee := Callee.value (Operand.func 49), args := #[Operand.tmp 19, Operand.tmp 22], argTypes := #[54, 30] }, type := 26, pos := "met.go:47", after := #[{ on := 0, ground := Ground.data }, { on := 3, ground := Ground.data }, { on := 3, ground := Ground.chain }], guard := none }) rfl (fun K hK => ?_) ?_
    · refine step_call_in9 rfl (by intro c h; cases h) hF hn (by go_simp) ((cT gt c w hp).mono ?_)
      rintro e w' ⟨rfl, hp⟩
      exact ⟨_, rfl, hK _ _ (h111110 gt c w' hp)⟩
    exact AllReadyIn.nil
  have h011100 : ∀ (gt c : Nat) (w : World), P1 gt c w → wpAnyIn F n Tryd.prog .any CB7OPS Q 3 #[false, true, true, true, false, false] { tmps := #[u0, u1, u2, .pointer (some ⟨b3, 0, none⟩), u4, u5, .pointer (some ⟨b6, 0, none⟩), u7, .pointer (some ⟨b8, 0, none⟩), u9, u10, u11, u12, u13, u14, u15, u16, u17, u18, u19, .agg (CELLS L).toArray, .agg (CELLS A).toArray, .slice (some ⟨gt, 0, none⟩) 65 c, u23, u24, u25, u26, u27, u28], defers := df } w := fun gt c w hp => by
    refine wpAnyIn_ready (rs := [0]) (by kernel_rfl) (by simp) ?_
    refine AllReadyIn.cons (o := { dst := some 19, op := Op.load 54 (Operand.tmp 3), type := 54, pos := "met.go:47", after := #[], guard := none }) rfl (fun K hK => ?_) ?_
    · exact step_val_in9 (v := .pointer (some ⟨b, 0, none⟩)) rfl (by intro c h; cases h) rfl (by have hx := k1 gt c w hp; go_simp) (hK _ _ (h111100 gt c w hp))
    exact AllReadyIn.nil
  have h111000 : wpAnyIn F n Tryd.prog .any CB7OPS Q 3 #[true, true, true, false, false, false] { tmps := #[u0, u1, u2, .pointer (some ⟨b3, 0, none⟩), u4, u5, .pointer (some ⟨b6, 0, none⟩), u7, .pointer (some ⟨b8, 0, none⟩), u9, u10, u11, u12, u13, u14, u15, u16, u17, u18, .pointer (some ⟨b, 0, none⟩), .agg (CELLS L).toArray, .agg (CELLS A).toArray, u22, u23, u24, u25, u26, u27, u28], defers := df } W.drew :=  by
    refine wpAnyIn_ready (rs := [3]) (by kernel_rfl) (by simp) ?_
    refine AllReadyIn.cons (o := { dst := some 22, op := Op.call { callee := Callee.value (Operand.func 50), args := #[Operand.tmp 20, Operand.tmp 21], argTypes := #[26, 26] }, type := 30, pos := "met.go:47", after := #[{ on := 1, ground := Ground.data }, { on := 2, ground := Ground.data }], guard := none }) rfl (fun K hK => ?_) ?_
    · refine step_call_in9 rfl (by intro c h; cases h) hF hn (by go_simp) (cF.mono ?_)
      rintro e w' ⟨gt, c, rfl, hp⟩
      exact ⟨_, rfl, hK _ _ (h111100 gt c w' hp)⟩
    exact AllReadyIn.nil
  have h011000 : wpAnyIn F n Tryd.prog .any CB7OPS Q 4 #[false, true, true, false, false, false] { tmps := #[u0, u1, u2, .pointer (some ⟨b3, 0, none⟩), u4, u5, .pointer (some ⟨b6, 0, none⟩), u7, .pointer (some ⟨b8, 0, none⟩), u9, u10, u11, u12, u13, u14, u15, u16, u17, u18, u19, .agg (CELLS L).toArray, .agg (CELLS A).toArray, u22, u23, u24, u25, u26, u27, u28], defers := df } W.drew :=  by
    refine wpAnyIn_ready (rs := [0, 3]) (by kernel_rfl) (by simp) ?_
    refine AllReadyIn.cons (o := { dst := some 19, op := Op.load 54 (Operand.tmp 3), type := 54, pos := "met.go:47", after := #[], guard := none }) rfl (fun K hK => ?_) ?_
    · exact step_val_in9 (v := .pointer (some ⟨b, 0, none⟩)) rfl (by intro c h; cases h) rfl (by have hx := d3; go_simp) (hK _ _ h111000)
    refine AllReadyIn.cons (o := { dst := some 22, op := Op.call { callee := Callee.value (Operand.func 50), args := #[Operand.tmp 20, Operand.tmp 21], argTypes := #[26, 26] }, type := 30, pos := "met.go:47", after := #[{ on := 1, ground := Ground.data }, { on := 2, ground := Ground.data }], guard := none }) rfl (fun K hK => ?_) ?_
    · refine step_call_in9 rfl (by intro c h; cases h) hF hn (by go_simp) (cF.mono ?_)
      rintro e w' ⟨gt, c, rfl, hp⟩
      exact ⟨_, rfl, hK _ _ (h011100 gt c w' hp)⟩
    exact AllReadyIn.nil
  have h101000 : wpAnyIn F n Tryd.prog .any CB7OPS Q 4 #[true, false, true, false, false, false] { tmps := #[u0, u1, u2, .pointer (some ⟨b3, 0, none⟩), u4, u5, .pointer (some ⟨b6, 0, none⟩), u7, .pointer (some ⟨b8, 0, none⟩), u9, u10, u11, u12, u13, u14, u15, u16, u17, u18, .pointer (some ⟨b, 0, none⟩), u20, .agg (CELLS A).toArray, u22, u23, u24, u25, u26, u27, u28], defers := df } W.drew :=  by
    refine wpAnyIn_ready (rs := [1]) (by kernel_rfl) (by simp) ?_
    refine AllReadyIn.cons (o := { dst := some 20, op := Op.load 26 (Operand.tmp 8), type := 26, pos := "met.go:47", after := #[], guard := none }) rfl (fun K hK => ?_) ?_
    · exact step_val_in9 (v := .agg (CELLS L).toArray) rfl (by intro c h; cases h) rfl (run_value9 (run_loadAt_mid (P := Tryd.prog) W.drew b8 0 26 _ _ d8 Tryd.underlying26 rfl (info_cells lL))) (hK _ _ h111000)
    exact AllReadyIn.nil
  have h110000 : wpAnyIn F n Tryd.prog .any CB7OPS Q 4 #[true, true, false, false, false, false] { tmps := #[u0, u1, u2, .pointer (some ⟨b3, 0, none⟩), u4, u5, .pointer (some ⟨b6, 0, none⟩), u7, .pointer (some ⟨b8, 0, none⟩), u9, u10, u11, u12, u13, u14, u15, u16, u17, u18, .pointer (some ⟨b, 0, none⟩), .agg (CELLS L).toArray, u21, u22, u23, u24, u25, u26, u27, u28], defers := df } W.drew :=  by
    refine wpAnyIn_ready (rs := [2]) (by kernel_rfl) (by simp) ?_
    refine AllReadyIn.cons (o := { dst := some 21, op := Op.load 26 (Operand.tmp 6), type := 26, pos := "met.go:47", after := #[], guard := none }) rfl (fun K hK => ?_) ?_
    · exact step_val_in9 (v := .agg (CELLS A).toArray) rfl (by intro c h; cases h) rfl (run_value9 (run_loadAt_mid (P := Tryd.prog) W.drew b6 0 26 _ _ d6 Tryd.underlying26 rfl (info_cells lA))) (hK _ _ h111000)
    exact AllReadyIn.nil
  have h001000 : wpAnyIn F n Tryd.prog .any CB7OPS Q 5 #[false, false, true, false, false, false] { tmps := #[u0, u1, u2, .pointer (some ⟨b3, 0, none⟩), u4, u5, .pointer (some ⟨b6, 0, none⟩), u7, .pointer (some ⟨b8, 0, none⟩), u9, u10, u11, u12, u13, u14, u15, u16, u17, u18, u19, u20, .agg (CELLS A).toArray, u22, u23, u24, u25, u26, u27, u28], defers := df } W.drew :=  by
    refine wpAnyIn_ready (rs := [0, 1]) (by kernel_rfl) (by simp) ?_
    refine AllReadyIn.cons (o := { dst := some 19, op := Op.load 54 (Operand.tmp 3), type := 54, pos := "met.go:47", after := #[], guard := none }) rfl (fun K hK => ?_) ?_
    · exact step_val_in9 (v := .pointer (some ⟨b, 0, none⟩)) rfl (by intro c h; cases h) rfl (by have hx := d3; go_simp) (hK _ _ h101000)
    refine AllReadyIn.cons (o := { dst := some 20, op := Op.load 26 (Operand.tmp 8), type := 26, pos := "met.go:47", after := #[], guard := none }) rfl (fun K hK => ?_) ?_
    · exact step_val_in9 (v := .agg (CELLS L).toArray) rfl (by intro c h; cases h) rfl (run_value9 (run_loadAt_mid (P := Tryd.prog) W.drew b8 0 26 _ _ d8 Tryd.underlying26 rfl (info_cells lL))) (hK _ _ h011000)
    exact AllReadyIn.nil
  have h010000 : wpAnyIn F n Tryd.prog .any CB7OPS Q 5 #[false, true, false, false, false, false] { tmps := #[u0, u1, u2, .pointer (some ⟨b3, 0, none⟩), u4, u5, .pointer (some ⟨b6, 0, none⟩), u7, .pointer (some ⟨b8, 0, none⟩), u9, u10, u11, u12, u13, u14, u15, u16, u17, u18, u19, .agg (CELLS L).toArray, u21, u22, u23, u24, u25, u26, u27, u28], defers := df } W.drew :=  by
    refine wpAnyIn_ready (rs := [0, 2]) (by kernel_rfl) (by simp) ?_
    refine AllReadyIn.cons (o := { dst := some 19, op := Op.load 54 (Operand.tmp 3), type := 54, pos := "met.go:47", after := #[], guard := none }) rfl (fun K hK => ?_) ?_
    · exact step_val_in9 (v := .pointer (some ⟨b, 0, none⟩)) rfl (by intro c h; cases h) rfl (by have hx := d3; go_simp) (hK _ _ h110000)
    refine AllReadyIn.cons (o := { dst := some 21, op := Op.load 26 (Operand.tmp 6), type := 26, pos := "met.go:47", after := #[], guard := none }) rfl (fun K hK => ?_) ?_
    · exact step_val_in9 (v := .agg (CELLS A).toArray) rfl (by intro c h; cases h) rfl (run_value9 (run_loadAt_mid (P := Tryd.prog) W.drew b6 0 26 _ _ d6 Tryd.underlying26 rfl (info_cells lA))) (hK _ _ h011000)
    exact AllReadyIn.nil
  have h100000 : wpAnyIn F n Tryd.prog .any CB7OPS Q 5 #[true, false, false, false, false, false] { tmps := #[u0, u1, u2, .pointer (some ⟨b3, 0, none⟩), u4, u5, .pointer (some ⟨b6, 0, none⟩), u7, .pointer (some ⟨b8, 0, none⟩), u9, u10, u11, u12, u13, u14, u15, u16, u17, u18, .pointer (some ⟨b, 0, none⟩), u20, u21, u22, u23, u24, u25, u26, u27, u28], defers := df } W.drew :=  by
    refine wpAnyIn_ready (rs := [1, 2]) (by kernel_rfl) (by simp) ?_
    refine AllReadyIn.cons (o := { dst := some 20, op := Op.load 26 (Operand.tmp 8), type := 26, pos := "met.go:47", after := #[], guard := none }) rfl (fun K hK => ?_) ?_
    · exact step_val_in9 (v := .agg (CELLS L).toArray) rfl (by intro c h; cases h) rfl (run_value9 (run_loadAt_mid (P := Tryd.prog) W.drew b8 0 26 _ _ d8 Tryd.underlying26 rfl (info_cells lL))) (hK _ _ h110000)
    refine AllReadyIn.cons (o := { dst := some 21, op := Op.load 26 (Operand.tmp 6), type := 26, pos := "met.go:47", after := #[], guard := none }) rfl (fun K hK => ?_) ?_
    · exact step_val_in9 (v := .agg (CELLS A).toArray) rfl (by intro c h; cases h) rfl (run_value9 (run_loadAt_mid (P := Tryd.prog) W.drew b6 0 26 _ _ d6 Tryd.underlying26 rfl (info_cells lA))) (hK _ _ h101000)
    exact AllReadyIn.nil
  have h000000 : wpAnyIn F n Tryd.prog .any CB7OPS Q 6 #[false, false, false, false, false, false] { tmps := #[u0, u1, u2, .pointer (some ⟨b3, 0, none⟩), u4, u5, .pointer (some ⟨b6, 0, none⟩), u7, .pointer (some ⟨b8, 0, none⟩), u9, u10, u11, u12, u13, u14, u15, u16, u17, u18, u19, u20, u21, u22, u23, u24, u25, u26, u27, u28], defers := df } W.drew :=  by
    refine wpAnyIn_ready (rs := [0, 1, 2]) (by kernel_rfl) (by simp) ?_
    refine AllReadyIn.cons (o := { dst := some 19, op := Op.load 54 (Operand.tmp 3), type := 54, pos := "met.go:47", after := #[], guard := none }) rfl (fun K hK => ?_) ?_
    · exact step_val_in9 (v := .pointer (some ⟨b, 0, none⟩)) rfl (by intro c h; cases h) rfl (by have hx := d3; go_simp) (hK _ _ h100000)
    refine AllReadyIn.cons (o := { dst := some 20, op := Op.load 26 (Operand.tmp 8), type := 26, pos := "met.go:47", after := #[], guard := none }) rfl (fun K hK => ?_) ?_
    · exact step_val_in9 (v := .agg (CELLS L).toArray) rfl (by intro c h; cases h) rfl (run_value9 (run_loadAt_mid (P := Tryd.prog) W.drew b8 0 26 _ _ d8 Tryd.underlying26 rfl (info_cells lL))) (hK _ _ h010000)
    refine AllReadyIn.cons (o := { dst := some 21, op := Op.load 26 (Operand.tmp 6), type := 26, pos := "met.go:47", after := #[], guard := none }) rfl (fun K hK => ?_) ?_
    · exact step_val_in9 (v := .agg (CELLS A).toArray) rfl (by intro c h; cases h) rfl (run_value9 (run_loadAt_mid (P := Tryd.prog) W.drew b6 0 26 _ _ d6 Tryd.underlying26 rfl (info_cells lA))) (hK _ _ h001000)
    exact AllReadyIn.nil
  refine wpIn_region_any (by kernel_rfl) ?_
  exact h000000
end Go.Proofs.YtbmjoiiagldklaaDoor

/- The region of Reach that draws its order. -/
namespace Go.Proofs.YtbmjoiiagldklaaDoor
open Go.RowKit
set_option maxRecDepth 100000

end Go.Proofs.YtbmjoiiagldklaaDoor

/- What Joins answers. -/
namespace Go.Proofs.YtbmjoiiagldklaaDoor
open Go.RowKit

end Go.Proofs.YtbmjoiiagldklaaDoor

/- What Reach of package verify answers. -/
namespace Go.Proofs.YtbmjoiiagldklaaDoor
open Go.RowKit
set_option maxRecDepth 100000

theorem own_shape2 {w : World} {base : Nat} {t : TypeId} {s : Nat} {v : Value} {n : Nat} {xs : List Value} (h : w.ownsRow base t s v n xs) : ∃ ad cap, v = .slice ad n cap ∧ n ≤ cap ∧ (0 < n → ∃ g, ad = some ⟨g, 0, none⟩ ∧ base ≤ g ∧ g < w.heap.size) := by
  rcases h.2 with ⟨rfl, h0⟩ | ⟨g, cap, cur, rfl, hb, hg, r⟩
  · subst h0
    exact ⟨none, 0, rfl, Nat.le_refl _, fun h => by omega⟩
  · exact ⟨_, cap, rfl, r.1, fun _ => ⟨g, rfl, hb, (Array.getElem?_eq_some_iff.1 hg).1⟩⟩
end Go.Proofs.YtbmjoiiagldklaaDoor
