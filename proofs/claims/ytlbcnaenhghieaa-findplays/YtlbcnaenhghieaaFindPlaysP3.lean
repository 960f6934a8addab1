/- Texts of FindPlays, one behind the other: StepLists, ProofSame, ProofTexts, ProofRow, FindState, CarryBuiltPlain. -/
import Derived.Deep.AppendLies
import Derived.Test.YtlbcnaenhghieaaFindPlaysP2
/- Laws of one operation, at a step of a region that draws its order. -/
namespace Go.Proofs.Ytlbcnaenhghieaa
open Go.RowKit
set_option maxRecDepth 100000

theorem wp_both {P : Program} {o : Oper} {a : Act} {w : World} {K K' : Act → World → Prop} {Q Q' : Exit → Act → World → Prop} (h : ∀ a w, K a w → K' a w) (hq : ∀ c a w, Q (.panic c) a w → Q' (.panic c) a w) (hl : LetsOut Q → LetsOut Q') (hh : o.wp P a w K Q) : o.wp P a w K' Q' := by
  unfold Oper.wp at *
  generalize (execOp a.eval o).run P w = r at *
  cases r with
  | ok n w' =>
    cases n <;> simp only [Oper.upon] at hh ⊢ <;>
      first
        | exact h _ _ hh
        | exact Calls.mono hh (fun e w'' he => by cases e <;> first | exact h _ _ he | exact hq _ _ _ he | exact hl he)
        | exact Rows.mono hh (fun _ _ he => h _ _ he)
  | halt x w' => cases x <;> simp only [Oper.upon] at hh ⊢ <;> first | exact hq _ _ _ hh | exact hh
/-- what serves one operation in a row serves at a step. -/
theorem step_of_list {P : Program} {ops : Array Oper} {o : Oper} {a : Act} {w : World} {K : Act → World → Prop} {Q : Exit → Act → World → Prop} {E : Prop} (hw : Region.wanted o (yielded ops a.tmps) = true)
    (h : wpList P ops (fun e a w => e = Exit.normal ∧ K a w) [o] a w) : if Region.wanted o (yielded ops a.tmps) = true then Oper.wp P o a w K Q else E := by
  rw [if_pos hw]
  unfold wpList at h
  rw [if_pos hw] at h
  rcases h with h | ⟨_, a', w', h', _⟩
  · exact wp_both (fun a w h => by unfold wpList at h; exact h.2) (fun c a w h => by cases h.1) (fun h => by obtain ⟨_, _, h, _⟩ := h; cases h) h
  · cases h'
/-- an operation that gives a value. -/
theorem step_valw {ops : Array Oper} {o : Oper} {a : Act} {w w' : World} {K : Act → World → Prop} {Q : Exit → Act → World → Prop} {E : Prop} {v : Value} (hw : Region.wanted o (yielded ops a.tmps) = true)
    (hrun : (execOp a.eval o).run Try.prog w = .ok (.value v) w') (h : K (a.put o.dst v) w') : if Region.wanted o (yielded ops a.tmps) = true then Oper.wp Try.prog o a w K Q else E := by
  rw [if_pos hw]
  unfold Oper.wp
  rw [hrun]
  exact h
end Go.Proofs.Ytlbcnaenhghieaa

/- Are these the same hashes? -/
namespace Go.Proofs.Ytlbcnaenhghieaa
open Go.RowKit
set_option maxRecDepth 100000

theorem hsh_ext {l k : List Int} {n : Nat} (hl : l.length = 32 * n) (hk : k.length = 32 * n) (h : ∀ i, i < n → HSH l i = HSH k i) : l = k := by
  have e : ∀ i, i ≤ n → l.take (32 * i) = k.take (32 * i) := by
    intro i
    induction i with
    | zero => intro _; simp
    | succ i ih => intro hi; rw [HSH_next, HSH_next, ih (by omega), h i (by omega)]
  have := e n (Nat.le_refl _)
  rwa [List.take_of_length_le (by omega), List.take_of_length_le (by omega)] at this
def SHOPS : Array Oper := #[{ dst := some 17, op := Op.move (Operand.tmp 0), type := 26, pos := "ref.go:176", after := #[], guard := none }, { dst := some 18, op := Op.move (Operand.tmp 5), type := 3, pos := "ref.go:176", after := #[], guard := none }, { dst := some 19, op := Op.indexAddr 26 (Operand.tmp 17) (Operand.tmp 18), type := 0, pos := "ref.go:176", after := #[{ on := 0, ground := Ground.data }, { on := 1, ground := Ground.data }], guard := none }, { dst := some 20, op := Op.load 30 (Operand.tmp 19), type := 30, pos := "ref.go:176", after := #[{ on := 2, ground := Ground.data }], guard := none }, { dst := some 21, op := Op.move (Operand.tmp 1), type := 26, pos := "ref.go:176", after := #[], guard := none }, { dst := some 22, op := Op.move (Operand.tmp 5), type := 3, pos := "ref.go:176", after := #[], guard := none }, { dst := some 23, op := Op.indexAddr 26 (Operand.tmp 21) (Operand.tmp 22), type := 0, pos := "ref.go:176", after := #[{ on := 4, ground := Ground.data }, { on := 5, ground := Ground.data }], guard := none }, { dst := some 24, op := Op.load 30 (Operand.tmp 23), type := 30, pos := "ref.go:176", after := #[{ on := 6, ground := Ground.data }], guard := none }, { dst := some 25, op := Op.binOp BinOp.neq 30 (Operand.tmp 20) (Operand.tmp 24) 30, type := 4, pos := "ref.go:176", after := #[{ on := 3, ground := Ground.data }, { on := 7, ground := Ground.data }], guard := none }]
set_option maxHeartbeats 2000000 in
theorem same_region {Q : Exit → Act → World → Prop} (u2 u3 u4 u6 u7 u8 u9 u10 u11 u12 u13 u14 u15 u16 u17 u18 u19 u20 u21 u22 u23 u24 u25 : Value) (W : World) (w0 : World) (ba oa n ca bb ob m cb i : Nat) (H K : List Int) (hH : H.length = 32) (hK : K.length = 32) (b1 : (i : Int) < (n : Int)) (b2 : (i : Int) < (m : Int)) (hS : (fun W : World => W.rangeAt ba (oa + i * 32) (CELLS H) ∧ W.rangeAt bb (ob + i * 32) (CELLS K) ∧ Below w0.heap.size w0 W) W) (hQ : ∀ c (a : Act) (t : Tmp) (v : Value) w, Q (.panic c) (a.put (some t) v) w → Q (.panic c) a w)
    (h : ∀ w, (fun W : World => W.rangeAt ba (oa + i * 32) (CELLS H) ∧ W.rangeAt bb (ob + i * 32) (CELLS K) ∧ Below w0.heap.size w0 W) w → Q .normal { tmps := #[.slice (some ⟨ba, oa, none⟩) n ca, .slice (some ⟨bb, ob, none⟩) m cb, u2, u3, u4, .int .i64 (i : Int), u6, u7, u8, u9, u10, u11, u12, u13, u14, u15, u16, .slice (some ⟨ba, oa, none⟩) n ca, .int .i64 (i : Int), .pointer (some ⟨ba, oa + i * 32, none⟩), .agg (CELLS H).toArray, .slice (some ⟨bb, ob, none⟩) m cb, .int .i64 (i : Int), .pointer (some ⟨bb, ob + i * 32, none⟩), .agg (CELLS K).toArray, .bool (!decide (H = K))], defers := [] } w) : (Code.region 6 SHOPS true).wp Try.prog Q { tmps := #[.slice (some ⟨ba, oa, none⟩) n ca, .slice (some ⟨bb, ob, none⟩) m cb, u2, u3, u4, .int .i64 (i : Int), u6, u7, u8, u9, u10, u11, u12, u13, u14, u15, u16, u17, u18, u19, u20, u21, u22, u23, u24, u25], defers := [] } W := by
  have hs0 : (fun W : World => W.rangeAt ba (oa + i * 32) (CELLS H) ∧ W.rangeAt bb (ob + i * 32) (CELLS K) ∧ Below w0.heap.size w0 W) W.drew := ⟨hS.1, hS.2.1, hS.2.2.drew⟩
  have k0 : ∀ w, (fun W : World => W.rangeAt ba (oa + i * 32) (CELLS H) ∧ W.rangeAt bb (ob + i * 32) (CELLS K) ∧ Below w0.heap.size w0 W) w → wpAnyH Try.prog .any SHOPS Q (fun W : World => W.rangeAt ba (oa + i * 32) (CELLS H) ∧ W.rangeAt bb (ob + i * 32) (CELLS K) ∧ Below w0.heap.size w0 W) 9 #[false, false, false, false, false, false, false, false, false] { tmps := #[.slice (some ⟨ba, oa, none⟩) n ca, .slice (some ⟨bb, ob, none⟩) m cb, u2, u3, u4, .int .i64 (i : Int), u6, u7, u8, u9, u10, u11, u12, u13, u14, u15, u16, u17, u18, u19, u20, u21, u22, u23, u24, u25], defers := [] } w := fun w hw => by
    have hww : (fun W : World => W.rangeAt ba (oa + i * 32) (CELLS H) ∧ W.rangeAt bb (ob + i * 32) (CELLS K) ∧ Below w0.heap.size w0 W) w := hw
    have last : wpAnyH Try.prog .any SHOPS Q (fun W : World => W.rangeAt ba (oa + i * 32) (CELLS H) ∧ W.rangeAt bb (ob + i * 32) (CELLS K) ∧ Below w0.heap.size w0 W) 0 #[true, true, true, true, true, true, true, true, true] { tmps := #[.slice (some ⟨ba, oa, none⟩) n ca, .slice (some ⟨bb, ob, none⟩) m cb, u2, u3, u4, .int .i64 (i : Int), u6, u7, u8, u9, u10, u11, u12, u13, u14, u15, u16, .slice (some ⟨ba, oa, none⟩) n ca, .int .i64 (i : Int), .pointer (some ⟨ba, oa + i * 32, none⟩), .agg (CELLS H).toArray, .slice (some ⟨bb, ob, none⟩) m cb, .int .i64 (i : Int), .pointer (some ⟨bb, ob + i * 32, none⟩), .agg (CELLS K).toArray, .bool (!decide (H = K))], defers := [] } w := wpAnyH_done (by kernel_rfl) (h w hw) _
    have t8 : wpAnyH Try.prog .any SHOPS Q (fun W : World => W.rangeAt ba (oa + i * 32) (CELLS H) ∧ W.rangeAt bb (ob + i * 32) (CELLS K) ∧ Below w0.heap.size w0 W) 1 #[true, true, true, true, true, true, true, true, false] { tmps := #[.slice (some ⟨ba, oa, none⟩) n ca, .slice (some ⟨bb, ob, none⟩) m cb, u2, u3, u4, .int .i64 (i : Int), u6, u7, u8, u9, u10, u11, u12, u13, u14, u15, u16, .slice (some ⟨ba, oa, none⟩) n ca, .int .i64 (i : Int), .pointer (some ⟨ba, oa + i * 32, none⟩), .agg (CELLS H).toArray, .slice (some ⟨bb, ob, none⟩) m cb, .int .i64 (i : Int), .pointer (some ⟨bb, ob + i * 32, none⟩), .agg (CELLS K).toArray, u25], defers := [] } w :=
      wpAnyH_take (i := 8) (oi := { dst := some 25, op := Op.binOp BinOp.neq 30 (Operand.tmp 20) (Operand.tmp 24) 30, type := 4, pos := "ref.go:176", after := #[{ on := 3, ground := Ground.data }, { on := 7, ground := Ground.data }], guard := none }) (v := .bool (!decide (H = K))) rfl (by kernel_rfl) (by kernel_rfl) (by kernel_rfl) (fun _ _ _ h => hQ _ _ _ _ _ h) (Yields.yieldsIf (Or.inl ⟨by rfl, fun W => run_value (neq_hashes hH hK _ _ W)⟩)) hww last
    have t7 : wpAnyH Try.prog .any SHOPS Q (fun W : World => W.rangeAt ba (oa + i * 32) (CELLS H) ∧ W.rangeAt bb (ob + i * 32) (CELLS K) ∧ Below w0.heap.size w0 W) 2 #[true, true, true, true, true, true, true, false, false] { tmps := #[.slice (some ⟨ba, oa, none⟩) n ca, .slice (some ⟨bb, ob, none⟩) m cb, u2, u3, u4, .int .i64 (i : Int), u6, u7, u8, u9, u10, u11, u12, u13, u14, u15, u16, .slice (some ⟨ba, oa, none⟩) n ca, .int .i64 (i : Int), .pointer (some ⟨ba, oa + i * 32, none⟩), .agg (CELLS H).toArray, .slice (some ⟨bb, ob, none⟩) m cb, .int .i64 (i : Int), .pointer (some ⟨bb, ob + i * 32, none⟩), u24, u25], defers := [] } w :=
      wpAnyH_take (i := 7) (oi := { dst := some 24, op := Op.load 30 (Operand.tmp 23), type := 30, pos := "ref.go:176", after := #[{ on := 6, ground := Ground.data }], guard := none }) (v := .agg (CELLS K).toArray) rfl (by kernel_rfl) (by kernel_rfl) (by kernel_rfl) (fun _ _ _ h => hQ _ _ _ _ _ h) (yieldsIf_load_mid (by rfl) 30 (.tmp 23) rfl bb (ob + i * 32) rfl (CELLS K) _ (fun w h => h.2.1) Try.underlying30 rfl (info_cells hK)) hww t8
    have t6 : wpAnyH Try.prog .any SHOPS Q (fun W : World => W.rangeAt ba (oa + i * 32) (CELLS H) ∧ W.rangeAt bb (ob + i * 32) (CELLS K) ∧ Below w0.heap.size w0 W) 3 #[true, true, true, true, true, true, false, false, false] { tmps := #[.slice (some ⟨ba, oa, none⟩) n ca, .slice (some ⟨bb, ob, none⟩) m cb, u2, u3, u4, .int .i64 (i : Int), u6, u7, u8, u9, u10, u11, u12, u13, u14, u15, u16, .slice (some ⟨ba, oa, none⟩) n ca, .int .i64 (i : Int), .pointer (some ⟨ba, oa + i * 32, none⟩), .agg (CELLS H).toArray, .slice (some ⟨bb, ob, none⟩) m cb, .int .i64 (i : Int), u23, u24, u25], defers := [] } w :=
      wpAnyH_take (i := 6) (oi := { dst := some 23, op := Op.indexAddr 26 (Operand.tmp 21) (Operand.tmp 22), type := 0, pos := "ref.go:176", after := #[{ on := 4, ground := Ground.data }, { on := 5, ground := Ground.data }], guard := none }) (v := .pointer (some ⟨bb, ob + i * 32, none⟩)) rfl (by kernel_rfl) (by kernel_rfl) (by kernel_rfl) (fun _ _ _ h => hQ _ _ _ _ _ h) (Yields.yieldsIf (Or.inl ⟨by rfl, fun W => by go_simp⟩)) hww t7
    have t5 : wpAnyH Try.prog .any SHOPS Q (fun W : World => W.rangeAt ba (oa + i * 32) (CELLS H) ∧ W.rangeAt bb (ob + i * 32) (CELLS K) ∧ Below w0.heap.size w0 W) 4 #[true, true, true, true, true, false, false, false, false] { tmps := #[.slice (some ⟨ba, oa, none⟩) n ca, .slice (some ⟨bb, ob, none⟩) m cb, u2, u3, u4, .int .i64 (i : Int), u6, u7, u8, u9, u10, u11, u12, u13, u14, u15, u16, .slice (some ⟨ba, oa, none⟩) n ca, .int .i64 (i : Int), .pointer (some ⟨ba, oa + i * 32, none⟩), .agg (CELLS H).toArray, .slice (some ⟨bb, ob, none⟩) m cb, u22, u23, u24, u25], defers := [] } w :=
      wpAnyH_take (i := 5) (oi := { dst := some 22, op := Op.move (Operand.tmp 5), type := 3, pos := "ref.go:176", after := #[], guard := none }) (v := .int .i64 (i : Int)) rfl (by kernel_rfl) (by kernel_rfl) (by kernel_rfl) (fun _ _ _ h => hQ _ _ _ _ _ h) (Yields.yieldsIf (Or.inl ⟨by rfl, fun W => by go_simp⟩)) hww t6
    have t4 : wpAnyH Try.prog .any SHOPS Q (fun W : World => W.rangeAt ba (oa + i * 32) (CELLS H) ∧ W.rangeAt bb (ob + i * 32) (CELLS K) ∧ Below w0.heap.size w0 W) 5 #[true, true, true, true, false, false, false, false, false] { tmps := #[.slice (some ⟨ba, oa, none⟩) n ca, .slice (some ⟨bb, ob, none⟩) m cb, u2, u3, u4, .int .i64 (i : Int), u6, u7, u8, u9, u10, u11, u12, u13, u14, u15, u16, .slice (some ⟨ba, oa, none⟩) n ca, .int .i64 (i : Int), .pointer (some ⟨ba, oa + i * 32, none⟩), .agg (CELLS H).toArray, u21, u22, u23, u24, u25], defers := [] } w :=
      wpAnyH_take (i := 4) (oi := { dst := some 21, op := Op.move (Operand.tmp 1), type := 26, pos := "ref.go:176", after := #[], guard := none }) (v := .slice (some ⟨bb, ob, none⟩) m cb) rfl (by kernel_rfl) (by kernel_rfl) (by kernel_rfl) (fun _ _ _ h => hQ _ _ _ _ _ h) (Yields.yieldsIf (Or.inl ⟨by rfl, fun W => by go_simp⟩)) hww t5
    have t3 : wpAnyH Try.prog .any SHOPS Q (fun W : World => W.rangeAt ba (oa + i * 32) (CELLS H) ∧ W.rangeAt bb (ob + i * 32) (CELLS K) ∧ Below w0.heap.size w0 W) 6 #[true, true, true, false, false, false, false, false, false] { tmps := #[.slice (some ⟨ba, oa, none⟩) n ca, .slice (some ⟨bb, ob, none⟩) m cb, u2, u3, u4, .int .i64 (i : Int), u6, u7, u8, u9, u10, u11, u12, u13, u14, u15, u16, .slice (some ⟨ba, oa, none⟩) n ca, .int .i64 (i : Int), .pointer (some ⟨ba, oa + i * 32, none⟩), u20, u21, u22, u23, u24, u25], defers := [] } w :=
      wpAnyH_take (i := 3) (oi := { dst := some 20, op := Op.load 30 (Operand.tmp 19), type := 30, pos := "ref.go:176", after := #[{ on := 2, ground := Ground.data }], guard := none }) (v := .agg (CELLS H).toArray) rfl (by kernel_rfl) (by kernel_rfl) (by kernel_rfl) (fun _ _ _ h => hQ _ _ _ _ _ h) (yieldsIf_load_mid (by rfl) 30 (.tmp 19) rfl ba (oa + i * 32) rfl (CELLS H) _ (fun w h => h.1) Try.underlying30 rfl (info_cells hH)) hww t4
    have t2 : wpAnyH Try.prog .any SHOPS Q (fun W : World => W.rangeAt ba (oa + i * 32) (CELLS H) ∧ W.rangeAt bb (ob + i * 32) (CELLS K) ∧ Below w0.heap.size w0 W) 7 #[true, true, false, false, false, false, false, false, false] { tmps := #[.slice (some ⟨ba, oa, none⟩) n ca, .slice (some ⟨bb, ob, none⟩) m cb, u2, u3, u4, .int .i64 (i : Int), u6, u7, u8, u9, u10, u11, u12, u13, u14, u15, u16, .slice (some ⟨ba, oa, none⟩) n ca, .int .i64 (i : Int), u19, u20, u21, u22, u23, u24, u25], defers := [] } w :=
      wpAnyH_take (i := 2) (oi := { dst := some 19, op := Op.indexAddr 26 (Operand.tmp 17) (Operand.tmp 18), type := 0, pos := "ref.go:176", after := #[{ on := 0, ground := Ground.data }, { on := 1, ground := Ground.data }], guard := none }) (v := .pointer (some ⟨ba, oa + i * 32, none⟩)) rfl (by kernel_rfl) (by kernel_rfl) (by kernel_rfl) (fun _ _ _ h => hQ _ _ _ _ _ h) (Yields.yieldsIf (Or.inl ⟨by rfl, fun W => by go_simp⟩)) hww t3
    have t1 : wpAnyH Try.prog .any SHOPS Q (fun W : World => W.rangeAt ba (oa + i * 32) (CELLS H) ∧ W.rangeAt bb (ob + i * 32) (CELLS K) ∧ Below w0.heap.size w0 W) 8 #[true, false, false, false, false, false, false, false, false] { tmps := #[.slice (some ⟨ba, oa, none⟩) n ca, .slice (some ⟨bb, ob, none⟩) m cb, u2, u3, u4, .int .i64 (i : Int), u6, u7, u8, u9, u10, u11, u12, u13, u14, u15, u16, .slice (some ⟨ba, oa, none⟩) n ca, u18, u19, u20, u21, u22, u23, u24, u25], defers := [] } w :=
      wpAnyH_take (i := 1) (oi := { dst := some 18, op := Op.move (Operand.tmp 5), type := 3, pos := "ref.go:176", after := #[], guard := none }) (v := .int .i64 (i : Int)) rfl (by kernel_rfl) (by kernel_rfl) (by kernel_rfl) (fun _ _ _ h => hQ _ _ _ _ _ h) (Yields.yieldsIf (Or.inl ⟨by rfl, fun W => by go_simp⟩)) hww t2
    have t0 : wpAnyH Try.prog .any SHOPS Q (fun W : World => W.rangeAt ba (oa + i * 32) (CELLS H) ∧ W.rangeAt bb (ob + i * 32) (CELLS K) ∧ Below w0.heap.size w0 W) 9 #[false, false, false, false, false, false, false, false, false] { tmps := #[.slice (some ⟨ba, oa, none⟩) n ca, .slice (some ⟨bb, ob, none⟩) m cb, u2, u3, u4, .int .i64 (i : Int), u6, u7, u8, u9, u10, u11, u12, u13, u14, u15, u16, u17, u18, u19, u20, u21, u22, u23, u24, u25], defers := [] } w :=
      wpAnyH_take (i := 0) (oi := { dst := some 17, op := Op.move (Operand.tmp 0), type := 26, pos := "ref.go:176", after := #[], guard := none }) (v := .slice (some ⟨ba, oa, none⟩) n ca) rfl (by kernel_rfl) (by kernel_rfl) (by kernel_rfl) (fun _ _ _ h => hQ _ _ _ _ _ h) (Yields.yieldsIf (Or.inl ⟨by rfl, fun W => by go_simp⟩)) hww t1
    exact t0
  exact wp_region_held_drew (S := (fun W : World => W.rangeAt ba (oa + i * 32) (CELLS H) ∧ W.rangeAt bb (ob + i * 32) (CELLS K) ∧ Below w0.heap.size w0 W)) (by kernel_rfl) hs0 (fun _ => k0 _ hs0)
set_option maxHeartbeats 1000000 in
theorem samehashes_ok (a b : Option Addr) (n m ca cb : Nat) (l k : List Int) (w : World) (hA : Flat w a n l) (hB : Flat w b m k) (hn : n ≤ 1000000) :
    Calls Try.prog 24 #[.slice a n ca, .slice b m cb] w fun e w' => e = .returned (.bool (decide (l = k))) ∧ Below w.heap.size w w' := by
  by_cases hnm : n = m
  · subst hnm
    rcases Nat.eq_zero_or_pos n with h | h
    · subst h
      have hd : decide (l = k) = true := by
        rw [List.eq_nil_of_length_eq_zero hA.1, List.eq_nil_of_length_eq_zero hB.1]
        rfl
      rw [hd]
      clear hA hB hd
      go_enter Try.func24, Try.ntmps24
      go_wp2
      refine wp_loop_rounds 1 ?_
      rw [rounds_succ]
      go_wp2
      go_ret
      exact ⟨rfl, Below.refl _ _⟩
    · obtain ⟨ba, oa, rfl, la, hca⟩ := hA.2.1 h
      obtain ⟨bb, ob, rfl, lb, hcb⟩ := hB.2.1 h
      have HC : Aside (Flat w (some ⟨ba, oa, none⟩) n l ∧ Flat w (some ⟨bb, ob, none⟩) n k ∧ n ≤ 1000000) := ⟨hA, hB, hn⟩
      clear hA hB hca hcb la lb hn
      obtain ⟨D, hD⟩ : ∃ D, D = decide (l = k) := ⟨_, rfl⟩
      rw [← hD]
      have HD : Aside (D = decide (l = k)) := hD
      clear hD
      go_enter Try.func24, Try.ntmps24
      go_wp2
      go_loopg [5] n (fun g s5 wx => ∃ i : Nat, s5 = .int .i64 i ∧ Aside (i + g = n ∧ Below w.heap.size w wx ∧ ∀ j, j < i → HSH l j = HSH k j))
      case atStart => exact ⟨0, rfl, by omega, Below.refl _ _, fun j hj => by omega⟩
      case round =>
        obtain ⟨i, rfl, A⟩ := hrel
        cases gk with
        | zero =>
          obtain rfl : i = n := by have := A.out.1; omega
          have hlt : ¬ (i : Int) < (i : Int) := by omega
          have hd : Aside (D = true) := by
            show D = true
            rw [HD.out, decide_eq_true_iff]
            exact hsh_ext HC.out.1.1 HC.out.2.1.1 A.out.2.2
          clear HD HC
          go_wp2
          go_ret
          exact ⟨by rw [hd.out]; rfl, A.out.2.1⟩
        | succ g =>
          obtain ⟨hig, hbel, hbef⟩ := A.out
          have hlt : (i : Int) < (n : Int) := by omega
          have r1 := (HC.out.1.below hbel).at (show i < n by omega)
          have r2 := (HC.out.2.1.below hbel).at (show i < n by omega)
          have l1 := HSH_length HC.out.1.1 (show i < n by omega)
          have l2 := HSH_length HC.out.2.1.1 (show i < n by omega)
          have E1 : Aside (wrap64 ((i : Int) + 1) = ((i + 1 : Nat) : Int)) := by have := HC.out.2.2; show wrap64 ((i : Int) + 1) = ((i + 1 : Nat) : Int); unfold wrap64; omega
          by_cases he : HSH l i = HSH k i
          · have B : Aside (i + 1 + g = n ∧ ∀ j, j < i + 1 → HSH l j = HSH k j) := ⟨by omega, fun j hj => by
              by_cases e : j = i
              · rw [e]; exact he
              · exact hbef j (by omega)⟩
            have hdf : (!decide (HSH l i = HSH k i)) = false := by rw [he]; simp
            have Z : Aside (Below w.heap.size w wr) := hbel
            clear he hig hbel hbef A HD HC
            generalize HSH l i = H at *
            generalize HSH k i = K at *
            go_upto_region 6 with fail
            refine same_region _ _ _ _ _ _ _ _ _ _ _ _ _ _ _ _ _ _ _ _ _ _ _ _ w ba oa n ca bb ob n cb i H K l1 l2 hlt hlt ⟨r1, r2, Z.out⟩ (fun _ _ _ _ _ h => h) ?_
            rintro w1 ⟨_, _, q3⟩
            rw [hdf]
            clear r1 r2 l1 l2 hdf
            have Z2 : Aside (Below w.heap.size w w1) := q3
            clear q3 Z
            have e1 := E1.out
            go_wp2
            go_roundg g
            case measure => exact Nat.lt_succ_self _
            case rel => exact ⟨i + 1, by first | rfl | (rw [E1.out]), B.out.1, Z2.out, B.out.2⟩
          · have hd : Aside (D = false) := by
              show D = false
              rw [HD.out, decide_eq_false_iff_not]
              intro e
              rw [e] at he
              exact he rfl
            have hdf : (!decide (HSH l i = HSH k i)) = true := by simp [he]
            have Z : Aside (Below w.heap.size w wr) := hbel
            clear he hig hbel hbef A HD HC E1
            generalize HSH l i = H at *
            generalize HSH k i = K at *
            go_upto_region 6 with fail
            refine same_region _ _ _ _ _ _ _ _ _ _ _ _ _ _ _ _ _ _ _ _ _ _ _ _ w ba oa n ca bb ob n cb i H K l1 l2 hlt hlt ⟨r1, r2, Z.out⟩ (fun _ _ _ _ _ h => h) ?_
            rintro w1 ⟨_, _, q3⟩
            rw [hdf]
            clear r1 r2 l1 l2 hdf
            have Z2 : Aside (Below w.heap.size w w1) := q3
            clear q3 Z
            go_wp2
            go_ret
            exact ⟨by rw [hd.out]; rfl, Z2.out⟩
  · have hne : ¬ (n : Int) = (m : Int) := by omega
    have hd : decide (l = k) = false := by
      rw [decide_eq_false_iff_not]
      intro e
      rw [e] at hA
      have := hA.1.symm.trans hB.1
      omega
    rw [hd]
    clear hA hB hd
    go_enter Try.func24, Try.ntmps24
    go_wp2
    go_ret
    exact ⟨rfl, Below.refl _ _⟩
end Go.Proofs.Ytlbcnaenhghieaa

/- The same bytes in a list of their own that goes on behind them; are these the same bytes? -/
namespace Go.Proofs.Ytlbcnaenhghieaa
open Go.RowKit
set_option maxRecDepth 100000

end Go.Proofs.Ytlbcnaenhghieaa

/- The same hashes in a list of their own that goes on behind them; are these the same bytes, the same proofs? -/
namespace Go.Proofs.Ytlbcnaenhghieaa
open Go.RowKit
set_option maxRecDepth 100000

/-! a list of hashes, copied with a mark behind it -/
theorem Flat.none_nil {w : World} {n : Nat} {l : List Int} (h : Flat w none n l) : n = 0 ∧ l = [] := by
  have h0 : n = 0 := by
    rcases Nat.eq_zero_or_pos n with h0 | h0
    · exact h0
    · obtain ⟨_, _, e, _⟩ := h.2.1 h0
      cases e
  subst h0
  exact ⟨rfl, List.eq_nil_of_length_eq_zero h.1⟩
theorem own_shapeh {w : World} {B n : Nat} {v : Value} {xs : List Value} (h : w.ownsRow B 30 32 v n xs) : ∃ a c, v = .slice a n c ∧ n ≤ c ∧ (0 < n → ∃ g, a = some ⟨g, 0, none⟩) := by
  rcases h.2 with ⟨rfl, h0⟩ | ⟨g, cap, cur, rfl, _, _, h1, _⟩
  · subst h0
    exact ⟨none, 0, rfl, Nat.le_refl _, fun h => by omega⟩
  · exact ⟨_, _, rfl, h1, fun _ => ⟨g, rfl⟩⟩
theorem app_hashes {ops : Array Oper} {rest : List Oper} {o : Oper} {a : Act} {Q : Exit → Act → World → Prop} (w : World) (hgd : o.guard = none) (s x : Operand)
    (ho : o.op = .call { callee := .builtin .append, args := #[s, x], argTypes := #[26, 26] })
    (base : Nat) (v : Value) (n : Nat) (xs : List Value) (hs : a.eval s = v) (hown : w.ownsRow base 30 32 v n xs)
    (ad : Option Addr) (m c : Nat) (l : List Int) (hx : a.eval x = .slice ad m c) (hL : Flat w ad m l) (hc : ad = none → c = 0)
    (hb : n + m ≤ 100000) (hbase : base ≤ w.heap.size)
    (hh : ∀ a' c' w', w'.ownsRow base 30 32 (.slice a' (n + m) c') (n + m) (xs ++ CELLS l) → w.grownBy w' v.ownBlock → wpList Try.prog ops Q rest (a.put o.dst (.slice a' (n + m) c')) w') : wpList Try.prog ops Q (o :: rest) a w := by
  obtain ⟨i, hi, hz, hs1, hby⟩ := info_parts info_hashv
  cases ad with
  | none =>
    obtain rfl := hc rfl
    obtain ⟨rfl, rfl⟩ := hL.none_nil
    refine wpList_append_own_none hgd s x 26 ho base 30 i 32 Try.underlying26 hi v n xs hs hown hx ?_
    obtain ⟨a', c', rfl, _, _⟩ := own_shapeh hown
    have := hh a' c' w (by simpa [CELLS] using hown) (grown_refl _ _)
    simpa using this
  | some ad =>
    have hcells : ∀ j u, (CELLS l)[j]? = some u → w.cell? (ad.add j) = some u := by
      intro j u hu
      have hj : j < l.length := by
        have := (List.getElem?_eq_some_iff.1 hu).1
        simpa [CELLS] using this
      have hl := hL.1
      obtain ⟨g, o', e, _, hc'⟩ := hL.2.1 (by omega)
      cases e
      rw [addr_add, hc' j (by omega), ← hu, CELLS_get l j hj]
    refine wpList_append_own w hgd s x 26 ho base 30 i _ 32 32 Try.underlying26 hi hz hs1 hby rfl (by decide) v n xs hs hown ad m c (CELLS l) hx (by rw [CELLS, List.length_map, hL.1]; omega) hcells (CELLS_one l) (by simp only [maxLen]; omega) (by omega) hbase ?_
    intro v' w' h1 h2 _
    obtain ⟨a', c', rfl, _, _⟩ := own_shapeh h1
    exact hh a' c' w' h1 h2
theorem own_empty32 (w : World) : (w.alloc (.cells #[] 30)).ownsRow w.heap.size 30 32 (.slice (some ⟨w.heap.size, 0, none⟩) 0 0) 0 [] :=
  World.ownsRow_lit w #[] 0 (Nat.le_refl _) (by simp [maxLen]) rfl
end Go.Proofs.Ytlbcnaenhghieaa

/- A find lies there; an entry more; what a step leaves alone. -/
namespace Go.Proofs.Ytlbcnaenhghieaa
open Go.RowKit Go.Maps
set_option maxRecDepth 100000

theorem u64f {n : Nat} (h : n < 2 ^ 62) : IntKind.u64.wrap (n : Int) = (n : Int) := by
  simp [IntKind.wrap, IntKind.signed, IntKind.bits]
  omega
/-- the entry of a leaf: its hash, and the index before. -/
def ENT (f : Nat → List Int) (i : Nat) : List Value := CELLS (f i) ++ [.int .i64 (LSTI f i (f i))]
/-- the first n entries. -/
def ECS (f : Nat → List Int) : Nat → List Value
  | 0 => []
  | n + 1 => ECS f n ++ ENT f n
theorem ENT_length {f : Nat → List Int} {i : Nat} (h : FISH (f i)) : (ENT f i).length = 33 := by simp [ENT, CELLS, h.1]
theorem ENT_one (f : Nat → List Int) (i : Nat) : ∀ v ∈ ENT f i, v.oneCell' = true := fun v hv => by
  rcases List.mem_append.1 hv with h | h
  · exact CELLS_one _ v h
  · simp only [List.mem_singleton] at h
    subst h
    rfl
theorem ECS_length {f : Nat → List Int} : ∀ {n : Nat}, (∀ i, i < n → FISH (f i)) → (ECS f n).length = n * 33
  | 0, _ => rfl
  | n + 1, h => by rw [ECS, List.length_append, ECS_length fun i hi => h i (by omega), ENT_length (h n (by omega))]; omega
theorem ECS_congr {f g : Nat → List Int} : ∀ {n : Nat}, (∀ i, i < n → f i = g i) → ECS f n = ECS g n
  | 0, _ => rfl
  | n + 1, e => by rw [ECS, ECS, ECS_congr fun i hi => e i (by omega), ENT, ENT, e n (by omega), LSTI_congr _ fun i hi => e i (by omega)]
theorem ECS_at {f : Nat → List Int} : ∀ {n i : Nat}, (∀ j, j < n → FISH (f j)) → i < n → ∀ j, j < 33 → (ECS f n)[i * 33 + j]? = (ENT f i)[j]?
  | 0, i, _, hi, _, _ => by omega
  | n + 1, i, h, hi, j, hj => by
    have hl := ECS_length (f := f) (n := n) fun k hk => h k (by omega)
    rw [ECS]
    by_cases e : i = n
    · subst e
      rw [List.getElem?_append_right (by omega)]
      congr 1
      omega
    · rw [List.getElem?_append_left (by omega)]
      exact ECS_at (fun k hk => h k (by omega)) (by omega) j hj
theorem info_entry : (Try.prog.info? 55).map (fun i => (i.zero, i.size, i.bytes)) = some (some (.agg (ZARR ++ #[.int .i64 0])), 33, 40) := by kernel_rfl
theorem info_ent' {f : Nat → List Int} {i : Nat} (h : FISH (f i)) : (Try.prog.info? 55).map (·.size) = some (ENT f i).toArray.size := by
  rw [List.size_toArray, ENT_length h]
  kernel_rfl
/-- a list of entries grows. -/
theorem app_entry {ops : Array Oper} {rest : List Oper} {o : Oper} {a : Act} {Q : Exit → Act → World → Prop} (w : World) (hgd : o.guard = none) (s x : Operand)
    (ho : o.op = .call { callee := .builtin .append, args := #[s, x], argTypes := #[49, 49] })
    (base : Nat) (v : Value) (n : Nat) (xs : List Value) (hs : a.eval s = v) (hown : w.ownsRow base 55 33 v n xs)
    (b m c : Nat) (ys : List Value) (hl : ys.length = m * 33) (h1 : ∀ u ∈ ys, u.oneCell' = true) (hx : a.eval x = .slice (some ⟨b, 0, none⟩) m c) (hc : w.rangeAt b 0 ys) (hm : 0 < m)
    (hb : n + m ≤ 1000000) (hbase : base ≤ w.heap.size)
    (h : ∀ g cap w', w'.ownsRow base 55 33 (.slice (some ⟨g, 0, none⟩) (n + m) cap) (n + m) (xs ++ ys) → w.grownBy w' v.ownBlock → (v.ownBlock = some g ∨ g = w.heap.size) → g < w'.heap.size → wpList Try.prog ops Q rest (a.put o.dst (.slice (some ⟨g, 0, none⟩) (n + m) cap)) w') : wpList Try.prog ops Q (o :: rest) a w := by
  obtain ⟨i, hi, hz, hs1, hby⟩ := info_parts info_entry
  refine wpList_append_lies w hgd s x 49 ho base 55 i _ 33 40 Try.underlying49 hi hz hs1 hby rfl (by decide) v n xs hs hown ⟨b, 0, none⟩ m c ys hx hl ?_ h1 hm (by simp only [maxLen]; omega) (by omega) hbase w.heap.size rfl h
  intro j u hj
  rw [addr_add]
  exact hc j u hj
/-- a find lies there. -/
structure FIND (w : World) (B p : Nat) (v : Value) (m : Option Nat) (f : Nat → List Int) (n : Nat) : Prop where
  box : Has w p #[v, .map m] 52
  own : w.ownsRow B 55 33 v n (ECS f n)
  map : (m = none ∧ v = .slice none 0 0 ∧ n = 0) ∨ ∃ b, m = some b ∧ B ≤ b ∧ FMAP w b f n
  is : ∀ i, i < n → FISH (f i)
  base : B ≤ p
/-- the blocks of a find. -/
def FFT (p : Nat) (v : Value) (m : Option Nat) (k : Nat) : Prop := k = p ∨ v.ownBlock = some k ∨ m = some k
/-- what a step of a find leaves alone. -/
structure FSTP (w w' : World) (p : Nat) (v : Value) (m : Option Nat) (v' : Value) (m' : Option Nat) : Prop where
  os : w'.os = w.os
  tape : w'.tape = w.tape
  output : w'.output = w.output
  size : w.heap.size ≤ w'.heap.size
  block : ∀ k, k < w.heap.size → ¬ FFT p v m k → w'.heap[k]? = w.heap[k]?
  foot : ∀ k, FFT p v' m' k → FFT p v m k ∨ w.heap.size ≤ k
theorem FSTP.trans {w w' w'' : World} {p : Nat} {v v' v'' : Value} {m m' m'' : Option Nat} (h : FSTP w w' p v m v' m') (k : FSTP w' w'' p v' m' v'' m'') : FSTP w w'' p v m v'' m'' := by
  refine ⟨k.os.trans h.os, k.tape.trans h.tape, k.output.trans h.output, Nat.le_trans h.size k.size, fun i h1 h2 => (k.block i (Nat.lt_of_lt_of_le h1 h.size) (fun e => ?_)).trans (h.block i h1 h2), fun i e => ?_⟩
  · rcases h.foot i e with c | c
    · exact h2 c
    · omega
  · rcases k.foot i e with c | c
    · exact h.foot i c
    · exact .inr (Nat.le_trans h.size c)
theorem FSTP.of_below {w w' : World} {p : Nat} {v : Value} {m : Option Nat} (h : Below w.heap.size w w') : FSTP w w' p v m v m := ⟨h.os, h.tape, h.output, h.size, fun k h1 _ => h.block k h1, fun _ e => .inl e⟩
theorem FIND.lt {w : World} {B p n : Nat} {v : Value} {m : Option Nat} {f : Nat → List Int} (H : FIND w B p v m f n) : ∀ k, FFT p v m k → B ≤ k ∧ k < w.heap.size := by
  rintro k (rfl | h | h)
  · exact ⟨H.base, H.box.lt⟩
  · exact H.own.lt k h
  · rcases H.map with ⟨e, _⟩ | ⟨b, e, h1, h2⟩
    · rw [e] at h; cases h
    · rw [e] at h
      cases h
      exact ⟨h1, h2.lt⟩
theorem FIND.at {w w' : World} {B p n : Nat} {v : Value} {m : Option Nat} {f : Nat → List Int} (H : FIND w B p v m f n) (hk : ∀ k, FFT p v m k → w'.heap[k]? = w.heap[k]?) : FIND w' B p v m f n := by
  refine ⟨(hk p (.inl rfl)).trans H.box, own_heap H.own fun k e => hk k (.inr (.inl e)), ?_, H.is, H.base⟩
  rcases H.map with h | ⟨b, e, h1, h2⟩
  · exact .inl h
  · exact .inr ⟨b, e, h1, h2.at (hk b (.inr (.inr e)))⟩
theorem FIND.keep {w w' : World} {B p n : Nat} {v : Value} {m : Option Nat} {f : Nat → List Int} (H : FIND w B p v m f n) (hb : Below w.heap.size w w') : FIND w' B p v m f n := H.at fun k e => hb.block k (H.lt k e).2
theorem FIND.congr {w : World} {B p n : Nat} {v : Value} {m : Option Nat} {f g : Nat → List Int} (H : FIND w B p v m f n) (e : ∀ i, i < n → f i = g i) : FIND w B p v m g n := by
  refine ⟨H.box, by rw [← ECS_congr e]; exact H.own, ?_, fun i hi => by rw [← e i hi]; exact H.is i hi, H.base⟩
  rcases H.map with h | ⟨b, e1, h1, h2⟩
  · exact .inl h
  · exact .inr ⟨b, e1, h1, h2.congr e⟩
/-- the three blocks of a find are three. -/
theorem FIND.apart {w : World} {B p n : Nat} {v : Value} {m : Option Nat} {f : Nat → List Int} (H : FIND w B p v m f n) : v.ownBlock ≠ some p ∧ m ≠ some p ∧ ∀ k, v.ownBlock = some k → m ≠ some k := by
  have hb := H.box
  refine ⟨fun e => ?_, fun e => ?_, fun k e1 e2 => ?_⟩
  · rcases H.own.2 with ⟨rfl, _⟩ | ⟨g, cap, cur, rfl, _, h, _⟩
    · cases e
    · simp only [Value.ownBlock, Option.some.injEq] at e
      subst e
      unfold Has at hb
      rw [h] at hb
      simp at hb
  · rcases H.map with ⟨rfl, _⟩ | ⟨b, rfl, _, _, ⟨es, clock, h, _⟩, _⟩
    · cases e
    · cases e
      unfold Has at hb
      rw [h] at hb
      simp at hb
  · rcases H.map with ⟨rfl, _⟩ | ⟨b, rfl, _, _, ⟨es, clock, h, _⟩, _⟩
    · cases e2
    · cases e2
      rcases H.own.2 with ⟨rfl, _⟩ | ⟨g, cap, cur, rfl, _, h', _⟩
      · cases e1
      · simp only [Value.ownBlock, Option.some.injEq] at e1
        subst e1
        rw [h] at h'
        cases h'
theorem FIND.slice {w : World} {B p n : Nat} {v : Value} {m : Option Nat} {f : Nat → List Int} (H : FIND w B p v m f n) : ∃ a c, v = .slice a n c ∧ n ≤ c ∧ (0 < n → ∃ g, a = some ⟨g, 0, none⟩ ∧ B ≤ g ∧ g < w.heap.size) := by
  rcases H.own.2 with ⟨rfl, rfl⟩ | ⟨g, cap, cur, rfl, hB, h, hc, _⟩
  · exact ⟨none, 0, rfl, Nat.le_refl _, fun h => by omega⟩
  · exact ⟨_, cap, rfl, hc, fun _ => ⟨g, rfl, hB, (Array.getElem?_eq_some_iff.1 h).1⟩⟩
/-- an entry of the list. -/
theorem FIND.entry {w : World} {B p n g c : Nat} {m : Option Nat} {f : Nat → List Int} (H : FIND w B p (.slice (some ⟨g, 0, none⟩) n c) m f n) {i : Nat} (hi : i < n) : w.rangeAt g (i * 33) (ENT f i) := by
  intro j u hj
  have hj2 : j < 33 := by
    have := (List.getElem?_eq_some_iff.1 hj).1
    rwa [ENT_length (H.is i hi)] at this
  rw [H.own.cellAt _ (by have : i * 33 + 33 ≤ n * 33 := by omega
                         omega), ECS_at H.is hi j hj2]
  exact hj
theorem FIND.hash {w : World} {B p n g c : Nat} {m : Option Nat} {f : Nat → List Int} (H : FIND w B p (.slice (some ⟨g, 0, none⟩) n c) m f n) {i : Nat} (hi : i < n) : w.rangeAt g (i * 33) (CELLS (f i)) := by
  intro j u hj
  refine H.entry hi j u ?_
  have := (List.getElem?_eq_some_iff.1 hj).1
  rw [ENT, List.getElem?_append_left this]
  exact hj
theorem FIND.before {w : World} {B p n g c : Nat} {m : Option Nat} {f : Nat → List Int} (H : FIND w B p (.slice (some ⟨g, 0, none⟩) n c) m f n) {i : Nat} (hi : i < n) : w.cell? ⟨g, i * 33 + 32, none⟩ = some (.int .i64 (LSTI f i (f i))) := by
  refine H.entry hi 32 _ ?_
  have hl : (CELLS (f i)).length = 32 := by simp [CELLS, (H.is i hi).1]
  rw [ENT, List.getElem?_append_right (by omega), hl]
  rfl
set_option maxHeartbeats 1000000 in
/-- a new one. -/
theorem find_new (f : Nat → List Int) (w : World) : Calls Try.prog 5 #[] w fun e w' => e = .returned (.pointer (some ⟨w.heap.size, 0, none⟩)) ∧ FIND w' w.heap.size w.heap.size (.slice none 0 0) none f 0 ∧ Below w.heap.size w w' := by
  go_enter Try.func5, Try.ntmps5
  go_wp2
  go_ret
  exact ⟨rfl, ⟨Has.new _ _ _, World.ownsRow_nil _ _ _ _, .inl ⟨rfl, rfl, rfl⟩, fun i hi => by omega, Nat.le_refl _⟩, (Below.refl _ _).alloc (Nat.le_refl _) _⟩
set_option maxHeartbeats 1000000 in
/-- how many. -/
theorem find_size {w : World} {B p n : Nat} {v : Value} {m : Option Nat} {f : Nat → List Int} (H : FIND w B p v m f n) (hn : n ≤ 1000000) : Calls Try.prog 18 #[.pointer (some ⟨p, 0, none⟩)] w fun e w' => e = .returned (.int .u64 (n : Int)) ∧ w = w' := by
  obtain ⟨a, c, rfl, _⟩ := H.slice
  have x0 := H.box.cell 0
  have hw : IntKind.u64.wrap (n : Int) = (n : Int) := u64f (by omega)
  clear H
  go_enter Try.func18, Try.ntmps18
  go_wp2
  go_ret
  simp
set_option maxHeartbeats 1000000 in
/-- how many unlike ones. -/
theorem find_unlike {w : World} {B p n : Nat} {v : Value} {m : Option Nat} {f : Nat → List Int} (H : FIND w B p v m f n) : Calls Try.prog 17 #[.pointer (some ⟨p, 0, none⟩)] w fun e w' => e = .returned (.int .i64 (UNL f n : Nat)) ∧ w = w' := by
  have x1 := H.box.cell 1
  have hl : ∀ ty, (Builtin.len_ #[50] ty #[.map m]).run Try.prog w = .ok (.int .i64 (UNL f n : Nat)) w := fun ty => by
    rcases H.map with ⟨rfl, _, rfl⟩ | ⟨b, rfl, _, hm⟩
    · simp [Builtin.len_, run_underlying Try.underlying50, UNL, goInt]
    · exact hm.count ty
  clear H
  go_enter Try.func17, Try.ntmps17
  go_wp2
  go_ret
  simp
end Go.Proofs.Ytlbcnaenhghieaa

/- A list of 32 numbers by a function. -/
namespace Go.Proofs.Ytlbcnaenhghieaa
theorem list32p (l : List Int) (h : l.length = 32) : ∃ f : Nat → Int, l = (List.range 32).map f := by
  refine ⟨fun i => l.getD i 0, List.ext_getElem? fun i => ?_⟩
  by_cases hi : i < 32
  · simp [hi, h]
  · rw [List.getElem?_eq_none (by omega), List.getElem?_eq_none (by simp; omega)]
end Go.Proofs.Ytlbcnaenhghieaa
