/- Texts of ClashPeaks, one behind the other: CarryEqual, ClashPeaksCall. -/
import Derived.Test.YtbmjoiiagldklaaDoorClashPeaksP6
import Derived.Test.YtbmjoiiagldklaaDoorClashPeaksP20
import Derived.Test.YtbmjoiiagldklaaDoorClashPeaksP27
/- slices.Equal of hashes. -/
namespace Go.Proofs.YtbmjoiiagldklaaDoor
open Go.RowKit
set_option maxRecDepth 100000

def EQOPS : Array Oper := #[{ dst := some 16, op := Op.move (Operand.tmp 0), type := 23, pos := "slices.go:25", after := #[], guard := none }, { dst := some 17, op := Op.move (Operand.tmp 5), type := 3, pos := "slices.go:25", after := #[], guard := none }, { dst := some 18, op := Op.indexAddr 23 (Operand.tmp 16) (Operand.tmp 17), type := 0, pos := "slices.go:25", after := #[{ on := 0, ground := Ground.data }, { on := 1, ground := Ground.data }], guard := none }, { dst := some 19, op := Op.load 26 (Operand.tmp 18), type := 26, pos := "slices.go:25", after := #[{ on := 2, ground := Ground.data }], guard := none }, { dst := some 20, op := Op.move (Operand.tmp 1), type := 23, pos := "slices.go:25", after := #[], guard := none }, { dst := some 21, op := Op.move (Operand.tmp 5), type := 3, pos := "slices.go:25", after := #[], guard := none }, { dst := some 22, op := Op.indexAddr 23 (Operand.tmp 20) (Operand.tmp 21), type := 0, pos := "slices.go:25", after := #[{ on := 4, ground := Ground.data }, { on := 5, ground := Ground.data }], guard := none }, { dst := some 23, op := Op.load 26 (Operand.tmp 22), type := 26, pos := "slices.go:25", after := #[{ on := 6, ground := Ground.data }], guard := none }, { dst := some 24, op := Op.binOp BinOp.neq 26 (Operand.tmp 19) (Operand.tmp 23) 26, type := 4, pos := "slices.go:25", after := #[{ on := 3, ground := Ground.data }, { on := 7, ground := Ground.data }], guard := none }]
set_option maxHeartbeats 2000000 in
theorem equal_region {Q : Exit → Act → World → Prop} (u2 u3 u4 u6 u7 u8 u9 u10 u11 u12 u13 u14 u15 u16 u17 u18 u19 u20 u21 u22 u23 u24 u25 : Value) (W : World) (w0 : World) (ba oa n ca bb ob m cb i : Nat) (H K : List Int) (hH : H.length = 32) (hK : K.length = 32) (b1 : (i : Int) < (n : Int)) (b2 : (i : Int) < (m : Int)) (hS : (fun W : World => W.rangeAt ba (oa + i * 32) (CELLS H) ∧ W.rangeAt bb (ob + i * 32) (CELLS K) ∧ Below w0.heap.size w0 W) W) (hQ : ∀ c (a : Act) (t : Tmp) (v : Value) w, Q (.panic c) (a.put (some t) v) w → Q (.panic c) a w)
    (h : ∀ w, (fun W : World => W.rangeAt ba (oa + i * 32) (CELLS H) ∧ W.rangeAt bb (ob + i * 32) (CELLS K) ∧ Below w0.heap.size w0 W) w → Q .normal { tmps := #[.slice (some ⟨ba, oa, none⟩) n ca, .slice (some ⟨bb, ob, none⟩) m cb, u2, u3, u4, .int .i64 (i : Int), u6, u7, u8, u9, u10, u11, u12, u13, u14, u15, .slice (some ⟨ba, oa, none⟩) n ca, .int .i64 (i : Int), .pointer (some ⟨ba, oa + i * 32, none⟩), .agg (CELLS H).toArray, .slice (some ⟨bb, ob, none⟩) m cb, .int .i64 (i : Int), .pointer (some ⟨bb, ob + i * 32, none⟩), .agg (CELLS K).toArray, .bool (!decide (H = K)), u25], defers := [] } w) : (Code.region 6 EQOPS true).wp Tryd.prog Q { tmps := #[.slice (some ⟨ba, oa, none⟩) n ca, .slice (some ⟨bb, ob, none⟩) m cb, u2, u3, u4, .int .i64 (i : Int), u6, u7, u8, u9, u10, u11, u12, u13, u14, u15, u16, u17, u18, u19, u20, u21, u22, u23, u24, u25], defers := [] } W := by
  have hs0 : (fun W : World => W.rangeAt ba (oa + i * 32) (CELLS H) ∧ W.rangeAt bb (ob + i * 32) (CELLS K) ∧ Below w0.heap.size w0 W) W.drew := ⟨hS.1, hS.2.1, hS.2.2.drew⟩
  have k0 : ∀ w, (fun W : World => W.rangeAt ba (oa + i * 32) (CELLS H) ∧ W.rangeAt bb (ob + i * 32) (CELLS K) ∧ Below w0.heap.size w0 W) w → wpAnyH Tryd.prog .any EQOPS Q (fun W : World => W.rangeAt ba (oa + i * 32) (CELLS H) ∧ W.rangeAt bb (ob + i * 32) (CELLS K) ∧ Below w0.heap.size w0 W) 9 #[false, false, false, false, false, false, false, false, false] { tmps := #[.slice (some ⟨ba, oa, none⟩) n ca, .slice (some ⟨bb, ob, none⟩) m cb, u2, u3, u4, .int .i64 (i : Int), u6, u7, u8, u9, u10, u11, u12, u13, u14, u15, u16, u17, u18, u19, u20, u21, u22, u23, u24, u25], defers := [] } w := fun w hw => by
    have hww : (fun W : World => W.rangeAt ba (oa + i * 32) (CELLS H) ∧ W.rangeAt bb (ob + i * 32) (CELLS K) ∧ Below w0.heap.size w0 W) w := hw
    have last : wpAnyH Tryd.prog .any EQOPS Q (fun W : World => W.rangeAt ba (oa + i * 32) (CELLS H) ∧ W.rangeAt bb (ob + i * 32) (CELLS K) ∧ Below w0.heap.size w0 W) 0 #[true, true, true, true, true, true, true, true, true] { tmps := #[.slice (some ⟨ba, oa, none⟩) n ca, .slice (some ⟨bb, ob, none⟩) m cb, u2, u3, u4, .int .i64 (i : Int), u6, u7, u8, u9, u10, u11, u12, u13, u14, u15, .slice (some ⟨ba, oa, none⟩) n ca, .int .i64 (i : Int), .pointer (some ⟨ba, oa + i * 32, none⟩), .agg (CELLS H).toArray, .slice (some ⟨bb, ob, none⟩) m cb, .int .i64 (i : Int), .pointer (some ⟨bb, ob + i * 32, none⟩), .agg (CELLS K).toArray, .bool (!decide (H = K)), u25], defers := [] } w := wpAnyH_done (by kernel_rfl) (h w hw) _
    have t8 : wpAnyH Tryd.prog .any EQOPS Q (fun W : World => W.rangeAt ba (oa + i * 32) (CELLS H) ∧ W.rangeAt bb (ob + i * 32) (CELLS K) ∧ Below w0.heap.size w0 W) 1 #[true, true, true, true, true, true, true, true, false] { tmps := #[.slice (some ⟨ba, oa, none⟩) n ca, .slice (some ⟨bb, ob, none⟩) m cb, u2, u3, u4, .int .i64 (i : Int), u6, u7, u8, u9, u10, u11, u12, u13, u14, u15, .slice (some ⟨ba, oa, none⟩) n ca, .int .i64 (i : Int), .pointer (some ⟨ba, oa + i * 32, none⟩), .agg (CELLS H).toArray, .slice (some ⟨bb, ob, none⟩) m cb, .int .i64 (i : Int), .pointer (some ⟨bb, ob + i * 32, none⟩), .agg (CELLS K).toArray, u24, u25], defers := [] } w :=
      wpAnyH_take (i := 8) (oi := { dst := some 24, op := Op.binOp BinOp.neq 26 (Operand.tmp 19) (Operand.tmp 23) 26, type := 4, pos := "slices.go:25", after := #[{ on := 3, ground := Ground.data }, { on := 7, ground := Ground.data }], guard := none }) (v := .bool (!decide (H = K))) rfl (by kernel_rfl) (by kernel_rfl) (by kernel_rfl) (fun _ _ _ h => hQ _ _ _ _ _ h) (Yields.yieldsIf (Or.inl ⟨by rfl, fun W => run_value (neq_hashes hH hK _ _ W)⟩)) hww last
    have t7 : wpAnyH Tryd.prog .any EQOPS Q (fun W : World => W.rangeAt ba (oa + i * 32) (CELLS H) ∧ W.rangeAt bb (ob + i * 32) (CELLS K) ∧ Below w0.heap.size w0 W) 2 #[true, true, true, true, true, true, true, false, false] { tmps := #[.slice (some ⟨ba, oa, none⟩) n ca, .slice (some ⟨bb, ob, none⟩) m cb, u2, u3, u4, .int .i64 (i : Int), u6, u7, u8, u9, u10, u11, u12, u13, u14, u15, .slice (some ⟨ba, oa, none⟩) n ca, .int .i64 (i : Int), .pointer (some ⟨ba, oa + i * 32, none⟩), .agg (CELLS H).toArray, .slice (some ⟨bb, ob, none⟩) m cb, .int .i64 (i : Int), .pointer (some ⟨bb, ob + i * 32, none⟩), u23, u24, u25], defers := [] } w :=
      wpAnyH_take (i := 7) (oi := { dst := some 23, op := Op.load 26 (Operand.tmp 22), type := 26, pos := "slices.go:25", after := #[{ on := 6, ground := Ground.data }], guard := none }) (v := .agg (CELLS K).toArray) rfl (by kernel_rfl) (by kernel_rfl) (by kernel_rfl) (fun _ _ _ h => hQ _ _ _ _ _ h) (yieldsIf_load_mid (by rfl) 26 (.tmp 22) rfl bb (ob + i * 32) rfl (CELLS K) _ (fun w h => h.2.1) Tryd.underlying26 rfl (info_cells hK)) hww t8
    have t6 : wpAnyH Tryd.prog .any EQOPS Q (fun W : World => W.rangeAt ba (oa + i * 32) (CELLS H) ∧ W.rangeAt bb (ob + i * 32) (CELLS K) ∧ Below w0.heap.size w0 W) 3 #[true, true, true, true, true, true, false, false, false] { tmps := #[.slice (some ⟨ba, oa, none⟩) n ca, .slice (some ⟨bb, ob, none⟩) m cb, u2, u3, u4, .int .i64 (i : Int), u6, u7, u8, u9, u10, u11, u12, u13, u14, u15, .slice (some ⟨ba, oa, none⟩) n ca, .int .i64 (i : Int), .pointer (some ⟨ba, oa + i * 32, none⟩), .agg (CELLS H).toArray, .slice (some ⟨bb, ob, none⟩) m cb, .int .i64 (i : Int), u22, u23, u24, u25], defers := [] } w :=
      wpAnyH_take (i := 6) (oi := { dst := some 22, op := Op.indexAddr 23 (Operand.tmp 20) (Operand.tmp 21), type := 0, pos := "slices.go:25", after := #[{ on := 4, ground := Ground.data }, { on := 5, ground := Ground.data }], guard := none }) (v := .pointer (some ⟨bb, ob + i * 32, none⟩)) rfl (by kernel_rfl) (by kernel_rfl) (by kernel_rfl) (fun _ _ _ h => hQ _ _ _ _ _ h) (Yields.yieldsIf (Or.inl ⟨by rfl, fun W => by go_simp⟩)) hww t7
    have t5 : wpAnyH Tryd.prog .any EQOPS Q (fun W : World => W.rangeAt ba (oa + i * 32) (CELLS H) ∧ W.rangeAt bb (ob + i * 32) (CELLS K) ∧ Below w0.heap.size w0 W) 4 #[true, true, true, true, true, false, false, false, false] { tmps := #[.slice (some ⟨ba, oa, none⟩) n ca, .slice (some ⟨bb, ob, none⟩) m cb, u2, u3, u4, .int .i64 (i : Int), u6, u7, u8, u9, u10, u11, u12, u13, u14, u15, .slice (some ⟨ba, oa, none⟩) n ca, .int .i64 (i : Int), .pointer (some ⟨ba, oa + i * 32, none⟩), .agg (CELLS H).toArray, .slice (some ⟨bb, ob, none⟩) m cb, u21, u22, u23, u24, u25], defers := [] } w :=
      wpAnyH_take (i := 5) (oi := { dst := some 21, op := Op.move (Operand.tmp 5), type := 3, pos := "slices.go:25", after := #[], guard := none }) (v := .int .i64 (i : Int)) rfl (by kernel_rfl) (by kernel_rfl) (by kernel_rfl) (fun _ _ _ h => hQ _ _ _ _ _ h) (Yields.yieldsIf (Or.inl ⟨by rfl, fun W => by go_simp⟩)) hww t6
    have t4 : wpAnyH Tryd.prog .any EQOPS Q (fun W : World => W.rangeAt ba (oa + i * 32) (CELLS H) ∧ W.rangeAt bb (ob + i * 32) (CELLS K) ∧ Below w0.heap.size w0 W) 5 #[true, true, true, true, false, false, false, false, false] { tmps := #[.slice (some ⟨ba, oa, none⟩) n ca, .slice (some ⟨bb, ob, none⟩) m cb, u2, u3, u4, .int .i64 (i : Int), u6, u7, u8, u9, u10, u11, u12, u13, u14, u15, .slice (some ⟨ba, oa, none⟩) n ca, .int .i64 (i : Int), .pointer (some ⟨ba, oa + i * 32, none⟩), .agg (CELLS H).toArray, u20, u21, u22, u23, u24, u25], defers := [] } w :=
      wpAnyH_take (i := 4) (oi := { dst := some 20, op := Op.move (Operand.tmp 1), type := 23, pos := "slices.go:25", after := #[], guard := none }) (v := .slice (some ⟨bb, ob, none⟩) m cb) rfl (by kernel_rfl) (by kernel_rfl) (by kernel_rfl) (fun _ _ _ h => hQ _ _ _ _ _ h) (Yields.yieldsIf (Or.inl ⟨by rfl, fun W => by go_simp⟩)) hww t5
    have t3 : wpAnyH Tryd.prog .any EQOPS Q (fun W : World => W.rangeAt ba (oa + i * 32) (CELLS H) ∧ W.rangeAt bb (ob + i * 32) (CELLS K) ∧ Below w0.heap.size w0 W) 6 #[true, true, true, false, false, false, false, false, false] { tmps := #[.slice (some ⟨ba, oa, none⟩) n ca, .slice (some ⟨bb, ob, none⟩) m cb, u2, u3, u4, .int .i64 (i : Int), u6, u7, u8, u9, u10, u11, u12, u13, u14, u15, .slice (some ⟨ba, oa, none⟩) n ca, .int .i64 (i : Int), .pointer (some ⟨ba, oa + i * 32, none⟩), u19, u20, u21, u22, u23, u24, u25], defers := [] } w :=
      wpAnyH_take (i := 3) (oi := { dst := some 19, op := Op.load 26 (Operand.tmp 18), type := 26, pos := "slices.go:25", after := #[{ on := 2, ground := Ground.data }], guard := none }) (v := .agg (CELLS H).toArray) rfl (by kernel_rfl) (by kernel_rfl) (by kernel_rfl) (fun _ _ _ h => hQ _ _ _ _ _ h) (yieldsIf_load_mid (by rfl) 26 (.tmp 18) rfl ba (oa + i * 32) rfl (CELLS H) _ (fun w h => h.1) Tryd.underlying26 rfl (info_cells hH)) hww t4
    have t2 : wpAnyH Tryd.prog .any EQOPS Q (fun W : World => W.rangeAt ba (oa + i * 32) (CELLS H) ∧ W.rangeAt bb (ob + i * 32) (CELLS K) ∧ Below w0.heap.size w0 W) 7 #[true, true, false, false, false, false, false, false, false] { tmps := #[.slice (some ⟨ba, oa, none⟩) n ca, .slice (some ⟨bb, ob, none⟩) m cb, u2, u3, u4, .int .i64 (i : Int), u6, u7, u8, u9, u10, u11, u12, u13, u14, u15, .slice (some ⟨ba, oa, none⟩) n ca, .int .i64 (i : Int), u18, u19, u20, u21, u22, u23, u24, u25], defers := [] } w :=
      wpAnyH_take (i := 2) (oi := { dst := some 18, op := Op.indexAddr 23 (Operand.tmp 16) (Operand.tmp 17), type := 0, pos := "slices.go:25", after := #[{ on := 0, ground := Ground.data }, { on := 1, ground := Ground.data }], guard := none }) (v := .pointer (some ⟨ba, oa + i * 32, none⟩)) rfl (by kernel_rfl) (by kernel_rfl) (by kernel_rfl) (fun _ _ _ h => hQ _ _ _ _ _ h) (Yields.yieldsIf (Or.inl ⟨by rfl, fun W => by go_simp⟩)) hww t3
    have t1 : wpAnyH Tryd.prog .any EQOPS Q (fun W : World => W.rangeAt ba (oa + i * 32) (CELLS H) ∧ W.rangeAt bb (ob + i * 32) (CELLS K) ∧ Below w0.heap.size w0 W) 8 #[true, false, false, false, false, false, false, false, false] { tmps := #[.slice (some ⟨ba, oa, none⟩) n ca, .slice (some ⟨bb, ob, none⟩) m cb, u2, u3, u4, .int .i64 (i : Int), u6, u7, u8, u9, u10, u11, u12, u13, u14, u15, .slice (some ⟨ba, oa, none⟩) n ca, u17, u18, u19, u20, u21, u22, u23, u24, u25], defers := [] } w :=
      wpAnyH_take (i := 1) (oi := { dst := some 17, op := Op.move (Operand.tmp 5), type := 3, pos := "slices.go:25", after := #[], guard := none }) (v := .int .i64 (i : Int)) rfl (by kernel_rfl) (by kernel_rfl) (by kernel_rfl) (fun _ _ _ h => hQ _ _ _ _ _ h) (Yields.yieldsIf (Or.inl ⟨by rfl, fun W => by go_simp⟩)) hww t2
    have t0 : wpAnyH Tryd.prog .any EQOPS Q (fun W : World => W.rangeAt ba (oa + i * 32) (CELLS H) ∧ W.rangeAt bb (ob + i * 32) (CELLS K) ∧ Below w0.heap.size w0 W) 9 #[false, false, false, false, false, false, false, false, false] { tmps := #[.slice (some ⟨ba, oa, none⟩) n ca, .slice (some ⟨bb, ob, none⟩) m cb, u2, u3, u4, .int .i64 (i : Int), u6, u7, u8, u9, u10, u11, u12, u13, u14, u15, u16, u17, u18, u19, u20, u21, u22, u23, u24, u25], defers := [] } w :=
      wpAnyH_take (i := 0) (oi := { dst := some 16, op := Op.move (Operand.tmp 0), type := 23, pos := "slices.go:25", after := #[], guard := none }) (v := .slice (some ⟨ba, oa, none⟩) n ca) rfl (by kernel_rfl) (by kernel_rfl) (by kernel_rfl) (fun _ _ _ h => hQ _ _ _ _ _ h) (Yields.yieldsIf (Or.inl ⟨by rfl, fun W => by go_simp⟩)) hww t1
    exact t0
  exact wp_region_held_drew (S := (fun W : World => W.rangeAt ba (oa + i * 32) (CELLS H) ∧ W.rangeAt bb (ob + i * 32) (CELLS K) ∧ Below w0.heap.size w0 W)) (by kernel_rfl) hs0 (fun _ => k0 _ hs0)
set_option maxHeartbeats 1000000 in
theorem equalhashes_ok (a b : Option Addr) (n m ca cb : Nat) (l k : List Int) (w : World) (hA : Flat w a n l) (hB : Flat w b m k) (hn : n ≤ 1000000) :
    Calls Tryd.prog 22 #[.slice a n ca, .slice b m cb] w fun e w' => e = .returned (.bool (decide (l = k))) ∧ Below w.heap.size w w' := by
  by_cases hnm : n = m
  · subst hnm
    rcases Nat.eq_zero_or_pos n with h | h
    · subst h
      have hd : decide (l = k) = true := by
        rw [List.eq_nil_of_length_eq_zero hA.1, List.eq_nil_of_length_eq_zero hB.1]
        rfl
      rw [hd]
      clear hA hB hd
      go_enter Tryd.func22, Tryd.ntmps22
      go_wp2
      refine wp_loop_rounds 1 ?_
      rw [rounds_succ]
      go_wp2
      go_ret
      exact ⟨rfl, Below.refl _ _⟩
    · obtain ⟨ba, oa, rfl, la, hca⟩ := hA.2.1 h
      obtain ⟨bb, ob, rfl, lb, hcb⟩ := hB.2.1 h
      have HC : Aside (Flat w (some ⟨ba, oa, none⟩) n l ∧ Flat w (some ⟨bb, ob, none⟩) n k ∧ n ≤ 1000000) := ⟨hA, hB, hn⟩
      clear hA hB hca hcb la lb hn
      obtain ⟨D, hD⟩ : ∃ D, D = decide (l = k) := ⟨_, rfl⟩
      rw [← hD]
      have HD : Aside (D = decide (l = k)) := hD
      clear hD
      go_enter Tryd.func22, Tryd.ntmps22
      go_wp2
      go_loopg [13] n (fun g s13 wx => ∃ i : Nat, s13 = .int .i64 i ∧ Aside (i + g = n ∧ Below w.heap.size w wx ∧ ∀ j, j < i → HSH l j = HSH k j))
      case atStart => exact ⟨0, rfl, by omega, Below.refl _ _, fun j hj => by omega⟩
      case round =>
        obtain ⟨i, rfl, A⟩ := hrel
        cases gk with
        | zero =>
          obtain rfl : i = n := by have := A.out.1; omega
          have hlt : ¬ (i : Int) < (i : Int) := by omega
          have hd : Aside (D = true) := by
            show D = true
            rw [HD.out, decide_eq_true_iff]
            exact hsh_ext HC.out.1.1 HC.out.2.1.1 A.out.2.2
          clear HD HC
          go_wp2
          go_ret
          exact ⟨by rw [hd.out]; rfl, A.out.2.1⟩
        | succ g =>
          obtain ⟨hig, hbel, hbef⟩ := A.out
          have hlt : (i : Int) < (n : Int) := by omega
          have r1 := (HC.out.1.below hbel).at (show i < n by omega)
          have r2 := (HC.out.2.1.below hbel).at (show i < n by omega)
          have l1 := HSH_length HC.out.1.1 (show i < n by omega)
          have l2 := HSH_length HC.out.2.1.1 (show i < n by omega)
          have E1 : Aside (wrap64 ((i : Int) + 1) = ((i + 1 : Nat) : Int)) := by have := HC.out.2.2; show wrap64 ((i : Int) + 1) = ((i + 1 : Nat) : Int); unfold wrap64; omega
          by_cases he : HSH l i = HSH k i
          · have B : Aside (i + 1 + g = n ∧ ∀ j, j < i + 1 → HSH l j = HSH k j) := ⟨by omega, fun j hj => by
              by_cases e : j = i
              · rw [e]; exact he
              · exact hbef j (by omega)⟩
            have hdf : (!decide (HSH l i = HSH k i)) = false := by rw [he]; simp
            have Z : Aside (Below w.heap.size w wr) := hbel
            clear he hig hbel hbef A HD HC
            generalize HSH l i = H at *
            generalize HSH k i = K at *
            go_upto_region 6 with fail
            refine equal_region _ _ _ _ _ _ _ _ _ _ _ _ _ _ _ _ _ _ _ _ _ _ _ _ w ba oa n ca bb ob n cb i H K l1 l2 hlt hlt ⟨r1, r2, Z.out⟩ (fun _ _ _ _ _ h => h) ?_
            rintro w1 ⟨_, _, q3⟩
            rw [hdf]
            clear r1 r2 l1 l2 hdf
            have Z2 : Aside (Below w.heap.size w w1) := q3
            clear q3 Z
            have e1 := E1.out
            go_wp2
            go_roundg g
            case measure => exact Nat.lt_succ_self _
            case rel => exact ⟨i + 1, by first | rfl | (rw [E1.out]), B.out.1, Z2.out, B.out.2⟩
          · have hd : Aside (D = false) := by
              show D = false
              rw [HD.out, decide_eq_false_iff_not]
              intro e
              rw [e] at he
              exact he rfl
            have hdf : (!decide (HSH l i = HSH k i)) = true := by simp [he]
            have Z : Aside (Below w.heap.size w wr) := hbel
            clear he hig hbel hbef A HD HC E1
            generalize HSH l i = H at *
            generalize HSH k i = K at *
            go_upto_region 6 with fail
            refine equal_region _ _ _ _ _ _ _ _ _ _ _ _ _ _ _ _ _ _ _ _ _ _ _ _ w ba oa n ca bb ob n cb i H K l1 l2 hlt hlt ⟨r1, r2, Z.out⟩ (fun _ _ _ _ _ h => h) ?_
            rintro w1 ⟨_, _, q3⟩
            rw [hdf]
            clear r1 r2 l1 l2 hdf
            have Z2 : Aside (Below w.heap.size w w1) := q3
            clear q3 Z
            go_wp2
            go_ret
            exact ⟨by rw [hd.out]; rfl, Z2.out⟩
  · have hne : ¬ (n : Int) = (m : Int) := by omega
    have hd : decide (l = k) = false := by
      rw [decide_eq_false_iff_not]
      intro e
      rw [e] at hA
      have := hA.1.symm.trans hB.1
      omega
    rw [hd]
    clear hA hB hd
    go_enter Tryd.func22, Tryd.ntmps22
    go_wp2
    go_ret
    exact ⟨rfl, Below.refl _ _⟩
end Go.Proofs.YtbmjoiiagldklaaDoor

/- clash.Peaks, whole. -/
namespace Go.Proofs.YtbmjoiiagldklaaDoor
open Go.RowKit
set_option maxRecDepth 100000

theorem BAGA_zero {d : Int} {n k : Nat} {l : List Int} (h : (BAGA d n k l).1 = 0) : n ≤ 4611686018427387904 ∧ k = PC n ∧ (BAGA d n k l).2 = ROOTH d n (FLD d l k) := by
  unfold BAGA at h ⊢
  by_cases h1 : 4611686018427387904 < n
  · rw [if_pos h1] at h
    cases h
  · rw [if_neg h1] at h ⊢
    by_cases h2 : k ≠ PC n
    · rw [if_pos h2] at h
      cases h
    · rw [if_neg h2]
      exact ⟨by omega, by omega, rfl⟩
/-- what Peaks tells. -/
def CLPK (d : Int) (n k : Nat) (l : List Int) (k' : Nat) (l' : List Int) : Option (List Nat × List Nat) := if (BAGA d n k l).1 = 0 ∧ (BAGA d n k' l').1 = 0 ∧ (BAGA d n k l).2 = (BAGA d n k' l').2 ∧ l ≠ l' then CLS d (BAGL d n k' l' ++ (BAGL d n k l ++ [])) else none
/-- two unlike lists with one root lead to a clash. -/
theorem CLPK_some {d : Int} {n k k' : Nat} {l l' : List Int} (hl : l.length = 32 * k) (hr : ∀ x ∈ l, 0 ≤ x ∧ x ≤ 255) (hl' : l'.length = 32 * k') (hr' : ∀ x ∈ l', 0 ≤ x ∧ x ≤ 255) (h : (BAGA d n k l).1 = 0 ∧ (BAGA d n k' l').1 = 0 ∧ (BAGA d n k l).2 = (BAGA d n k' l').2 ∧ l ≠ l') : ∃ s t, CLPK d n k l k' l' = some (s, t) := by
  obtain ⟨h1, h2, h3, h4⟩ := h
  obtain ⟨-, e1, e2⟩ := BAGA_zero h1
  obtain ⟨-, e3, e4⟩ := BAGA_zero h2
  have ek : k' = k := by omega
  subst ek
  cases hc : CLS d (BAGL d n k' l' ++ (BAGL d n k' l ++ [])) with
  | some x =>
    obtain ⟨s, t⟩ := x
    exact ⟨s, t, by unfold CLPK; rw [if_pos ⟨h1, h2, h3, h4⟩]; exact hc⟩
  | none =>
    refine absurd (bag_one (CLS_none hc) hl hr hl' hr' ((BAGL_bags d n k' l).mono fun t ht => ?_) ((BAGL_bags d n k' l').mono fun t ht => ?_) (by rw [← e2, ← e4, h3])) h4
    · exact List.mem_append.2 (.inr (List.mem_append.2 (.inl ht)))
    · exact List.mem_append.2 (.inl ht)
set_option maxHeartbeats 4000000 in
theorem cpeaks9_ok (d : Int) (n : Nat) (hn : n < 2 ^ 64) (a b : Option Addr) (k k' ca cb : Nat) (hk : k ≤ 1000) (hk' : k' ≤ 1000) (l l' : List Int) (w : World) (hA : Flat w a k l) (hB : Flat w b k' l') (hX : HX.Tabled w) : Calls Tryd.prog 7 #[.int .i64 d, .int .u64 (n : Int), .slice a k ca, .slice b k' cb] w (CLASHED w (CLPK d n k l k' l')) := by
  have HA : Aside (n < 2 ^ 64 ∧ k ≤ 1000 ∧ Flat w a k l ∧ Flat w b k' l' ∧ HX.Tabled w ∧ k' ≤ 1000) := ⟨hn, hk, hA, hB, hX, hk'⟩
  obtain ⟨W0, hW0⟩ : ∃ W0, w.alloc (.cells #[.slice none 0 0, .slice none 0 0] 32) = W0 := ⟨_, rfl⟩
  obtain ⟨bz, hbz⟩ : ∃ bz, w.heap.size = bz := ⟨_, rfl⟩
  have hb0 : Below w.heap.size w W0 := by rw [← hW0]; exact (Below.refl _ _).alloc (Nat.le_refl _) _
  have kz : Has W0 bz #[.slice none 0 0, .slice none 0 0] 32 := by rw [← hW0, ← hbz]; exact Has.new _ _ _
  have iR : IsH (BAGA d n k l).2 := BAGA_is
  have iS : IsH (BAGA d n k' l').2 := BAGA_is
  have cb1 := bag_ok d n hn a k ca l W0 (hA.below hb0) (hX.below hb0)
  have CB : Aside (∀ W, Below w.heap.size w W → Calls Tryd.prog 21 #[.int .i64 d, .int .u64 (n : Int), .slice b k' cb] W fun e w' => e = .returned (.tuple #[.agg (CELLS (BAGA d n k' l').2).toArray, .int .i64 (BAGA d n k' l').1]) ∧ Below W.heap.size W w') := fun W h => bag_ok d n hn b k' cb l' W (hB.below h) (hX.below h)
  have HC : Aside ((¬ ((BAGA d n k l).1 = 0 ∧ (BAGA d n k' l').1 = 0 ∧ (BAGA d n k l).2 = (BAGA d n k' l').2 ∧ l ≠ l') → CLPK d n k l k' l' = none) ∧ (((BAGA d n k l).1 = 0 ∧ (BAGA d n k' l').1 = 0 ∧ (BAGA d n k l).2 = (BAGA d n k' l').2 ∧ l ≠ l') → k = PC n ∧ k' = k ∧ 0 < k ∧ ∃ s t, CLPK d n k l k' l' = some (s, t) ∧ CLS d (BAGL d n k' l' ++ (BAGL d n k l ++ [])) = some (s, t))) := by
    refine ⟨fun h => by unfold CLPK; rw [if_neg h], fun h => ?_⟩
    obtain ⟨s, t, e⟩ := CLPK_some hA.1 hA.2.2 hB.1 hB.2.2 h
    have e1 := (BAGA_zero h.1).2.1
    have e2 := (BAGA_zero h.2.1).2.1
    refine ⟨e1, by omega, ?_, s, t, e, ?_⟩
    · rcases Nat.eq_zero_or_pos k with h0 | h0
      · exfalso
        apply h.2.2.2
        rw [List.length_eq_zero_iff.1 (show l.length = 0 by rw [hA.1, h0]), List.length_eq_zero_iff.1 (show l'.length = 0 by rw [hB.1]; omega)]
      · exact h0
    · have := e
      unfold CLPK at this
      rw [if_pos h] at this
      exact this
  generalize CLPK d n k l k' l' = X at *
  generalize (BAGA d n k l).2 = R at *
  generalize (BAGA d n k l).1 = E at *
  generalize (BAGA d n k' l').2 = S at *
  generalize (BAGA d n k' l').1 = E' at *
  have lR := iR.1
  have lS := iS.1
  have q1 : ∀ w, (Op.equalIn 10000 26 (.agg (CELLS R).toArray) (.agg (CELLS S).toArray)).run Tryd.prog w = .ok (decide (R = S)) w := fun w => equal_hashes lR lS w
  have R0 : Aside (Below w.heap.size w W0 ∧ Has W0 bz #[.slice none 0 0, .slice none 0 0] 32 ∧ w.heap.size ≤ bz) := ⟨hb0, kz, by omega⟩
  have HZ : Aside (bz = w.heap.size) := hbz.symm
  clear hn hk hk' hA hB hX hb0 kz iR iS
  go_enter Tryd.func7, Tryd.ntmps7
  go_upto_region 1 with fail
  clear hW0 hbz
  go_wp2_with fail
  refine cb1.mono ?_
  rintro e w1 ⟨rfl, hb1⟩
  clear cb1
  go_upto_region 2 with (first
    | (refine wpList_store_row rfl 26 (.tmp 10) (.tmp 20) rfl _ _ rfl rfl 26 _ (Has.new w1 _ _) (info_arr lR) (by simp [CELLS, lR]) (cells_one R) ?_; rw [World.setRow_alloc_new])
    | fail)
  obtain ⟨w2, hw2⟩ : ∃ w2, w1.alloc (.cells (CELLS R).toArray 26) = w2 := ⟨_, rfl⟩
  obtain ⟨ba, hba⟩ : ∃ b, w1.heap.size = b := ⟨_, rfl⟩
  rw [hw2, hba]
  have hb2 : Below W0.heap.size W0 w2 := by rw [← hw2]; exact hb1.alloc hb1.size _
  have ka : Has w2 ba (CELLS R).toArray 26 := by rw [← hw2, ← hba]; exact Has.new _ _ _
  have hbw2 : Below w.heap.size w w2 := R0.out.1.trans (hb2.mono R0.out.1.size)
  have cb2 := CB.out w2 hbw2
  have R2 : Aside (Below w.heap.size w w2 ∧ Has w2 bz #[.slice none 0 0, .slice none 0 0] 32 ∧ Has w2 ba (CELLS R).toArray 26) := ⟨hbw2, R0.out.2.1.keep hb2, ka⟩
  clear hw2 hba hb1 hb2 ka hbw2 CB
  go_wp2_with fail
  refine cb2.mono ?_
  rintro e w3 ⟨rfl, hb3⟩
  clear cb2
  go_upto_region 3 with (first
    | (refine wpList_store_row rfl 26 (.tmp 12) (.tmp 27) rfl _ _ rfl rfl 26 _ (Has.new w3 _ _) (info_arr lS) (by simp [CELLS, lS]) (cells_one S) ?_; rw [World.setRow_alloc_new])
    | fail)
  obtain ⟨w4, hw4⟩ : ∃ w4, w3.alloc (.cells (CELLS S).toArray 26) = w4 := ⟨_, rfl⟩
  obtain ⟨bb, hbb⟩ : ∃ b, w3.heap.size = b := ⟨_, rfl⟩
  rw [hw4, hbb]
  have hb4 : Below w2.heap.size w2 w4 := by rw [← hw4]; exact hb3.alloc hb3.size _
  have kb : Has w4 bb (CELLS S).toArray 26 := by rw [← hw4, ← hbb]; exact Has.new _ _ _
  have ka := R2.out.2.2.keep hb4
  have kz := R2.out.2.1.keep hb4
  have hbw : Below w.heap.size w w4 := R2.out.1.trans (hb4.mono R2.out.1.size)
  have hzb := R0.out.2.2
  clear hw4 hbb hb3 hb4 R2 R0
  by_cases hE : E = 0
  · subst hE
    by_cases hE' : E' = 0
    · subst hE'
      by_cases hRS : R = S
      · rw [decide_eq_true hRS] at q1
        have cq := equalhashes_ok a b k k' ca cb l l' w4 (HA.out.2.2.1.below hbw) (HA.out.2.2.2.1.below hbw) (by have := HA.out.2.1; omega)
        by_cases hll : l = l'
        · have hX0 := HC.out.1 (by rintro ⟨_, _, _, h⟩; exact h hll)
          rw [decide_eq_true hll] at cq
          subst hX0
          clear HC hRS hll
          go_wp2_with (first
            | (refine load_row_if (by rfl) 26 (.tmp 10) rfl 32 5 ba rfl 26 (CELLS R).toArray (0, 0) ka Tryd.underlying26 (info_arr lR) ?_)
            | (refine load_row_if (by rfl) 26 (.tmp 12) rfl 32 5 bb rfl 26 (CELLS S).toArray (0, 0) kb Tryd.underlying26 (info_arr lS) ?_)
            | fail)
          refine cq.mono ?_
          rintro e w5 ⟨rfl, hb5⟩
          have kz := kz.keep hb5
          have hbw : Below w.heap.size w w5 := hbw.trans (hb5.mono hbw.size)
          clear cq ka kb q1 hb5
          have x0 : w5.cell? ⟨bz, 0, none⟩ = some (.slice none 0 0) := kz.cell 0
          have x1 : w5.cell? ⟨bz, 1, none⟩ = some (.slice none 0 0) := kz.cell 1
          have f0 := kz.frozen 0
          have f1 := kz.frozen 1
          go_wp2
          have hH := (kz.set 0 (.slice none 0 0)).set 1 (.slice none 0 0)
          have hb := (hbw.setCell (p := ⟨bz, 0, none⟩) hzb (.slice none 0 0)).setCell (p := ⟨bz, 1, none⟩) hzb (.slice none 0 0)
          clear x0 x1 f0 f1 kz
          generalize (w5.setCell ⟨bz, 0, none⟩ (.slice none 0 0)).setCell ⟨bz, 1, none⟩ (.slice none 0 0) = wf at *
          have z0 : wf.cell? ⟨bz, 0, none⟩ = some (.slice none 0 0) := hH.cell 0
          have z1 : wf.cell? ⟨bz, 1, none⟩ = some (.slice none 0 0) := hH.cell 1
          refine bodyPost_ret (v := .tuple #[.agg #[.slice none 0 0, .slice none 0 0], .bool false]) ?_ rfl ⟨hb, rfl⟩
          simp [results, Tryd.f7, go_sem, z0, z1]
        · obtain ⟨g1, g2, g3, s, t, g4, g5⟩ := HC.out.2 ⟨rfl, rfl, hRS, hll⟩
          rw [decide_eq_false hll] at cq
          subst g4
          have HG : Aside (k = PC n ∧ k' = k ∧ 0 < k ∧ CLS d (BAGL d n k' l' ++ (BAGL d n k l ++ [])) = some (s, t)) := ⟨g1, g2, g3, g5⟩
          clear HC hRS hll g1 g2 g3 g5
          go_wp2_with (first
            | (refine load_row_if (by rfl) 26 (.tmp 10) rfl 32 5 ba rfl 26 (CELLS R).toArray (0, 0) ka Tryd.underlying26 (info_arr lR) ?_)
            | (refine load_row_if (by rfl) 26 (.tmp 12) rfl 32 5 bb rfl 26 (CELLS S).toArray (0, 0) kb Tryd.underlying26 (info_arr lS) ?_)
            | fail)
          refine cq.mono ?_
          rintro e w5 ⟨rfl, hb5⟩
          have kz5 := kz.keep hb5
          have hbw5 : Below w.heap.size w w5 := hbw.trans (hb5.mono hbw.size)
          clear cq ka kb q1 hb5 kz hbw
          have cm := meet_ok d w5 (fun i => i ≠ bz)
          go_wp2_with fail
          refine cm.mono ?_
          rintro e w6 ⟨rfl, hm6, hb6⟩
          clear cm
          obtain ⟨bm, hbm⟩ : ∃ bm, w5.heap.size + 1 = bm := ⟨_, rfl⟩
          obtain ⟨gm, hgm⟩ : ∃ gm, w5.heap.size = gm := ⟨_, rfl⟩
          rw [hbm] at hm6 ⊢
          rw [hgm] at hm6
          have hbw6 : Below w.heap.size w w6 := hbw5.trans (hb6.mono hbw5.size)
          have hs5 := hbw5.size
          have hs6 := hb6.size
          have kz6 := kz5.keep hb6
          obtain ⟨ga, oa, rfl, hga, -⟩ := HA.out.2.2.1.2.1 HG.out.2.2.1
          obtain ⟨gb, ob, rfl, hgb, -⟩ := HA.out.2.2.2.1.2.1 (by have := HG.out.2.1; have := HG.out.2.2.1; omega)
          have htab : ∀ W0 W, Below w.heap.size w W0 → Below gm W0 W → HX.Tabled W := fun W0 W h1 h2 => HA.out.2.2.2.2.1.below (h1.trans (h2.mono (by omega)))
          have c1 := bagm_ok d n HA.out.1 ga oa k ca HG.out.2.2.1 HA.out.2.1 l w6 gm w6.heap.size bm gm (fun i => i ≠ bz) [] hm6 (by simp) (HA.out.2.2.1.below hbw6) (by omega) (fun i hi => by have := kz6.lt; omega) (fun W h => htab w6 W hbw6 h)
          have B6 : Aside (Below w.heap.size w w6 ∧ bm = gm + 1 ∧ w.heap.size ≤ gm ∧ w5.heap.size = gm ∧ Has w6 bz #[.slice none 0 0, .slice none 0 0] 32 ∧ ga < w.heap.size ∧ gb < w.heap.size ∧ bz < gm) := ⟨hbw6, by omega, by omega, hgm, kz6, hga, hgb, by have := kz5.lt; omega⟩
          clear hbm hgm hb6 hbw6 hs5 hs6 kz6 hga hgb htab hm6 kz5 hbw5
          go_wp2_with fail
          refine c1.mono ?_
          rintro e w7 ⟨⟨v, rfl⟩, hm7, st7⟩
          clear c1
          have hs7 := st7.size
          have hbw7 : Below w.heap.size w w7 := by
            have h := B6.out
            exact h.1.trans (st7.below (by have := h.1.size; omega) (by omega) (by omega))
          have kz7 : Has w7 bz #[.slice none 0 0, .slice none 0 0] 32 := (st7.block bz B6.out.2.2.2.2.1.lt (by have := B6.out; omega) (by have := B6.out; omega)).trans B6.out.2.2.2.2.1
          have htab : ∀ W, Below gm w7 W → HX.Tabled W := fun W h2 => HA.out.2.2.2.2.1.below (hbw7.trans (h2.mono B6.out.2.2.1))
          have c2 := bagm_ok d n HA.out.1 gb ob k' cb (by have := HG.out; omega) HA.out.2.2.2.2.2 l' w7 gm w7.heap.size bm gm (fun i => i ≠ bz) (BAGL d n k l ++ []) hm7 (by rw [List.append_nil, BAGL_length]; have := HA.out.2.1; omega) (HA.out.2.2.2.1.below hbw7) (by have := B6.out; omega) (fun i hi => by have := kz7.lt; omega) htab
          have B7 : Aside (Below w.heap.size w w7 ∧ Has w7 bz #[.slice none 0 0, .slice none 0 0] 32) := ⟨hbw7, kz7⟩
          clear hm7 st7 hs7 hbw7 kz7 htab
          go_wp2_with fail
          refine c2.mono ?_
          rintro e w8 ⟨⟨v2, rfl⟩, hm8, st8⟩
          clear c2
          have hs8 := st8.size
          have hbw8 : Below w.heap.size w w8 := B7.out.1.trans (st8.below (by have := B7.out.1.size; omega) (by have := B6.out; omega) (by have := B6.out; omega))
          have kz8 : Has w8 bz #[.slice none 0 0, .slice none 0 0] 32 := (st8.block bz B7.out.2.lt (by have := B6.out; omega) (by have := B6.out; omega)).trans B7.out.2
          obtain ⟨a1, n1, c1, a2, n2, c2, hB8, -⟩ := hm8.blk
          generalize hfd : (CLS d (BAGL d n k' l' ++ (BAGL d n k l ++ []))).isSome = fd at hB8
          have FIN : Aside (∀ W, W = w8.drew → fd = true ∧ CLASHED w (some (s, t)) (.returned (.tuple #[.agg #[.slice a1 n1 c1, .slice a2 n2 c2], .bool fd])) ((W.setCell ⟨bz, 0, none⟩ (.slice a1 n1 c1)).setCell ⟨bz, 1, none⟩ (.slice a2 n2 c2)) ∧ Has ((W.setCell ⟨bz, 0, none⟩ (.slice a1 n1 c1)).setCell ⟨bz, 1, none⟩ (.slice a2 n2 c2)) bz #[.slice a1 n1 c1, .slice a2 n2 c2] 32) := by
            rintro W rfl
            have hHz : Has w8.drew bz #[.slice none 0 0, .slice none 0 0] 32 := kz8
            have := MET.told (w0 := w) (w' := (w8.drew.setCell ⟨bz, 0, none⟩ (.slice a1 n1 c1)).setCell ⟨bz, 1, none⟩ (.slice a2 n2 c2)) (bz := bz) hm8 hB8 HG.out.2.2.2 B6.out.2.2.1 ((hbw8.drew.setCell (p := ⟨bz, 0, none⟩) hzb _).setCell (p := ⟨bz, 1, none⟩) hzb _) (fun i hi => (Below.heap_setCell _ _ _ i hi).trans (Below.heap_setCell _ _ _ i hi)) (fun i h => h)
            exact ⟨this.1, this.2, (hHz.set 0 _).set 1 _⟩
          have y2 : w8.cell? ⟨bm, 2, none⟩ = some (.slice a1 n1 c1) := hB8.cell 2
          have y3 : w8.cell? ⟨bm, 3, none⟩ = some (.slice a2 n2 c2) := hB8.cell 3
          have y4 : w8.cell? ⟨bm, 4, none⟩ = some (.bool fd) := hB8.cell 4
          have hne : bm ≠ bz := by have := B6.out; omega
          go_upto_region 8 with fail
          refine retPeaks w8 bm bz a1 a2 n1 c1 n2 c2 fd (fun W => W = w8.drew) (fun W => W = (w8.drew.setCell ⟨bz, 0, none⟩ (.slice a1 n1 c1)).setCell ⟨bz, 1, none⟩ (.slice a2 n2 c2)) rfl (fun W e => by subst e; exact ⟨y2, y3, y4⟩) (fun W e => by subst e; exact ⟨(World.cell?_setCell_other _ _ _ _ (fun e => hne (congrArg Addr.block e).symm)).trans ((World.cell?_setCell_other _ _ _ _ (fun e => hne (congrArg Addr.block e).symm)).trans y2), (World.cell?_setCell_other _ _ _ _ (fun e => hne (congrArg Addr.block e).symm)).trans ((World.cell?_setCell_other _ _ _ _ (fun e => hne (congrArg Addr.block e).symm)).trans y3), (World.cell?_setCell_other _ _ _ _ (fun e => hne (congrArg Addr.block e).symm)).trans ((World.cell?_setCell_other _ _ _ _ (fun e => hne (congrArg Addr.block e).symm)).trans y4)⟩) (fun W e => by subst e; exact kz8) (fun W e => by subst e; rfl) (fun _ _ _ _ _ h => h) ?_
          intro W hW
          obtain ⟨q0, q1, q2⟩ := FIN.out w8.drew rfl
          rw [← hW] at q1 q2
          subst q0
          clear hW FIN y2 y3 y4 hB8 hm8 st8
          have z0 : W.cell? ⟨bz, 0, none⟩ = some (.slice a1 n1 c1) := q2.cell 0
          have z1 : W.cell? ⟨bz, 1, none⟩ = some (.slice a2 n2 c2) := q2.cell 1
          go_wp2_with fail
          refine bodyPost_ret (v := .tuple #[.agg #[.slice a1 n1 c1, .slice a2 n2 c2], .bool true]) ?_ rfl q1
          simp [results, Tryd.f7, go_sem, z0, z1]
      · have hX0 := HC.out.1 (by rintro ⟨_, _, h, _⟩; exact hRS h)
        rw [decide_eq_false hRS] at q1
        subst hX0
        clear HC hRS
        have x0 : w4.cell? ⟨bz, 0, none⟩ = some (.slice none 0 0) := kz.cell 0
        have x1 : w4.cell? ⟨bz, 1, none⟩ = some (.slice none 0 0) := kz.cell 1
        have f0 := kz.frozen 0
        have f1 := kz.frozen 1
        go_wp2_with (first
          | (refine load_row_if (by rfl) 26 (.tmp 10) rfl 32 5 ba rfl 26 (CELLS R).toArray (0, 0) ka Tryd.underlying26 (info_arr lR) ?_)
          | (refine load_row_if (by rfl) 26 (.tmp 12) rfl 32 5 bb rfl 26 (CELLS S).toArray (0, 0) kb Tryd.underlying26 (info_arr lS) ?_)
          | fail)
        have hH := (kz.set 0 (.slice none 0 0)).set 1 (.slice none 0 0)
        have hb := (hbw.setCell (p := ⟨bz, 0, none⟩) hzb (.slice none 0 0)).setCell (p := ⟨bz, 1, none⟩) hzb (.slice none 0 0)
        clear x0 x1 f0 f1 kz
        generalize (w4.setCell ⟨bz, 0, none⟩ (.slice none 0 0)).setCell ⟨bz, 1, none⟩ (.slice none 0 0) = wf at *
        have z0 : wf.cell? ⟨bz, 0, none⟩ = some (.slice none 0 0) := hH.cell 0
        have z1 : wf.cell? ⟨bz, 1, none⟩ = some (.slice none 0 0) := hH.cell 1
        refine bodyPost_ret (v := .tuple #[.agg #[.slice none 0 0, .slice none 0 0], .bool false]) ?_ rfl ⟨hb, rfl⟩
        simp [results, Tryd.f7, go_sem, z0, z1]
    · have hX0 := HC.out.1 (by rintro ⟨_, h, _, _⟩; exact hE' h)
      have hE2 : (E' != 0) = true := bne_iff_ne.2 hE'
      subst hX0
      clear HC q1 hE' ka kb
      have x0 : w4.cell? ⟨bz, 0, none⟩ = some (.slice none 0 0) := kz.cell 0
      have x1 : w4.cell? ⟨bz, 1, none⟩ = some (.slice none 0 0) := kz.cell 1
      have f0 := kz.frozen 0
      have f1 := kz.frozen 1
      go_wp2
      have hH := (kz.set 0 (.slice none 0 0)).set 1 (.slice none 0 0)
      have hb := (hbw.setCell (p := ⟨bz, 0, none⟩) hzb (.slice none 0 0)).setCell (p := ⟨bz, 1, none⟩) hzb (.slice none 0 0)
      clear x0 x1 f0 f1 kz
      generalize (w4.setCell ⟨bz, 0, none⟩ (.slice none 0 0)).setCell ⟨bz, 1, none⟩ (.slice none 0 0) = wf at *
      have z0 : wf.cell? ⟨bz, 0, none⟩ = some (.slice none 0 0) := hH.cell 0
      have z1 : wf.cell? ⟨bz, 1, none⟩ = some (.slice none 0 0) := hH.cell 1
      refine bodyPost_ret (v := .tuple #[.agg #[.slice none 0 0, .slice none 0 0], .bool false]) ?_ rfl ⟨hb, rfl⟩
      simp [results, Tryd.f7, go_sem, z0, z1]
  · have hX0 := HC.out.1 (by rintro ⟨h, _, _, _⟩; exact hE h)
    have hE1 : (E != 0) = true := bne_iff_ne.2 hE
    subst hX0
    clear HC q1 hE ka kb
    have x0 : w4.cell? ⟨bz, 0, none⟩ = some (.slice none 0 0) := kz.cell 0
    have x1 : w4.cell? ⟨bz, 1, none⟩ = some (.slice none 0 0) := kz.cell 1
    have f0 := kz.frozen 0
    have f1 := kz.frozen 1
    go_wp2
    have hH := (kz.set 0 (.slice none 0 0)).set 1 (.slice none 0 0)
    have hb := (hbw.setCell (p := ⟨bz, 0, none⟩) hzb (.slice none 0 0)).setCell (p := ⟨bz, 1, none⟩) hzb (.slice none 0 0)
    clear x0 x1 f0 f1 kz
    generalize (w4.setCell ⟨bz, 0, none⟩ (.slice none 0 0)).setCell ⟨bz, 1, none⟩ (.slice none 0 0) = wf at *
    have z0 : wf.cell? ⟨bz, 0, none⟩ = some (.slice none 0 0) := hH.cell 0
    have z1 : wf.cell? ⟨bz, 1, none⟩ = some (.slice none 0 0) := hH.cell 1
    refine bodyPost_ret (v := .tuple #[.agg #[.slice none 0 0, .slice none 0 0], .bool false]) ?_ rfl ⟨hb, rfl⟩
    simp [results, Tryd.f7, go_sem, z0, z1]
end Go.Proofs.YtbmjoiiagldklaaDoor
