/- Texts of SpanRound, one behind the other: ProofSame, ProofTexts, ProofRow, ProofFlats, ProofMarked, ManySlice, ManyPeaks, ManySetsPlain. -/
import Derived.Test.YtmkgldjocigffaaDoorSpanRoundP7
/- Are these the same hashes? -/
namespace Go.Proofs.YtmkgldjocigffaaDoor
open Go.RowKit
set_option maxRecDepth 100000

theorem hsh_ext {l k : List Int} {n : Nat} (hl : l.length = 32 * n) (hk : k.length = 32 * n) (h : ∀ i, i < n → HSH l i = HSH k i) : l = k := by
  have e : ∀ i, i ≤ n → l.take (32 * i) = k.take (32 * i) := by
    intro i
    induction i with
    | zero => intro _; simp
    | succ i ih => intro hi; rw [HSH_next, HSH_next, ih (by omega), h i (by omega)]
  have := e n (Nat.le_refl _)
  rwa [List.take_of_length_le (by omega), List.take_of_length_le (by omega)] at this
def SHOPS : Array Oper := #[{ dst := some 17, op := Op.move (Operand.tmp 0), type := 35, pos := "ref.go:176", after := #[], guard := none }, { dst := some 18, op := Op.move (Operand.tmp 5), type := 3, pos := "ref.go:176", after := #[], guard := none }, { dst := some 19, op := Op.indexAddr 35 (Operand.tmp 17) (Operand.tmp 18), type := 0, pos := "ref.go:176", after := #[{ on := 0, ground := Ground.data }, { on := 1, ground := Ground.data }], guard := none }, { dst := some 20, op := Op.load 60 (Operand.tmp 19), type := 60, pos := "ref.go:176", after := #[{ on := 2, ground := Ground.data }], guard := none }, { dst := some 21, op := Op.move (Operand.tmp 1), type := 35, pos := "ref.go:176", after := #[], guard := none }, { dst := some 22, op := Op.move (Operand.tmp 5), type := 3, pos := "ref.go:176", after := #[], guard := none }, { dst := some 23, op := Op.indexAddr 35 (Operand.tmp 21) (Operand.tmp 22), type := 0, pos := "ref.go:176", after := #[{ on := 4, ground := Ground.data }, { on := 5, ground := Ground.data }], guard := none }, { dst := some 24, op := Op.load 60 (Operand.tmp 23), type := 60, pos := "ref.go:176", after := #[{ on := 6, ground := Ground.data }], guard := none }, { dst := some 25, op := Op.binOp BinOp.neq 60 (Operand.tmp 20) (Operand.tmp 24) 60, type := 4, pos := "ref.go:176", after := #[{ on := 3, ground := Ground.data }, { on := 7, ground := Ground.data }], guard := none }]
set_option maxHeartbeats 2000000 in
theorem same_region {Q : Exit → Act → World → Prop} (u2 u3 u4 u6 u7 u8 u9 u10 u11 u12 u13 u14 u15 u16 u17 u18 u19 u20 u21 u22 u23 u24 u25 : Value) (W : World) (w0 : World) (ba oa n ca bb ob m cb i : Nat) (H K : List Int) (hH : H.length = 32) (hK : K.length = 32) (b1 : (i : Int) < (n : Int)) (b2 : (i : Int) < (m : Int)) (hS : (fun W : World => W.rangeAt ba (oa + i * 32) (CELLS H) ∧ W.rangeAt bb (ob + i * 32) (CELLS K) ∧ Below w0.heap.size w0 W) W) (hQ : ∀ c (a : Act) (t : Tmp) (v : Value) w, Q (.panic c) (a.put (some t) v) w → Q (.panic c) a w)
    (h : ∀ w, (fun W : World => W.rangeAt ba (oa + i * 32) (CELLS H) ∧ W.rangeAt bb (ob + i * 32) (CELLS K) ∧ Below w0.heap.size w0 W) w → Q .normal { tmps := #[.slice (some ⟨ba, oa, none⟩) n ca, .slice (some ⟨bb, ob, none⟩) m cb, u2, u3, u4, .int .i64 (i : Int), u6, u7, u8, u9, u10, u11, u12, u13, u14, u15, u16, .slice (some ⟨ba, oa, none⟩) n ca, .int .i64 (i : Int), .pointer (some ⟨ba, oa + i * 32, none⟩), .agg (CELLS H).toArray, .slice (some ⟨bb, ob, none⟩) m cb, .int .i64 (i : Int), .pointer (some ⟨bb, ob + i * 32, none⟩), .agg (CELLS K).toArray, .bool (!decide (H = K))], defers := [] } w) : (Code.region 6 SHOPS true).wp Tryd.prog Q { tmps := #[.slice (some ⟨ba, oa, none⟩) n ca, .slice (some ⟨bb, ob, none⟩) m cb, u2, u3, u4, .int .i64 (i : Int), u6, u7, u8, u9, u10, u11, u12, u13, u14, u15, u16, u17, u18, u19, u20, u21, u22, u23, u24, u25], defers := [] } W := by
  have hs0 : (fun W : World => W.rangeAt ba (oa + i * 32) (CELLS H) ∧ W.rangeAt bb (ob + i * 32) (CELLS K) ∧ Below w0.heap.size w0 W) W.drew := ⟨hS.1, hS.2.1, hS.2.2.drew⟩
  have k0 : ∀ w, (fun W : World => W.rangeAt ba (oa + i * 32) (CELLS H) ∧ W.rangeAt bb (ob + i * 32) (CELLS K) ∧ Below w0.heap.size w0 W) w → wpAnyH Tryd.prog .any SHOPS Q (fun W : World => W.rangeAt ba (oa + i * 32) (CELLS H) ∧ W.rangeAt bb (ob + i * 32) (CELLS K) ∧ Below w0.heap.size w0 W) 9 #[false, false, false, false, false, false, false, false, false] { tmps := #[.slice (some ⟨ba, oa, none⟩) n ca, .slice (some ⟨bb, ob, none⟩) m cb, u2, u3, u4, .int .i64 (i : Int), u6, u7, u8, u9, u10, u11, u12, u13, u14, u15, u16, u17, u18, u19, u20, u21, u22, u23, u24, u25], defers := [] } w := fun w hw => by
    have hww : (fun W : World => W.rangeAt ba (oa + i * 32) (CELLS H) ∧ W.rangeAt bb (ob + i * 32) (CELLS K) ∧ Below w0.heap.size w0 W) w := hw
    have last : wpAnyH Tryd.prog .any SHOPS Q (fun W : World => W.rangeAt ba (oa + i * 32) (CELLS H) ∧ W.rangeAt bb (ob + i * 32) (CELLS K) ∧ Below w0.heap.size w0 W) 0 #[true, true, true, true, true, true, true, true, true] { tmps := #[.slice (some ⟨ba, oa, none⟩) n ca, .slice (some ⟨bb, ob, none⟩) m cb, u2, u3, u4, .int .i64 (i : Int), u6, u7, u8, u9, u10, u11, u12, u13, u14, u15, u16, .slice (some ⟨ba, oa, none⟩) n ca, .int .i64 (i : Int), .pointer (some ⟨ba, oa + i * 32, none⟩), .agg (CELLS H).toArray, .slice (some ⟨bb, ob, none⟩) m cb, .int .i64 (i : Int), .pointer (some ⟨bb, ob + i * 32, none⟩), .agg (CELLS K).toArray, .bool (!decide (H = K))], defers := [] } w := wpAnyH_done (by kernel_rfl) (h w hw) _
    have t8 : wpAnyH Tryd.prog .any SHOPS Q (fun W : World => W.rangeAt ba (oa + i * 32) (CELLS H) ∧ W.rangeAt bb (ob + i * 32) (CELLS K) ∧ Below w0.heap.size w0 W) 1 #[true, true, true, true, true, true, true, true, false] { tmps := #[.slice (some ⟨ba, oa, none⟩) n ca, .slice (some ⟨bb, ob, none⟩) m cb, u2, u3, u4, .int .i64 (i : Int), u6, u7, u8, u9, u10, u11, u12, u13, u14, u15, u16, .slice (some ⟨ba, oa, none⟩) n ca, .int .i64 (i : Int), .pointer (some ⟨ba, oa + i * 32, none⟩), .agg (CELLS H).toArray, .slice (some ⟨bb, ob, none⟩) m cb, .int .i64 (i : Int), .pointer (some ⟨bb, ob + i * 32, none⟩), .agg (CELLS K).toArray, u25], defers := [] } w :=
      wpAnyH_take (i := 8) (oi := { dst := some 25, op := Op.binOp BinOp.neq 60 (Operand.tmp 20) (Operand.tmp 24) 60, type := 4, pos := "ref.go:176", after := #[{ on := 3, ground := Ground.data }, { on := 7, ground := Ground.data }], guard := none }) (v := .bool (!decide (H = K))) rfl (by kernel_rfl) (by kernel_rfl) (by kernel_rfl) (fun _ _ _ h => hQ _ _ _ _ _ h) (Yields.yieldsIf (Or.inl ⟨by rfl, fun W => run_value (neq_hashes hH hK _ _ W)⟩)) hww last
    have t7 : wpAnyH Tryd.prog .any SHOPS Q (fun W : World => W.rangeAt ba (oa + i * 32) (CELLS H) ∧ W.rangeAt bb (ob + i * 32) (CELLS K) ∧ Below w0.heap.size w0 W) 2 #[true, true, true, true, true, true, true, false, false] { tmps := #[.slice (some ⟨ba, oa, none⟩) n ca, .slice (some ⟨bb, ob, none⟩) m cb, u2, u3, u4, .int .i64 (i : Int), u6, u7, u8, u9, u10, u11, u12, u13, u14, u15, u16, .slice (some ⟨ba, oa, none⟩) n ca, .int .i64 (i : Int), .pointer (some ⟨ba, oa + i * 32, none⟩), .agg (CELLS H).toArray, .slice (some ⟨bb, ob, none⟩) m cb, .int .i64 (i : Int), .pointer (some ⟨bb, ob + i * 32, none⟩), u24, u25], defers := [] } w :=
      wpAnyH_take (i := 7) (oi := { dst := some 24, op := Op.load 60 (Operand.tmp 23), type := 60, pos := "ref.go:176", after := #[{ on := 6, ground := Ground.data }], guard := none }) (v := .agg (CELLS K).toArray) rfl (by kernel_rfl) (by kernel_rfl) (by kernel_rfl) (fun _ _ _ h => hQ _ _ _ _ _ h) (yieldsIf_load_mid (by rfl) 60 (.tmp 23) rfl bb (ob + i * 32) rfl (CELLS K) _ (fun w h => h.2.1) Tryd.underlying60 rfl (info_cells hK)) hww t8
    have t6 : wpAnyH Tryd.prog .any SHOPS Q (fun W : World => W.rangeAt ba (oa + i * 32) (CELLS H) ∧ W.rangeAt bb (ob + i * 32) (CELLS K) ∧ Below w0.heap.size w0 W) 3 #[true, true, true, true, true, true, false, false, false] { tmps := #[.slice (some ⟨ba, oa, none⟩) n ca, .slice (some ⟨bb, ob, none⟩) m cb, u2, u3, u4, .int .i64 (i : Int), u6, u7, u8, u9, u10, u11, u12, u13, u14, u15, u16, .slice (some ⟨ba, oa, none⟩) n ca, .int .i64 (i : Int), .pointer (some ⟨ba, oa + i * 32, none⟩), .agg (CELLS H).toArray, .slice (some ⟨bb, ob, none⟩) m cb, .int .i64 (i : Int), u23, u24, u25], defers := [] } w :=
      wpAnyH_take (i := 6) (oi := { dst := some 23, op := Op.indexAddr 35 (Operand.tmp 21) (Operand.tmp 22), type := 0, pos := "ref.go:176", after := #[{ on := 4, ground := Ground.data }, { on := 5, ground := Ground.data }], guard := none }) (v := .pointer (some ⟨bb, ob + i * 32, none⟩)) rfl (by kernel_rfl) (by kernel_rfl) (by kernel_rfl) (fun _ _ _ h => hQ _ _ _ _ _ h) (Yields.yieldsIf (Or.inl ⟨by rfl, fun W => by go_simp⟩)) hww t7
    have t5 : wpAnyH Tryd.prog .any SHOPS Q (fun W : World => W.rangeAt ba (oa + i * 32) (CELLS H) ∧ W.rangeAt bb (ob + i * 32) (CELLS K) ∧ Below w0.heap.size w0 W) 4 #[true, true, true, true, true, false, false, false, false] { tmps := #[.slice (some ⟨ba, oa, none⟩) n ca, .slice (some ⟨bb, ob, none⟩) m cb, u2, u3, u4, .int .i64 (i : Int), u6, u7, u8, u9, u10, u11, u12, u13, u14, u15, u16, .slice (some ⟨ba, oa, none⟩) n ca, .int .i64 (i : Int), .pointer (some ⟨ba, oa + i * 32, none⟩), .agg (CELLS H).toArray, .slice (some ⟨bb, ob, none⟩) m cb, u22, u23, u24, u25], defers := [] } w :=
      wpAnyH_take (i := 5) (oi := { dst := some 22, op := Op.move (Operand.tmp 5), type := 3, pos := "ref.go:176", after := #[], guard := none }) (v := .int .i64 (i : Int)) rfl (by kernel_rfl) (by kernel_rfl) (by kernel_rfl) (fun _ _ _ h => hQ _ _ _ _ _ h) (Yields.yieldsIf (Or.inl ⟨by rfl, fun W => by go_simp⟩)) hww t6
    have t4 : wpAnyH Tryd.prog .any SHOPS Q (fun W : World => W.rangeAt ba (oa + i * 32) (CELLS H) ∧ W.rangeAt bb (ob + i * 32) (CELLS K) ∧ Below w0.heap.size w0 W) 5 #[true, true, true, true, false, false, false, false, false] { tmps := #[.slice (some ⟨ba, oa, none⟩) n ca, .slice (some ⟨bb, ob, none⟩) m cb, u2, u3, u4, .int .i64 (i : Int), u6, u7, u8, u9, u10, u11, u12, u13, u14, u15, u16, .slice (some ⟨ba, oa, none⟩) n ca, .int .i64 (i : Int), .pointer (some ⟨ba, oa + i * 32, none⟩), .agg (CELLS H).toArray, u21, u22, u23, u24, u25], defers := [] } w :=
      wpAnyH_take (i := 4) (oi := { dst := some 21, op := Op.move (Operand.tmp 1), type := 35, pos := "ref.go:176", after := #[], guard := none }) (v := .slice (some ⟨bb, ob, none⟩) m cb) rfl (by kernel_rfl) (by kernel_rfl) (by kernel_rfl) (fun _ _ _ h => hQ _ _ _ _ _ h) (Yields.yieldsIf (Or.inl ⟨by rfl, fun W => by go_simp⟩)) hww t5
    have t3 : wpAnyH Tryd.prog .any SHOPS Q (fun W : World => W.rangeAt ba (oa + i * 32) (CELLS H) ∧ W.rangeAt bb (ob + i * 32) (CELLS K) ∧ Below w0.heap.size w0 W) 6 #[true, true, true, false, false, false, false, false, false] { tmps := #[.slice (some ⟨ba, oa, none⟩) n ca, .slice (some ⟨bb, ob, none⟩) m cb, u2, u3, u4, .int .i64 (i : Int), u6, u7, u8, u9, u10, u11, u12, u13, u14, u15, u16, .slice (some ⟨ba, oa, none⟩) n ca, .int .i64 (i : Int), .pointer (some ⟨ba, oa + i * 32, none⟩), u20, u21, u22, u23, u24, u25], defers := [] } w :=
      wpAnyH_take (i := 3) (oi := { dst := some 20, op := Op.load 60 (Operand.tmp 19), type := 60, pos := "ref.go:176", after := #[{ on := 2, ground := Ground.data }], guard := none }) (v := .agg (CELLS H).toArray) rfl (by kernel_rfl) (by kernel_rfl) (by kernel_rfl) (fun _ _ _ h => hQ _ _ _ _ _ h) (yieldsIf_load_mid (by rfl) 60 (.tmp 19) rfl ba (oa + i * 32) rfl (CELLS H) _ (fun w h => h.1) Tryd.underlying60 rfl (info_cells hH)) hww t4
    have t2 : wpAnyH Tryd.prog .any SHOPS Q (fun W : World => W.rangeAt ba (oa + i * 32) (CELLS H) ∧ W.rangeAt bb (ob + i * 32) (CELLS K) ∧ Below w0.heap.size w0 W) 7 #[true, true, false, false, false, false, false, false, false] { tmps := #[.slice (some ⟨ba, oa, none⟩) n ca, .slice (some ⟨bb, ob, none⟩) m cb, u2, u3, u4, .int .i64 (i : Int), u6, u7, u8, u9, u10, u11, u12, u13, u14, u15, u16, .slice (some ⟨ba, oa, none⟩) n ca, .int .i64 (i : Int), u19, u20, u21, u22, u23, u24, u25], defers := [] } w :=
      wpAnyH_take (i := 2) (oi := { dst := some 19, op := Op.indexAddr 35 (Operand.tmp 17) (Operand.tmp 18), type := 0, pos := "ref.go:176", after := #[{ on := 0, ground := Ground.data }, { on := 1, ground := Ground.data }], guard := none }) (v := .pointer (some ⟨ba, oa + i * 32, none⟩)) rfl (by kernel_rfl) (by kernel_rfl) (by kernel_rfl) (fun _ _ _ h => hQ _ _ _ _ _ h) (Yields.yieldsIf (Or.inl ⟨by rfl, fun W => by go_simp⟩)) hww t3
    have t1 : wpAnyH Tryd.prog .any SHOPS Q (fun W : World => W.rangeAt ba (oa + i * 32) (CELLS H) ∧ W.rangeAt bb (ob + i * 32) (CELLS K) ∧ Below w0.heap.size w0 W) 8 #[true, false, false, false, false, false, false, false, false] { tmps := #[.slice (some ⟨ba, oa, none⟩) n ca, .slice (some ⟨bb, ob, none⟩) m cb, u2, u3, u4, .int .i64 (i : Int), u6, u7, u8, u9, u10, u11, u12, u13, u14, u15, u16, .slice (some ⟨ba, oa, none⟩) n ca, u18, u19, u20, u21, u22, u23, u24, u25], defers := [] } w :=
      wpAnyH_take (i := 1) (oi := { dst := some 18, op := Op.move (Operand.tmp 5), type := 3, pos := "ref.go:176", after := #[], guard := none }) (v := .int .i64 (i : Int)) rfl (by kernel_rfl) (by kernel_rfl) (by kernel_rfl) (fun _ _ _ h => hQ _ _ _ _ _ h) (Yields.yieldsIf (Or.inl ⟨by rfl, fun W => by go_simp⟩)) hww t2
    have t0 : wpAnyH Tryd.prog .any SHOPS Q (fun W : World => W.rangeAt ba (oa + i * 32) (CELLS H) ∧ W.rangeAt bb (ob + i * 32) (CELLS K) ∧ Below w0.heap.size w0 W) 9 #[false, false, false, false, false, false, false, false, false] { tmps := #[.slice (some ⟨ba, oa, none⟩) n ca, .slice (some ⟨bb, ob, none⟩) m cb, u2, u3, u4, .int .i64 (i : Int), u6, u7, u8, u9, u10, u11, u12, u13, u14, u15, u16, u17, u18, u19, u20, u21, u22, u23, u24, u25], defers := [] } w :=
      wpAnyH_take (i := 0) (oi := { dst := some 17, op := Op.move (Operand.tmp 0), type := 35, pos := "ref.go:176", after := #[], guard := none }) (v := .slice (some ⟨ba, oa, none⟩) n ca) rfl (by kernel_rfl) (by kernel_rfl) (by kernel_rfl) (fun _ _ _ h => hQ _ _ _ _ _ h) (Yields.yieldsIf (Or.inl ⟨by rfl, fun W => by go_simp⟩)) hww t1
    exact t0
  exact wp_region_held_drew (S := (fun W : World => W.rangeAt ba (oa + i * 32) (CELLS H) ∧ W.rangeAt bb (ob + i * 32) (CELLS K) ∧ Below w0.heap.size w0 W)) (by kernel_rfl) hs0 (fun _ => k0 _ hs0)
set_option maxHeartbeats 1000000 in
theorem samehashes_ok (a b : Option Addr) (n m ca cb : Nat) (l k : List Int) (w : World) (hA : Flat w a n l) (hB : Flat w b m k) (hn : n ≤ 1000000) :
    Calls Tryd.prog 42 #[.slice a n ca, .slice b m cb] w fun e w' => e = .returned (.bool (decide (l = k))) ∧ Below w.heap.size w w' := by
  by_cases hnm : n = m
  · subst hnm
    rcases Nat.eq_zero_or_pos n with h | h
    · subst h
      have hd : decide (l = k) = true := by
        rw [List.eq_nil_of_length_eq_zero hA.1, List.eq_nil_of_length_eq_zero hB.1]
        rfl
      rw [hd]
      clear hA hB hd
      go_enter Tryd.func42, Tryd.ntmps42
      go_wp2
      refine wp_loop_rounds 1 ?_
      rw [rounds_succ]
      go_wp2
      go_ret
      exact ⟨rfl, Below.refl _ _⟩
    · obtain ⟨ba, oa, rfl, la, hca⟩ := hA.2.1 h
      obtain ⟨bb, ob, rfl, lb, hcb⟩ := hB.2.1 h
      have HC : Aside (Flat w (some ⟨ba, oa, none⟩) n l ∧ Flat w (some ⟨bb, ob, none⟩) n k ∧ n ≤ 1000000) := ⟨hA, hB, hn⟩
      clear hA hB hca hcb la lb hn
      obtain ⟨D, hD⟩ : ∃ D, D = decide (l = k) := ⟨_, rfl⟩
      rw [← hD]
      have HD : Aside (D = decide (l = k)) := hD
      clear hD
      go_enter Tryd.func42, Tryd.ntmps42
      go_wp2
      go_loopg [5] n (fun g s5 wx => ∃ i : Nat, s5 = .int .i64 i ∧ Aside (i + g = n ∧ Below w.heap.size w wx ∧ ∀ j, j < i → HSH l j = HSH k j))
      case atStart => exact ⟨0, rfl, by omega, Below.refl _ _, fun j hj => by omega⟩
      case round =>
        obtain ⟨i, rfl, A⟩ := hrel
        cases gk with
        | zero =>
          obtain rfl : i = n := by have := A.out.1; omega
          have hlt : ¬ (i : Int) < (i : Int) := by omega
          have hd : Aside (D = true) := by
            show D = true
            rw [HD.out, decide_eq_true_iff]
            exact hsh_ext HC.out.1.1 HC.out.2.1.1 A.out.2.2
          clear HD HC
          go_wp2
          go_ret
          exact ⟨by rw [hd.out]; rfl, A.out.2.1⟩
        | succ g =>
          obtain ⟨hig, hbel, hbef⟩ := A.out
          have hlt : (i : Int) < (n : Int) := by omega
          have r1 := (HC.out.1.below hbel).at (show i < n by omega)
          have r2 := (HC.out.2.1.below hbel).at (show i < n by omega)
          have l1 := HSH_length HC.out.1.1 (show i < n by omega)
          have l2 := HSH_length HC.out.2.1.1 (show i < n by omega)
          have E1 : Aside (wrap64 ((i : Int) + 1) = ((i + 1 : Nat) : Int)) := by have := HC.out.2.2; show wrap64 ((i : Int) + 1) = ((i + 1 : Nat) : Int); unfold wrap64; omega
          by_cases he : HSH l i = HSH k i
          · have B : Aside (i + 1 + g = n ∧ ∀ j, j < i + 1 → HSH l j = HSH k j) := ⟨by omega, fun j hj => by
              by_cases e : j = i
              · rw [e]; exact he
              · exact hbef j (by omega)⟩
            have hdf : (!decide (HSH l i = HSH k i)) = false := by rw [he]; simp
            have Z : Aside (Below w.heap.size w wr) := hbel
            clear he hig hbel hbef A HD HC
            generalize HSH l i = H at *
            generalize HSH k i = K at *
            go_upto_region 6 with fail
            refine same_region _ _ _ _ _ _ _ _ _ _ _ _ _ _ _ _ _ _ _ _ _ _ _ _ w ba oa n ca bb ob n cb i H K l1 l2 hlt hlt ⟨r1, r2, Z.out⟩ (fun _ _ _ _ _ h => h) ?_
            rintro w1 ⟨_, _, q3⟩
            rw [hdf]
            clear r1 r2 l1 l2 hdf
            have Z2 : Aside (Below w.heap.size w w1) := q3
            clear q3 Z
            have e1 := E1.out
            go_wp2
            go_roundg g
            case measure => exact Nat.lt_succ_self _
            case rel => exact ⟨i + 1, by first | rfl | (rw [E1.out]), B.out.1, Z2.out, B.out.2⟩
          · have hd : Aside (D = false) := by
              show D = false
              rw [HD.out, decide_eq_false_iff_not]
              intro e
              rw [e] at he
              exact he rfl
            have hdf : (!decide (HSH l i = HSH k i)) = true := by simp [he]
            have Z : Aside (Below w.heap.size w wr) := hbel
            clear he hig hbel hbef A HD HC E1
            generalize HSH l i = H at *
            generalize HSH k i = K at *
            go_upto_region 6 with fail
            refine same_region _ _ _ _ _ _ _ _ _ _ _ _ _ _ _ _ _ _ _ _ _ _ _ _ w ba oa n ca bb ob n cb i H K l1 l2 hlt hlt ⟨r1, r2, Z.out⟩ (fun _ _ _ _ _ h => h) ?_
            rintro w1 ⟨_, _, q3⟩
            rw [hdf]
            clear r1 r2 l1 l2 hdf
            have Z2 : Aside (Below w.heap.size w w1) := q3
            clear q3 Z
            go_wp2
            go_ret
            exact ⟨by rw [hd.out]; rfl, Z2.out⟩
  · have hne : ¬ (n : Int) = (m : Int) := by omega
    have hd : decide (l = k) = false := by
      rw [decide_eq_false_iff_not]
      intro e
      rw [e] at hA
      have := hA.1.symm.trans hB.1
      omega
    rw [hd]
    clear hA hB hd
    go_enter Tryd.func42, Tryd.ntmps42
    go_wp2
    go_ret
    exact ⟨rfl, Below.refl _ _⟩
end Go.Proofs.YtmkgldjocigffaaDoor

/- The same bytes in a list of their own that goes on behind them; are these the same bytes? -/
namespace Go.Proofs.YtmkgldjocigffaaDoor
open Go.RowKit
set_option maxRecDepth 100000

theorem own_front {w : World} {base g n cap : Nat} {l : List Int} {x : Int} (h : w.ownsRow base 5 1 (.slice (some ⟨g, 0, none⟩) (n + 1) cap) (n + 1) (CELLS (l ++ [x]))) (hl : l.length = n) : w.ownsRow base 5 1 (.slice (some ⟨g, 0, none⟩) n cap) n (CELLS l) ∧ n + 1 ≤ cap ∧ w.cell? ⟨g, n, none⟩ = some (.int .u8 x) := by
  have hc := h.cellAt n (by omega)
  have hx : (CELLS (l ++ [x]))[n]? = some (.int .u8 x) := by
    rw [← hl]
    simp [CELLS]
  rcases h.2 with ⟨e, _⟩ | ⟨g', cap', cur, e, hb, hg, h1, h2, h3, h4⟩
  · cases e
  · cases e
    refine ⟨⟨by rw [CELLS, List.length_map, hl, Nat.mul_one], .inr ⟨g, cap, cur, rfl, hb, hg, by omega, h2, h3, ?_⟩⟩, h1, hc.trans hx⟩
    have h5 := congrArg (List.take (n * 1)) h4
    rw [List.take_take, show min (n * 1) ((n + 1) * 1) = n * 1 by omega] at h5
    rw [h5, CELLS_append, List.take_left' (by rw [CELLS, List.length_map, hl, Nat.mul_one])]
/-- what text answers. -/
def TEXTED (w : World) (n : Nat) (l : List Int) (e : Ending) (w' : World) : Prop :=
  ∃ g cap, e = .returned (.slice (some ⟨g, 0, none⟩) n cap) ∧ w'.ownsRow w.heap.size 5 1 (.slice (some ⟨g, 0, none⟩) n cap) n (CELLS l) ∧ n + 1 ≤ cap ∧ w'.cell? ⟨g, n, none⟩ = some (.int .u8 171) ∧ g < w'.heap.size ∧ Below w.heap.size w w'
end Go.Proofs.YtmkgldjocigffaaDoor

/- The same hashes in a list of their own that goes on behind them; are these the same bytes, the same proofs? -/
namespace Go.Proofs.YtmkgldjocigffaaDoor
open Go.RowKit
set_option maxRecDepth 100000

theorem bytes_ext {l k : List Int} {n : Nat} (hl : l.length = n) (hk : k.length = n) (h : ∀ j, j < n → l.getD j 0 = k.getD j 0) : l = k := by
  apply List.ext_getElem (by omega)
  intro i h1 h2
  have := h i (by omega)
  simpa [List.getD, h1, h2] using this
set_option maxHeartbeats 1000000 in
theorem samebytes_ok (a b : Option Addr) (n m ca cb : Nat) (l k : List Int) (w : World) (hA : Bytes w a n l) (hB : Bytes w b m k) (hn : n ≤ 1000000) : Calls Tryd.prog 17 #[.slice a n ca, .slice b m cb] w fun e w' => e = .returned (.bool (decide (l = k))) ∧ Below w.heap.size w w' := by
  by_cases hnm : n = m
  · subst hnm
    rcases Nat.eq_zero_or_pos n with h | h
    · subst h
      have hd : decide (l = k) = true := by
        rw [List.eq_nil_of_length_eq_zero hA.1, List.eq_nil_of_length_eq_zero hB.1]
        rfl
      rw [hd]
      clear hA hB hd
      go_enter Tryd.func17, Tryd.ntmps17
      go_wp2
      refine wp_loop_rounds 1 ?_
      rw [rounds_succ]
      go_wp2
      go_ret
      exact ⟨rfl, Below.refl _ _⟩
    · obtain ⟨ba, oa, rfl, la, hca⟩ := hA.2.1 h
      obtain ⟨bb, ob, rfl, lb, hcb⟩ := hB.2.1 h
      have HC : Aside ((∀ i, i < n → w.cell? ⟨ba, oa + i, none⟩ = some (.int .u8 (l.getD i 0))) ∧ (∀ i, i < n → w.cell? ⟨bb, ob + i, none⟩ = some (.int .u8 (k.getD i 0))) ∧ ba < w.heap.size ∧ bb < w.heap.size ∧ l.length = n ∧ k.length = n ∧ n ≤ 1000000) := ⟨hca, hcb, la, lb, hA.1, hB.1, hn⟩
      clear hA hB hca hcb la lb hn
      obtain ⟨D, hD⟩ : ∃ D, D = decide (l = k) := ⟨_, rfl⟩
      rw [← hD]
      have HD : Aside (D = decide (l = k)) := hD
      clear hD
      go_enter Tryd.func17, Tryd.ntmps17
      go_wp2
      go_loopg [5] n (fun g s5 wx => ∃ i : Nat, s5 = .int .i64 i ∧ Aside (i + g = n ∧ Below w.heap.size w wx ∧ ∀ j, j < i → l.getD j 0 = k.getD j 0))
      case atStart => exact ⟨0, rfl, by omega, Below.refl _ _, fun j hj => by omega⟩
      case round =>
        obtain ⟨i, rfl, A⟩ := hrel
        cases gk with
        | zero =>
          obtain rfl : i = n := by have := A.out.1; omega
          have hlt : ¬ (i : Int) < (i : Int) := by omega
          have hd : Aside (D = true) := by
            show D = true
            rw [HD.out, decide_eq_true_iff]
            exact bytes_ext HC.out.2.2.2.2.1 HC.out.2.2.2.2.2.1 A.out.2.2
          clear HD HC
          go_wp2
          go_ret
          exact ⟨by rw [hd.out]; rfl, A.out.2.1⟩
        | succ g =>
          obtain ⟨hig, hbel, hbef⟩ := A.out
          have hlt : (i : Int) < (n : Int) := by omega
          have h1 : wr.cell? ⟨ba, oa + i, none⟩ = some (.int .u8 (l.getD i 0)) := (hbel.cell (by exact HC.out.2.2.1)).trans (HC.out.1 i (by omega))
          have h2 : wr.cell? ⟨bb, ob + i, none⟩ = some (.int .u8 (k.getD i 0)) := (hbel.cell (by exact HC.out.2.2.2.1)).trans (HC.out.2.1 i (by omega))
          have E1 : Aside (wrap64 ((i : Int) + 1) = ((i + 1 : Nat) : Int)) := by have := HC.out.2.2.2.2.2.2; show wrap64 ((i : Int) + 1) = ((i + 1 : Nat) : Int); unfold wrap64; omega
          by_cases he : l.getD i 0 = k.getD i 0
          · have B : Aside (i + 1 + g = n ∧ Below w.heap.size w wr ∧ ∀ j, j < i + 1 → l.getD j 0 = k.getD j 0) := ⟨by omega, hbel, fun j hj => by
              by_cases e : j = i
              · rw [e]; exact he
              · exact hbef j (by omega)⟩
            rw [← he] at h2
            clear he hig hbel hbef A HD HC
            generalize l.getD i 0 = v at h1 h2
            have e1 := E1.out
            go_wp2
            go_quiet (fail)
            go_wp2
            go_roundg g
            case measure => exact Nat.lt_succ_self _
            case rel => exact ⟨i + 1, by first | rfl | (rw [E1.out]), B.out.1, below_drewN B.out.2.1 _, B.out.2.2⟩
          · have hd : Aside (D = false) := by
              show D = false
              rw [HD.out, decide_eq_false_iff_not]
              intro e
              rw [e] at he
              exact he rfl
            have Z : Aside (Below w.heap.size w wr) := hbel
            clear hig hbel hbef A HD HC E1
            generalize l.getD i 0 = v1 at h1 he
            generalize k.getD i 0 = v2 at h2 he
            go_wp2
            go_quiet (fail)
            go_wp2
            go_ret
            exact ⟨by rw [hd.out]; rfl, below_drewN Z.out _⟩
  · have hne : ¬ (n : Int) = (m : Int) := by omega
    have hd : decide (l = k) = false := by
      rw [decide_eq_false_iff_not]
      intro e
      rw [e] at hA
      exact hnm (hA.1.symm.trans hB.1)
    rw [hd]
    clear hA hB hd
    go_enter Tryd.func17, Tryd.ntmps17
    go_wp2
    go_ret
    exact ⟨rfl, Below.refl _ _⟩
/-! a list of hashes, copied with a mark behind it -/
theorem Flat.none_nil {w : World} {n : Nat} {l : List Int} (h : Flat w none n l) : n = 0 ∧ l = [] := by
  have h0 : n = 0 := by
    rcases Nat.eq_zero_or_pos n with h0 | h0
    · exact h0
    · obtain ⟨_, _, e, _⟩ := h.2.1 h0
      cases e
  subst h0
  exact ⟨rfl, List.eq_nil_of_length_eq_zero h.1⟩
theorem own_shapeh {w : World} {B n : Nat} {v : Value} {xs : List Value} (h : w.ownsRow B 60 32 v n xs) : ∃ a c, v = .slice a n c ∧ n ≤ c ∧ (0 < n → ∃ g, a = some ⟨g, 0, none⟩) := by
  rcases h.2 with ⟨rfl, h0⟩ | ⟨g, cap, cur, rfl, _, _, h1, _⟩
  · subst h0
    exact ⟨none, 0, rfl, Nat.le_refl _, fun h => by omega⟩
  · exact ⟨_, _, rfl, h1, fun _ => ⟨g, rfl⟩⟩
theorem app_hashes {ops : Array Oper} {rest : List Oper} {o : Oper} {a : Act} {Q : Exit → Act → World → Prop} (w : World) (hgd : o.guard = none) (s x : Operand)
    (ho : o.op = .call { callee := .builtin .append, args := #[s, x], argTypes := #[35, 35] })
    (base : Nat) (v : Value) (n : Nat) (xs : List Value) (hs : a.eval s = v) (hown : w.ownsRow base 60 32 v n xs)
    (ad : Option Addr) (m c : Nat) (l : List Int) (hx : a.eval x = .slice ad m c) (hL : Flat w ad m l) (hc : ad = none → c = 0)
    (hb : n + m ≤ 100000) (hbase : base ≤ w.heap.size)
    (hh : ∀ a' c' w', w'.ownsRow base 60 32 (.slice a' (n + m) c') (n + m) (xs ++ CELLS l) → w.grownBy w' v.ownBlock → wpList Tryd.prog ops Q rest (a.put o.dst (.slice a' (n + m) c')) w') : wpList Tryd.prog ops Q (o :: rest) a w := by
  obtain ⟨i, hi, hz, hs1, hby⟩ := info_parts info_hashv
  cases ad with
  | none =>
    obtain rfl := hc rfl
    obtain ⟨rfl, rfl⟩ := hL.none_nil
    refine wpList_append_own_none hgd s x 35 ho base 60 i 32 Tryd.underlying35 hi v n xs hs hown hx ?_
    obtain ⟨a', c', rfl, _, _⟩ := own_shapeh hown
    have := hh a' c' w (by simpa [CELLS] using hown) (grown_refl _ _)
    simpa using this
  | some ad =>
    have hcells : ∀ j u, (CELLS l)[j]? = some u → w.cell? (ad.add j) = some u := by
      intro j u hu
      have hj : j < l.length := by
        have := (List.getElem?_eq_some_iff.1 hu).1
        simpa [CELLS] using this
      have hl := hL.1
      obtain ⟨g, o', e, _, hc'⟩ := hL.2.1 (by omega)
      cases e
      rw [addr_add, hc' j (by omega), ← hu, CELLS_get l j hj]
    refine wpList_append_own w hgd s x 35 ho base 60 i _ 32 32 Tryd.underlying35 hi hz hs1 hby rfl (by decide) v n xs hs hown ad m c (CELLS l) hx (by rw [CELLS, List.length_map, hL.1]; omega) hcells (CELLS_one l) (by simp only [maxLen]; omega) (by omega) hbase ?_
    intro v' w' h1 h2 _
    obtain ⟨a', c', rfl, _, _⟩ := own_shapeh h1
    exact hh a' c' w' h1 h2
/-- the mark behind a list of hashes. -/
def MRK : List Int := 171 :: List.replicate 31 0
theorem MRK_arr : (CELLS MRK).toArray = #[.int .u8 171, .int .u8 0, .int .u8 0, .int .u8 0, .int .u8 0, .int .u8 0, .int .u8 0, .int .u8 0, .int .u8 0, .int .u8 0, .int .u8 0, .int .u8 0, .int .u8 0, .int .u8 0, .int .u8 0, .int .u8 0, .int .u8 0, .int .u8 0, .int .u8 0, .int .u8 0, .int .u8 0, .int .u8 0, .int .u8 0, .int .u8 0, .int .u8 0, .int .u8 0, .int .u8 0, .int .u8 0, .int .u8 0, .int .u8 0, .int .u8 0, .int .u8 0] := rfl
theorem own_front32 {w : World} {base g n cap : Nat} {l m : List Int} (h : w.ownsRow base 60 32 (.slice (some ⟨g, 0, none⟩) (n + 1) cap) (n + 1) (CELLS l ++ CELLS m)) (hl : l.length = 32 * n) (hm : m.length = 32) : w.ownsRow base 60 32 (.slice (some ⟨g, 0, none⟩) n cap) n (CELLS l) ∧ n + 1 ≤ cap ∧ w.rangeAt g (n * 32) (CELLS m) ∧ g < w.heap.size := by
  have hr : w.rangeAt g (n * 32) (CELLS m) := by
    intro j v hv
    have hj : j < 32 := by
      have := (List.getElem?_eq_some_iff.1 hv).1
      simpa [CELLS, hm] using this
    have := h.cellAt (n * 32 + j) (by omega)
    rw [this, List.getElem?_append_right (by simp [CELLS]; omega), show n * 32 + j - (CELLS l).length = j by simp [CELLS]; omega]
    exact hv
  rcases h.2 with ⟨e, _⟩ | ⟨g', cap', cur, e, hb, hg, h1, h2, h3, h4⟩
  · cases e
  · cases e
    refine ⟨⟨by rw [CELLS, List.length_map, hl, Nat.mul_comm], .inr ⟨g, cap, cur, rfl, hb, hg, by omega, h2, h3, ?_⟩⟩, h1, hr, (Array.getElem?_eq_some_iff.1 hg).1⟩
    have h5 := congrArg (List.take (n * 32)) h4
    rw [List.take_take, show min (n * 32) ((n + 1) * 32) = n * 32 by omega] at h5
    rw [h5, List.take_left' (by rw [CELLS, List.length_map, hl, Nat.mul_comm])]
/-- what row answers. -/
def ROWED (w : World) (n : Nat) (l : List Int) (e : Ending) (w' : World) : Prop :=
  ∃ g cap, e = .returned (.slice (some ⟨g, 0, none⟩) n cap) ∧ w'.ownsRow w.heap.size 60 32 (.slice (some ⟨g, 0, none⟩) n cap) n (CELLS l) ∧ n + 1 ≤ cap ∧ w'.rangeAt g (n * 32) (CELLS MRK) ∧ g < w'.heap.size ∧ Below w.heap.size w w'
theorem own_empty32 (w : World) : (w.alloc (.cells #[] 60)).ownsRow w.heap.size 60 32 (.slice (some ⟨w.heap.size, 0, none⟩) 0 0) 0 [] :=
  World.ownsRow_lit w #[] 0 (Nat.le_refl _) (by simp [maxLen]) rfl
end Go.Proofs.YtmkgldjocigffaaDoor

/- Lists of hashes and of bytes that lie somewhere: what a row of one's own, a block, a cut of them give. -/
namespace Go.Proofs.YtmkgldjocigffaaDoor
open Go.RowKit
set_option maxRecDepth 100000

theorem Flat.other {w : World} {b o n : Nat} {l : List Int} (h : Flat w (some ⟨b, o, none⟩) n l) {a : Addr} (ha : b ≠ a.block) (u : Value) : Flat (w.setCell a u) (some ⟨b, o, none⟩) n l :=
  ⟨h.1, fun hn => by
    obtain ⟨b', o', e, hl, hc⟩ := h.2.1 hn
    cases e
    exact ⟨b, o, rfl, Nat.lt_of_lt_of_le hl (KeepsWalks.setCell w a u).size, fun j hj => (World.cell?_setCell_other w _ _ u (fun e => ha (congrArg Addr.block e).symm)).trans (hc j hj)⟩, h.2.2⟩
theorem own_flat {w : World} {B n : Nat} {a : Option Addr} {c : Nat} {l : List Int} (h : w.ownsRow B 60 32 (.slice a n c) n (CELLS l)) (hr : ∀ x ∈ l, 0 ≤ x ∧ x ≤ 255) : Flat w a n l := by
  have hl : l.length = 32 * n := by have := h.1; simpa [CELLS, Nat.mul_comm] using this
  refine ⟨hl, fun hn => ?_, hr⟩
  rcases h.2 with ⟨e, h0⟩ | ⟨g, cap, cur, e, _, hg, _⟩
  · omega
  · cases e
    refine ⟨g, 0, rfl, (Array.getElem?_eq_some_iff.1 hg).1, fun j hj => ?_⟩
    have := h.cellAt j (by omega)
    rw [Nat.zero_add, this, CELLS_get l j (by omega)]
theorem Bytes.take {w : World} {a : Option Addr} {n : Nat} {l : List Int} (h : Bytes w a n l) {m : Nat} (hm : m ≤ n) : Bytes w a m (l.take m) := by
  refine ⟨by rw [List.length_take, h.1]; omega, fun h0 => ?_, fun x hx => h.2.2 x (List.mem_of_mem_take hx)⟩
  obtain ⟨b, o, e, hb, hc⟩ := h.2.1 (by omega)
  refine ⟨b, o, e, hb, fun i hi => ?_⟩
  rw [hc i (by omega), List.getD_eq_getElem?_getD, List.getD_eq_getElem?_getD, List.getElem?_take, if_pos hi]
end Go.Proofs.YtmkgldjocigffaaDoor

/- A list of hashes of one's own that is written over with a mark. -/
namespace Go.Proofs.YtmkgldjocigffaaDoor
open Go.RowKit
set_option maxRecDepth 100000

theorem step_pure {o : Oper} {a : Act} {w w' : World} {K : Act → World → Prop} {Q : Exit → Act → World → Prop} {v : Value} (hrun : (execOp a.eval o).run Tryd.prog w = .ok (.value v) w') (h : K (a.put o.dst v) w') : Oper.wp Tryd.prog o a w K Q := by
  unfold Oper.wp
  rw [hrun]
  exact h
end Go.Proofs.YtmkgldjocigffaaDoor

/- s[k:] of a list of bytes, whatever room is left. -/
namespace Go.Proofs.YtmkgldjocigffaaDoor
open Go.RowKit
set_option maxRecDepth 100000

theorem slice_from {ops : Array Oper} {rest : List Oper} {o : Oper} {a : Act} {Q : Exit → Act → World → Prop} (w : World) (hgd : o.guard = none) (x y : Operand) (ho : o.op = .slice 38 x (some y) none none)
    (b off n c k : Nat) (hx : a.eval x = .slice (some ⟨b, off, none⟩) n c) (hy : a.eval y = .int .i64 (k : Int)) (hk : k ≤ n) (hc : n ≤ c)
    (h : wpList Tryd.prog ops Q rest (a.put o.dst (.slice (REST b off c k) (n - k) (c - k))) w) : wpList Tryd.prog ops Q (o :: rest) a w := by
  refine wpList_plain hgd fun K hK => step_pure ?_ (hK _ _ h)
  have k1 : (k : Int) ≤ (n : Int) := by omega
  have k2 : (n : Int) ≤ (c : Int) := by omega
  have k4 : (k : Int) ≤ (c : Int) := by omega
  have k5 : ¬ (k : Int) < 0 := by omega
  unfold execOp
  rw [ho]
  by_cases hck : c = k
  · have hr : REST b off c k = some ⟨b, off, none⟩ := by simp [REST, hck]
    have hn : n = k := by omega
    rw [hr]
    subst hck hn
    simp only [Option.map_some, Option.map_none, hx, hy]
    clear hx hy h ho hK hgd
    go_simp
  · have hr : REST b off c k = some ⟨b, off + k, none⟩ := by simp [REST, hck]
    have hc1 : ¬ c - k = 0 := by omega
    rw [hr]
    simp only [Option.map_some, Option.map_none, hx, hy]
    clear hx hy h ho hK hgd
    go_simp
end Go.Proofs.YtmkgldjocigffaaDoor

/- The peaks as spots. -/
namespace Go.Proofs.YtmkgldjocigffaaDoor
set_option maxRecDepth 100000

/-- the peaks of n leaves, from the left: height and index. -/
def TPS (n : Nat) : List (Nat × Nat) := (HS 0 n).map fun h => (h, 2 * (n / 2 ^ (h + 1)))
theorem drop_at {α : Type} : ∀ {l : List α} {j : Nat} {x : α}, l[j]? = some x → l.drop j = x :: l.drop (j + 1)
  | [], j, x, h => by simp at h
  | y :: l, 0, x, h => by
    simp only [List.getElem?_cons_zero, Option.some.injEq] at h
    rw [h]
    rfl
  | y :: l, j + 1, x, h => by
    rw [List.getElem?_cons_succ] at h
    rw [List.drop_succ_cons, List.drop_succ_cons]
    exact drop_at h
theorem TPS_length {n : Nat} (hn : n < 2 ^ 64) : (TPS n).length = PC n := by
  rw [TPS, List.length_map, HS_length hn 0 (by decide), Nat.pow_zero, Nat.div_one]
theorem TPS_peak {n j h k : Nat} (e : (TPS n)[j]? = some (h, k)) : (PEAKS n)[j]? = some (PLC h k) := by
  unfold TPS at e
  unfold PEAKS
  rw [List.getElem?_map] at e ⊢
  cases hj : (HS 0 n)[j]? with
  | none => rw [hj] at e; cases e
  | some x =>
    rw [hj] at e
    simp only [Option.map_some, Option.some.injEq, Prod.mk.injEq] at e
    obtain ⟨rfl, rfl⟩ := e
    rfl
theorem node_of_span {h k : Nat} (hh : h ≤ 62) (hs : (k + 1) * 2 ^ h ≤ 2 ^ 62) : Node h k := by
  refine ⟨hh, ?_⟩
  rcases Nat.lt_or_ge k (2 ^ (62 - h)) with h1 | h1
  · exact h1
  · have h2 : (2 ^ (62 - h) + 1) * 2 ^ h ≤ (k + 1) * 2 ^ h := Nat.mul_le_mul_right _ (by omega)
    rw [Nat.add_mul, ← Nat.pow_add, show 62 - h + h = 62 by omega] at h2
    have := Nat.two_pow_pos h
    omega
theorem TPS_span {n h k : Nat} (hn : n ≤ 2 ^ 62) (hm : (h, k) ∈ TPS n) : h ≤ 62 ∧ (k + 1) * 2 ^ h ≤ n ∧ Node h k := by
  unfold TPS at hm
  rw [List.mem_map] at hm
  obtain ⟨x, hx, e⟩ := hm
  simp only [Prod.mk.injEq] at e
  obtain ⟨rfl, rfl⟩ := e
  obtain ⟨_, h2, h3⟩ := HS_set_of 0 x (by decide) hx
  have h4 : 2 * (n / 2 ^ (x + 1)) + 1 = n / 2 ^ x := by
    rw [Nat.pow_succ, ← Nat.div_div_eq_div_mul]
    omega
  have h5 : (2 * (n / 2 ^ (x + 1)) + 1) * 2 ^ x ≤ n := by rw [h4]; exact Nat.div_mul_le_self n (2 ^ x)
  have h6 : x ≤ 62 := by
    rcases Nat.lt_or_ge 62 x with h7 | h7
    · have h8 : 2 ^ 63 ≤ 2 ^ x := Nat.pow_le_pow_right (by decide) h7
      have h9 : 1 * 2 ^ x ≤ (2 * (n / 2 ^ (x + 1)) + 1) * 2 ^ x := Nat.mul_le_mul_right _ (by omega)
      omega
    · exact h7
  exact ⟨h6, h5, node_of_span h6 (by omega)⟩
end Go.Proofs.YtmkgldjocigffaaDoor

/- What leaves need, and they, are all leaves, none twice: plain. -/
namespace Go.Proofs.YtmkgldjocigffaaDoor
set_option maxRecDepth 100000

/-- where a spot's leaves begin, where they end. -/
def FRS (s : Nat × Nat) : Nat := s.2 * 2 ^ s.1
def TOE (s : Nat × Nat) : Nat := (s.2 + 1) * 2 ^ s.1
/-- spots and leaves that together are all from A up to B. -/
structure COVER (A B : Nat) (L : List Nat) (l : List (Nat × Nat)) : Prop where
  within : ∀ s ∈ l, A ≤ FRS s ∧ TOE s ≤ B
  off : ∀ s ∈ l, ∀ x ∈ L, ¬ (FRS s ≤ x ∧ x < TOE s)
  sum : (l.map fun s => 2 ^ s.1).sum + L.length = B - A
  order : l.Pairwise fun s t => TOE s ≤ FRS t
theorem twice_pow (h k : Nat) : k * 2 ^ (h + 1) = 2 * k * 2 ^ h ∧ (k + 1) * 2 ^ (h + 1) = (2 * k + 1 + 1) * 2 ^ h := by
  constructor
  · rw [Nat.pow_succ, Nat.mul_comm (2 ^ h) 2, ← Nat.mul_assoc, Nat.mul_comm k 2]
  · rw [Nat.pow_succ, Nat.mul_comm (2 ^ h) 2, ← Nat.mul_assoc, Nat.mul_comm (k + 1) 2, show 2 * (k + 1) = 2 * k + 1 + 1 by omega]
/-- the parent has one of the leaves under it. -/
def MET (L : List Nat) (s : Nat × Nat) : Prop := ∃ x ∈ L, FRS (s.1 + 1, s.2 / 2) ≤ x ∧ x < TOE (s.1 + 1, s.2 / 2)
theorem MET.mono {L L' : List Nat} {s : Nat × Nat} (h : MET L s) (hm : ∀ x ∈ L, x ∈ L') : MET L' s := by
  obtain ⟨x, hx, h1⟩ := h
  exact ⟨x, hm x hx, h1⟩
theorem TPS_eq {n : Nat} (hn : n ≤ 4611686018427387904) : TPS n = PKS n 0 (PC n) := by
  apply List.ext_getElem?
  intro i
  by_cases hi : i < PC n
  · rw [PKS_at hi]
    unfold TPS
    rw [List.getElem?_map, (HGT_at (by omega) hi).1]
    rfl
  · rw [List.getElem?_eq_none (by rw [TPS_length (by omega)]; omega), List.getElem?_eq_none (by simp [PKS]; omega)]
theorem TPS_tile {n : Nat} (hn : n ≤ 4611686018427387904) : Tile 0 (TPS n) n := by
  rw [TPS_eq hn]
  exact (PKS_tile hn (PC n) 0 (by omega)).1
end Go.Proofs.YtmkgldjocigffaaDoor
