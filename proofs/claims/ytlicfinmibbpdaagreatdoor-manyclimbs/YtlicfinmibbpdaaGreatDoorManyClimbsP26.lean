/- Texts of ManyClimbs, one behind the other: ProofSame, ProofTexts, ProofRow, NumRefBytes, NumRefLong, ProofRefDecode, ProofFlats, ProofRefEncode. -/
import Derived.Test.YtlicfinmibbpdaaGreatDoorManyClimbsP25
/- Are these the same hashes? -/
namespace Go.Proofs.YtlicfinmibbpdaaGreatDoor
open Go.RowKit
set_option maxRecDepth 100000

theorem hsh_ext {l k : List Int} {n : Nat} (hl : l.length = 32 * n) (hk : k.length = 32 * n) (h : ∀ i, i < n → HSH l i = HSH k i) : l = k := by
  have e : ∀ i, i ≤ n → l.take (32 * i) = k.take (32 * i) := by
    intro i
    induction i with
    | zero => intro _; simp
    | succ i ih => intro hi; rw [HSH_next, HSH_next, ih (by omega), h i (by omega)]
  have := e n (Nat.le_refl _)
  rwa [List.take_of_length_le (by omega), List.take_of_length_le (by omega)] at this
def SHOPS : Array Oper := #[{ dst := some 17, op := Op.move (Operand.tmp 0), type := 22, pos := "ref.go:176", after := #[], guard := none }, { dst := some 18, op := Op.move (Operand.tmp 5), type := 3, pos := "ref.go:176", after := #[], guard := none }, { dst := some 19, op := Op.indexAddr 22 (Operand.tmp 17) (Operand.tmp 18), type := 0, pos := "ref.go:176", after := #[{ on := 0, ground := Ground.data }, { on := 1, ground := Ground.data }], guard := none }, { dst := some 20, op := Op.load 38 (Operand.tmp 19), type := 38, pos := "ref.go:176", after := #[{ on := 2, ground := Ground.data }], guard := none }, { dst := some 21, op := Op.move (Operand.tmp 1), type := 22, pos := "ref.go:176", after := #[], guard := none }, { dst := some 22, op := Op.move (Operand.tmp 5), type := 3, pos := "ref.go:176", after := #[], guard := none }, { dst := some 23, op := Op.indexAddr 22 (Operand.tmp 21) (Operand.tmp 22), type := 0, pos := "ref.go:176", after := #[{ on := 4, ground := Ground.data }, { on := 5, ground := Ground.data }], guard := none }, { dst := some 24, op := Op.load 38 (Operand.tmp 23), type := 38, pos := "ref.go:176", after := #[{ on := 6, ground := Ground.data }], guard := none }, { dst := some 25, op := Op.binOp BinOp.neq 38 (Operand.tmp 20) (Operand.tmp 24) 38, type := 4, pos := "ref.go:176", after := #[{ on := 3, ground := Ground.data }, { on := 7, ground := Ground.data }], guard := none }]
set_option maxHeartbeats 2000000 in
theorem same_region {Q : Exit → Act → World → Prop} (u2 u3 u4 u6 u7 u8 u9 u10 u11 u12 u13 u14 u15 u16 u17 u18 u19 u20 u21 u22 u23 u24 u25 : Value) (W : World) (w0 : World) (ba oa n ca bb ob m cb i : Nat) (H K : List Int) (hH : H.length = 32) (hK : K.length = 32) (b1 : (i : Int) < (n : Int)) (b2 : (i : Int) < (m : Int)) (hS : (fun W : World => W.rangeAt ba (oa + i * 32) (CELLS H) ∧ W.rangeAt bb (ob + i * 32) (CELLS K) ∧ Below w0.heap.size w0 W) W) (hQ : ∀ c (a : Act) (t : Tmp) (v : Value) w, Q (.panic c) (a.put (some t) v) w → Q (.panic c) a w)
    (h : ∀ w, (fun W : World => W.rangeAt ba (oa + i * 32) (CELLS H) ∧ W.rangeAt bb (ob + i * 32) (CELLS K) ∧ Below w0.heap.size w0 W) w → Q .normal { tmps := #[.slice (some ⟨ba, oa, none⟩) n ca, .slice (some ⟨bb, ob, none⟩) m cb, u2, u3, u4, .int .i64 (i : Int), u6, u7, u8, u9, u10, u11, u12, u13, u14, u15, u16, .slice (some ⟨ba, oa, none⟩) n ca, .int .i64 (i : Int), .pointer (some ⟨ba, oa + i * 32, none⟩), .agg (CELLS H).toArray, .slice (some ⟨bb, ob, none⟩) m cb, .int .i64 (i : Int), .pointer (some ⟨bb, ob + i * 32, none⟩), .agg (CELLS K).toArray, .bool (!decide (H = K))], defers := [] } w) : (Code.region 6 SHOPS true).wp Tryz.prog Q { tmps := #[.slice (some ⟨ba, oa, none⟩) n ca, .slice (some ⟨bb, ob, none⟩) m cb, u2, u3, u4, .int .i64 (i : Int), u6, u7, u8, u9, u10, u11, u12, u13, u14, u15, u16, u17, u18, u19, u20, u21, u22, u23, u24, u25], defers := [] } W := by
  have hs0 : (fun W : World => W.rangeAt ba (oa + i * 32) (CELLS H) ∧ W.rangeAt bb (ob + i * 32) (CELLS K) ∧ Below w0.heap.size w0 W) W.drew := ⟨hS.1, hS.2.1, hS.2.2.drew⟩
  have k0 : ∀ w, (fun W : World => W.rangeAt ba (oa + i * 32) (CELLS H) ∧ W.rangeAt bb (ob + i * 32) (CELLS K) ∧ Below w0.heap.size w0 W) w → wpAnyH Tryz.prog .any SHOPS Q (fun W : World => W.rangeAt ba (oa + i * 32) (CELLS H) ∧ W.rangeAt bb (ob + i * 32) (CELLS K) ∧ Below w0.heap.size w0 W) 9 #[false, false, false, false, false, false, false, false, false] { tmps := #[.slice (some ⟨ba, oa, none⟩) n ca, .slice (some ⟨bb, ob, none⟩) m cb, u2, u3, u4, .int .i64 (i : Int), u6, u7, u8, u9, u10, u11, u12, u13, u14, u15, u16, u17, u18, u19, u20, u21, u22, u23, u24, u25], defers := [] } w := fun w hw => by
    have hww : (fun W : World => W.rangeAt ba (oa + i * 32) (CELLS H) ∧ W.rangeAt bb (ob + i * 32) (CELLS K) ∧ Below w0.heap.size w0 W) w := hw
    have last : wpAnyH Tryz.prog .any SHOPS Q (fun W : World => W.rangeAt ba (oa + i * 32) (CELLS H) ∧ W.rangeAt bb (ob + i * 32) (CELLS K) ∧ Below w0.heap.size w0 W) 0 #[true, true, true, true, true, true, true, true, true] { tmps := #[.slice (some ⟨ba, oa, none⟩) n ca, .slice (some ⟨bb, ob, none⟩) m cb, u2, u3, u4, .int .i64 (i : Int), u6, u7, u8, u9, u10, u11, u12, u13, u14, u15, u16, .slice (some ⟨ba, oa, none⟩) n ca, .int .i64 (i : Int), .pointer (some ⟨ba, oa + i * 32, none⟩), .agg (CELLS H).toArray, .slice (some ⟨bb, ob, none⟩) m cb, .int .i64 (i : Int), .pointer (some ⟨bb, ob + i * 32, none⟩), .agg (CELLS K).toArray, .bool (!decide (H = K))], defers := [] } w := wpAnyH_done (by kernel_rfl) (h w hw) _
    have t8 : wpAnyH Tryz.prog .any SHOPS Q (fun W : World => W.rangeAt ba (oa + i * 32) (CELLS H) ∧ W.rangeAt bb (ob + i * 32) (CELLS K) ∧ Below w0.heap.size w0 W) 1 #[true, true, true, true, true, true, true, true, false] { tmps := #[.slice (some ⟨ba, oa, none⟩) n ca, .slice (some ⟨bb, ob, none⟩) m cb, u2, u3, u4, .int .i64 (i : Int), u6, u7, u8, u9, u10, u11, u12, u13, u14, u15, u16, .slice (some ⟨ba, oa, none⟩) n ca, .int .i64 (i : Int), .pointer (some ⟨ba, oa + i * 32, none⟩), .agg (CELLS H).toArray, .slice (some ⟨bb, ob, none⟩) m cb, .int .i64 (i : Int), .pointer (some ⟨bb, ob + i * 32, none⟩), .agg (CELLS K).toArray, u25], defers := [] } w :=
      wpAnyH_take (i := 8) (oi := { dst := some 25, op := Op.binOp BinOp.neq 38 (Operand.tmp 20) (Operand.tmp 24) 38, type := 4, pos := "ref.go:176", after := #[{ on := 3, ground := Ground.data }, { on := 7, ground := Ground.data }], guard := none }) (v := .bool (!decide (H = K))) rfl (by kernel_rfl) (by kernel_rfl) (by kernel_rfl) (fun _ _ _ h => hQ _ _ _ _ _ h) (Yields.yieldsIf (Or.inl ⟨by rfl, fun W => run_value (neq_hashes hH hK _ _ W)⟩)) hww last
    have t7 : wpAnyH Tryz.prog .any SHOPS Q (fun W : World => W.rangeAt ba (oa + i * 32) (CELLS H) ∧ W.rangeAt bb (ob + i * 32) (CELLS K) ∧ Below w0.heap.size w0 W) 2 #[true, true, true, true, true, true, true, false, false] { tmps := #[.slice (some ⟨ba, oa, none⟩) n ca, .slice (some ⟨bb, ob, none⟩) m cb, u2, u3, u4, .int .i64 (i : Int), u6, u7, u8, u9, u10, u11, u12, u13, u14, u15, u16, .slice (some ⟨ba, oa, none⟩) n ca, .int .i64 (i : Int), .pointer (some ⟨ba, oa + i * 32, none⟩), .agg (CELLS H).toArray, .slice (some ⟨bb, ob, none⟩) m cb, .int .i64 (i : Int), .pointer (some ⟨bb, ob + i * 32, none⟩), u24, u25], defers := [] } w :=
      wpAnyH_take (i := 7) (oi := { dst := some 24, op := Op.load 38 (Operand.tmp 23), type := 38, pos := "ref.go:176", after := #[{ on := 6, ground := Ground.data }], guard := none }) (v := .agg (CELLS K).toArray) rfl (by kernel_rfl) (by kernel_rfl) (by kernel_rfl) (fun _ _ _ h => hQ _ _ _ _ _ h) (yieldsIf_load_mid (by rfl) 38 (.tmp 23) rfl bb (ob + i * 32) rfl (CELLS K) _ (fun w h => h.2.1) Tryz.underlying38 rfl (info_cells hK)) hww t8
    have t6 : wpAnyH Tryz.prog .any SHOPS Q (fun W : World => W.rangeAt ba (oa + i * 32) (CELLS H) ∧ W.rangeAt bb (ob + i * 32) (CELLS K) ∧ Below w0.heap.size w0 W) 3 #[true, true, true, true, true, true, false, false, false] { tmps := #[.slice (some ⟨ba, oa, none⟩) n ca, .slice (some ⟨bb, ob, none⟩) m cb, u2, u3, u4, .int .i64 (i : Int), u6, u7, u8, u9, u10, u11, u12, u13, u14, u15, u16, .slice (some ⟨ba, oa, none⟩) n ca, .int .i64 (i : Int), .pointer (some ⟨ba, oa + i * 32, none⟩), .agg (CELLS H).toArray, .slice (some ⟨bb, ob, none⟩) m cb, .int .i64 (i : Int), u23, u24, u25], defers := [] } w :=
      wpAnyH_take (i := 6) (oi := { dst := some 23, op := Op.indexAddr 22 (Operand.tmp 21) (Operand.tmp 22), type := 0, pos := "ref.go:176", after := #[{ on := 4, ground := Ground.data }, { on := 5, ground := Ground.data }], guard := none }) (v := .pointer (some ⟨bb, ob + i * 32, none⟩)) rfl (by kernel_rfl) (by kernel_rfl) (by kernel_rfl) (fun _ _ _ h => hQ _ _ _ _ _ h) (Yields.yieldsIf (Or.inl ⟨by rfl, fun W => by go_simp⟩)) hww t7
    have t5 : wpAnyH Tryz.prog .any SHOPS Q (fun W : World => W.rangeAt ba (oa + i * 32) (CELLS H) ∧ W.rangeAt bb (ob + i * 32) (CELLS K) ∧ Below w0.heap.size w0 W) 4 #[true, true, true, true, true, false, false, false, false] { tmps := #[.slice (some ⟨ba, oa, none⟩) n ca, .slice (some ⟨bb, ob, none⟩) m cb, u2, u3, u4, .int .i64 (i : Int), u6, u7, u8, u9, u10, u11, u12, u13, u14, u15, u16, .slice (some ⟨ba, oa, none⟩) n ca, .int .i64 (i : Int), .pointer (some ⟨ba, oa + i * 32, none⟩), .agg (CELLS H).toArray, .slice (some ⟨bb, ob, none⟩) m cb, u22, u23, u24, u25], defers := [] } w :=
      wpAnyH_take (i := 5) (oi := { dst := some 22, op := Op.move (Operand.tmp 5), type := 3, pos := "ref.go:176", after := #[], guard := none }) (v := .int .i64 (i : Int)) rfl (by kernel_rfl) (by kernel_rfl) (by kernel_rfl) (fun _ _ _ h => hQ _ _ _ _ _ h) (Yields.yieldsIf (Or.inl ⟨by rfl, fun W => by go_simp⟩)) hww t6
    have t4 : wpAnyH Tryz.prog .any SHOPS Q (fun W : World => W.rangeAt ba (oa + i * 32) (CELLS H) ∧ W.rangeAt bb (ob + i * 32) (CELLS K) ∧ Below w0.heap.size w0 W) 5 #[true, true, true, true, false, false, false, false, false] { tmps := #[.slice (some ⟨ba, oa, none⟩) n ca, .slice (some ⟨bb, ob, none⟩) m cb, u2, u3, u4, .int .i64 (i : Int), u6, u7, u8, u9, u10, u11, u12, u13, u14, u15, u16, .slice (some ⟨ba, oa, none⟩) n ca, .int .i64 (i : Int), .pointer (some ⟨ba, oa + i * 32, none⟩), .agg (CELLS H).toArray, u21, u22, u23, u24, u25], defers := [] } w :=
      wpAnyH_take (i := 4) (oi := { dst := some 21, op := Op.move (Operand.tmp 1), type := 22, pos := "ref.go:176", after := #[], guard := none }) (v := .slice (some ⟨bb, ob, none⟩) m cb) rfl (by kernel_rfl) (by kernel_rfl) (by kernel_rfl) (fun _ _ _ h => hQ _ _ _ _ _ h) (Yields.yieldsIf (Or.inl ⟨by rfl, fun W => by go_simp⟩)) hww t5
    have t3 : wpAnyH Tryz.prog .any SHOPS Q (fun W : World => W.rangeAt ba (oa + i * 32) (CELLS H) ∧ W.rangeAt bb (ob + i * 32) (CELLS K) ∧ Below w0.heap.size w0 W) 6 #[true, true, true, false, false, false, false, false, false] { tmps := #[.slice (some ⟨ba, oa, none⟩) n ca, .slice (some ⟨bb, ob, none⟩) m cb, u2, u3, u4, .int .i64 (i : Int), u6, u7, u8, u9, u10, u11, u12, u13, u14, u15, u16, .slice (some ⟨ba, oa, none⟩) n ca, .int .i64 (i : Int), .pointer (some ⟨ba, oa + i * 32, none⟩), u20, u21, u22, u23, u24, u25], defers := [] } w :=
      wpAnyH_take (i := 3) (oi := { dst := some 20, op := Op.load 38 (Operand.tmp 19), type := 38, pos := "ref.go:176", after := #[{ on := 2, ground := Ground.data }], guard := none }) (v := .agg (CELLS H).toArray) rfl (by kernel_rfl) (by kernel_rfl) (by kernel_rfl) (fun _ _ _ h => hQ _ _ _ _ _ h) (yieldsIf_load_mid (by rfl) 38 (.tmp 19) rfl ba (oa + i * 32) rfl (CELLS H) _ (fun w h => h.1) Tryz.underlying38 rfl (info_cells hH)) hww t4
    have t2 : wpAnyH Tryz.prog .any SHOPS Q (fun W : World => W.rangeAt ba (oa + i * 32) (CELLS H) ∧ W.rangeAt bb (ob + i * 32) (CELLS K) ∧ Below w0.heap.size w0 W) 7 #[true, true, false, false, false, false, false, false, false] { tmps := #[.slice (some ⟨ba, oa, none⟩) n ca, .slice (some ⟨bb, ob, none⟩) m cb, u2, u3, u4, .int .i64 (i : Int), u6, u7, u8, u9, u10, u11, u12, u13, u14, u15, u16, .slice (some ⟨ba, oa, none⟩) n ca, .int .i64 (i : Int), u19, u20, u21, u22, u23, u24, u25], defers := [] } w :=
      wpAnyH_take (i := 2) (oi := { dst := some 19, op := Op.indexAddr 22 (Operand.tmp 17) (Operand.tmp 18), type := 0, pos := "ref.go:176", after := #[{ on := 0, ground := Ground.data }, { on := 1, ground := Ground.data }], guard := none }) (v := .pointer (some ⟨ba, oa + i * 32, none⟩)) rfl (by kernel_rfl) (by kernel_rfl) (by kernel_rfl) (fun _ _ _ h => hQ _ _ _ _ _ h) (Yields.yieldsIf (Or.inl ⟨by rfl, fun W => by go_simp⟩)) hww t3
    have t1 : wpAnyH Tryz.prog .any SHOPS Q (fun W : World => W.rangeAt ba (oa + i * 32) (CELLS H) ∧ W.rangeAt bb (ob + i * 32) (CELLS K) ∧ Below w0.heap.size w0 W) 8 #[true, false, false, false, false, false, false, false, false] { tmps := #[.slice (some ⟨ba, oa, none⟩) n ca, .slice (some ⟨bb, ob, none⟩) m cb, u2, u3, u4, .int .i64 (i : Int), u6, u7, u8, u9, u10, u11, u12, u13, u14, u15, u16, .slice (some ⟨ba, oa, none⟩) n ca, u18, u19, u20, u21, u22, u23, u24, u25], defers := [] } w :=
      wpAnyH_take (i := 1) (oi := { dst := some 18, op := Op.move (Operand.tmp 5), type := 3, pos := "ref.go:176", after := #[], guard := none }) (v := .int .i64 (i : Int)) rfl (by kernel_rfl) (by kernel_rfl) (by kernel_rfl) (fun _ _ _ h => hQ _ _ _ _ _ h) (Yields.yieldsIf (Or.inl ⟨by rfl, fun W => by go_simp⟩)) hww t2
    have t0 : wpAnyH Tryz.prog .any SHOPS Q (fun W : World => W.rangeAt ba (oa + i * 32) (CELLS H) ∧ W.rangeAt bb (ob + i * 32) (CELLS K) ∧ Below w0.heap.size w0 W) 9 #[false, false, false, false, false, false, false, false, false] { tmps := #[.slice (some ⟨ba, oa, none⟩) n ca, .slice (some ⟨bb, ob, none⟩) m cb, u2, u3, u4, .int .i64 (i : Int), u6, u7, u8, u9, u10, u11, u12, u13, u14, u15, u16, u17, u18, u19, u20, u21, u22, u23, u24, u25], defers := [] } w :=
      wpAnyH_take (i := 0) (oi := { dst := some 17, op := Op.move (Operand.tmp 0), type := 22, pos := "ref.go:176", after := #[], guard := none }) (v := .slice (some ⟨ba, oa, none⟩) n ca) rfl (by kernel_rfl) (by kernel_rfl) (by kernel_rfl) (fun _ _ _ h => hQ _ _ _ _ _ h) (Yields.yieldsIf (Or.inl ⟨by rfl, fun W => by go_simp⟩)) hww t1
    exact t0
  exact wp_region_held_drew (S := (fun W : World => W.rangeAt ba (oa + i * 32) (CELLS H) ∧ W.rangeAt bb (ob + i * 32) (CELLS K) ∧ Below w0.heap.size w0 W)) (by kernel_rfl) hs0 (fun _ => k0 _ hs0)
set_option maxHeartbeats 1000000 in
theorem samehashes_ok (a b : Option Addr) (n m ca cb : Nat) (l k : List Int) (w : World) (hA : Flat w a n l) (hB : Flat w b m k) (hn : n ≤ 1000000) :
    Calls Tryz.prog 10 #[.slice a n ca, .slice b m cb] w fun e w' => e = .returned (.bool (decide (l = k))) ∧ Below w.heap.size w w' := by
  by_cases hnm : n = m
  · subst hnm
    rcases Nat.eq_zero_or_pos n with h | h
    · subst h
      have hd : decide (l = k) = true := by
        rw [List.eq_nil_of_length_eq_zero hA.1, List.eq_nil_of_length_eq_zero hB.1]
        rfl
      rw [hd]
      clear hA hB hd
      go_enter Tryz.func10, Tryz.ntmps10
      go_wp2
      refine wp_loop_rounds 1 ?_
      rw [rounds_succ]
      go_wp2
      go_ret
      exact ⟨rfl, Below.refl _ _⟩
    · obtain ⟨ba, oa, rfl, la, hca⟩ := hA.2.1 h
      obtain ⟨bb, ob, rfl, lb, hcb⟩ := hB.2.1 h
      have HC : Aside (Flat w (some ⟨ba, oa, none⟩) n l ∧ Flat w (some ⟨bb, ob, none⟩) n k ∧ n ≤ 1000000) := ⟨hA, hB, hn⟩
      clear hA hB hca hcb la lb hn
      obtain ⟨D, hD⟩ : ∃ D, D = decide (l = k) := ⟨_, rfl⟩
      rw [← hD]
      have HD : Aside (D = decide (l = k)) := hD
      clear hD
      go_enter Tryz.func10, Tryz.ntmps10
      go_wp2
      go_loopg [5] n (fun g s5 wx => ∃ i : Nat, s5 = .int .i64 i ∧ Aside (i + g = n ∧ Below w.heap.size w wx ∧ ∀ j, j < i → HSH l j = HSH k j))
      case atStart => exact ⟨0, rfl, by omega, Below.refl _ _, fun j hj => by omega⟩
      case round =>
        obtain ⟨i, rfl, A⟩ := hrel
        cases gk with
        | zero =>
          obtain rfl : i = n := by have := A.out.1; omega
          have hlt : ¬ (i : Int) < (i : Int) := by omega
          have hd : Aside (D = true) := by
            show D = true
            rw [HD.out, decide_eq_true_iff]
            exact hsh_ext HC.out.1.1 HC.out.2.1.1 A.out.2.2
          clear HD HC
          go_wp2
          go_ret
          exact ⟨by rw [hd.out]; rfl, A.out.2.1⟩
        | succ g =>
          obtain ⟨hig, hbel, hbef⟩ := A.out
          have hlt : (i : Int) < (n : Int) := by omega
          have r1 := (HC.out.1.below hbel).at (show i < n by omega)
          have r2 := (HC.out.2.1.below hbel).at (show i < n by omega)
          have l1 := HSH_length HC.out.1.1 (show i < n by omega)
          have l2 := HSH_length HC.out.2.1.1 (show i < n by omega)
          have E1 : Aside (wrap64 ((i : Int) + 1) = ((i + 1 : Nat) : Int)) := by have := HC.out.2.2; show wrap64 ((i : Int) + 1) = ((i + 1 : Nat) : Int); unfold wrap64; omega
          by_cases he : HSH l i = HSH k i
          · have B : Aside (i + 1 + g = n ∧ ∀ j, j < i + 1 → HSH l j = HSH k j) := ⟨by omega, fun j hj => by
              by_cases e : j = i
              · rw [e]; exact he
              · exact hbef j (by omega)⟩
            have hdf : (!decide (HSH l i = HSH k i)) = false := by rw [he]; simp
            have Z : Aside (Below w.heap.size w wr) := hbel
            clear he hig hbel hbef A HD HC
            generalize HSH l i = H at *
            generalize HSH k i = K at *
            go_upto_region 6 with fail
            refine same_region _ _ _ _ _ _ _ _ _ _ _ _ _ _ _ _ _ _ _ _ _ _ _ _ w ba oa n ca bb ob n cb i H K l1 l2 hlt hlt ⟨r1, r2, Z.out⟩ (fun _ _ _ _ _ h => h) ?_
            rintro w1 ⟨_, _, q3⟩
            rw [hdf]
            clear r1 r2 l1 l2 hdf
            have Z2 : Aside (Below w.heap.size w w1) := q3
            clear q3 Z
            have e1 := E1.out
            go_wp2
            go_roundg g
            case measure => exact Nat.lt_succ_self _
            case rel => exact ⟨i + 1, by first | rfl | (rw [E1.out]), B.out.1, Z2.out, B.out.2⟩
          · have hd : Aside (D = false) := by
              show D = false
              rw [HD.out, decide_eq_false_iff_not]
              intro e
              rw [e] at he
              exact he rfl
            have hdf : (!decide (HSH l i = HSH k i)) = true := by simp [he]
            have Z : Aside (Below w.heap.size w wr) := hbel
            clear he hig hbel hbef A HD HC E1
            generalize HSH l i = H at *
            generalize HSH k i = K at *
            go_upto_region 6 with fail
            refine same_region _ _ _ _ _ _ _ _ _ _ _ _ _ _ _ _ _ _ _ _ _ _ _ _ w ba oa n ca bb ob n cb i H K l1 l2 hlt hlt ⟨r1, r2, Z.out⟩ (fun _ _ _ _ _ h => h) ?_
            rintro w1 ⟨_, _, q3⟩
            rw [hdf]
            clear r1 r2 l1 l2 hdf
            have Z2 : Aside (Below w.heap.size w w1) := q3
            clear q3 Z
            go_wp2
            go_ret
            exact ⟨by rw [hd.out]; rfl, Z2.out⟩
  · have hne : ¬ (n : Int) = (m : Int) := by omega
    have hd : decide (l = k) = false := by
      rw [decide_eq_false_iff_not]
      intro e
      rw [e] at hA
      have := hA.1.symm.trans hB.1
      omega
    rw [hd]
    clear hA hB hd
    go_enter Tryz.func10, Tryz.ntmps10
    go_wp2
    go_ret
    exact ⟨rfl, Below.refl _ _⟩
end Go.Proofs.YtlicfinmibbpdaaGreatDoor

/- The same bytes in a list of their own that goes on behind them; are these the same bytes? -/
namespace Go.Proofs.YtlicfinmibbpdaaGreatDoor
open Go.RowKit
set_option maxRecDepth 100000

end Go.Proofs.YtlicfinmibbpdaaGreatDoor

/- The same hashes in a list of their own that goes on behind them; are these the same bytes, the same proofs? -/
namespace Go.Proofs.YtlicfinmibbpdaaGreatDoor
open Go.RowKit
set_option maxRecDepth 100000

/-! a list of hashes, copied with a mark behind it -/
theorem Flat.none_nil {w : World} {n : Nat} {l : List Int} (h : Flat w none n l) : n = 0 ∧ l = [] := by
  have h0 : n = 0 := by
    rcases Nat.eq_zero_or_pos n with h0 | h0
    · exact h0
    · obtain ⟨_, _, e, _⟩ := h.2.1 h0
      cases e
  subst h0
  exact ⟨rfl, List.eq_nil_of_length_eq_zero h.1⟩
theorem own_shapeh {w : World} {B n : Nat} {v : Value} {xs : List Value} (h : w.ownsRow B 38 32 v n xs) : ∃ a c, v = .slice a n c ∧ n ≤ c ∧ (0 < n → ∃ g, a = some ⟨g, 0, none⟩) := by
  rcases h.2 with ⟨rfl, h0⟩ | ⟨g, cap, cur, rfl, _, _, h1, _⟩
  · subst h0
    exact ⟨none, 0, rfl, Nat.le_refl _, fun h => by omega⟩
  · exact ⟨_, _, rfl, h1, fun _ => ⟨g, rfl⟩⟩
theorem app_hashes {ops : Array Oper} {rest : List Oper} {o : Oper} {a : Act} {Q : Exit → Act → World → Prop} (w : World) (hgd : o.guard = none) (s x : Operand)
    (ho : o.op = .call { callee := .builtin .append, args := #[s, x], argTypes := #[22, 22] })
    (base : Nat) (v : Value) (n : Nat) (xs : List Value) (hs : a.eval s = v) (hown : w.ownsRow base 38 32 v n xs)
    (ad : Option Addr) (m c : Nat) (l : List Int) (hx : a.eval x = .slice ad m c) (hL : Flat w ad m l) (hc : ad = none → c = 0)
    (hb : n + m ≤ 100000) (hbase : base ≤ w.heap.size)
    (hh : ∀ a' c' w', w'.ownsRow base 38 32 (.slice a' (n + m) c') (n + m) (xs ++ CELLS l) → w.grownBy w' v.ownBlock → wpList Tryz.prog ops Q rest (a.put o.dst (.slice a' (n + m) c')) w') : wpList Tryz.prog ops Q (o :: rest) a w := by
  obtain ⟨i, hi, hz, hs1, hby⟩ := info_parts info_hashv
  cases ad with
  | none =>
    obtain rfl := hc rfl
    obtain ⟨rfl, rfl⟩ := hL.none_nil
    refine wpList_append_own_none hgd s x 22 ho base 38 i 32 Tryz.underlying22 hi v n xs hs hown hx ?_
    obtain ⟨a', c', rfl, _, _⟩ := own_shapeh hown
    have := hh a' c' w (by simpa [CELLS] using hown) (grown_refl _ _)
    simpa using this
  | some ad =>
    have hcells : ∀ j u, (CELLS l)[j]? = some u → w.cell? (ad.add j) = some u := by
      intro j u hu
      have hj : j < l.length := by
        have := (List.getElem?_eq_some_iff.1 hu).1
        simpa [CELLS] using this
      have hl := hL.1
      obtain ⟨g, o', e, _, hc'⟩ := hL.2.1 (by omega)
      cases e
      rw [addr_add, hc' j (by omega), ← hu, CELLS_get l j hj]
    refine wpList_append_own w hgd s x 22 ho base 38 i _ 32 32 Tryz.underlying22 hi hz hs1 hby rfl (by decide) v n xs hs hown ad m c (CELLS l) hx (by rw [CELLS, List.length_map, hL.1]; omega) hcells (CELLS_one l) (by simp only [maxLen]; omega) (by omega) hbase ?_
    intro v' w' h1 h2 _
    obtain ⟨a', c', rfl, _, _⟩ := own_shapeh h1
    exact hh a' c' w' h1 h2
/-- the mark behind a list of hashes. -/
def MRK : List Int := 171 :: List.replicate 31 0
theorem MRK_arr : (CELLS MRK).toArray = #[.int .u8 171, .int .u8 0, .int .u8 0, .int .u8 0, .int .u8 0, .int .u8 0, .int .u8 0, .int .u8 0, .int .u8 0, .int .u8 0, .int .u8 0, .int .u8 0, .int .u8 0, .int .u8 0, .int .u8 0, .int .u8 0, .int .u8 0, .int .u8 0, .int .u8 0, .int .u8 0, .int .u8 0, .int .u8 0, .int .u8 0, .int .u8 0, .int .u8 0, .int .u8 0, .int .u8 0, .int .u8 0, .int .u8 0, .int .u8 0, .int .u8 0, .int .u8 0] := rfl
theorem own_front32 {w : World} {base g n cap : Nat} {l m : List Int} (h : w.ownsRow base 38 32 (.slice (some ⟨g, 0, none⟩) (n + 1) cap) (n + 1) (CELLS l ++ CELLS m)) (hl : l.length = 32 * n) (hm : m.length = 32) : w.ownsRow base 38 32 (.slice (some ⟨g, 0, none⟩) n cap) n (CELLS l) ∧ n + 1 ≤ cap ∧ w.rangeAt g (n * 32) (CELLS m) ∧ g < w.heap.size := by
  have hr : w.rangeAt g (n * 32) (CELLS m) := by
    intro j v hv
    have hj : j < 32 := by
      have := (List.getElem?_eq_some_iff.1 hv).1
      simpa [CELLS, hm] using this
    have := h.cellAt (n * 32 + j) (by omega)
    rw [this, List.getElem?_append_right (by simp [CELLS]; omega), show n * 32 + j - (CELLS l).length = j by simp [CELLS]; omega]
    exact hv
  rcases h.2 with ⟨e, _⟩ | ⟨g', cap', cur, e, hb, hg, h1, h2, h3, h4⟩
  · cases e
  · cases e
    refine ⟨⟨by rw [CELLS, List.length_map, hl, Nat.mul_comm], .inr ⟨g, cap, cur, rfl, hb, hg, by omega, h2, h3, ?_⟩⟩, h1, hr, (Array.getElem?_eq_some_iff.1 hg).1⟩
    have h5 := congrArg (List.take (n * 32)) h4
    rw [List.take_take, show min (n * 32) ((n + 1) * 32) = n * 32 by omega] at h5
    rw [h5, List.take_left' (by rw [CELLS, List.length_map, hl, Nat.mul_comm])]
/-- what row answers. -/
def ROWED (w : World) (n : Nat) (l : List Int) (e : Ending) (w' : World) : Prop :=
  ∃ g cap, e = .returned (.slice (some ⟨g, 0, none⟩) n cap) ∧ w'.ownsRow w.heap.size 38 32 (.slice (some ⟨g, 0, none⟩) n cap) n (CELLS l) ∧ n + 1 ≤ cap ∧ w'.rangeAt g (n * 32) (CELLS MRK) ∧ g < w'.heap.size ∧ Below w.heap.size w w'
theorem own_empty32 (w : World) : (w.alloc (.cells #[] 38)).ownsRow w.heap.size 38 32 (.slice (some ⟨w.heap.size, 0, none⟩) 0 0) 0 [] :=
  World.ownsRow_lit w #[] 0 (Nat.le_refl _) (by simp [maxLen]) rfl
end Go.Proofs.YtlicfinmibbpdaaGreatDoor

/- What the document's Big, FromBig, Short and Long give. -/
namespace Go.Proofs.YtlicfinmibbpdaaGreatDoor
open Go.RowKit

set_option maxHeartbeats 1000000 in
theorem refshort_ok (X : Nat) (hX : X < 2 ^ 64) (w : World) : Calls Tryz.prog 60 #[.int .u64 (X : Int)] w fun e w' =>
    ∃ g cap, e = .returned (.slice (some ⟨g, 0, none⟩) (NTOP X + 1) cap) ∧ w'.ownsRow w.heap.size 5 1 (.slice (some ⟨g, 0, none⟩) (NTOP X + 1) cap) (NTOP X + 1) (CELLS (SHORT X)) ∧ g < w'.heap.size ∧ Below w.heap.size w w' := by
  have HX : Aside (X < 2 ^ 64) := hX
  clear hX
  go_enter Tryz.func60, Tryz.ntmps60
  go_wp2
  go_loopg [0, 3] 10 (fun g s0 s3 wx => ∃ (j x : Nat), j + g = 10 ∧ Aside (x = X / 128 ^ j ∧ (∀ i, i < j → 128 ≤ X / 128 ^ i) ∧ wx.ownsRow w.heap.size 5 1 s3 j (CELLS (GROUPS X j)) ∧ Below w.heap.size w wx) ∧ s0 = .int .u64 (x : Int))
  case atStart => exact ⟨0, X, by omega, ⟨by simp, fun i hi => by omega, World.ownsRow_nil _ _ _ _, Below.refl _ _⟩, rfl⟩
  case round =>
    obtain ⟨j, x, hjg, A, rfl⟩ := hrel
    have hxl : (x : Int) ≤ 18446744073709551615 := by
      have := Nat.div_le_self X (128 ^ j)
      have h1 := A.out.1
      have h2 := HX.out
      omega
    have HXL : Aside ((x : Int) ≤ 18446744073709551615) := hxl
    clear hxl
    by_cases hx : 128 ≤ (x : Int)
    · go_wp2_with (at_builtin; refine app_u8 _ rfl (.tmp 6) (.tmp 11) rfl w.heap.size u3 j (GROUPS X j) rfl (A.out.2.2.1.alloc _) wr.heap.size 0 1 1 [(x : Int) % 128 + 128] rfl (one_bytes wr _ (by omega) (by omega)) (by omega) (by omega) (by have := A.out.2.2.2.size; simp; omega) ?_; intro g cap w1 hown hgrow hg)
      have R : (x / 128 = X / 128 ^ (j + 1)) ∧ (∀ i, i < j + 1 → 128 ≤ X / 128 ^ i) ∧ w1.ownsRow w.heap.size 5 1 (.slice (some ⟨g, 0, none⟩) (j + 1) cap) (j + 1) (CELLS (GROUPS X (j + 1))) ∧ Below w.heap.size w w1 := by
        obtain ⟨hxe, hall, hown0, hb⟩ := A.out
        refine ⟨by rw [hxe, Nat.div_div_eq_div_mul, ← Nat.pow_succ], fun i hi => ?_, ?_, ?_⟩
        · by_cases e : i = j
          · rw [e, ← hxe]; omega
          · exact hall i (by omega)
        · rw [GROUPS_succ, show ((X / 128 ^ j % 128 + 128 : Nat) : Int) = (x : Int) % 128 + 128 by rw [← hxe]; omega]
          exact hown
        · exact (hb.alloc hb.size _).grown hgrow (by have := hb.size; simp; omega) (fun k e => (hown0.lt k e).1)
      have HR : Aside ((x / 128 = X / 128 ^ (j + 1)) ∧ (∀ i, i < j + 1 → 128 ≤ X / 128 ^ i) ∧ w1.ownsRow w.heap.size 5 1 (.slice (some ⟨g, 0, none⟩) (j + 1) cap) (j + 1) (CELLS (GROUPS X (j + 1))) ∧ Below w.heap.size w w1) := R
      have hj9 : j < 9 := by
        obtain ⟨hxe, hall, _, _⟩ := A.out
        rcases Nat.lt_or_ge j 9 with h | h
        · exact h
        · have h1 := div_anti X h
          have h2 : X / 128 ^ 9 < 2 := Nat.div_lt_of_lt_mul (Nat.lt_of_lt_of_le HX.out (by decide))
          omega
      clear hown hgrow hg R A
      go_wp2
      go_roundg (gk - 1)
      case measure => omega
      case rel => exact ⟨j + 1, x / 128, by omega, HR, by have := HXL.out; rw [show IntKind.u64.wrap ((x : Int) / 128) = ((x / 128 : Nat) : Int) by rw [wrapU]; omega]⟩
    · go_wp2_with (at_builtin; refine app_u8 _ rfl (.tmp 15) (.tmp 18) rfl w.heap.size u3 j (GROUPS X j) rfl (A.out.2.2.1.alloc _) wr.heap.size 0 1 1 [(x : Int)] rfl (one_bytes wr _ (by omega) (by omega)) (by omega) (by omega) (by have := A.out.2.2.2.size; simp; omega) ?_; intro g cap w1 hown hgrow hg)
      obtain ⟨hxe, hall, hown0, hb⟩ := A.out
      have hN : NTOP X = j := NTOP_eq HX.out hall (by rw [← hxe]; omega)
      have R : w1.ownsRow w.heap.size 5 1 (.slice (some ⟨g, 0, none⟩) (NTOP X + 1) cap) (NTOP X + 1) (CELLS (SHORT X)) ∧ g < w1.heap.size ∧ Below w.heap.size w w1 := by
        refine ⟨?_, hg, (hb.alloc hb.size _).grown hgrow (by have := hb.size; simp; omega) (fun k e => (hown0.lt k e).1)⟩
        unfold SHORT
        rw [hN, ← hxe]
        exact hown
      have HR : Aside (w1.ownsRow w.heap.size 5 1 (.slice (some ⟨g, 0, none⟩) (NTOP X + 1) cap) (NTOP X + 1) (CELLS (SHORT X)) ∧ g < w1.heap.size ∧ Below w.heap.size w w1) := R
      have HN : Aside (NTOP X = j) := hN
      clear hown hgrow hg R A hxe hall hown0 hb hN
      go_wp2
      go_ret
      obtain ⟨h1, h2, h3⟩ := HR.out
      refine ⟨g, cap, ?_, h1, h2, h3⟩
      rw [HN.out]
      rfl
end Go.Proofs.YtlicfinmibbpdaaGreatDoor

/- What the document's Long gives. -/
namespace Go.Proofs.YtlicfinmibbpdaaGreatDoor
open Go.RowKit

/-- the groups from j on, put together from the highest one down. -/
def Tops (d : Nat → Nat) (j : Nat) (x : Int) (V : Nat) : Prop := ∃ y : Nat, x = (y : Int) ∧ VAL d j + y * 128 ^ j = V
theorem Tops.down {d : Nat → Nat} {j V : Nat} {x v : Int} (A : Tops d (j + 1) x V) (hV : V < 2 ^ 64) (hv : (v % 128).toNat = d j) : Tops d j (IntKind.u64.wrap (IntKind.u64.wrap (128 * x) + v % 128)) V := by
  obtain ⟨y, rfl, hy⟩ := A
  have e : VAL d j + (128 * y + d j) * 128 ^ j = V := by
    rw [← hy, VAL, Nat.add_mul, Nat.pow_succ, Nat.mul_comm 128 y, Nat.mul_assoc, Nat.mul_comm 128 (128 ^ j)]
    omega
  have hl : 128 * y + d j ≤ V := by
    have h1 : (128 * y + d j) * 1 ≤ (128 * y + d j) * 128 ^ j := Nat.mul_le_mul_left _ (Nat.pow_pos (by decide))
    omega
  refine ⟨128 * y + d j, ?_, e⟩
  rw [wrapU, wrapU, ← hv]
  omega

end Go.Proofs.YtlicfinmibbpdaaGreatDoor

/- What the document's Wants, Take and Decode answer, of any bytes. -/
namespace Go.Proofs.YtlicfinmibbpdaaGreatDoor
open Go.RowKit
set_option maxRecDepth 100000

end Go.Proofs.YtlicfinmibbpdaaGreatDoor

/- Lists of hashes and of bytes that lie somewhere: what a row of one's own, a block, a cut of them give. -/
namespace Go.Proofs.YtlicfinmibbpdaaGreatDoor
open Go.RowKit
set_option maxRecDepth 100000

theorem range_below {w w' : World} {g o : Nat} {cs : List Value} (h : w.rangeAt g o cs) (hb : Below w.heap.size w w') (hg : g < w.heap.size) : w'.rangeAt g o cs := fun j v hv => (hb.cell (p := ⟨g, o + j, none⟩) hg).trans (h j v hv)
theorem Flat.other {w : World} {b o n : Nat} {l : List Int} (h : Flat w (some ⟨b, o, none⟩) n l) {a : Addr} (ha : b ≠ a.block) (u : Value) : Flat (w.setCell a u) (some ⟨b, o, none⟩) n l :=
  ⟨h.1, fun hn => by
    obtain ⟨b', o', e, hl, hc⟩ := h.2.1 hn
    cases e
    exact ⟨b, o, rfl, Nat.lt_of_lt_of_le hl (KeepsWalks.setCell w a u).size, fun j hj => (World.cell?_setCell_other w _ _ u (fun e => ha (congrArg Addr.block e).symm)).trans (hc j hj)⟩, h.2.2⟩
theorem own_flat {w : World} {B n : Nat} {a : Option Addr} {c : Nat} {l : List Int} (h : w.ownsRow B 38 32 (.slice a n c) n (CELLS l)) (hr : ∀ x ∈ l, 0 ≤ x ∧ x ≤ 255) : Flat w a n l := by
  have hl : l.length = 32 * n := by have := h.1; simpa [CELLS, Nat.mul_comm] using this
  refine ⟨hl, fun hn => ?_, hr⟩
  rcases h.2 with ⟨e, h0⟩ | ⟨g, cap, cur, e, _, hg, _⟩
  · omega
  · cases e
    refine ⟨g, 0, rfl, (Array.getElem?_eq_some_iff.1 hg).1, fun j hj => ?_⟩
    have := h.cellAt j (by omega)
    rw [Nat.zero_add, this, CELLS_get l j (by omega)]
theorem Bytes.take {w : World} {a : Option Addr} {n : Nat} {l : List Int} (h : Bytes w a n l) {m : Nat} (hm : m ≤ n) : Bytes w a m (l.take m) := by
  refine ⟨by rw [List.length_take, h.1]; omega, fun h0 => ?_, fun x hx => h.2.2 x (List.mem_of_mem_take hx)⟩
  obtain ⟨b, o, e, hb, hc⟩ := h.2.1 (by omega)
  refine ⟨b, o, e, hb, fun i hi => ?_⟩
  rw [hc i (by omega), List.getD_eq_getElem?_getD, List.getD_eq_getElem?_getD, List.getElem?_take, if_pos hi]
end Go.Proofs.YtlicfinmibbpdaaGreatDoor

/- What the document's Put and Encode answer, of any proof. -/
namespace Go.Proofs.YtlicfinmibbpdaaGreatDoor
open Go.RowKit
set_option maxRecDepth 100000

theorem take_more {l : List Int} {J : Nat} (h : J < l.length) : l.take (J + 1) = l.take J ++ [l.getD J 0] := by
  rw [List.take_add_one, List.getElem?_eq_getElem h, List.getD_eq_getElem?_getD, List.getElem?_eq_getElem h]
  rfl
set_option maxHeartbeats 2000000 in
theorem put_ok (B : Nat) (v : Value) (np : Nat) (PRE : List Int) (hnp : np ≤ 1000000) (a : Option Addr) (n c : Nat) (hn : n ≤ 1000) (l : List Int) (w : World) (hB : B ≤ w.heap.size) (hv : w.ownsRow B 5 1 v np (CELLS PRE)) (hF : Flat w a n l) (hFa : 0 < n → ∀ b o, a = some ⟨b, o, none⟩ → b < B) :
    Calls Tryz.prog 61 #[v, .slice a n c] w fun e w' => ∃ v', e = .returned v' ∧ w'.ownsRow B 5 1 v' (np + 32 * n) (CELLS (PRE ++ l)) ∧ Below B w w' := by
  have HA : Aside (np ≤ 1000000 ∧ n ≤ 1000 ∧ l.length = 32 * n ∧ Flat w a n l ∧ (0 < n → ∀ b o, a = some ⟨b, o, none⟩ → b < B) ∧ B ≤ w.heap.size) := ⟨hnp, hn, hF.1, hF, hFa, hB⟩
  have V0 : Aside (w.ownsRow B 5 1 v np (CELLS PRE)) := hv
  clear hnp hn hF hFa hB hv
  go_enter Tryz.func61, Tryz.ntmps61
  go_wp2
  go_loopg [0, 5] n (fun q s0 s5 wx => ∃ i : Nat, s5 = .int .i64 (i : Int) ∧ Aside (i + q = n ∧ wx.ownsRow B 5 1 s0 (np + 32 * i) (CELLS (PRE ++ l.take (32 * i))) ∧ Below B w wx))
  case atStart => exact ⟨0, rfl, by omega, by simpa using V0.out, Below.refl _ _⟩
  case round =>
    obtain ⟨i, rfl, A⟩ := hrel
    clear V0
    cases gk with
    | zero =>
      obtain rfl : i = n := by have := A.out.1; omega
      have hlt : ¬ (i : Int) < (i : Int) := by omega
      have R : Aside (wr.ownsRow B 5 1 u0 (np + 32 * i) (CELLS (PRE ++ l)) ∧ Below B w wr) := by
        have := A.out.2.1
        rw [List.take_of_length_le (by have := HA.out; omega)] at this
        exact ⟨this, A.out.2.2⟩
      clear A HA
      go_wp2
      go_ret
      exact ⟨_, rfl, R.out⟩
    | succ q =>
      have hlt : (i : Int) < (n : Int) := by have := A.out.1; omega
      have R0 : Aside (i + 1 + q = n ∧ wr.ownsRow B 5 1 u0 (np + (32 * i + 0)) (CELLS (PRE ++ l.take (32 * i + 0))) ∧ Below B w wr) := ⟨by have := A.out.1; omega, A.out.2.1, A.out.2.2⟩
      clear A
      go_wp2
      generalize wr = wo at *
      generalize u0 = vo at *
      go_loopg [0, 6] 32 (fun p s0 s6 wx => ∃ k : Nat, s6 = .int .i64 (k : Int) ∧ Aside (k + p = 32 ∧ wx.ownsRow B 5 1 s0 (np + (32 * i + k)) (CELLS (PRE ++ l.take (32 * i + k))) ∧ Below B w wx))
      case atStart => exact ⟨0, rfl, by omega, R0.out.2.1, R0.out.2.2⟩
      case round =>
        obtain ⟨k, rfl, A⟩ := hrel
        cases gk with
        | zero =>
          obtain rfl : k = 32 := by have := A.out.1; omega
          have hlt2 : ¬ (((32 : Nat) : Int)) < 32 := by omega
          have R : Aside (i + 1 + q = n ∧ wr.ownsRow B 5 1 u0 (np + 32 * (i + 1)) (CELLS (PRE ++ l.take (32 * (i + 1)))) ∧ Below B w wr) := ⟨R0.out.1, by rw [show 32 * (i + 1) = 32 * i + 32 by omega]; exact A.out.2.1, A.out.2.2⟩
          have E1 : Aside (wrap64 ((i : Int) + 1) = ((i + 1 : Nat) : Int)) := by have := HA.out; show wrap64 ((i : Int) + 1) = ((i + 1 : Nat) : Int); unfold wrap64; omega
          clear A R0 HA
          have e1 := E1.out
          go_wp2
          go_roundg q
          case measure => exact Nat.lt_succ_self _
          case rel => exact ⟨i + 1, by first | rfl | (rw [E1.out]), R.out⟩
        | succ p =>
          obtain ⟨a1, a2, a3⟩ := A.out
          obtain ⟨h1, h2, h3, h4, h5, h6⟩ := HA.out
          have hiN : i < n := by have := R0.out.1; omega
          have hk : k < 32 := by omega
          have hlt2 : (k : Int) < 32 := by omega
          obtain ⟨b, o, rfl, hbl, hc⟩ := h4.2.1 (by omega)
          have hx : wr.cell? ⟨b, o + i * 32 + k, none⟩ = some (.int .u8 (l.getD (32 * i + k) 0)) := by
            rw [show o + i * 32 + k = o + (32 * i + k) by omega]
            exact (a3.cell (p := ⟨b, o + (32 * i + k), none⟩) (h5 (by omega) b o rfl)).trans (hc _ (by omega))
          have hrng := h4.2.2 (l.getD (32 * i + k) 0) (by rw [List.getD_eq_getElem?_getD, List.getElem?_eq_getElem (by omega)]; exact List.getElem_mem _)
          have htk := take_more (l := l) (J := 32 * i + k) (by omega)
          have R : Aside (k + 1 + p = 32 ∧ np + (32 * i + k) + 1 ≤ 140737488355328 ∧ wr.ownsRow B 5 1 u0 (np + (32 * i + k)) (CELLS (PRE ++ l.take (32 * i + k))) ∧ Below B w wr ∧ B ≤ wr.heap.size ∧ (0 ≤ l.getD (32 * i + k) 0 ∧ l.getD (32 * i + k) 0 ≤ 255) ∧ PRE ++ l.take (32 * i + (k + 1)) = PRE ++ l.take (32 * i + k) ++ [l.getD (32 * i + k) 0]) := ⟨by omega, by omega, a2, a3, Nat.le_trans h6 a3.size, hrng, by rw [← Nat.add_assoc, htk, List.append_assoc]⟩
          have E1 : Aside (wrap64 ((k : Int) + 1) = ((k + 1 : Nat) : Int)) := by show wrap64 ((k : Int) + 1) = ((k + 1 : Nat) : Int); unfold wrap64; omega
          clear a1 a2 a3 h1 h2 h3 h4 h5 h6 hiN hk hbl hc hrng htk A R0 HA
          generalize l.getD (32 * i + k) 0 = x at *
          go_wp2_with (at_builtin; refine app_u8 _ rfl (.tmp 17) (.tmp 24) rfl B u0 (np + (32 * i + k)) _ rfl (R.out.2.2.1.alloc _) wr.heap.size 0 1 1 [x] rfl (one_bytes wr x R.out.2.2.2.2.2.1.1 R.out.2.2.2.2.2.1.2) (by decide) R.out.2.1 (by have := R.out.2.2.2.2.1; simp; omega) ?_; intro g2 c2 w2 hown hgrow hg)
          have R2 : Aside (k + 1 + p = 32 ∧ w2.ownsRow B 5 1 (.slice (some ⟨g2, 0, none⟩) (np + (32 * i + k) + 1) c2) (np + (32 * i + (k + 1))) (CELLS (PRE ++ l.take (32 * i + (k + 1)))) ∧ Below B w w2) := by
            obtain ⟨r1, r2, r3, r4, r5, r6, r7⟩ := R.out
            refine ⟨r1, by rw [r7, show np + (32 * i + (k + 1)) = np + (32 * i + k) + 1 by omega]; exact hown, (r4.alloc r5 _).grown hgrow (by simp; omega) (fun k e => (r3.lt k e).1)⟩
          clear hown hgrow hg R hx
          have e1 := E1.out
          go_wp2
          go_roundg p
          case measure => exact Nat.lt_succ_self _
          case rel => exact ⟨k + 1, by first | rfl | (rw [E1.out]), R2.out⟩
end Go.Proofs.YtlicfinmibbpdaaGreatDoor
