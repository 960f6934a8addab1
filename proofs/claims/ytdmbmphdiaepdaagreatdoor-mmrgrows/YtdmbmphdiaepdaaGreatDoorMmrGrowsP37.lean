/- Texts of MmrGrows, one behind the other: MmrSame, MmrGrowsWalk, PosAwake, PosDoor. -/
import Derived.Test.YtdmbmphdiaepdaaGreatDoorRows
import Derived.ProofKit
import Derived.LaidMore
import Derived.OpenShut
import Derived.Stop.Joined
import Derived.Test.YtdmbmphdiaepdaaGreatDoorMmrGrowsP21
import Derived.Test.YtdmbmphdiaepdaaGreatDoorMmrGrowsP24
import Derived.Test.YtdmbmphdiaepdaaGreatDoorMmrGrowsP27
import Derived.Test.YtdmbmphdiaepdaaGreatDoorMmrGrowsP36
/- massiflaw6.same, where the two lists are the same. -/
namespace Go.Proofs.YtdmbmphdiaepdaaGreatDoor.HX
open Go.RowKit
set_option maxRecDepth 100000

def MS6OPS : Array Oper := #[{ dst := some 17, op := Op.move (Operand.tmp 0), type := 23, pos := "help.go:34", after := #[], guard := none }, { dst := some 18, op := Op.move (Operand.tmp 5), type := 3, pos := "help.go:34", after := #[], guard := none }, { dst := some 19, op := Op.indexAddr 23 (Operand.tmp 17) (Operand.tmp 18), type := 0, pos := "help.go:34", after := #[{ on := 0, ground := Ground.data }, { on := 1, ground := Ground.data }], guard := none }, { dst := some 20, op := Op.load 26 (Operand.tmp 19), type := 26, pos := "help.go:34", after := #[{ on := 2, ground := Ground.data }], guard := none }, { dst := some 21, op := Op.move (Operand.tmp 1), type := 23, pos := "help.go:34", after := #[], guard := none }, { dst := some 22, op := Op.move (Operand.tmp 5), type := 3, pos := "help.go:34", after := #[], guard := none }, { dst := some 23, op := Op.indexAddr 23 (Operand.tmp 21) (Operand.tmp 22), type := 0, pos := "help.go:34", after := #[{ on := 4, ground := Ground.data }, { on := 5, ground := Ground.data }], guard := none }, { dst := some 24, op := Op.load 26 (Operand.tmp 23), type := 26, pos := "help.go:34", after := #[{ on := 6, ground := Ground.data }], guard := none }, { dst := some 25, op := Op.binOp BinOp.neq 26 (Operand.tmp 20) (Operand.tmp 24) 26, type := 4, pos := "help.go:34", after := #[{ on := 3, ground := Ground.data }, { on := 7, ground := Ground.data }], guard := none }]
set_option maxHeartbeats 2000000 in
theorem same6_region {Q : Exit → Act → World → Prop} {u2 u3 u4 u6 u7 u8 u9 u10 u11 u12 u13 u14 u15 u16 u17 u18 u19 u20 u21 u22 u23 u24 u25 : Value} (W : World) (b o n c b' o' c' i : Nat) (x : Nat → Nat) (hi : (i : Int) < (n : Int)) (S : World → Prop) (h0 : S W.drew) (hS : ∀ w, S w → w.rangeAt b (o + i * 32) (ULIST .u8 32 x) ∧ w.rangeAt b' (o' + i * 32) (ULIST .u8 32 x)) (qx : ∀ w, (Op.equalIn 10000 26 (.agg (UARR .u8 32 x)) (.agg (UARR .u8 32 x))).run Tryz.prog w = .ok true w) (hQ : ∀ c (a : Act) (t : Tmp) (v : Value) w, Q (.panic c) (a.put (some t) v) w → Q (.panic c) a w)
    (hfin : ∀ (w : World), (S w) → Q .normal { tmps := #[.slice (some ⟨b, o, none⟩) n c, .slice (some ⟨b', o', none⟩) n c', u2, u3, u4, .int .i64 (i : Int), u6, u7, u8, u9, u10, u11, u12, u13, u14, u15, u16, .slice (some ⟨b, o, none⟩) n c, .int .i64 (i : Int), .pointer (some ⟨b, (o + i * 32), none⟩), .agg (UARR .u8 32 x), .slice (some ⟨b', o', none⟩) n c', .int .i64 (i : Int), .pointer (some ⟨b', (o' + i * 32), none⟩), .agg (UARR .u8 32 x), .bool false], defers := [] } w) : (Code.region 6 MS6OPS true).wp Tryz.prog Q { tmps := #[.slice (some ⟨b, o, none⟩) n c, .slice (some ⟨b', o', none⟩) n c', u2, u3, u4, .int .i64 (i : Int), u6, u7, u8, u9, u10, u11, u12, u13, u14, u15, u16, u17, u18, u19, u20, u21, u22, u23, u24, u25], defers := [] } W := by
  have k : ∀ (w : World), (S w) → wpAnyH Tryz.prog .any MS6OPS Q S 0 #[true, true, true, true, true, true, true, true, true] { tmps := #[.slice (some ⟨b, o, none⟩) n c, .slice (some ⟨b', o', none⟩) n c', u2, u3, u4, .int .i64 (i : Int), u6, u7, u8, u9, u10, u11, u12, u13, u14, u15, u16, .slice (some ⟨b, o, none⟩) n c, .int .i64 (i : Int), .pointer (some ⟨b, (o + i * 32), none⟩), .agg (UARR .u8 32 x), .slice (some ⟨b', o', none⟩) n c', .int .i64 (i : Int), .pointer (some ⟨b', (o' + i * 32), none⟩), .agg (UARR .u8 32 x), .bool false], defers := [] } w := fun  w hp => by
    exact wpAnyH_done (by kernel_rfl) (hfin  w hp) _
  have hp := h0
  have hww : S W.drew := hp
  have last := k W.drew hp
  have z : wpAnyH Tryz.prog .any MS6OPS Q S 9 #[false, false, false, false, false, false, false, false, false] { tmps := #[.slice (some ⟨b, o, none⟩) n c, .slice (some ⟨b', o', none⟩) n c', u2, u3, u4, .int .i64 (i : Int), u6, u7, u8, u9, u10, u11, u12, u13, u14, u15, u16, u17, u18, u19, u20, u21, u22, u23, u24, u25], defers := [] } W.drew := by
    have t8 : wpAnyH Tryz.prog .any MS6OPS Q S 1 #[true, true, true, true, true, true, true, true, false] { tmps := #[.slice (some ⟨b, o, none⟩) n c, .slice (some ⟨b', o', none⟩) n c', u2, u3, u4, .int .i64 (i : Int), u6, u7, u8, u9, u10, u11, u12, u13, u14, u15, u16, .slice (some ⟨b, o, none⟩) n c, .int .i64 (i : Int), .pointer (some ⟨b, (o + i * 32), none⟩), .agg (UARR .u8 32 x), .slice (some ⟨b', o', none⟩) n c', .int .i64 (i : Int), .pointer (some ⟨b', (o' + i * 32), none⟩), .agg (UARR .u8 32 x), u25], defers := [] } W.drew :=
      wpAnyH_take (i := 8) (oi := { dst := some 25, op := Op.binOp BinOp.neq 26 (Operand.tmp 20) (Operand.tmp 24) 26, type := 4, pos := "help.go:34", after := #[{ on := 3, ground := Ground.data }, { on := 7, ground := Ground.data }], guard := none }) (v := .bool false) rfl (by kernel_rfl) (by kernel_rfl) (by kernel_rfl) (fun _ _ _ h => hQ _ _ _ _ _ h) (Or.inl ⟨by rfl, fun w hw => by have hx := qx w; go_simp⟩) hww last
    have t7 : wpAnyH Tryz.prog .any MS6OPS Q S 2 #[true, true, true, true, true, true, true, false, false] { tmps := #[.slice (some ⟨b, o, none⟩) n c, .slice (some ⟨b', o', none⟩) n c', u2, u3, u4, .int .i64 (i : Int), u6, u7, u8, u9, u10, u11, u12, u13, u14, u15, u16, .slice (some ⟨b, o, none⟩) n c, .int .i64 (i : Int), .pointer (some ⟨b, (o + i * 32), none⟩), .agg (UARR .u8 32 x), .slice (some ⟨b', o', none⟩) n c', .int .i64 (i : Int), .pointer (some ⟨b', (o' + i * 32), none⟩), u24, u25], defers := [] } W.drew :=
      wpAnyH_take (i := 7) (oi := { dst := some 24, op := Op.load 26 (Operand.tmp 23), type := 26, pos := "help.go:34", after := #[{ on := 6, ground := Ground.data }], guard := none }) (v := .agg (UARR .u8 32 x)) rfl (by kernel_rfl) (by kernel_rfl) (by kernel_rfl) (fun _ _ _ h => hQ _ _ _ _ _ h) (yieldsIf_load_mid (by rfl) 26 (.tmp 23) rfl b' (o' + i * 32) rfl (ULIST .u8 32 x) _ (fun w h => (hS w h).2) Tryz.underlying26 rfl (by rw [ULIST_length]; exact info_hash)) hww t8
    have t6 : wpAnyH Tryz.prog .any MS6OPS Q S 3 #[true, true, true, true, true, true, false, false, false] { tmps := #[.slice (some ⟨b, o, none⟩) n c, .slice (some ⟨b', o', none⟩) n c', u2, u3, u4, .int .i64 (i : Int), u6, u7, u8, u9, u10, u11, u12, u13, u14, u15, u16, .slice (some ⟨b, o, none⟩) n c, .int .i64 (i : Int), .pointer (some ⟨b, (o + i * 32), none⟩), .agg (UARR .u8 32 x), .slice (some ⟨b', o', none⟩) n c', .int .i64 (i : Int), u23, u24, u25], defers := [] } W.drew :=
      wpAnyH_take (i := 6) (oi := { dst := some 23, op := Op.indexAddr 23 (Operand.tmp 21) (Operand.tmp 22), type := 0, pos := "help.go:34", after := #[{ on := 4, ground := Ground.data }, { on := 5, ground := Ground.data }], guard := none }) (v := .pointer (some ⟨b', (o' + i * 32), none⟩)) rfl (by kernel_rfl) (by kernel_rfl) (by kernel_rfl) (fun _ _ _ h => hQ _ _ _ _ _ h) (Yields.yieldsIf (Or.inl ⟨by rfl, fun W => by go_simp⟩)) hww t7
    have t5 : wpAnyH Tryz.prog .any MS6OPS Q S 4 #[true, true, true, true, true, false, false, false, false] { tmps := #[.slice (some ⟨b, o, none⟩) n c, .slice (some ⟨b', o', none⟩) n c', u2, u3, u4, .int .i64 (i : Int), u6, u7, u8, u9, u10, u11, u12, u13, u14, u15, u16, .slice (some ⟨b, o, none⟩) n c, .int .i64 (i : Int), .pointer (some ⟨b, (o + i * 32), none⟩), .agg (UARR .u8 32 x), .slice (some ⟨b', o', none⟩) n c', u22, u23, u24, u25], defers := [] } W.drew :=
      wpAnyH_take (i := 5) (oi := { dst := some 22, op := Op.move (Operand.tmp 5), type := 3, pos := "help.go:34", after := #[], guard := none }) (v := .int .i64 (i : Int)) rfl (by kernel_rfl) (by kernel_rfl) (by kernel_rfl) (fun _ _ _ h => hQ _ _ _ _ _ h) (Yields.yieldsIf (Or.inl ⟨by rfl, fun W => by go_simp⟩)) hww t6
    have t4 : wpAnyH Tryz.prog .any MS6OPS Q S 5 #[true, true, true, true, false, false, false, false, false] { tmps := #[.slice (some ⟨b, o, none⟩) n c, .slice (some ⟨b', o', none⟩) n c', u2, u3, u4, .int .i64 (i : Int), u6, u7, u8, u9, u10, u11, u12, u13, u14, u15, u16, .slice (some ⟨b, o, none⟩) n c, .int .i64 (i : Int), .pointer (some ⟨b, (o + i * 32), none⟩), .agg (UARR .u8 32 x), u21, u22, u23, u24, u25], defers := [] } W.drew :=
      wpAnyH_take (i := 4) (oi := { dst := some 21, op := Op.move (Operand.tmp 1), type := 23, pos := "help.go:34", after := #[], guard := none }) (v := .slice (some ⟨b', o', none⟩) n c') rfl (by kernel_rfl) (by kernel_rfl) (by kernel_rfl) (fun _ _ _ h => hQ _ _ _ _ _ h) (Yields.yieldsIf (Or.inl ⟨by rfl, fun W => by go_simp⟩)) hww t5
    have t3 : wpAnyH Tryz.prog .any MS6OPS Q S 6 #[true, true, true, false, false, false, false, false, false] { tmps := #[.slice (some ⟨b, o, none⟩) n c, .slice (some ⟨b', o', none⟩) n c', u2, u3, u4, .int .i64 (i : Int), u6, u7, u8, u9, u10, u11, u12, u13, u14, u15, u16, .slice (some ⟨b, o, none⟩) n c, .int .i64 (i : Int), .pointer (some ⟨b, (o + i * 32), none⟩), u20, u21, u22, u23, u24, u25], defers := [] } W.drew :=
      wpAnyH_take (i := 3) (oi := { dst := some 20, op := Op.load 26 (Operand.tmp 19), type := 26, pos := "help.go:34", after := #[{ on := 2, ground := Ground.data }], guard := none }) (v := .agg (UARR .u8 32 x)) rfl (by kernel_rfl) (by kernel_rfl) (by kernel_rfl) (fun _ _ _ h => hQ _ _ _ _ _ h) (yieldsIf_load_mid (by rfl) 26 (.tmp 19) rfl b (o + i * 32) rfl (ULIST .u8 32 x) _ (fun w h => (hS w h).1) Tryz.underlying26 rfl (by rw [ULIST_length]; exact info_hash)) hww t4
    have t2 : wpAnyH Tryz.prog .any MS6OPS Q S 7 #[true, true, false, false, false, false, false, false, false] { tmps := #[.slice (some ⟨b, o, none⟩) n c, .slice (some ⟨b', o', none⟩) n c', u2, u3, u4, .int .i64 (i : Int), u6, u7, u8, u9, u10, u11, u12, u13, u14, u15, u16, .slice (some ⟨b, o, none⟩) n c, .int .i64 (i : Int), u19, u20, u21, u22, u23, u24, u25], defers := [] } W.drew :=
      wpAnyH_take (i := 2) (oi := { dst := some 19, op := Op.indexAddr 23 (Operand.tmp 17) (Operand.tmp 18), type := 0, pos := "help.go:34", after := #[{ on := 0, ground := Ground.data }, { on := 1, ground := Ground.data }], guard := none }) (v := .pointer (some ⟨b, (o + i * 32), none⟩)) rfl (by kernel_rfl) (by kernel_rfl) (by kernel_rfl) (fun _ _ _ h => hQ _ _ _ _ _ h) (Yields.yieldsIf (Or.inl ⟨by rfl, fun W => by go_simp⟩)) hww t3
    have t1 : wpAnyH Tryz.prog .any MS6OPS Q S 8 #[true, false, false, false, false, false, false, false, false] { tmps := #[.slice (some ⟨b, o, none⟩) n c, .slice (some ⟨b', o', none⟩) n c', u2, u3, u4, .int .i64 (i : Int), u6, u7, u8, u9, u10, u11, u12, u13, u14, u15, u16, .slice (some ⟨b, o, none⟩) n c, u18, u19, u20, u21, u22, u23, u24, u25], defers := [] } W.drew :=
      wpAnyH_take (i := 1) (oi := { dst := some 18, op := Op.move (Operand.tmp 5), type := 3, pos := "help.go:34", after := #[], guard := none }) (v := .int .i64 (i : Int)) rfl (by kernel_rfl) (by kernel_rfl) (by kernel_rfl) (fun _ _ _ h => hQ _ _ _ _ _ h) (Yields.yieldsIf (Or.inl ⟨by rfl, fun W => by go_simp⟩)) hww t2
    have t0 : wpAnyH Tryz.prog .any MS6OPS Q S 9 #[false, false, false, false, false, false, false, false, false] { tmps := #[.slice (some ⟨b, o, none⟩) n c, .slice (some ⟨b', o', none⟩) n c', u2, u3, u4, .int .i64 (i : Int), u6, u7, u8, u9, u10, u11, u12, u13, u14, u15, u16, u17, u18, u19, u20, u21, u22, u23, u24, u25], defers := [] } W.drew :=
      wpAnyH_take (i := 0) (oi := { dst := some 17, op := Op.move (Operand.tmp 0), type := 23, pos := "help.go:34", after := #[], guard := none }) (v := .slice (some ⟨b, o, none⟩) n c) rfl (by kernel_rfl) (by kernel_rfl) (by kernel_rfl) (fun _ _ _ h => hQ _ _ _ _ _ h) (Yields.yieldsIf (Or.inl ⟨by rfl, fun W => by go_simp⟩)) hww t1
    exact t0
  exact wp_region_held_drew (S := S) (by kernel_rfl) hww (fun _ => z)
set_option maxHeartbeats 1000000 in
theorem same6_yes (a a' : Option Addr) (n c c' : Nat) (hs : Nat → Nat → Nat) (w : World) (hn : n ≤ 2 ^ 20) (h1 : HASHES w a n hs) (h2 : HASHES w a' n hs) : Calls Tryz.prog 8 #[.slice a n c, .slice a' n c'] w fun e w' => e = .returned (.bool true) ∧ Below w.heap.size w w' := by
  have H : Aside (HASHES w a n hs ∧ HASHES w a' n hs ∧ n ≤ 2 ^ 20) := ⟨h1, h2, hn⟩
  clear h1 h2 hn
  go_enter Tryz.func8, Tryz.ntmps8
  go_wp2_with fail
  go_loopg [5] n (fun r s5 wx => ∃ i : Nat, s5 = .int .i64 (i : Int) ∧ Aside (i + r = n ∧ Below w.heap.size w wx))
  case atStart => exact ⟨0, rfl, by omega, Below.refl _ _⟩
  case round =>
    obtain ⟨i, rfl, A⟩ := hrel
    cases gk with
    | zero =>
      obtain rfl : i = n := by have := A.out.1; omega
      have hlt : ¬ (i : Int) < (i : Int) := by omega
      go_wp2_with fail
      go_ret
      exact ⟨rfl, A.out.2⟩
    | succ r =>
      have hin : i < n := by have := A.out.1; omega
      have hlt : (i : Int) < (n : Int) := by omega
      obtain ⟨b, o, rfl, hb, hr⟩ := H.out.1 (by omega)
      obtain ⟨b', o', rfl, hb', hr'⟩ := H.out.2.1 (by omega)
      have ei : wrap64 ((i : Int) + 1) = ((i + 1 : Nat) : Int) := by have := H.out.2.2; unfold wrap64; omega
      have A2 : Aside (i + 1 + r = n ∧ Below w.heap.size w wr ∧ w.rangeAt b (o + i * 32) (ULIST .u8 32 (hs i)) ∧ w.rangeAt b' (o' + i * 32) (ULIST .u8 32 (hs i)) ∧ b < w.heap.size ∧ b' < w.heap.size) := ⟨by have := A.out.1; clear ei; omega, A.out.2, hr i hin, hr' i hin, hb, hb'⟩
      clear A hb hb' hr hr' hin
      go_upto_region 6 with fail
      refine same6_region wr b o n c b' o' c' i (hs i) hlt (fun W => Below wr.heap.size wr W) (Below.refl _ _).drew (fun W hb => ?_) (equal_same _) (fun _ _ _ _ _ h => h) ?_
      · have h2 := A2.out.2.1.trans (hb.mono A2.out.2.1.size)
        exact ⟨range_below A2.out.2.2.1 h2 A2.out.2.2.2.2.1, range_below A2.out.2.2.2.1 h2 A2.out.2.2.2.2.2⟩
      · intro W hb
        have A3 : Aside (i + 1 + r = n ∧ Below w.heap.size w W) := ⟨A2.out.1, A2.out.2.1.trans (hb.mono A2.out.2.1.size)⟩
        clear hb A2
        go_wp2_with fail
        go_roundg r
        case measure => exact Nat.lt_succ_self _
        case rel => exact ⟨i + 1, by first | rfl | (rw [ei]), A3.out⟩
end Go.Proofs.YtdmbmphdiaepdaaGreatDoor.HX

/- The law MmrGrows returns true. -/
namespace Go.Proofs.YtdmbmphdiaepdaaGreatDoor.HX
open Go.RowKit
set_option maxRecDepth 100000

theorem perf_there (d : Int) : ∀ (H : Nat) (f : Nat → Nat → Nat), ∃ l, PERF d H f l
  | 0, f => ⟨_, PERF.one d f⟩
  | H + 1, f => by
    obtain ⟨l, hl⟩ := perf_there d H f
    obtain ⟨r, hr⟩ := perf_there d H (SHF H f)
    exact ⟨_, hl.join hr⟩
theorem place_under {n p : Nat} (hn : n ≤ 2 ^ 20) (hp : p < NODES n) : ∃ h k, p = PLC h k ∧ (k + 1) * 2 ^ h ≤ n := by
  have hb := NODES_bound (n := n) (h := 21) (by omega)
  obtain ⟨h, k, hN, e⟩ := Node.of (p := p) (by omega)
  refine ⟨h, k, e, ?_⟩
  rcases Nat.lt_or_ge n ((k + 1) * 2 ^ h) with h1 | h1
  · have h2 := PLC_last h k
    have h3 : NODES n ≤ NODES ((k + 1) * 2 ^ h - 1) := NODES_le (by omega)
    omega
  · exact h1
theorem PERF.same {d : Int} {H : Nat} {f : Nat → Nat → Nat} {l l' : List (Nat → Nat)} (hH : H ≤ 7) (h : PERF d H f l) (h' : PERF d H f l') : l = l' := by
  have h7 : 2 ^ H ≤ 2 ^ 7 := Nat.pow_le_pow_right (by decide) hH
  apply List.ext_getElem?
  intro i
  by_cases hi : i < NODES (2 ^ H)
  · obtain ⟨a, k, rfl, hu⟩ := place_under (n := 2 ^ H) (by omega) hi
    rw [h.at' a k hu, h'.at' a k hu]
  · rw [NODES_pow] at hi
    rw [List.getElem?_eq_none (by rw [h.len]; omega), List.getElem?_eq_none (by rw [h'.len]; omega)]
/-- a list that was answered. -/
def ANSG (w w' : World) (N : Nat) (E : Int) (ls : Nat → Nat → Nat) (e : Ending) : Prop := ∃ a c, e = .returned (.tuple #[.slice a N c, .int .i64 E]) ∧ w'.ownsRow w.heap.size 26 32 (.slice a N c) N (HL (FSTS ls N)) ∧ Below w.heap.size w w'
/-- what both Grows answer. -/
theorem grows_both (d : Int) (n : Nat) (hn : n ≤ 200) (hs : Nat → Nat → Nat) (h8 : ∀ i, i < n → ∀ j, hs i j < 256) : ∃ N E ls, N ≤ 400 ∧
    (∀ (a : Option Addr) (c : Nat) (W : World), n ≤ c → HASHES W a n hs → Calls Tryz.prog 11 #[.int .i64 d, .slice a n c] W fun e w' => ANSG W w' N E ls e) ∧
    (∀ (a : Option Addr) (c : Nat) (W : World), HASHES W a n hs → Tabled W → Calls Tryz.prog 12 #[.int .i64 d, .slice a n c] W fun e w' => ANSG W w' N E ls e) := by
  by_cases hp : POP n = 1
  · obtain ⟨H, hH, rfl⟩ := pow_of_pop hn hp
    obtain ⟨l0, hl0⟩ := perf_there d H hs
    have h7 : 2 ^ H ≤ 2 ^ 7 := Nat.pow_le_pow_right (by decide) hH
    refine ⟨2 * 2 ^ H - 1, 0, fun i => l0.getD i fun _ => 0, by omega, fun a c W hc hHs => ?_, fun a c W hHs hX => ?_⟩
    · refine (refgrow_ok d H hH a c hs W hc hHs h8).mono ?_
      rintro e w' ⟨v, l, rfl, g⟩
      obtain rfl := PERF.same hH g.perf hl0
      obtain ⟨a', c', rfl⟩ := own_shape g.own
      refine ⟨a', c', rfl, ?_, g.below⟩
      rw [FSTS_list g.perf.len]
      exact g.own
    · refine (grow_ok d a (2 ^ H) c hn hp hs W hHs h8 hX).mono ?_
      rintro e w' ⟨v, l, rfl, g⟩
      have hp2 : PERF d H hs l := ⟨by rw [g.len, NODES_pow], g.old⟩
      obtain rfl := PERF.same hH hp2 hl0
      have ho := g.own
      rw [NODES_pow] at ho
      obtain ⟨a', c', rfl⟩ := own_shape ho
      refine ⟨a', c', rfl, ?_, g.below⟩
      rw [FSTS_list hp2.len]
      exact ho
  · refine ⟨0, 70, fun _ _ => 0, by omega, fun a c W _ _ => ?_, fun a c W _ _ => ?_⟩
    · refine (refgrow_not d a n c hn hp W).mono ?_
      rintro e w' ⟨rfl, rfl⟩
      exact ⟨none, 0, rfl, ⟨rfl, .inl ⟨rfl, rfl⟩⟩, Below.refl _ _⟩
    · refine (grow_not d a n c hn hp W).mono ?_
      rintro e w' ⟨rfl, rfl⟩
      exact ⟨none, 0, rfl, ⟨rfl, .inl ⟨rfl, rfl⟩⟩, Below.refl _ _⟩
theorem own_lists {w : World} {B n c : Nat} {a : Option Addr} {hs : Nat → Nat → Nat} (h : w.ownsRow B 26 32 (.slice a n c) n (HL (FSTS hs n))) : HASHES w a n hs := by
  obtain ⟨a, c, e, hH⟩ := own_hashes h (FSTS_length hs n)
  cases e
  intro hk
  obtain ⟨b, o, e2, hl, hr⟩ := hH hk
  refine ⟨b, o, e2, hl, fun j hj => ?_⟩
  have h1 := hr j hj
  dsimp only at h1
  rwa [FSTS_get hs hj] at h1
theorem own_aside {w w' : World} {B : Nat} {v : Value} {n : Nat} {xs : List Value} {ob : Option Nat} (h : w.ownsRow B 26 32 v n xs) (hg : w.grownBy w' ob) (hne : ∀ k, v.ownBlock = some k → ob ≠ some k) : w'.ownsRow B 26 32 v n xs := by
  refine ⟨h.1, h.2.imp id ?_⟩
  rintro ⟨g', c, cur, rfl, b, r, rest⟩
  exact ⟨g', c, cur, rfl, b, (hg.block g' (Array.getElem?_eq_some_iff.1 r).1 (fun e => hne g' rfl e.symm)).trans r, rest⟩
theorem grows_long (d : Int) (a : Option Addr) (k c : Nat) (w : World) (hn : (200 : Int) < (k : Int)) : Calls Tryz.prog 4 #[.int .i64 d, .slice a k c] w fun e w' => e = .returned (.bool true) ∧ Below w.heap.size w w' := by
  go_enter Tryz.func4, Tryz.ntmps4
  go_wp2
  go_ret
  exact ⟨rfl, Below.refl _ _⟩
set_option maxHeartbeats 4000000 in
theorem grows_core (d : Int) (a : Option Addr) (k c : Nat) (hs : Nat → Nat → Nat) (w : World) (hk : k ≤ 200) (hkc : k ≤ c) (hH : HASHES w a k hs) (h8 : ∀ i, i < k → ∀ j, hs i j < 256) (hc : a = none → c = 0 ∧ k = 0) (hT : Go.Proofs.YtdmbmphdiaepdaaGreatDoor.Tabled w) (hX : Tabled w) : Calls Tryz.prog 4 #[.int .i64 d, .slice a k c] w fun e w' => e = .returned (.bool true) ∧ Below w.heap.size w w' := by
  have hlong : ¬ (200 : Int) < (k : Int) := by omega
  have cr := row6_ok a k c (by omega) hc hs w hH
  obtain ⟨N, E, ls, hN, hR, hG⟩ := grows_both d k hk hs h8
  have HA : Aside (HASHES w a k hs ∧ k ≤ 200 ∧ N ≤ 400) := ⟨hH, hk, hN⟩
  have HR : Aside (∀ (a : Option Addr) (c : Nat) (W : World), k ≤ c → HASHES W a k hs → Calls Tryz.prog 11 #[.int .i64 d, .slice a k c] W fun e w' => ANSG W w' N E ls e) := hR
  have HG : Aside (∀ (a : Option Addr) (c : Nat) (W : World), HASHES W a k hs → Tabled W → Calls Tryz.prog 12 #[.int .i64 d, .slice a k c] W fun e w' => ANSG W w' N E ls e) := hG
  have tab : Aside (∀ W, Below w.heap.size w W → Go.Proofs.YtdmbmphdiaepdaaGreatDoor.Tabled W ∧ Tabled W) := fun W hb => ⟨hT.below (by have := hX.2.2; omega) hb, hX.below hb⟩
  have KC : Aside (k ≤ c) := hkc
  clear hk hH h8 hc hT hX hR hG hN hkc
  go_enter Tryz.func4, Tryz.ntmps4
  go_wp2_with fail
  refine cr.mono ?_
  rintro e w1 ⟨g, cg, rfl, r1, r2, r3, r4, r5⟩
  clear cr
  have A1 : Aside (w1.ownsRow w.heap.size 26 32 (.slice (some ⟨g, 0, none⟩) k cg) k (HL (FSTS hs k)) ∧ k + 1 ≤ cg ∧ w1.rangeAt g (k * 32) (ULIST .u8 32 MRKF) ∧ g < w1.heap.size ∧ Below w.heap.size w w1) := ⟨r1, r2, r3, r4, r5⟩
  have cb := HR.out a c w1 KC.out (HA.out.1.below r5)
  clear r1 r2 r3 r4 r5 HR
  go_wp2_with fail
  refine cb.mono ?_
  rintro e w2 ⟨a6, c6, rfl, o6, hb2⟩
  clear cb
  -- all that stands ahead of what is written over
  have A2 : Aside (Below w.heap.size w w2 ∧ HASHES w2 (some ⟨g, 0, none⟩) k hs ∧ HASHES w2 a k hs ∧ w2.rangeAt g (k * 32) (ULIST .u8 32 MRKF) ∧ g < w2.heap.size ∧ HASHES w2 a6 N ls) := ⟨A1.out.2.2.2.2.trans (hb2.mono A1.out.2.2.2.2.size), (own_lists A1.out.1).below hb2, (HA.out.1.below A1.out.2.2.2.2).below hb2, range_below A1.out.2.2.1 hb2 A1.out.2.2.2.1, Nat.lt_of_lt_of_le A1.out.2.2.2.1 hb2.size, own_lists o6⟩
  have CG : Aside (k + 1 ≤ cg) := A1.out.2.1
  clear o6 hb2 A1
  have cb := HG.out (some ⟨g, 0, none⟩) cg w2 A2.out.2.1 (tab.out w2 A2.out.1).2
  go_wp2_with fail
  refine cb.mono ?_
  rintro e w3 ⟨a8, c8, rfl, o8, hb3⟩
  clear cb
  have A3 : Aside (w3.ownsRow w2.heap.size 26 32 (.slice a8 N c8) N (HL (FSTS ls N)) ∧ Below w2.heap.size w2 w3) := ⟨o8, hb3⟩
  have cb := HG.out (some ⟨g, 0, none⟩) cg w3 (A2.out.2.1.below hb3) (tab.out w3 (A2.out.1.trans (hb3.mono A2.out.1.size))).2
  clear o8 hb3
  go_wp2_with fail
  refine cb.mono ?_
  rintro e w4 ⟨a10, c10, rfl, o10, hb4⟩
  clear cb
  have A4 : Aside (w4.ownsRow w2.heap.size 26 32 (.slice a8 N c8) N (HL (FSTS ls N)) ∧ w4.ownsRow w3.heap.size 26 32 (.slice a10 N c10) N (HL (FSTS ls N)) ∧ Below w2.heap.size w2 w4 ∧ w2.heap.size ≤ w3.heap.size ∧ (∀ b, (Value.slice a8 N c8).ownBlock = some b → b < w3.heap.size) ∧ w3.heap.size ≤ w4.heap.size) := ⟨own_keep A3.out.1 hb4, o10, A3.out.2.trans (hb4.mono A3.out.2.size), A3.out.2.size, fun b e => (A3.out.1.lt b e).2, hb4.size⟩
  clear o10 hb4 A3
  have hN20 : N ≤ 2 ^ 20 := by have := HA.out.2.2; omega
  have hk20 : k ≤ 2 ^ 20 := by have := HA.out.2.1; omega
  have cs := same6_yes a8 a6 N c8 c6 ls w4 hN20 (own_lists A4.out.1) (A2.out.2.2.2.2.2.below A4.out.2.2.1)
  have SM : Aside ((∀ W, Below w2.heap.size w2 W → Calls Tryz.prog 8 #[.slice (some ⟨g, 0, none⟩) k cg, .slice a k c] W fun e w' => e = .returned (.bool true) ∧ Below W.heap.size W w') ∧ (∀ W, Below w2.heap.size w2 W → Calls Tryz.prog 9 #[.slice (some ⟨g, 0, none⟩) k cg] W fun e w' => e = .returned (.bool true) ∧ W = w')) := ⟨fun W hb => same6_yes (some ⟨g, 0, none⟩) a k cg c hs W hk20 (A2.out.2.1.below hb) (A2.out.2.2.1.below hb), fun W hb => marked6_ok g k cg (by omega) CG.out W (range_below A2.out.2.2.2.1 hb A2.out.2.2.2.2.1)⟩
  go_wp2_with fail
  refine cs.mono ?_
  rintro e w5 ⟨rfl, hb5⟩
  clear cs
  have cs := same6_yes a10 a6 N c10 c6 ls w5 hN20 ((own_lists A4.out.2.1).below hb5) ((A2.out.2.2.2.2.2.below A4.out.2.2.1).below hb5)
  have B5 : Aside (Below w4.heap.size w4 w5) := hb5
  clear hb5 hN20 hk20
  go_wp2_with fail
  refine cs.mono ?_
  rintro e w6 ⟨rfl, hb6⟩
  clear cs
  have B6 : Aside (Below w4.heap.size w4 w6) := B5.out.trans (hb6.mono B5.out.size)
  have cs := SM.out.1 w6 (A4.out.2.2.1.trans (B6.out.mono A4.out.2.2.1.size))
  clear hb6 B5
  go_wp2_with fail
  refine cs.mono ?_
  rintro e w7 ⟨rfl, hb7⟩
  clear cs
  have B7 : Aside (Below w4.heap.size w4 w7) := B6.out.trans (hb7.mono B6.out.size)
  have cs := SM.out.2 w7 (A4.out.2.2.1.trans (B7.out.mono A4.out.2.2.1.size))
  clear hb7 B6
  go_wp2_with fail
  refine cs.mono ?_
  rintro e w8 ⟨rfl, rfl⟩
  clear cs
  have A7 : Aside (w7.ownsRow w2.heap.size 26 32 (.slice a8 N c8) N (HL (FSTS ls N)) ∧ w7.ownsRow w3.heap.size 26 32 (.slice a10 N c10) N (HL (FSTS ls N)) ∧ Below w2.heap.size w2 w7 ∧ w2.heap.size ≤ w3.heap.size ∧ w3.heap.size ≤ w7.heap.size ∧ (∀ b, (Value.slice a8 N c8).ownBlock = some b → b < w3.heap.size)) := by
    have h4 := A4.out
    refine ⟨own_keep h4.1 B7.out, own_keep h4.2.1 B7.out, h4.2.2.1.trans (B7.out.mono h4.2.2.1.size), h4.2.2.2.1, Nat.le_trans h4.2.2.2.2.2 B7.out.size, h4.2.2.2.2.1⟩
  clear A4 B7
  have cm := mark6_ok w2.heap.size (.slice a8 N c8) N ls 201 (by have := HA.out.2.2; omega) w7 A7.out.2.2.1.size A7.out.1
  go_wp2_with fail
  refine cm.mono ?_
  rintro e w9 ⟨g8, d8, rfl, o8, hg8, ht8⟩
  clear cm
  have A9 : Aside (w9.ownsRow w2.heap.size 26 32 (.slice (some ⟨g8, 0, none⟩) (N + 1 + 1) d8) (N + 1 + 1) (HL (FSTS (fun _ => MKH 201) (N + 1 + 1))) ∧ w9.ownsRow w3.heap.size 26 32 (.slice a10 N c10) N (HL (FSTS ls N)) ∧ Below w2.heap.size w2 w9 ∧ w3.heap.size ≤ w9.heap.size ∧ w2.heap.size ≤ w3.heap.size ∧ (∀ b, (Value.slice a10 N c10).ownBlock = some b → b ≠ g8)) := by
    obtain ⟨h1, h2, h3, h4, h5, h6⟩ := A7.out
    have hs := grown_size hg8
    refine ⟨o8, own_aside h2 hg8 (fun b e e2 => ?_), h3.grown hg8 h3.size (fun b e => (h1.lt b e).1), Nat.le_trans h5 hs, h4, fun b e e2 => ?_⟩
    · have := (h2.lt b e).1
      have := h6 b e2
      omega
    · have h7 := h2.lt b e
      rcases ht8 with h8 | h8
      · have := h6 g8 h8
        omega
      · omega
  clear o8 hg8 ht8 A7
  have cm := mark6_ok w3.heap.size (.slice a10 N c10) N ls 202 (by have := HA.out.2.2; omega) w9 A9.out.2.2.2.1 A9.out.2.1
  go_wp2_with fail
  refine cm.mono ?_
  rintro e w10 ⟨g10, d10, rfl, o10, hg10, ht10⟩
  clear cm
  have A10 : Aside (w10.ownsRow w2.heap.size 26 32 (.slice (some ⟨g8, 0, none⟩) (N + 1 + 1) d8) (N + 1 + 1) (HL (FSTS (fun _ => MKH 201) (N + 1 + 1))) ∧ w10.ownsRow w3.heap.size 26 32 (.slice (some ⟨g10, 0, none⟩) (N + 1 + 1) d10) (N + 1 + 1) (HL (FSTS (fun _ => MKH 202) (N + 1 + 1))) ∧ Below w2.heap.size w2 w10) := by
    obtain ⟨h1, h2, h3, h4, h5, h6⟩ := A9.out
    refine ⟨own_aside h1 hg10 (fun b e e2 => h6 b e2 (by simpa [Value.ownBlock] using e.symm)), o10, h3.grown hg10 h3.size (fun b e => Nat.le_trans h5 (h2.lt b e).1)⟩
  clear o10 hg10 ht10 A9
  have cl := all6_ok w2.heap.size g8 (N + 1 + 1) d8 201 (by have := HA.out.2.2; omega) w10 A10.out.1
  have cy := all6_ok w3.heap.size g10 (N + 1 + 1) d10 202 (by have := HA.out.2.2; omega) w10 A10.out.2.1
  have cs := SM.out.1 w10 A10.out.2.2
  have A11 : Aside (Below w2.heap.size w2 w10) := A10.out.2.2
  clear A10
  go_wp2_with fail
  refine cl.mono ?_
  rintro e w11 ⟨rfl, rfl⟩
  clear cl
  go_wp2_with fail
  refine cy.mono ?_
  rintro e w11 ⟨rfl, rfl⟩
  clear cy
  go_wp2_with fail
  refine cs.mono ?_
  rintro e w11 ⟨rfl, hb11⟩
  clear cs
  have B11 : Aside (Below w2.heap.size w2 w11) := A11.out.trans (hb11.mono A11.out.size)
  have cs := SM.out.2 w11 B11.out
  clear hb11 A11 SM
  go_wp2_with fail
  refine cs.mono ?_
  rintro e w12 ⟨rfl, rfl⟩
  clear cs
  have cb := HG.out (some ⟨g, 0, none⟩) cg w11 (A2.out.2.1.below B11.out) (tab.out w11 (A2.out.1.trans (B11.out.mono A2.out.1.size))).2
  clear HG
  go_wp2_with fail
  refine cb.mono ?_
  rintro e w12 ⟨a14, c14, rfl, o14, hb12⟩
  clear cb
  have B12 : Aside (Below w2.heap.size w2 w12) := B11.out.trans (hb12.mono B11.out.size)
  have cs := same6_yes a14 a6 N c14 c6 ls w12 (by have := HA.out.2.2; omega) (own_lists o14) (A2.out.2.2.2.2.2.below B12.out)
  clear o14 hb12 B11
  go_wp2_with fail
  refine cs.mono ?_
  rintro e w13 ⟨rfl, hb13⟩
  clear cs
  have B13 : Aside (Below w.heap.size w w13) := A2.out.1.trans ((B12.out.trans (hb13.mono B12.out.size)).mono A2.out.1.size)
  have ca := awake6_ok w13 (tab.out w13 B13.out).1 (tab.out w13 B13.out).2
  clear hb13 B12 A2
  go_wp2_with fail
  refine ca.mono ?_
  rintro e w14 ⟨rfl, hb14⟩
  clear ca
  have FN : Aside (Below w.heap.size w w14) := B13.out.trans (hb14.mono B13.out.size)
  clear hb14 B13
  go_wp2_with fail
  go_ret
  exact ⟨rfl, FN.out⟩
theorem mmrGrows_walk (d : Int) (a : Option Addr) (k c : Nat) (hs : Nat → Nat → Nat) (w : World) (hH : HASHES w a k hs) (h8 : ∀ i, i < k → ∀ j, hs i j < 256) (hc : k ≤ c ∧ (a = none → c = 0 ∧ k = 0)) (hT : Go.Proofs.YtdmbmphdiaepdaaGreatDoor.Tabled w) (hX : Tabled w) : Calls Tryz.prog 4 #[.int .i64 d, .slice a k c] w fun e w' => e = .returned (.bool true) ∧ Below w.heap.size w w' := by
  by_cases h : k ≤ 200
  · exact grows_core d a k c hs w h hc.1 hH h8 hc.2 hT hX
  · exact grows_long d a k c w (by omega)
end Go.Proofs.YtdmbmphdiaepdaaGreatDoor.HX

/- awake answers true: the forest of seven leaves. -/
namespace Go.Proofs.YtdmbmphdiaepdaaGreatDoor
open Go.RowKit

theorem PEAKS_seven : PEAKS 7 = [6, 9, 10] := by
  have h : HS 0 7 = [2, 1, 0] := by rw [HS_zero]; decide
  have p2 : PKP 7 2 = 6 := by
    unfold PKP PLC NODES
    simp [PC_zero]
  have p1 : PKP 7 1 = 9 := by
    unfold PKP PLC NODES
    have := PC_pow 2
    simp at this
    simp [this]
  have p0 : PKP 7 0 = 10 := by
    unfold PKP PLC NODES
    have h1 := PC_even 3
    have h2 := PC_ones 2
    simp at h1 h2
    simp [h1, h2]
  unfold PEAKS
  rw [h]
  simp [p0, p1, p2]
theorem PC_seven : PC 7 = 3 := PC_ones 3
theorem NODES_seven : NODES 7 = 11 := by
  unfold NODES
  rw [PC_seven]
theorem PLC_nine : PLC 1 2 = 9 := by
  unfold PLC NODES
  have := PC_pow 2
  simp at this
  simp [this]
/-- a list of numbers, cell by cell. -/
theorem row_at {w : World} {base g n cap : Nat} {l : List Nat} (h : w.ownsRow base 22 1 (.slice (some ⟨g, 0, none⟩) n cap) n (UCELLS l)) (i : Nat) (hi : i < l.length) : w.cell? ⟨g, i, none⟩ = some (.int .u64 (l.getD i 0 : Nat)) := by
  have hlen : l.length = n := by have := h.1; simpa [UCELLS] using this
  rw [h.cellAt i (by omega)]
  unfold UCELLS
  rw [List.getElem?_map, List.getD_eq_getElem?_getD, List.getElem?_eq_getElem hi]
  rfl
end Go.Proofs.YtdmbmphdiaepdaaGreatDoor

/- What the card's row gives the walks of layer 3: spots that came in; the table of math/bits. -/
namespace Go.Proofs.YtdmbmphdiaepdaaGreatDoor
open Go.ChangeShapes Go.WideShapes Go.ChangeAt Go.WideMaps Go.WideElems Go.RowKit
set_option maxRecDepth 100000

theorem own : ownKnob Tryz.prog.godebug = none := by kernel_rfl
theorem laidOut : laidOutB Tryz.prog = true := by kernel_rfl
theorem gTab : Tryz.prog.globalNamed "math/bits.deBruijn64tab" = some 2 := by kernel_rfl
theorem tTab : (Tryz.prog.globals[2]?).map (·.type) = some 100 := by kernel_rfl
theorem tabData {H : Type} : (Rows.laid_math_bits_deBruijn64tab : DataW H) = .agg (TAB.map fun n => .lit (.int .u8 (n : Nat))) := rfl
theorem of_laid {W : World} (h : laidMetH Tryz.prog [("math/bits.deBruijn64tab", Rows.laid_math_bits_deBruijn64tab)] W) : Tabled W ∧ 0 < W.heap.size := by
  rw [MakeChecks.laidMetH_plain _ _ _ (by kernel_rfl)] at h
  obtain ⟨ps, ⟨g0, t0, cs0, f0, p0, q0, hg0, ht0, hv0, hd0, _, _⟩, _, _⟩ := h
  obtain rfl := Option.some.inj (gTab.symm.trans hg0)
  obtain rfl := Option.some.inj (tTab.symm.trans ht0)
  obtain ⟨xs, m1, rfl, hx1, hlen, hn, hel⟩ := DataW.trod_array Tryz.underlying100 hd0
  have c5 : Tryz.prog.cellsOf 5 = 1 := by kernel_rfl
  simp only [Prod.mk.injEq] at hx1
  have hx := hx1.1
  rw [tabData] at hx
  simp only [DataW.agg.injEq] at hx
  have T : Tabled W := fun i hi => by
    have h0 := hel i hi
    have hi' : i < xs.length := by omega
    rw [List.getElem?_eq_getElem hi', c5, Nat.mul_one] at h0
    obtain ⟨k, e1, e2, _⟩ := DataW.trod_int Tryz.underlying5 h0
    have hk : (k : Int) = ((TAB.getD i 0 : Nat) : Int) := by
      have hz := congrArg (fun l => l[i]?) hx
      have hT : i < TAB.length := hi
      simp only [List.getElem?_map, List.getElem?_eq_getElem hi', List.getElem?_eq_getElem hT, Option.map_some, e2] at hz
      simp at hz
      rw [List.getD_eq_getElem?_getD, List.getElem?_eq_getElem hT]
      simpa using hz.symm
    have hv := World.var?_cell hg0 hv0 i
    rw [hv, ← hk]
    have := congrArg (fun l => l[0]?) e1
    simp at this
    simpa using this
  refine ⟨T, ?_⟩
  have := T 0 (by decide)
  exact Nat.lt_of_le_of_lt (Nat.zero_le _) (World.block_lt_of_cell? W _ this)
/-- a spot that came in. -/
theorem open_spot {H : Type} {enc : TypeId × Value → H} {W : World} {r : Reach} {b0 base : Nat} {sp : Nat → Bool} {held : Bool} {v : Value} {d : DataW H} {ps : List MemPlace}
    (hval : Value.okWide Tryz.prog W r b0 61 v) (hd : DataW.Trod enc Tryz.prog W base sp held 61 v d ps) : ∃ h k : Nat, h < 256 ∧ k < 2 ^ 64 ∧ v = SPOT h k := by
  simp only [Value.okWide, Tryz.underlying61] at hval
  obtain ⟨cs, rfl, hsz, _⟩ := hval
  obtain ⟨fuel, hf⟩ := hd
  obtain ⟨y0, y1, m, _, hl, h0, h1⟩ := trod_struct2 Tryz.underlying61 hf
  obtain ⟨a, e1, _, e3⟩ := DataW.trod_int Tryz.underlying5 h0
  obtain ⟨b, f1, _, f3⟩ := DataW.trod_int Tryz.underlying22 h1
  have c1 : Tryz.prog.cellsOf 5 = 1 := by kernel_rfl
  have c2 : Tryz.prog.cellsOf 22 = 1 := by kernel_rfl
  have c3 : Tryz.prog.cellsOf 61 = 2 := by kernel_rfl
  rw [c3] at hsz
  rw [c1] at e1
  rw [c2] at f1
  have ha := bounds_u8 e3
  have hb := wf_u64 f3
  obtain ⟨x, y, rfl⟩ : ∃ x y, cs = #[x, y] := by
    obtain ⟨l⟩ := cs
    match l, hsz with
    | [x, y], _ => exact ⟨x, y, rfl⟩
  simp [Value.cells] at e1 f1
  subst e1 f1
  refine ⟨a.toNat, b.toNat, by omega, by omega, ?_⟩
  rw [SPOT, Int.toNat_of_nonneg (by omega), Int.toNat_of_nonneg (by omega)]
end Go.Proofs.YtdmbmphdiaepdaaGreatDoor
