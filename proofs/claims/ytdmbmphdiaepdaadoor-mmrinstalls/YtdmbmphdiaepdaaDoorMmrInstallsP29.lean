/- Texts of MmrInstalls, one behind the other: MmrSame. -/
import Derived.Test.YtdmbmphdiaepdaaDoorMmrInstallsP24
/- massiflaw6.same, where the two lists are the same. -/
namespace Go.Proofs.YtdmbmphdiaepdaaDoor.HX
open Go.RowKit
set_option maxRecDepth 100000

def MS6OPS : Array Oper := #[{ dst := some 17, op := Op.move (Operand.tmp 0), type := 22, pos := "help.go:34", after := #[], guard := none }, { dst := some 18, op := Op.move (Operand.tmp 5), type := 3, pos := "help.go:34", after := #[], guard := none }, { dst := some 19, op := Op.indexAddr 22 (Operand.tmp 17) (Operand.tmp 18), type := 0, pos := "help.go:34", after := #[{ on := 0, ground := Ground.data }, { on := 1, ground := Ground.data }], guard := none }, { dst := some 20, op := Op.load 30 (Operand.tmp 19), type := 30, pos := "help.go:34", after := #[{ on := 2, ground := Ground.data }], guard := none }, { dst := some 21, op := Op.move (Operand.tmp 1), type := 22, pos := "help.go:34", after := #[], guard := none }, { dst := some 22, op := Op.move (Operand.tmp 5), type := 3, pos := "help.go:34", after := #[], guard := none }, { dst := some 23, op := Op.indexAddr 22 (Operand.tmp 21) (Operand.tmp 22), type := 0, pos := "help.go:34", after := #[{ on := 4, ground := Ground.data }, { on := 5, ground := Ground.data }], guard := none }, { dst := some 24, op := Op.load 30 (Operand.tmp 23), type := 30, pos := "help.go:34", after := #[{ on := 6, ground := Ground.data }], guard := none }, { dst := some 25, op := Op.binOp BinOp.neq 30 (Operand.tmp 20) (Operand.tmp 24) 30, type := 4, pos := "help.go:34", after := #[{ on := 3, ground := Ground.data }, { on := 7, ground := Ground.data }], guard := none }]
set_option maxHeartbeats 2000000 in
theorem same6_region {Q : Exit → Act → World → Prop} {u2 u3 u4 u6 u7 u8 u9 u10 u11 u12 u13 u14 u15 u16 u17 u18 u19 u20 u21 u22 u23 u24 u25 : Value} (W : World) (b o n c b' o' c' i : Nat) (x : Nat → Nat) (hi : (i : Int) < (n : Int)) (S : World → Prop) (h0 : S W.drew) (hS : ∀ w, S w → w.rangeAt b (o + i * 32) (ULIST .u8 32 x) ∧ w.rangeAt b' (o' + i * 32) (ULIST .u8 32 x)) (qx : ∀ w, (Op.equalIn 10000 30 (.agg (UARR .u8 32 x)) (.agg (UARR .u8 32 x))).run Tryd.prog w = .ok true w) (hQ : ∀ c (a : Act) (t : Tmp) (v : Value) w, Q (.panic c) (a.put (some t) v) w → Q (.panic c) a w)
    (hfin : ∀ (w : World), (S w) → Q .normal { tmps := #[.slice (some ⟨b, o, none⟩) n c, .slice (some ⟨b', o', none⟩) n c', u2, u3, u4, .int .i64 (i : Int), u6, u7, u8, u9, u10, u11, u12, u13, u14, u15, u16, .slice (some ⟨b, o, none⟩) n c, .int .i64 (i : Int), .pointer (some ⟨b, (o + i * 32), none⟩), .agg (UARR .u8 32 x), .slice (some ⟨b', o', none⟩) n c', .int .i64 (i : Int), .pointer (some ⟨b', (o' + i * 32), none⟩), .agg (UARR .u8 32 x), .bool false], defers := [] } w) : (Code.region 6 MS6OPS true).wp Tryd.prog Q { tmps := #[.slice (some ⟨b, o, none⟩) n c, .slice (some ⟨b', o', none⟩) n c', u2, u3, u4, .int .i64 (i : Int), u6, u7, u8, u9, u10, u11, u12, u13, u14, u15, u16, u17, u18, u19, u20, u21, u22, u23, u24, u25], defers := [] } W := by
  have k : ∀ (w : World), (S w) → wpAnyH Tryd.prog .any MS6OPS Q S 0 #[true, true, true, true, true, true, true, true, true] { tmps := #[.slice (some ⟨b, o, none⟩) n c, .slice (some ⟨b', o', none⟩) n c', u2, u3, u4, .int .i64 (i : Int), u6, u7, u8, u9, u10, u11, u12, u13, u14, u15, u16, .slice (some ⟨b, o, none⟩) n c, .int .i64 (i : Int), .pointer (some ⟨b, (o + i * 32), none⟩), .agg (UARR .u8 32 x), .slice (some ⟨b', o', none⟩) n c', .int .i64 (i : Int), .pointer (some ⟨b', (o' + i * 32), none⟩), .agg (UARR .u8 32 x), .bool false], defers := [] } w := fun  w hp => by
    exact wpAnyH_done (by kernel_rfl) (hfin  w hp) _
  have hp := h0
  have hww : S W.drew := hp
  have last := k W.drew hp
  have z : wpAnyH Tryd.prog .any MS6OPS Q S 9 #[false, false, false, false, false, false, false, false, false] { tmps := #[.slice (some ⟨b, o, none⟩) n c, .slice (some ⟨b', o', none⟩) n c', u2, u3, u4, .int .i64 (i : Int), u6, u7, u8, u9, u10, u11, u12, u13, u14, u15, u16, u17, u18, u19, u20, u21, u22, u23, u24, u25], defers := [] } W.drew := by
    have t8 : wpAnyH Tryd.prog .any MS6OPS Q S 1 #[true, true, true, true, true, true, true, true, false] { tmps := #[.slice (some ⟨b, o, none⟩) n c, .slice (some ⟨b', o', none⟩) n c', u2, u3, u4, .int .i64 (i : Int), u6, u7, u8, u9, u10, u11, u12, u13, u14, u15, u16, .slice (some ⟨b, o, none⟩) n c, .int .i64 (i : Int), .pointer (some ⟨b, (o + i * 32), none⟩), .agg (UARR .u8 32 x), .slice (some ⟨b', o', none⟩) n c', .int .i64 (i : Int), .pointer (some ⟨b', (o' + i * 32), none⟩), .agg (UARR .u8 32 x), u25], defers := [] } W.drew :=
      wpAnyH_take (i := 8) (oi := { dst := some 25, op := Op.binOp BinOp.neq 30 (Operand.tmp 20) (Operand.tmp 24) 30, type := 4, pos := "help.go:34", after := #[{ on := 3, ground := Ground.data }, { on := 7, ground := Ground.data }], guard := none }) (v := .bool false) rfl (by kernel_rfl) (by kernel_rfl) (by kernel_rfl) (fun _ _ _ h => hQ _ _ _ _ _ h) (Or.inl ⟨by rfl, fun w hw => by have hx := qx w; go_simp⟩) hww last
    have t7 : wpAnyH Tryd.prog .any MS6OPS Q S 2 #[true, true, true, true, true, true, true, false, false] { tmps := #[.slice (some ⟨b, o, none⟩) n c, .slice (some ⟨b', o', none⟩) n c', u2, u3, u4, .int .i64 (i : Int), u6, u7, u8, u9, u10, u11, u12, u13, u14, u15, u16, .slice (some ⟨b, o, none⟩) n c, .int .i64 (i : Int), .pointer (some ⟨b, (o + i * 32), none⟩), .agg (UARR .u8 32 x), .slice (some ⟨b', o', none⟩) n c', .int .i64 (i : Int), .pointer (some ⟨b', (o' + i * 32), none⟩), u24, u25], defers := [] } W.drew :=
      wpAnyH_take (i := 7) (oi := { dst := some 24, op := Op.load 30 (Operand.tmp 23), type := 30, pos := "help.go:34", after := #[{ on := 6, ground := Ground.data }], guard := none }) (v := .agg (UARR .u8 32 x)) rfl (by kernel_rfl) (by kernel_rfl) (by kernel_rfl) (fun _ _ _ h => hQ _ _ _ _ _ h) (yieldsIf_load_mid (by rfl) 30 (.tmp 23) rfl b' (o' + i * 32) rfl (ULIST .u8 32 x) _ (fun w h => (hS w h).2) Tryd.underlying30 rfl (by rw [ULIST_length]; exact info_hash)) hww t8
    have t6 : wpAnyH Tryd.prog .any MS6OPS Q S 3 #[true, true, true, true, true, true, false, false, false] { tmps := #[.slice (some ⟨b, o, none⟩) n c, .slice (some ⟨b', o', none⟩) n c', u2, u3, u4, .int .i64 (i : Int), u6, u7, u8, u9, u10, u11, u12, u13, u14, u15, u16, .slice (some ⟨b, o, none⟩) n c, .int .i64 (i : Int), .pointer (some ⟨b, (o + i * 32), none⟩), .agg (UARR .u8 32 x), .slice (some ⟨b', o', none⟩) n c', .int .i64 (i : Int), u23, u24, u25], defers := [] } W.drew :=
      wpAnyH_take (i := 6) (oi := { dst := some 23, op := Op.indexAddr 22 (Operand.tmp 21) (Operand.tmp 22), type := 0, pos := "help.go:34", after := #[{ on := 4, ground := Ground.data }, { on := 5, ground := Ground.data }], guard := none }) (v := .pointer (some ⟨b', (o' + i * 32), none⟩)) rfl (by kernel_rfl) (by kernel_rfl) (by kernel_rfl) (fun _ _ _ h => hQ _ _ _ _ _ h) (Yields.yieldsIf (Or.inl ⟨by rfl, fun W => by go_simp⟩)) hww t7
    have t5 : wpAnyH Tryd.prog .any MS6OPS Q S 4 #[true, true, true, true, true, false, false, false, false] { tmps := #[.slice (some ⟨b, o, none⟩) n c, .slice (some ⟨b', o', none⟩) n c', u2, u3, u4, .int .i64 (i : Int), u6, u7, u8, u9, u10, u11, u12, u13, u14, u15, u16, .slice (some ⟨b, o, none⟩) n c, .int .i64 (i : Int), .pointer (some ⟨b, (o + i * 32), none⟩), .agg (UARR .u8 32 x), .slice (some ⟨b', o', none⟩) n c', u22, u23, u24, u25], defers := [] } W.drew :=
      wpAnyH_take (i := 5) (oi := { dst := some 22, op := Op.move (Operand.tmp 5), type := 3, pos := "help.go:34", after := #[], guard := none }) (v := .int .i64 (i : Int)) rfl (by kernel_rfl) (by kernel_rfl) (by kernel_rfl) (fun _ _ _ h => hQ _ _ _ _ _ h) (Yields.yieldsIf (Or.inl ⟨by rfl, fun W => by go_simp⟩)) hww t6
    have t4 : wpAnyH Tryd.prog .any MS6OPS Q S 5 #[true, true, true, true, false, false, false, false, false] { tmps := #[.slice (some ⟨b, o, none⟩) n c, .slice (some ⟨b', o', none⟩) n c', u2, u3, u4, .int .i64 (i : Int), u6, u7, u8, u9, u10, u11, u12, u13, u14, u15, u16, .slice (some ⟨b, o, none⟩) n c, .int .i64 (i : Int), .pointer (some ⟨b, (o + i * 32), none⟩), .agg (UARR .u8 32 x), u21, u22, u23, u24, u25], defers := [] } W.drew :=
      wpAnyH_take (i := 4) (oi := { dst := some 21, op := Op.move (Operand.tmp 1), type := 22, pos := "help.go:34", after := #[], guard := none }) (v := .slice (some ⟨b', o', none⟩) n c') rfl (by kernel_rfl) (by kernel_rfl) (by kernel_rfl) (fun _ _ _ h => hQ _ _ _ _ _ h) (Yields.yieldsIf (Or.inl ⟨by rfl, fun W => by go_simp⟩)) hww t5
    have t3 : wpAnyH Tryd.prog .any MS6OPS Q S 6 #[true, true, true, false, false, false, false, false, false] { tmps := #[.slice (some ⟨b, o, none⟩) n c, .slice (some ⟨b', o', none⟩) n c', u2, u3, u4, .int .i64 (i : Int), u6, u7, u8, u9, u10, u11, u12, u13, u14, u15, u16, .slice (some ⟨b, o, none⟩) n c, .int .i64 (i : Int), .pointer (some ⟨b, (o + i * 32), none⟩), u20, u21, u22, u23, u24, u25], defers := [] } W.drew :=
      wpAnyH_take (i := 3) (oi := { dst := some 20, op := Op.load 30 (Operand.tmp 19), type := 30, pos := "help.go:34", after := #[{ on := 2, ground := Ground.data }], guard := none }) (v := .agg (UARR .u8 32 x)) rfl (by kernel_rfl) (by kernel_rfl) (by kernel_rfl) (fun _ _ _ h => hQ _ _ _ _ _ h) (yieldsIf_load_mid (by rfl) 30 (.tmp 19) rfl b (o + i * 32) rfl (ULIST .u8 32 x) _ (fun w h => (hS w h).1) Tryd.underlying30 rfl (by rw [ULIST_length]; exact info_hash)) hww t4
    have t2 : wpAnyH Tryd.prog .any MS6OPS Q S 7 #[true, true, false, false, false, false, false, false, false] { tmps := #[.slice (some ⟨b, o, none⟩) n c, .slice (some ⟨b', o', none⟩) n c', u2, u3, u4, .int .i64 (i : Int), u6, u7, u8, u9, u10, u11, u12, u13, u14, u15, u16, .slice (some ⟨b, o, none⟩) n c, .int .i64 (i : Int), u19, u20, u21, u22, u23, u24, u25], defers := [] } W.drew :=
      wpAnyH_take (i := 2) (oi := { dst := some 19, op := Op.indexAddr 22 (Operand.tmp 17) (Operand.tmp 18), type := 0, pos := "help.go:34", after := #[{ on := 0, ground := Ground.data }, { on := 1, ground := Ground.data }], guard := none }) (v := .pointer (some ⟨b, (o + i * 32), none⟩)) rfl (by kernel_rfl) (by kernel_rfl) (by kernel_rfl) (fun _ _ _ h => hQ _ _ _ _ _ h) (Yields.yieldsIf (Or.inl ⟨by rfl, fun W => by go_simp⟩)) hww t3
    have t1 : wpAnyH Tryd.prog .any MS6OPS Q S 8 #[true, false, false, false, false, false, false, false, false] { tmps := #[.slice (some ⟨b, o, none⟩) n c, .slice (some ⟨b', o', none⟩) n c', u2, u3, u4, .int .i64 (i : Int), u6, u7, u8, u9, u10, u11, u12, u13, u14, u15, u16, .slice (some ⟨b, o, none⟩) n c, u18, u19, u20, u21, u22, u23, u24, u25], defers := [] } W.drew :=
      wpAnyH_take (i := 1) (oi := { dst := some 18, op := Op.move (Operand.tmp 5), type := 3, pos := "help.go:34", after := #[], guard := none }) (v := .int .i64 (i : Int)) rfl (by kernel_rfl) (by kernel_rfl) (by kernel_rfl) (fun _ _ _ h => hQ _ _ _ _ _ h) (Yields.yieldsIf (Or.inl ⟨by rfl, fun W => by go_simp⟩)) hww t2
    have t0 : wpAnyH Tryd.prog .any MS6OPS Q S 9 #[false, false, false, false, false, false, false, false, false] { tmps := #[.slice (some ⟨b, o, none⟩) n c, .slice (some ⟨b', o', none⟩) n c', u2, u3, u4, .int .i64 (i : Int), u6, u7, u8, u9, u10, u11, u12, u13, u14, u15, u16, u17, u18, u19, u20, u21, u22, u23, u24, u25], defers := [] } W.drew :=
      wpAnyH_take (i := 0) (oi := { dst := some 17, op := Op.move (Operand.tmp 0), type := 22, pos := "help.go:34", after := #[], guard := none }) (v := .slice (some ⟨b, o, none⟩) n c) rfl (by kernel_rfl) (by kernel_rfl) (by kernel_rfl) (fun _ _ _ h => hQ _ _ _ _ _ h) (Yields.yieldsIf (Or.inl ⟨by rfl, fun W => by go_simp⟩)) hww t1
    exact t0
  exact wp_region_held_drew (S := S) (by kernel_rfl) hww (fun _ => z)
set_option maxHeartbeats 1000000 in
theorem same6_yes (a a' : Option Addr) (n c c' : Nat) (hs : Nat → Nat → Nat) (w : World) (hn : n ≤ 2 ^ 20) (h1 : HASHES w a n hs) (h2 : HASHES w a' n hs) : Calls Tryd.prog 12 #[.slice a n c, .slice a' n c'] w fun e w' => e = .returned (.bool true) ∧ Below w.heap.size w w' := by
  have H : Aside (HASHES w a n hs ∧ HASHES w a' n hs ∧ n ≤ 2 ^ 20) := ⟨h1, h2, hn⟩
  clear h1 h2 hn
  go_enter Tryd.func12, Tryd.ntmps12
  go_wp2_with fail
  go_loopg [5] n (fun r s5 wx => ∃ i : Nat, s5 = .int .i64 (i : Int) ∧ Aside (i + r = n ∧ Below w.heap.size w wx))
  case atStart => exact ⟨0, rfl, by omega, Below.refl _ _⟩
  case round =>
    obtain ⟨i, rfl, A⟩ := hrel
    cases gk with
    | zero =>
      obtain rfl : i = n := by have := A.out.1; omega
      have hlt : ¬ (i : Int) < (i : Int) := by omega
      go_wp2_with fail
      go_ret
      exact ⟨rfl, A.out.2⟩
    | succ r =>
      have hin : i < n := by have := A.out.1; omega
      have hlt : (i : Int) < (n : Int) := by omega
      obtain ⟨b, o, rfl, hb, hr⟩ := H.out.1 (by omega)
      obtain ⟨b', o', rfl, hb', hr'⟩ := H.out.2.1 (by omega)
      have ei : wrap64 ((i : Int) + 1) = ((i + 1 : Nat) : Int) := by have := H.out.2.2; unfold wrap64; omega
      have A2 : Aside (i + 1 + r = n ∧ Below w.heap.size w wr ∧ w.rangeAt b (o + i * 32) (ULIST .u8 32 (hs i)) ∧ w.rangeAt b' (o' + i * 32) (ULIST .u8 32 (hs i)) ∧ b < w.heap.size ∧ b' < w.heap.size) := ⟨by have := A.out.1; clear ei; omega, A.out.2, hr i hin, hr' i hin, hb, hb'⟩
      clear A hb hb' hr hr' hin
      go_upto_region 6 with fail
      refine same6_region wr b o n c b' o' c' i (hs i) hlt (fun W => Below wr.heap.size wr W) (Below.refl _ _).drew (fun W hb => ?_) (equal_same _) (fun _ _ _ _ _ h => h) ?_
      · have h2 := A2.out.2.1.trans (hb.mono A2.out.2.1.size)
        exact ⟨range_below A2.out.2.2.1 h2 A2.out.2.2.2.2.1, range_below A2.out.2.2.2.1 h2 A2.out.2.2.2.2.2⟩
      · intro W hb
        have A3 : Aside (i + 1 + r = n ∧ Below w.heap.size w W) := ⟨A2.out.1, A2.out.2.1.trans (hb.mono A2.out.2.1.size)⟩
        clear hb A2
        go_wp2_with fail
        go_roundg r
        case measure => exact Nat.lt_succ_self _
        case rel => exact ⟨i + 1, by first | rfl | (rw [ei]), A3.out⟩
end Go.Proofs.YtdmbmphdiaepdaaDoor.HX
