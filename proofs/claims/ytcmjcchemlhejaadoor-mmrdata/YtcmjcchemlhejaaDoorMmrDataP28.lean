/- Texts of MmrData, one behind the other: MmrSame, MmrOf, MmrDataWalk, PosAwake. -/
import Derived.Test.YtcmjcchemlhejaaDoorMmrDataP21
import Derived.Test.YtcmjcchemlhejaaDoorMmrDataP24
import Derived.Test.YtcmjcchemlhejaaDoorMmrDataP27
/- massiflaw6.same, where the two lists are the same. -/
namespace Go.Proofs.YtcmjcchemlhejaaDoor.HX
open Go.RowKit
set_option maxRecDepth 100000

def MS6OPS : Array Oper := #[{ dst := some 17, op := Op.move (Operand.tmp 0), type := 22, pos := "help.go:34", after := #[], guard := none }, { dst := some 18, op := Op.move (Operand.tmp 5), type := 3, pos := "help.go:34", after := #[], guard := none }, { dst := some 19, op := Op.indexAddr 22 (Operand.tmp 17) (Operand.tmp 18), type := 0, pos := "help.go:34", after := #[{ on := 0, ground := Ground.data }, { on := 1, ground := Ground.data }], guard := none }, { dst := some 20, op := Op.load 30 (Operand.tmp 19), type := 30, pos := "help.go:34", after := #[{ on := 2, ground := Ground.data }], guard := none }, { dst := some 21, op := Op.move (Operand.tmp 1), type := 22, pos := "help.go:34", after := #[], guard := none }, { dst := some 22, op := Op.move (Operand.tmp 5), type := 3, pos := "help.go:34", after := #[], guard := none }, { dst := some 23, op := Op.indexAddr 22 (Operand.tmp 21) (Operand.tmp 22), type := 0, pos := "help.go:34", after := #[{ on := 4, ground := Ground.data }, { on := 5, ground := Ground.data }], guard := none }, { dst := some 24, op := Op.load 30 (Operand.tmp 23), type := 30, pos := "help.go:34", after := #[{ on := 6, ground := Ground.data }], guard := none }, { dst := some 25, op := Op.binOp BinOp.neq 30 (Operand.tmp 20) (Operand.tmp 24) 30, type := 4, pos := "help.go:34", after := #[{ on := 3, ground := Ground.data }, { on := 7, ground := Ground.data }], guard := none }]
set_option maxHeartbeats 2000000 in
theorem same6_region {Q : Exit → Act → World → Prop} {u2 u3 u4 u6 u7 u8 u9 u10 u11 u12 u13 u14 u15 u16 u17 u18 u19 u20 u21 u22 u23 u24 u25 : Value} (W : World) (b o n c b' o' c' i : Nat) (x : Nat → Nat) (hi : (i : Int) < (n : Int)) (S : World → Prop) (h0 : S W.drew) (hS : ∀ w, S w → w.rangeAt b (o + i * 32) (ULIST .u8 32 x) ∧ w.rangeAt b' (o' + i * 32) (ULIST .u8 32 x)) (qx : ∀ w, (Op.equalIn 10000 30 (.agg (UARR .u8 32 x)) (.agg (UARR .u8 32 x))).run Tryd.prog w = .ok true w) (hQ : ∀ c (a : Act) (t : Tmp) (v : Value) w, Q (.panic c) (a.put (some t) v) w → Q (.panic c) a w)
    (hfin : ∀ (w : World), (S w) → Q .normal { tmps := #[.slice (some ⟨b, o, none⟩) n c, .slice (some ⟨b', o', none⟩) n c', u2, u3, u4, .int .i64 (i : Int), u6, u7, u8, u9, u10, u11, u12, u13, u14, u15, u16, .slice (some ⟨b, o, none⟩) n c, .int .i64 (i : Int), .pointer (some ⟨b, (o + i * 32), none⟩), .agg (UARR .u8 32 x), .slice (some ⟨b', o', none⟩) n c', .int .i64 (i : Int), .pointer (some ⟨b', (o' + i * 32), none⟩), .agg (UARR .u8 32 x), .bool false], defers := [] } w) : (Code.region 6 MS6OPS true).wp Tryd.prog Q { tmps := #[.slice (some ⟨b, o, none⟩) n c, .slice (some ⟨b', o', none⟩) n c', u2, u3, u4, .int .i64 (i : Int), u6, u7, u8, u9, u10, u11, u12, u13, u14, u15, u16, u17, u18, u19, u20, u21, u22, u23, u24, u25], defers := [] } W := by
  have k : ∀ (w : World), (S w) → wpAnyH Tryd.prog .any MS6OPS Q S 0 #[true, true, true, true, true, true, true, true, true] { tmps := #[.slice (some ⟨b, o, none⟩) n c, .slice (some ⟨b', o', none⟩) n c', u2, u3, u4, .int .i64 (i : Int), u6, u7, u8, u9, u10, u11, u12, u13, u14, u15, u16, .slice (some ⟨b, o, none⟩) n c, .int .i64 (i : Int), .pointer (some ⟨b, (o + i * 32), none⟩), .agg (UARR .u8 32 x), .slice (some ⟨b', o', none⟩) n c', .int .i64 (i : Int), .pointer (some ⟨b', (o' + i * 32), none⟩), .agg (UARR .u8 32 x), .bool false], defers := [] } w := fun  w hp => by
    exact wpAnyH_done (by kernel_rfl) (hfin  w hp) _
  have hp := h0
  have hww : S W.drew := hp
  have last := k W.drew hp
  have z : wpAnyH Tryd.prog .any MS6OPS Q S 9 #[false, false, false, false, false, false, false, false, false] { tmps := #[.slice (some ⟨b, o, none⟩) n c, .slice (some ⟨b', o', none⟩) n c', u2, u3, u4, .int .i64 (i : Int), u6, u7, u8, u9, u10, u11, u12, u13, u14, u15, u16, u17, u18, u19, u20, u21, u22, u23, u24, u25], defers := [] } W.drew := by
    have t8 : wpAnyH Tryd.prog .any MS6OPS Q S 1 #[true, true, true, true, true, true, true, true, false] { tmps := #[.slice (some ⟨b, o, none⟩) n c, .slice (some ⟨b', o', none⟩) n c', u2, u3, u4, .int .i64 (i : Int), u6, u7, u8, u9, u10, u11, u12, u13, u14, u15, u16, .slice (some ⟨b, o, none⟩) n c, .int .i64 (i : Int), .pointer (some ⟨b, (o + i * 32), none⟩), .agg (UARR .u8 32 x), .slice (some ⟨b', o', none⟩) n c', .int .i64 (i : Int), .pointer (some ⟨b', (o' + i * 32), none⟩), .agg (UARR .u8 32 x), u25], defers := [] } W.drew :=
      wpAnyH_take (i := 8) (oi := { dst := some 25, op := Op.binOp BinOp.neq 30 (Operand.tmp 20) (Operand.tmp 24) 30, type := 4, pos := "help.go:34", after := #[{ on := 3, ground := Ground.data }, { on := 7, ground := Ground.data }], guard := none }) (v := .bool false) rfl (by kernel_rfl) (by kernel_rfl) (by kernel_rfl) (fun _ _ _ h => hQ _ _ _ _ _ h) (Or.inl ⟨by rfl, fun w hw => by have hx := qx w; go_simp⟩) hww last
    have t7 : wpAnyH Tryd.prog .any MS6OPS Q S 2 #[true, true, true, true, true, true, true, false, false] { tmps := #[.slice (some ⟨b, o, none⟩) n c, .slice (some ⟨b', o', none⟩) n c', u2, u3, u4, .int .i64 (i : Int), u6, u7, u8, u9, u10, u11, u12, u13, u14, u15, u16, .slice (some ⟨b, o, none⟩) n c, .int .i64 (i : Int), .pointer (some ⟨b, (o + i * 32), none⟩), .agg (UARR .u8 32 x), .slice (some ⟨b', o', none⟩) n c', .int .i64 (i : Int), .pointer (some ⟨b', (o' + i * 32), none⟩), u24, u25], defers := [] } W.drew :=
      wpAnyH_take (i := 7) (oi := { dst := some 24, op := Op.load 30 (Operand.tmp 23), type := 30, pos := "help.go:34", after := #[{ on := 6, ground := Ground.data }], guard := none }) (v := .agg (UARR .u8 32 x)) rfl (by kernel_rfl) (by kernel_rfl) (by kernel_rfl) (fun _ _ _ h => hQ _ _ _ _ _ h) (yieldsIf_load_mid (by rfl) 30 (.tmp 23) rfl b' (o' + i * 32) rfl (ULIST .u8 32 x) _ (fun w h => (hS w h).2) Tryd.underlying30 rfl (by rw [ULIST_length]; exact info_hash)) hww t8
    have t6 : wpAnyH Tryd.prog .any MS6OPS Q S 3 #[true, true, true, true, true, true, false, false, false] { tmps := #[.slice (some ⟨b, o, none⟩) n c, .slice (some ⟨b', o', none⟩) n c', u2, u3, u4, .int .i64 (i : Int), u6, u7, u8, u9, u10, u11, u12, u13, u14, u15, u16, .slice (some ⟨b, o, none⟩) n c, .int .i64 (i : Int), .pointer (some ⟨b, (o + i * 32), none⟩), .agg (UARR .u8 32 x), .slice (some ⟨b', o', none⟩) n c', .int .i64 (i : Int), u23, u24, u25], defers := [] } W.drew :=
      wpAnyH_take (i := 6) (oi := { dst := some 23, op := Op.indexAddr 22 (Operand.tmp 21) (Operand.tmp 22), type := 0, pos := "help.go:34", after := #[{ on := 4, ground := Ground.data }, { on := 5, ground := Ground.data }], guard := none }) (v := .pointer (some ⟨b', (o' + i * 32), none⟩)) rfl (by kernel_rfl) (by kernel_rfl) (by kernel_rfl) (fun _ _ _ h => hQ _ _ _ _ _ h) (Yields.yieldsIf (Or.inl ⟨by rfl, fun W => by go_simp⟩)) hww t7
    have t5 : wpAnyH Tryd.prog .any MS6OPS Q S 4 #[true, true, true, true, true, false, false, false, false] { tmps := #[.slice (some ⟨b, o, none⟩) n c, .slice (some ⟨b', o', none⟩) n c', u2, u3, u4, .int .i64 (i : Int), u6, u7, u8, u9, u10, u11, u12, u13, u14, u15, u16, .slice (some ⟨b, o, none⟩) n c, .int .i64 (i : Int), .pointer (some ⟨b, (o + i * 32), none⟩), .agg (UARR .u8 32 x), .slice (some ⟨b', o', none⟩) n c', u22, u23, u24, u25], defers := [] } W.drew :=
      wpAnyH_take (i := 5) (oi := { dst := some 22, op := Op.move (Operand.tmp 5), type := 3, pos := "help.go:34", after := #[], guard := none }) (v := .int .i64 (i : Int)) rfl (by kernel_rfl) (by kernel_rfl) (by kernel_rfl) (fun _ _ _ h => hQ _ _ _ _ _ h) (Yields.yieldsIf (Or.inl ⟨by rfl, fun W => by go_simp⟩)) hww t6
    have t4 : wpAnyH Tryd.prog .any MS6OPS Q S 5 #[true, true, true, true, false, false, false, false, false] { tmps := #[.slice (some ⟨b, o, none⟩) n c, .slice (some ⟨b', o', none⟩) n c', u2, u3, u4, .int .i64 (i : Int), u6, u7, u8, u9, u10, u11, u12, u13, u14, u15, u16, .slice (some ⟨b, o, none⟩) n c, .int .i64 (i : Int), .pointer (some ⟨b, (o + i * 32), none⟩), .agg (UARR .u8 32 x), u21, u22, u23, u24, u25], defers := [] } W.drew :=
      wpAnyH_take (i := 4) (oi := { dst := some 21, op := Op.move (Operand.tmp 1), type := 22, pos := "help.go:34", after := #[], guard := none }) (v := .slice (some ⟨b', o', none⟩) n c') rfl (by kernel_rfl) (by kernel_rfl) (by kernel_rfl) (fun _ _ _ h => hQ _ _ _ _ _ h) (Yields.yieldsIf (Or.inl ⟨by rfl, fun W => by go_simp⟩)) hww t5
    have t3 : wpAnyH Tryd.prog .any MS6OPS Q S 6 #[true, true, true, false, false, false, false, false, false] { tmps := #[.slice (some ⟨b, o, none⟩) n c, .slice (some ⟨b', o', none⟩) n c', u2, u3, u4, .int .i64 (i : Int), u6, u7, u8, u9, u10, u11, u12, u13, u14, u15, u16, .slice (some ⟨b, o, none⟩) n c, .int .i64 (i : Int), .pointer (some ⟨b, (o + i * 32), none⟩), u20, u21, u22, u23, u24, u25], defers := [] } W.drew :=
      wpAnyH_take (i := 3) (oi := { dst := some 20, op := Op.load 30 (Operand.tmp 19), type := 30, pos := "help.go:34", after := #[{ on := 2, ground := Ground.data }], guard := none }) (v := .agg (UARR .u8 32 x)) rfl (by kernel_rfl) (by kernel_rfl) (by kernel_rfl) (fun _ _ _ h => hQ _ _ _ _ _ h) (yieldsIf_load_mid (by rfl) 30 (.tmp 19) rfl b (o + i * 32) rfl (ULIST .u8 32 x) _ (fun w h => (hS w h).1) Tryd.underlying30 rfl (by rw [ULIST_length]; exact info_hash)) hww t4
    have t2 : wpAnyH Tryd.prog .any MS6OPS Q S 7 #[true, true, false, false, false, false, false, false, false] { tmps := #[.slice (some ⟨b, o, none⟩) n c, .slice (some ⟨b', o', none⟩) n c', u2, u3, u4, .int .i64 (i : Int), u6, u7, u8, u9, u10, u11, u12, u13, u14, u15, u16, .slice (some ⟨b, o, none⟩) n c, .int .i64 (i : Int), u19, u20, u21, u22, u23, u24, u25], defers := [] } W.drew :=
      wpAnyH_take (i := 2) (oi := { dst := some 19, op := Op.indexAddr 22 (Operand.tmp 17) (Operand.tmp 18), type := 0, pos := "help.go:34", after := #[{ on := 0, ground := Ground.data }, { on := 1, ground := Ground.data }], guard := none }) (v := .pointer (some ⟨b, (o + i * 32), none⟩)) rfl (by kernel_rfl) (by kernel_rfl) (by kernel_rfl) (fun _ _ _ h => hQ _ _ _ _ _ h) (Yields.yieldsIf (Or.inl ⟨by rfl, fun W => by go_simp⟩)) hww t3
    have t1 : wpAnyH Tryd.prog .any MS6OPS Q S 8 #[true, false, false, false, false, false, false, false, false] { tmps := #[.slice (some ⟨b, o, none⟩) n c, .slice (some ⟨b', o', none⟩) n c', u2, u3, u4, .int .i64 (i : Int), u6, u7, u8, u9, u10, u11, u12, u13, u14, u15, u16, .slice (some ⟨b, o, none⟩) n c, u18, u19, u20, u21, u22, u23, u24, u25], defers := [] } W.drew :=
      wpAnyH_take (i := 1) (oi := { dst := some 18, op := Op.move (Operand.tmp 5), type := 3, pos := "help.go:34", after := #[], guard := none }) (v := .int .i64 (i : Int)) rfl (by kernel_rfl) (by kernel_rfl) (by kernel_rfl) (fun _ _ _ h => hQ _ _ _ _ _ h) (Yields.yieldsIf (Or.inl ⟨by rfl, fun W => by go_simp⟩)) hww t2
    have t0 : wpAnyH Tryd.prog .any MS6OPS Q S 9 #[false, false, false, false, false, false, false, false, false] { tmps := #[.slice (some ⟨b, o, none⟩) n c, .slice (some ⟨b', o', none⟩) n c', u2, u3, u4, .int .i64 (i : Int), u6, u7, u8, u9, u10, u11, u12, u13, u14, u15, u16, u17, u18, u19, u20, u21, u22, u23, u24, u25], defers := [] } W.drew :=
      wpAnyH_take (i := 0) (oi := { dst := some 17, op := Op.move (Operand.tmp 0), type := 22, pos := "help.go:34", after := #[], guard := none }) (v := .slice (some ⟨b, o, none⟩) n c) rfl (by kernel_rfl) (by kernel_rfl) (by kernel_rfl) (fun _ _ _ h => hQ _ _ _ _ _ h) (Yields.yieldsIf (Or.inl ⟨by rfl, fun W => by go_simp⟩)) hww t1
    exact t0
  exact wp_region_held_drew (S := S) (by kernel_rfl) hww (fun _ => z)
set_option maxHeartbeats 1000000 in
theorem same6_yes (a a' : Option Addr) (n c c' : Nat) (hs : Nat → Nat → Nat) (w : World) (hn : n ≤ 2 ^ 20) (h1 : HASHES w a n hs) (h2 : HASHES w a' n hs) : Calls Tryd.prog 26 #[.slice a n c, .slice a' n c'] w fun e w' => e = .returned (.bool true) ∧ Below w.heap.size w w' := by
  have H : Aside (HASHES w a n hs ∧ HASHES w a' n hs ∧ n ≤ 2 ^ 20) := ⟨h1, h2, hn⟩
  clear h1 h2 hn
  go_enter Tryd.func26, Tryd.ntmps26
  go_wp2_with fail
  go_loopg [5] n (fun r s5 wx => ∃ i : Nat, s5 = .int .i64 (i : Int) ∧ Aside (i + r = n ∧ Below w.heap.size w wx))
  case atStart => exact ⟨0, rfl, by omega, Below.refl _ _⟩
  case round =>
    obtain ⟨i, rfl, A⟩ := hrel
    cases gk with
    | zero =>
      obtain rfl : i = n := by have := A.out.1; omega
      have hlt : ¬ (i : Int) < (i : Int) := by omega
      go_wp2_with fail
      go_ret
      exact ⟨rfl, A.out.2⟩
    | succ r =>
      have hin : i < n := by have := A.out.1; omega
      have hlt : (i : Int) < (n : Int) := by omega
      obtain ⟨b, o, rfl, hb, hr⟩ := H.out.1 (by omega)
      obtain ⟨b', o', rfl, hb', hr'⟩ := H.out.2.1 (by omega)
      have ei : wrap64 ((i : Int) + 1) = ((i + 1 : Nat) : Int) := by have := H.out.2.2; unfold wrap64; omega
      have A2 : Aside (i + 1 + r = n ∧ Below w.heap.size w wr ∧ w.rangeAt b (o + i * 32) (ULIST .u8 32 (hs i)) ∧ w.rangeAt b' (o' + i * 32) (ULIST .u8 32 (hs i)) ∧ b < w.heap.size ∧ b' < w.heap.size) := ⟨by have := A.out.1; clear ei; omega, A.out.2, hr i hin, hr' i hin, hb, hb'⟩
      clear A hb hb' hr hr' hin
      go_upto_region 6 with fail
      refine same6_region wr b o n c b' o' c' i (hs i) hlt (fun W => Below wr.heap.size wr W) (Below.refl _ _).drew (fun W hb => ?_) (equal_same _) (fun _ _ _ _ _ h => h) ?_
      · have h2 := A2.out.2.1.trans (hb.mono A2.out.2.1.size)
        exact ⟨range_below A2.out.2.2.1 h2 A2.out.2.2.2.2.1, range_below A2.out.2.2.2.1 h2 A2.out.2.2.2.2.2⟩
      · intro W hb
        have A3 : Aside (i + 1 + r = n ∧ Below w.heap.size w W) := ⟨A2.out.1, A2.out.2.1.trans (hb.mono A2.out.2.1.size)⟩
        clear hb A2
        go_wp2_with fail
        go_roundg r
        case measure => exact Nat.lt_succ_self _
        case rel => exact ⟨i + 1, by first | rfl | (rw [ei]), A3.out⟩
end Go.Proofs.YtcmjcchemlhejaaDoor.HX

/- massiflaw6.of: the tree of some leaves. -/
namespace Go.Proofs.YtcmjcchemlhejaaDoor.HX
open Go.RowKit
set_option maxRecDepth 100000

theorem u64_fit {n : Nat} (h : n < 2 ^ 40) : IntKind.u64.wrap (n : Int) = (n : Int) := by
  simp [IntKind.wrap, IntKind.signed, IntKind.bits]
  omega
set_option maxHeartbeats 2000000 in
theorem of_ok (d : Int) (a : Option Addr) (n c : Nat) (hs : Nat → Nat → Nat) (w : World) (hn : n ≤ 2 ^ 19) (hH : HASHES w a n hs) (h8 : ∀ i, i < n → ∀ j, hs i j < 256) (hX : Tabled w) : Calls Tryd.prog 8 #[.int .i64 d, .slice a n c] w fun e w' =>
    ∃ g C, e = .returned (.tuple #[.pointer (some ⟨g, 0, none⟩), .bool true]) ∧ FOREST w' w.heap.size g d 3 n C hs ∧ Below w.heap.size w w' ∧ (∀ b, b < w.heap.size → ¬ FOOT w' g C b) := by
  have cn := treenew_ok d 3 (by decide) w
  have GB : Aside (1 < w.heap.size) := hX.2.2
  have HA : Aside (HASHES w a n hs ∧ (∀ i, i < n → ∀ j, hs i j < 256) ∧ n ≤ 2 ^ 19) := ⟨hH, h8, hn⟩
  have tab : Aside (∀ W, Below w.heap.size w W → Tabled W) := fun W hb => hX.below hb
  clear hn hH h8 hX
  go_enter Tryd.func8, Tryd.ntmps8
  go_wp2_with fail
  refine cn.mono ?_
  rintro e w1 ⟨g, rfl, hg, hH, hb1⟩
  clear cn
  have hF1 := FOREST.new (B := w.heap.size) hH (by decide) hg hs
  have A1 : Aside (FOREST w1 w.heap.size g d 3 0 (fun _ => none) hs ∧ Below w.heap.size w w1 ∧ ∀ b, b < w.heap.size → ¬ FOOT w1 g (fun _ => none) b) := ⟨hF1, hb1, fun b _ hf => by
    rcases hf with e | ⟨k, gc, rs, e, _⟩
    · rw [hH.cell 3] at e
      cases e
    · cases e⟩
  clear hg hH hb1 hF1
  go_wp2_with fail
  go_loopg [8] n (fun r s8 wx => ∃ (i : Nat) (C : CHUNKS), s8 = .int .i64 (i : Int) ∧ Aside (i + r = n ∧ FOREST wx w.heap.size g d 3 i C hs ∧ Below w.heap.size w wx ∧ ∀ b, b < w.heap.size → ¬ FOOT wx g C b))
  case atStart => exact ⟨0, _, rfl, by omega, A1.out⟩
  case round =>
    obtain ⟨i, C, rfl, A⟩ := hrel
    clear A1
    cases gk with
    | zero =>
      obtain rfl : i = n := by have := A.out.1; omega
      have hlt : ¬ (i : Int) < (i : Int) := by omega
      go_wp2_with fail
      go_ret2
      first | exact ⟨g, C, rfl, A.out.2⟩ | exact ⟨g, rfl, C, A.out.2⟩
    | succ r =>
      have hin : i < n := by have := A.out.1; omega
      have hlt : (i : Int) < (n : Int) := by omega
      have hi0 : ¬ (i : Int) < 0 := by omega
      obtain ⟨lb, lo, rfl, hlb, hlr⟩ := HA.out.1 (by omega)
      have hrg : wr.rangeAt lb (lo + i * 32) (ULIST .u8 32 (hs i)) := range_below (hlr i hin) A.out.2.2.1 hlb
      have cA := append_ok A.out.2.1 (hs i) (HA.out.2.1 i hin) (by have := HA.out.2.2; omega) (tab.out wr A.out.2.2.1) GB.out A.out.2.2.1.size
      have ei : wrap64 ((i : Int) + 1) = ((i + 1 : Nat) : Int) := by have := HA.out.2.2; unfold wrap64; omega
      have eu := u64_fit (n := i) (by have := HA.out.2.2; clear ei; omega)
      have A3 : Aside (i + 1 + r = n) := by have := A.out.1; show i + 1 + r = n; clear ei eu; omega
      clear hlr hin hlb
      go_wp2_with (refine wpList_load_mid rfl 30 (.tmp 29) rfl lb (lo + i * 32) rfl (ULIST .u8 32 (hs i)) _ hrg Tryd.underlying30 rfl (by rw [ULIST_length]; exact info_hash) ?_; rw [← UARR_list])
      refine cA.mono ?_
      rintro e w3 ⟨rfl, C', a1, a2, a3⟩
      have A4 : Aside (FOREST w3 w.heap.size g d 3 (i + 1) C' hs ∧ Below w.heap.size w w3 ∧ ∀ b, b < w.heap.size → ¬ FOOT w3 g C' b) := by
        refine ⟨a1.congr fun k hk => ?_, A.out.2.2.1.trans a3, fun b hb hf => ?_⟩
        · unfold LEAFS
          split
          · rename_i e; rw [e]
          · rfl
        · rcases a2.foot b hf with h1 | h1
          · exact A.out.2.2.2 b hb h1
          · have := A.out.2.2.1.size
            omega
      clear cA hrg a1 a2 a3 A
      go_wp2_with fail
      go_roundg r
      case measure => exact Nat.lt_succ_self _
      case rel => exact ⟨i + 1, C', by first | rfl | (rw [ei]), A3.out, A4.out⟩
end Go.Proofs.YtcmjcchemlhejaaDoor.HX

/- The law MmrData returns true. -/
namespace Go.Proofs.YtcmjcchemlhejaaDoor.HX
open Go.RowKit
set_option maxRecDepth 100000

/-- a slice of slices of bytes lies there. -/
def DATAS (w : World) (a : Option Addr) (k : Nat) (ps : List PART) : Prop :=
  ps.length = k ∧ (0 < k → ∃ b off, a = some ⟨b, off, none⟩ ∧ b < w.heap.size ∧ ∀ (i : Nat) (p : PART), ps[i]? = some p → w.cell? ⟨b, off + i, none⟩ = some (.slice p.a p.n p.c)) ∧ ∀ p ∈ ps, Text w p.a p.n p.l ∧ (p.a = none → p.c = 0) ∧ p.n < 2 ^ 60
/-- the hashes of all of them. -/
def DHS (d : Int) (ps : List PART) (k : Nat) : Nat → Nat := LEAFF d ((ps.map PART.l).getD k [])
theorem DHS_lt (d : Int) (ps : List PART) (k i : Nat) : DHS d ps k i < 256 := LEAFF_lt d _ i
theorem DHS_at (d : Int) {ps : List PART} {k : Nat} {p : PART} (h : ps[k]? = some p) : DHS d ps k = LEAFF d p.l := by
  unfold DHS
  rw [List.getD_eq_getElem?_getD, List.getElem?_map, h]
  rfl
theorem datas_count {n m : Nat} (hn : n ≤ 3000) (hm : m < 2 ^ 60) : wrap64 ((1 : Int) + (m : Int)) = ((1 + m : Nat) : Int) ∧ wrap64 ((n : Int) + ((1 + m : Nat) : Int)) = ((n + (1 + m) : Nat) : Int) := by
  unfold wrap64
  omega
/-- a copy of bytes in a list of its own. -/
theorem copy_reads {w : World} {B n c : Nat} {a : Option Addr} {l : List Nat} (h : w.ownsRow B 5 1 (.slice a n c) n (CELLS (INTS l))) (hs : Small8 l) : Text w a n l ∧ n ≤ c ∧ (a = none → c = 0) ∧ ∀ x, a = some x → x.block < w.heap.size := by
  have hl : l.length = n := by have := h.1; simpa [CELLS, INTS] using this
  rcases h.2 with ⟨e, h0⟩ | ⟨g, cap, cur, e, _, hg, hc, _⟩
  · simp only [Value.slice.injEq] at e
    obtain ⟨rfl, rfl, rfl⟩ := e
    exact ⟨⟨hl, fun h => by omega, hs⟩, Nat.le_refl _, fun _ => rfl, fun x hx => by cases hx⟩
  · simp only [Value.slice.injEq] at e
    obtain ⟨rfl, _, rfl⟩ := e
    exact ⟨own_text' h hs, hc, (fun h => by cases h), (fun x hx => by cases hx; exact (h.lt g rfl).2)⟩
set_option maxHeartbeats 4000000 in
theorem mmrData_walk (d : Int) (a : Option Addr) (k c : Nat) (ps : List PART) (w : World) (hP : DATAS w a k ps) (hkk : k < 2 ^ 60) (hT : Go.Proofs.YtcmjcchemlhejaaDoor.Tabled w) (hX : Tabled w) : Calls Tryd.prog 7 #[.int .i64 d, .slice a k c] w fun e w' => e = .returned (.bool true) ∧ Below w.heap.size w w' := by
  have H : Aside (DATAS w a k ps ∧ k < 2 ^ 60 ∧ ps.length = k) := ⟨hP, hkk, hP.1⟩
  have GB : Aside (1 < w.heap.size) := hX.2.2
  have tab : Aside (∀ W, Below w.heap.size w W → Go.Proofs.YtcmjcchemlhejaaDoor.Tabled W ∧ Tabled W) := fun W hb => ⟨hT.below (by have := hX.2.2; omega) hb, hX.below hb⟩
  clear hP hkk hT hX
  go_enter Tryd.func7, Tryd.ntmps7
  go_wp2_with fail
  go_loopg [5, 6] k (fun r s5 s6 wx => ∃ i n : Nat, s5 = .int .i64 (n : Int) ∧ s6 = .int .i64 (i : Int) ∧ wx = w ∧ Aside (i + r = k ∧ n = i + (JOIN (ps.take i)).length ∧ n ≤ 3000))
  case atStart => exact ⟨0, 0, rfl, rfl, rfl, by omega, rfl, by omega⟩
  case round =>
    obtain ⟨i, n, rfl, rfl, hw, A⟩ := hrel
    replace hw := hw.symm
    subst hw
    cases gk with
    | zero =>
      obtain rfl : i = k := by have := A.out.1; omega
      have hlt : ¬ (i : Int) < (i : Int) := by omega
      have B : Aside (i + (JOIN ps).length ≤ 3000) := by
        obtain ⟨h1, h2, h3⟩ := A.out
        rw [List.take_of_length_le (by have := H.out.2.2; omega)] at h2
        exact h2 ▸ h3
      clear A
      have cn := treenew_ok d 4 (by decide) w
      go_wp2_with fail
      refine cn.mono ?_
      rintro e w1 ⟨g, rfl, hg, hH, hb1⟩
      clear cn
      have hF1 := FOREST.new (B := w.heap.size) hH (by decide) hg (DHS d ps)
      have A1 : Aside (LISTED w w1 w.heap.size g d 4 0 0 (fun _ => none) (DHS d ps) (.slice none 0 0)) := ⟨hF1, ⟨rfl, .inl ⟨rfl, rfl⟩⟩, fun b e => (by cases e), hb1⟩
      clear hg hH hb1 hF1
      go_wp2_with fail
      go_loopg [9, 10] i (fun r s9 s10 wx => ∃ (j : Nat) (C : CHUNKS), s10 = .int .i64 (j : Int) ∧ Aside (j + r = i ∧ LISTED w wx w.heap.size g d 4 j j C (DHS d ps) s9))
      case atStart => exact ⟨0, _, rfl, by omega, A1.out⟩
      case round =>
        obtain ⟨j, C, rfl, A⟩ := hrel
        clear A1
        cases gk with
        | zero =>
          obtain rfl : j = i := by have := A.out.1; omega
          have hlt2 : ¬ (j : Int) < (j : Int) := by omega
          have hL := A.out.2
          obtain ⟨la, lc, hv, hH⟩ := hL.hashes
          subst hv
          have co := of_ok d la j lc (DHS d ps) wr (by have := B.out; omega) hH (fun i _ => DHS_lt d ps i) (tab.out wr hL.below).2
          have A2 : Aside (LISTED w wr w.heap.size g d 4 j j C (DHS d ps) (.slice la j lc)) := hL
          clear A hL hH
          go_wp2_with fail
          refine co.mono ?_
          rintro e w3 ⟨g2, C2, rfl, hF2, hb3, -⟩
          clear co
          have A3 : Aside (FOREST w3 w.heap.size g d 4 j C (DHS d ps) ∧ FOREST w3 wr.heap.size g2 d 3 j C2 (DHS d ps) ∧ Below w.heap.size w w3) := ⟨A2.out.tree.below hb3, hF2, (A2.out.keep A2.out.below.size hb3).below⟩
          have nx : Aside (∀ W, Below w3.heap.size w3 W → FOREST W w.heap.size g d 4 j C (DHS d ps) ∧ FOREST W wr.heap.size g2 d 3 j C2 (DHS d ps) ∧ Below w.heap.size w W) := fun W hb => ⟨A3.out.1.below hb, A3.out.2.1.below hb, A3.out.2.2.trans (hb.mono A3.out.2.2.size)⟩
          have cr1 := fun (W : World) (hb : Below w3.heap.size w3 W) => root_of (nx.out W hb).1 (tab.out W (nx.out W hb).2.2).1 (tab.out W (nx.out W hb).2.2).2
          have cr2 := fun (W : World) (hb : Below w3.heap.size w3 W) => root_of (nx.out W hb).2.1 (tab.out W (nx.out W hb).2.2).1 (tab.out W (nx.out W hb).2.2).2
          have cp1 := fun (W : World) (hb : Below w3.heap.size w3 W) => peaks_of (nx.out W hb).1 (tab.out W (nx.out W hb).2.2).1
          have cp2 := fun (W : World) (hb : Below w3.heap.size w3 W) => peaks_of (nx.out W hb).2.1 (tab.out W (nx.out W hb).2.2).1
          have D : Aside ((∀ W, Below w3.heap.size w3 W → Below w.heap.size w W) ∧ j ≤ 3000) := ⟨fun W hb => (nx.out W hb).2.2, by have := B.out; omega⟩
          have heq : ∀ w, (Op.equalIn 10000 30 (.agg (UARR .u8 32 (ROOTOF d (DHS d ps) j))) (.agg (UARR .u8 32 (ROOTOF d (DHS d ps) j)))).run Tryd.prog w = .ok true w := equal_same _
          clear A2 hF2 hb3 A3
          go_wp2_with fail
          refine (cr1 w3 (Below.refl _ _)).mono ?_
          rintro e w4 ⟨rfl, hb4⟩
          go_wp2_with fail
          refine (cr2 w4 hb4).mono ?_
          rintro e w5 ⟨rfl, hb5⟩
          have hb35 : Below w3.heap.size w3 w5 := hb4.trans (hb5.mono hb4.size)
          clear hb4 hb5 cr1 cr2
          go_wp2_with fail
          refine (cp1 w5 hb35).mono ?_
          rintro e w6 ⟨v1, rfl, ho1, hb6⟩
          have hb36 : Below w3.heap.size w3 w6 := hb35.trans (hb6.mono hb35.size)
          clear hb35 hb6 cp1
          go_wp2_with fail
          refine (cp2 w6 hb36).mono ?_
          rintro e w7 ⟨v2, rfl, ho2, hb7⟩
          have hb37 : Below w3.heap.size w3 w7 := hb36.trans (hb7.mono hb36.size)
          have hlen := PKV_length d (DHS d ps) (m := j) (by have := D.out.2; omega)
          obtain ⟨a1, c1, rfl, hH1⟩ := own_hashes (own_keep ho1 hb7) hlen
          obtain ⟨a2, c2, rfl, hH2⟩ := own_hashes ho2 hlen
          have cs := same6_yes a1 a2 (PC j) c1 c2 _ w7 (by have := PC_lt_pow 64 j (by have := D.out.2; omega); omega) hH1 hH2
          have ca := fun (W : World) (hb : Below w7.heap.size w7 W) => awake6_ok W (tab.out W (D.out.1 W (hb37.trans (hb.mono hb37.size)))).1 (tab.out W (D.out.1 W (hb37.trans (hb.mono hb37.size)))).2
          have fin : Aside (∀ W, Below w7.heap.size w7 W → Below w.heap.size w W) := fun W hb => D.out.1 W (hb37.trans (hb.mono hb37.size))
          clear hb36 hb7 hb37 ho1 ho2 hH1 hH2 hlen cp2 heq nx
          generalize PC j = M at *
          go_wp2_with fail
          refine cs.mono ?_
          rintro e w8 ⟨rfl, hb8⟩
          clear cs
          go_wp2_with fail
          refine (ca w8 hb8).mono ?_
          rintro e w9 ⟨rfl, hb9⟩
          have hfin := fin.out w9 (hb8.trans (hb9.mono hb8.size))
          clear ca hb8 hb9 fin
          go_wp2_with fail
          go_ret
          exact ⟨rfl, hfin⟩
        | succ r =>
          have hji : j < i := by have := A.out.1; omega
          have hlt2 : (j : Int) < (i : Int) := by omega
          have hj0 : ¬ (j : Int) < 0 := by omega
          obtain ⟨pb, po, rfl, hpb, hcell⟩ := H.out.1.2.1 (by omega)
          obtain ⟨p, hp⟩ : ∃ p, ps[j]? = some p := ⟨_, List.getElem?_eq_getElem (by have := H.out.2.2; omega)⟩
          have hmem : p ∈ ps := List.mem_of_getElem? hp
          obtain ⟨ht, hnil, -⟩ := H.out.1.2.2 p hmem
          have hL := A.out.2
          have hc : wr.cell? ⟨pb, po + j, none⟩ = some (.slice p.a p.n p.c) := (hL.below.cell (p := ⟨pb, po + j, none⟩) hpb).trans (hcell j p hp)
          have hpn : p.n ≤ 3000 := by
            have h1 := JOIN_take_length ps (j + 1)
            have h2 := B.out
            have h3 := ht.1
            rw [List.take_add_one, hp, Option.toList_some, JOIN_snoc, List.length_append] at h1
            omega
          have hdh := DHS_at d hp
          have ei : wrap64 ((j : Int) + 1) = ((j + 1 : Nat) : Int) := by have := H.out.2.1; unfold wrap64; omega
          have eu := u64_fit (n := j) (by have := B.out; clear ei; omega)
          obtain ⟨pa, pn, pc, pl⟩ := p
          dsimp only at hc hnil ht hpn hdh
          have T : Aside (j + 1 + r = i ∧ LISTED w wr w.heap.size g d 4 j j C (DHS d ps) u9 ∧ Text w pa pn pl ∧ (pa = none → pc = 0) ∧ pn ≤ 3000 ∧ DHS d ps j = LEAFF d pl ∧ j ≤ 3000 ∧ pb < w.heap.size) := ⟨by have := A.out.1; clear ei eu; omega, hL, ht, hnil, hpn, hdh, by have := B.out; clear ei eu; omega, hpb⟩
          have HE1 : Aside (Bytes (wr.alloc (.cells #[] 5)) pa pn (INTS pl)) := ((ht.below hL.below).below ((Below.refl _ _).alloc (Nat.le_refl _) _)).bytes
          have hcx : (wr.alloc (.cells #[] 5)).cell? ⟨pb, po + j, none⟩ = some (.slice pa pn pc) := (((Below.refl wr.heap.size wr).alloc (Nat.le_refl _) (.cells #[] 5)).cell (p := ⟨pb, po + j, none⟩) (Nat.lt_of_lt_of_le hpb hL.below.size)).trans hc
          have HC : Aside (w.cell? ⟨pb, po + j, none⟩ = some (.slice pa pn pc)) := hcell j _ hp
          clear A hL ht hnil hpn hdh hp hmem hcell hji hpb
          go_wp2_with (first | (at_builtin; refine app_any _ rfl (.tmp 47) (.tmp 51) rfl wr.heap.size _ 0 [] rfl (own_empty wr _ (Nat.le_refl _)) pa pn pc (INTS pl) rfl HE1.out T.out.2.2.2.1 pn (INTS pl) (by omega) rfl (by have := T.out.2.2.2.2.1; omega) (by simp) ?_; intro a4 c4 w4 hown4 hgrow4))
          have hb4 : Below wr.heap.size wr w4 := ((Below.refl _ _).alloc (Nat.le_refl _) _).grown hgrow4 (by simp) (fun k e => by cases e; exact Nat.le_refl _)
          have hL4 := T.out.2.1.keep T.out.2.1.below.size hb4
          obtain ⟨r1, r2, r3, r4⟩ := copy_reads hown4 T.out.2.2.1.2.2
          have cA := add_ok hL4.tree a4 pn c4 pl r1 r3 (by have := T.out.2.2.2.2.1; omega) r2 r4 (by have := T.out.2.2.2.2.2.2.1; omega) (tab.out w4 hL4.below).2 GB.out hL4.below.size
          have T4 : Aside (LISTED w w4 w.heap.size g d 4 j j C (DHS d ps) u9) := hL4
          clear hb4 hL4 r1 r2 r3 r4 hown4 hgrow4 hcx HE1 hc
          refine cA.mono ?_
          rintro e w5 ⟨rfl, hP⟩
          clear cA
          rw [← T.out.2.2.2.2.2.1] at hP
          obtain ⟨C', hL5⟩ := T4.out.appended hP
          have T5 : Aside (LISTED w w5 w.heap.size g d 4 (j + 1) j C' (DHS d ps) u9) := hL5
          have HE1 : Aside (Bytes (w5.alloc (.cells #[] 5)) pa pn (INTS pl)) := ((T.out.2.2.1.below hL5.below).below ((Below.refl _ _).alloc (Nat.le_refl _) _)).bytes
          have hcx : (w5.alloc (.cells #[] 5)).cell? ⟨pb, po + j, none⟩ = some (.slice pa pn pc) := by
            obtain ⟨b2, o2, e2, h2, h3⟩ := H.out.1.2.1 (by have := T.out.1; omega)
            cases e2
            have h4 : w5.cell? ⟨pb, po + j, none⟩ = some (.slice pa pn pc) := (hL5.below.cell (p := ⟨pb, po + j, none⟩) T.out.2.2.2.2.2.2.2).trans HC.out
            exact (((Below.refl w5.heap.size w5).alloc (Nat.le_refl _) (.cells #[] 5)).cell (p := ⟨pb, po + j, none⟩) (Nat.lt_of_lt_of_le h2 hL5.below.size)).trans h4
          clear hP hL5 T4
          go_wp2_with (first | (at_builtin; refine app_any _ rfl (.tmp 59) (.tmp 63) rfl w5.heap.size _ 0 [] rfl (own_empty w5 _ (Nat.le_refl _)) pa pn pc (INTS pl) rfl HE1.out T.out.2.2.2.1 pn (INTS pl) (by omega) rfl (by have := T.out.2.2.2.2.1; omega) (by simp) ?_; intro a7 c7 w7 hown7 hgrow7))
          have hb7 : Below w5.heap.size w5 w7 := ((Below.refl _ _).alloc (Nat.le_refl _) _).grown hgrow7 (by simp) (fun k e => by cases e; exact Nat.le_refl _)
          have hL7 := T5.out.keep T5.out.below.size hb7
          obtain ⟨r1, r2, r3, r4⟩ := copy_reads hown7 T.out.2.2.1.2.2
          have cl := leaf_ok d a7 pn c7 pl w7 r1 r3 (by have := T.out.2.2.2.2.1; omega) r2 r4 (tab.out w7 hL7.below).2
          have eL : DHS d ps j = HASHOF d (0 :: pl) := T.out.2.2.2.2.2.1
          rw [← eL] at cl
          have T7 : Aside (LISTED w w7 w.heap.size g d 4 (j + 1) j C' (DHS d ps) u9) := hL7
          clear hb7 hL7 r1 r2 r3 r4 hown7 hgrow7 hcx HE1 eL
          refine cl.mono ?_
          rintro e w8 ⟨rfl, hb8⟩
          clear cl
          have T8 : Aside (LISTED w (w8.alloc (.cells (UARR .u8 32 (DHS d ps j)) 30)) w.heap.size g d 4 (j + 1) j C' (DHS d ps) u9 ∧ w.heap.size ≤ (w8.alloc (.cells (UARR .u8 32 (DHS d ps j)) 30)).heap.size ∧ Has (w8.alloc (.cells (UARR .u8 32 (DHS d ps j)) 30)) w8.heap.size (UARR .u8 32 (DHS d ps j)) 30) := by
            have h1 : Below w7.heap.size w7 (w8.alloc (.cells (UARR .u8 32 (DHS d ps j)) 30)) := hb8.alloc hb8.size _
            have h2 := T7.out.keep T7.out.below.size h1
            exact ⟨h2, h2.below.size, Has.new _ _ _⟩
          clear hb8
          go_wp2_with (first
            | (refine build_hash w8 rfl (.tmp 65) rfl (DHS d ps j) rfl ?_)
            | (at_builtin; refine app_hashf _ rfl (.tmp 57) (.tmp 66) rfl w.heap.size u9 j (HL (FSTS (DHS d ps) j)) rfl T8.out.1.own w8.heap.size 1 (DHS d ps j) rfl T8.out.2.2 (by have := T.out.2.2.2.2.2.2.1; omega) T8.out.2.1 ?_; intro g6 c6 w9 hown9 hgrow9 hat9 hlt9))
          have T9 : Aside (LISTED w w9 w.heap.size g d 4 (j + 1) (j + 1) C' (DHS d ps) (.slice (some ⟨g6, 0, none⟩) (j + 1) c6)) := T8.out.1.push T8.out.2.1 hown9 hgrow9 hat9
          clear hown9 hgrow9 hat9 hlt9 T8 T7 T5
          go_wp2_with fail
          go_roundg r
          case measure => exact Nat.lt_succ_self _
          case rel => exact ⟨j + 1, C', by first | rfl | (rw [ei]), T.out.1, T9.out⟩
    | succ r =>
      have hik : i < k := by have := A.out.1; omega
      have hlt : (i : Int) < (k : Int) := by omega
      have hi0 : ¬ (i : Int) < 0 := by omega
      obtain ⟨pb, po, rfl, hpb, hcell⟩ := H.out.1.2.1 (by omega)
      obtain ⟨p, hp⟩ : ∃ p, ps[i]? = some p := ⟨_, List.getElem?_eq_getElem (by have := H.out.2.2; omega)⟩
      have hc := hcell i p hp
      have hmem : p ∈ ps := List.mem_of_getElem? hp
      have ht := (H.out.1.2.2 p hmem).1
      have hj : JOIN (ps.take (i + 1)) = JOIN (ps.take i) ++ p.l := by rw [List.take_add_one, hp, Option.toList_some, JOIN_snoc]
      have ei : wrap64 ((i : Int) + 1) = ((i + 1 : Nat) : Int) := by have := H.out.2.1; unfold wrap64; omega
      obtain ⟨n2, hn2⟩ : ∃ n2, n + (1 + p.n) = n2 := ⟨_, rfl⟩
      obtain ⟨n1, hn1⟩ : ∃ n1, 1 + p.n = n1 := ⟨_, rfl⟩
      have T : Aside (i + 1 + r = k ∧ n2 = i + 1 + (JOIN (ps.take (i + 1))).length) := ⟨by have := A.out.1; clear ei; omega, by have h1 := A.out.2.1; have h2 := ht.1; rw [hj, List.length_append]; clear ei; omega⟩
      obtain ⟨e1, e2⟩ := datas_count A.out.2.2 (H.out.1.2.2 p hmem).2.2
      rw [hn2] at e2
      rw [hn1] at e1 e2
      clear ht hp hcell hpb hmem hj hn1 hn2 A
      obtain ⟨pa, pn, pc, pl⟩ := p
      dsimp only at hc e1
      by_cases hbig : (3000 : Int) < (n2 : Int)
      · go_wp2
        go_ret
        exact ⟨rfl, Below.refl _ _⟩
      · go_wp2
        go_roundg r
        case measure => exact Nat.lt_succ_self _
        case rel => exact ⟨i + 1, n2, by first | rfl | (rw [e2]) | (rw [e1, e2]), by first | rfl | (rw [ei]), rfl, T.out.1, T.out.2, by omega⟩
end Go.Proofs.YtcmjcchemlhejaaDoor.HX

/- awake answers true: the forest of seven leaves. -/
namespace Go.Proofs.YtcmjcchemlhejaaDoor
open Go.RowKit

theorem PEAKS_seven : PEAKS 7 = [6, 9, 10] := by
  have h : HS 0 7 = [2, 1, 0] := by rw [HS_zero]; decide
  have p2 : PKP 7 2 = 6 := by
    unfold PKP PLC NODES
    simp [PC_zero]
  have p1 : PKP 7 1 = 9 := by
    unfold PKP PLC NODES
    have := PC_pow 2
    simp at this
    simp [this]
  have p0 : PKP 7 0 = 10 := by
    unfold PKP PLC NODES
    have h1 := PC_even 3
    have h2 := PC_ones 2
    simp at h1 h2
    simp [h1, h2]
  unfold PEAKS
  rw [h]
  simp [p0, p1, p2]
theorem PC_seven : PC 7 = 3 := PC_ones 3
theorem NODES_seven : NODES 7 = 11 := by
  unfold NODES
  rw [PC_seven]
theorem PLC_nine : PLC 1 2 = 9 := by
  unfold PLC NODES
  have := PC_pow 2
  simp at this
  simp [this]
/-- a list of numbers, cell by cell. -/
theorem row_at {w : World} {base g n cap : Nat} {l : List Nat} (h : w.ownsRow base 26 1 (.slice (some ⟨g, 0, none⟩) n cap) n (UCELLS l)) (i : Nat) (hi : i < l.length) : w.cell? ⟨g, i, none⟩ = some (.int .u64 (l.getD i 0 : Nat)) := by
  have hlen : l.length = n := by have := h.1; simpa [UCELLS] using this
  rw [h.cellAt i (by omega)]
  unfold UCELLS
  rw [List.getElem?_map, List.getD_eq_getElem?_getD, List.getElem?_eq_getElem hi]
  rfl
end Go.Proofs.YtcmjcchemlhejaaDoor
