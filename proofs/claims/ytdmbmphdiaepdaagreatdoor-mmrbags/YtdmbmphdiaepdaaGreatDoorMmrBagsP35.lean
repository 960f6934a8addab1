/- Texts of MmrBags, one behind the other: MmrSame, MmrBagsWalk, PosAwake, PosDoor. -/
import Derived.Test.YtdmbmphdiaepdaaGreatDoorRows
import Derived.ProofKit
import Derived.LaidMore
import Derived.OpenShut
import Derived.Stop.Joined
import Derived.Test.YtdmbmphdiaepdaaGreatDoorMmrBagsP23
import Derived.Test.YtdmbmphdiaepdaaGreatDoorMmrBagsP24
import Derived.Test.YtdmbmphdiaepdaaGreatDoorMmrBagsP30
import Derived.Test.YtdmbmphdiaepdaaGreatDoorMmrBagsP31
import Derived.Test.YtdmbmphdiaepdaaGreatDoorMmrBagsP34
/- massiflaw6.same, where the two lists are the same. -/
namespace Go.Proofs.YtdmbmphdiaepdaaGreatDoor.HX
open Go.RowKit
set_option maxRecDepth 100000

def MS6OPS : Array Oper := #[{ dst := some 17, op := Op.move (Operand.tmp 0), type := 23, pos := "help.go:34", after := #[], guard := none }, { dst := some 18, op := Op.move (Operand.tmp 5), type := 3, pos := "help.go:34", after := #[], guard := none }, { dst := some 19, op := Op.indexAddr 23 (Operand.tmp 17) (Operand.tmp 18), type := 0, pos := "help.go:34", after := #[{ on := 0, ground := Ground.data }, { on := 1, ground := Ground.data }], guard := none }, { dst := some 20, op := Op.load 26 (Operand.tmp 19), type := 26, pos := "help.go:34", after := #[{ on := 2, ground := Ground.data }], guard := none }, { dst := some 21, op := Op.move (Operand.tmp 1), type := 23, pos := "help.go:34", after := #[], guard := none }, { dst := some 22, op := Op.move (Operand.tmp 5), type := 3, pos := "help.go:34", after := #[], guard := none }, { dst := some 23, op := Op.indexAddr 23 (Operand.tmp 21) (Operand.tmp 22), type := 0, pos := "help.go:34", after := #[{ on := 4, ground := Ground.data }, { on := 5, ground := Ground.data }], guard := none }, { dst := some 24, op := Op.load 26 (Operand.tmp 23), type := 26, pos := "help.go:34", after := #[{ on := 6, ground := Ground.data }], guard := none }, { dst := some 25, op := Op.binOp BinOp.neq 26 (Operand.tmp 20) (Operand.tmp 24) 26, type := 4, pos := "help.go:34", after := #[{ on := 3, ground := Ground.data }, { on := 7, ground := Ground.data }], guard := none }]
set_option maxHeartbeats 2000000 in
theorem same6_region {Q : Exit → Act → World → Prop} {u2 u3 u4 u6 u7 u8 u9 u10 u11 u12 u13 u14 u15 u16 u17 u18 u19 u20 u21 u22 u23 u24 u25 : Value} (W : World) (b o n c b' o' c' i : Nat) (x : Nat → Nat) (hi : (i : Int) < (n : Int)) (S : World → Prop) (h0 : S W.drew) (hS : ∀ w, S w → w.rangeAt b (o + i * 32) (ULIST .u8 32 x) ∧ w.rangeAt b' (o' + i * 32) (ULIST .u8 32 x)) (qx : ∀ w, (Op.equalIn 10000 26 (.agg (UARR .u8 32 x)) (.agg (UARR .u8 32 x))).run Tryz.prog w = .ok true w) (hQ : ∀ c (a : Act) (t : Tmp) (v : Value) w, Q (.panic c) (a.put (some t) v) w → Q (.panic c) a w)
    (hfin : ∀ (w : World), (S w) → Q .normal { tmps := #[.slice (some ⟨b, o, none⟩) n c, .slice (some ⟨b', o', none⟩) n c', u2, u3, u4, .int .i64 (i : Int), u6, u7, u8, u9, u10, u11, u12, u13, u14, u15, u16, .slice (some ⟨b, o, none⟩) n c, .int .i64 (i : Int), .pointer (some ⟨b, (o + i * 32), none⟩), .agg (UARR .u8 32 x), .slice (some ⟨b', o', none⟩) n c', .int .i64 (i : Int), .pointer (some ⟨b', (o' + i * 32), none⟩), .agg (UARR .u8 32 x), .bool false], defers := [] } w) : (Code.region 6 MS6OPS true).wp Tryz.prog Q { tmps := #[.slice (some ⟨b, o, none⟩) n c, .slice (some ⟨b', o', none⟩) n c', u2, u3, u4, .int .i64 (i : Int), u6, u7, u8, u9, u10, u11, u12, u13, u14, u15, u16, u17, u18, u19, u20, u21, u22, u23, u24, u25], defers := [] } W := by
  have k : ∀ (w : World), (S w) → wpAnyH Tryz.prog .any MS6OPS Q S 0 #[true, true, true, true, true, true, true, true, true] { tmps := #[.slice (some ⟨b, o, none⟩) n c, .slice (some ⟨b', o', none⟩) n c', u2, u3, u4, .int .i64 (i : Int), u6, u7, u8, u9, u10, u11, u12, u13, u14, u15, u16, .slice (some ⟨b, o, none⟩) n c, .int .i64 (i : Int), .pointer (some ⟨b, (o + i * 32), none⟩), .agg (UARR .u8 32 x), .slice (some ⟨b', o', none⟩) n c', .int .i64 (i : Int), .pointer (some ⟨b', (o' + i * 32), none⟩), .agg (UARR .u8 32 x), .bool false], defers := [] } w := fun  w hp => by
    exact wpAnyH_done (by kernel_rfl) (hfin  w hp) _
  have hp := h0
  have hww : S W.drew := hp
  have last := k W.drew hp
  have z : wpAnyH Tryz.prog .any MS6OPS Q S 9 #[false, false, false, false, false, false, false, false, false] { tmps := #[.slice (some ⟨b, o, none⟩) n c, .slice (some ⟨b', o', none⟩) n c', u2, u3, u4, .int .i64 (i : Int), u6, u7, u8, u9, u10, u11, u12, u13, u14, u15, u16, u17, u18, u19, u20, u21, u22, u23, u24, u25], defers := [] } W.drew := by
    have t8 : wpAnyH Tryz.prog .any MS6OPS Q S 1 #[true, true, true, true, true, true, true, true, false] { tmps := #[.slice (some ⟨b, o, none⟩) n c, .slice (some ⟨b', o', none⟩) n c', u2, u3, u4, .int .i64 (i : Int), u6, u7, u8, u9, u10, u11, u12, u13, u14, u15, u16, .slice (some ⟨b, o, none⟩) n c, .int .i64 (i : Int), .pointer (some ⟨b, (o + i * 32), none⟩), .agg (UARR .u8 32 x), .slice (some ⟨b', o', none⟩) n c', .int .i64 (i : Int), .pointer (some ⟨b', (o' + i * 32), none⟩), .agg (UARR .u8 32 x), u25], defers := [] } W.drew :=
      wpAnyH_take (i := 8) (oi := { dst := some 25, op := Op.binOp BinOp.neq 26 (Operand.tmp 20) (Operand.tmp 24) 26, type := 4, pos := "help.go:34", after := #[{ on := 3, ground := Ground.data }, { on := 7, ground := Ground.data }], guard := none }) (v := .bool false) rfl (by kernel_rfl) (by kernel_rfl) (by kernel_rfl) (fun _ _ _ h => hQ _ _ _ _ _ h) (Or.inl ⟨by rfl, fun w hw => by have hx := qx w; go_simp⟩) hww last
    have t7 : wpAnyH Tryz.prog .any MS6OPS Q S 2 #[true, true, true, true, true, true, true, false, false] { tmps := #[.slice (some ⟨b, o, none⟩) n c, .slice (some ⟨b', o', none⟩) n c', u2, u3, u4, .int .i64 (i : Int), u6, u7, u8, u9, u10, u11, u12, u13, u14, u15, u16, .slice (some ⟨b, o, none⟩) n c, .int .i64 (i : Int), .pointer (some ⟨b, (o + i * 32), none⟩), .agg (UARR .u8 32 x), .slice (some ⟨b', o', none⟩) n c', .int .i64 (i : Int), .pointer (some ⟨b', (o' + i * 32), none⟩), u24, u25], defers := [] } W.drew :=
      wpAnyH_take (i := 7) (oi := { dst := some 24, op := Op.load 26 (Operand.tmp 23), type := 26, pos := "help.go:34", after := #[{ on := 6, ground := Ground.data }], guard := none }) (v := .agg (UARR .u8 32 x)) rfl (by kernel_rfl) (by kernel_rfl) (by kernel_rfl) (fun _ _ _ h => hQ _ _ _ _ _ h) (yieldsIf_load_mid (by rfl) 26 (.tmp 23) rfl b' (o' + i * 32) rfl (ULIST .u8 32 x) _ (fun w h => (hS w h).2) Tryz.underlying26 rfl (by rw [ULIST_length]; exact info_hash)) hww t8
    have t6 : wpAnyH Tryz.prog .any MS6OPS Q S 3 #[true, true, true, true, true, true, false, false, false] { tmps := #[.slice (some ⟨b, o, none⟩) n c, .slice (some ⟨b', o', none⟩) n c', u2, u3, u4, .int .i64 (i : Int), u6, u7, u8, u9, u10, u11, u12, u13, u14, u15, u16, .slice (some ⟨b, o, none⟩) n c, .int .i64 (i : Int), .pointer (some ⟨b, (o + i * 32), none⟩), .agg (UARR .u8 32 x), .slice (some ⟨b', o', none⟩) n c', .int .i64 (i : Int), u23, u24, u25], defers := [] } W.drew :=
      wpAnyH_take (i := 6) (oi := { dst := some 23, op := Op.indexAddr 23 (Operand.tmp 21) (Operand.tmp 22), type := 0, pos := "help.go:34", after := #[{ on := 4, ground := Ground.data }, { on := 5, ground := Ground.data }], guard := none }) (v := .pointer (some ⟨b', (o' + i * 32), none⟩)) rfl (by kernel_rfl) (by kernel_rfl) (by kernel_rfl) (fun _ _ _ h => hQ _ _ _ _ _ h) (Yields.yieldsIf (Or.inl ⟨by rfl, fun W => by go_simp⟩)) hww t7
    have t5 : wpAnyH Tryz.prog .any MS6OPS Q S 4 #[true, true, true, true, true, false, false, false, false] { tmps := #[.slice (some ⟨b, o, none⟩) n c, .slice (some ⟨b', o', none⟩) n c', u2, u3, u4, .int .i64 (i : Int), u6, u7, u8, u9, u10, u11, u12, u13, u14, u15, u16, .slice (some ⟨b, o, none⟩) n c, .int .i64 (i : Int), .pointer (some ⟨b, (o + i * 32), none⟩), .agg (UARR .u8 32 x), .slice (some ⟨b', o', none⟩) n c', u22, u23, u24, u25], defers := [] } W.drew :=
      wpAnyH_take (i := 5) (oi := { dst := some 22, op := Op.move (Operand.tmp 5), type := 3, pos := "help.go:34", after := #[], guard := none }) (v := .int .i64 (i : Int)) rfl (by kernel_rfl) (by kernel_rfl) (by kernel_rfl) (fun _ _ _ h => hQ _ _ _ _ _ h) (Yields.yieldsIf (Or.inl ⟨by rfl, fun W => by go_simp⟩)) hww t6
    have t4 : wpAnyH Tryz.prog .any MS6OPS Q S 5 #[true, true, true, true, false, false, false, false, false] { tmps := #[.slice (some ⟨b, o, none⟩) n c, .slice (some ⟨b', o', none⟩) n c', u2, u3, u4, .int .i64 (i : Int), u6, u7, u8, u9, u10, u11, u12, u13, u14, u15, u16, .slice (some ⟨b, o, none⟩) n c, .int .i64 (i : Int), .pointer (some ⟨b, (o + i * 32), none⟩), .agg (UARR .u8 32 x), u21, u22, u23, u24, u25], defers := [] } W.drew :=
      wpAnyH_take (i := 4) (oi := { dst := some 21, op := Op.move (Operand.tmp 1), type := 23, pos := "help.go:34", after := #[], guard := none }) (v := .slice (some ⟨b', o', none⟩) n c') rfl (by kernel_rfl) (by kernel_rfl) (by kernel_rfl) (fun _ _ _ h => hQ _ _ _ _ _ h) (Yields.yieldsIf (Or.inl ⟨by rfl, fun W => by go_simp⟩)) hww t5
    have t3 : wpAnyH Tryz.prog .any MS6OPS Q S 6 #[true, true, true, false, false, false, false, false, false] { tmps := #[.slice (some ⟨b, o, none⟩) n c, .slice (some ⟨b', o', none⟩) n c', u2, u3, u4, .int .i64 (i : Int), u6, u7, u8, u9, u10, u11, u12, u13, u14, u15, u16, .slice (some ⟨b, o, none⟩) n c, .int .i64 (i : Int), .pointer (some ⟨b, (o + i * 32), none⟩), u20, u21, u22, u23, u24, u25], defers := [] } W.drew :=
      wpAnyH_take (i := 3) (oi := { dst := some 20, op := Op.load 26 (Operand.tmp 19), type := 26, pos := "help.go:34", after := #[{ on := 2, ground := Ground.data }], guard := none }) (v := .agg (UARR .u8 32 x)) rfl (by kernel_rfl) (by kernel_rfl) (by kernel_rfl) (fun _ _ _ h => hQ _ _ _ _ _ h) (yieldsIf_load_mid (by rfl) 26 (.tmp 19) rfl b (o + i * 32) rfl (ULIST .u8 32 x) _ (fun w h => (hS w h).1) Tryz.underlying26 rfl (by rw [ULIST_length]; exact info_hash)) hww t4
    have t2 : wpAnyH Tryz.prog .any MS6OPS Q S 7 #[true, true, false, false, false, false, false, false, false] { tmps := #[.slice (some ⟨b, o, none⟩) n c, .slice (some ⟨b', o', none⟩) n c', u2, u3, u4, .int .i64 (i : Int), u6, u7, u8, u9, u10, u11, u12, u13, u14, u15, u16, .slice (some ⟨b, o, none⟩) n c, .int .i64 (i : Int), u19, u20, u21, u22, u23, u24, u25], defers := [] } W.drew :=
      wpAnyH_take (i := 2) (oi := { dst := some 19, op := Op.indexAddr 23 (Operand.tmp 17) (Operand.tmp 18), type := 0, pos := "help.go:34", after := #[{ on := 0, ground := Ground.data }, { on := 1, ground := Ground.data }], guard := none }) (v := .pointer (some ⟨b, (o + i * 32), none⟩)) rfl (by kernel_rfl) (by kernel_rfl) (by kernel_rfl) (fun _ _ _ h => hQ _ _ _ _ _ h) (Yields.yieldsIf (Or.inl ⟨by rfl, fun W => by go_simp⟩)) hww t3
    have t1 : wpAnyH Tryz.prog .any MS6OPS Q S 8 #[true, false, false, false, false, false, false, false, false] { tmps := #[.slice (some ⟨b, o, none⟩) n c, .slice (some ⟨b', o', none⟩) n c', u2, u3, u4, .int .i64 (i : Int), u6, u7, u8, u9, u10, u11, u12, u13, u14, u15, u16, .slice (some ⟨b, o, none⟩) n c, u18, u19, u20, u21, u22, u23, u24, u25], defers := [] } W.drew :=
      wpAnyH_take (i := 1) (oi := { dst := some 18, op := Op.move (Operand.tmp 5), type := 3, pos := "help.go:34", after := #[], guard := none }) (v := .int .i64 (i : Int)) rfl (by kernel_rfl) (by kernel_rfl) (by kernel_rfl) (fun _ _ _ h => hQ _ _ _ _ _ h) (Yields.yieldsIf (Or.inl ⟨by rfl, fun W => by go_simp⟩)) hww t2
    have t0 : wpAnyH Tryz.prog .any MS6OPS Q S 9 #[false, false, false, false, false, false, false, false, false] { tmps := #[.slice (some ⟨b, o, none⟩) n c, .slice (some ⟨b', o', none⟩) n c', u2, u3, u4, .int .i64 (i : Int), u6, u7, u8, u9, u10, u11, u12, u13, u14, u15, u16, u17, u18, u19, u20, u21, u22, u23, u24, u25], defers := [] } W.drew :=
      wpAnyH_take (i := 0) (oi := { dst := some 17, op := Op.move (Operand.tmp 0), type := 23, pos := "help.go:34", after := #[], guard := none }) (v := .slice (some ⟨b, o, none⟩) n c) rfl (by kernel_rfl) (by kernel_rfl) (by kernel_rfl) (fun _ _ _ h => hQ _ _ _ _ _ h) (Yields.yieldsIf (Or.inl ⟨by rfl, fun W => by go_simp⟩)) hww t1
    exact t0
  exact wp_region_held_drew (S := S) (by kernel_rfl) hww (fun _ => z)
set_option maxHeartbeats 1000000 in
theorem same6_yes (a a' : Option Addr) (n c c' : Nat) (hs : Nat → Nat → Nat) (w : World) (hn : n ≤ 2 ^ 20) (h1 : HASHES w a n hs) (h2 : HASHES w a' n hs) : Calls Tryz.prog 8 #[.slice a n c, .slice a' n c'] w fun e w' => e = .returned (.bool true) ∧ Below w.heap.size w w' := by
  have H : Aside (HASHES w a n hs ∧ HASHES w a' n hs ∧ n ≤ 2 ^ 20) := ⟨h1, h2, hn⟩
  clear h1 h2 hn
  go_enter Tryz.func8, Tryz.ntmps8
  go_wp2_with fail
  go_loopg [5] n (fun r s5 wx => ∃ i : Nat, s5 = .int .i64 (i : Int) ∧ Aside (i + r = n ∧ Below w.heap.size w wx))
  case atStart => exact ⟨0, rfl, by omega, Below.refl _ _⟩
  case round =>
    obtain ⟨i, rfl, A⟩ := hrel
    cases gk with
    | zero =>
      obtain rfl : i = n := by have := A.out.1; omega
      have hlt : ¬ (i : Int) < (i : Int) := by omega
      go_wp2_with fail
      go_ret
      exact ⟨rfl, A.out.2⟩
    | succ r =>
      have hin : i < n := by have := A.out.1; omega
      have hlt : (i : Int) < (n : Int) := by omega
      obtain ⟨b, o, rfl, hb, hr⟩ := H.out.1 (by omega)
      obtain ⟨b', o', rfl, hb', hr'⟩ := H.out.2.1 (by omega)
      have ei : wrap64 ((i : Int) + 1) = ((i + 1 : Nat) : Int) := by have := H.out.2.2; unfold wrap64; omega
      have A2 : Aside (i + 1 + r = n ∧ Below w.heap.size w wr ∧ w.rangeAt b (o + i * 32) (ULIST .u8 32 (hs i)) ∧ w.rangeAt b' (o' + i * 32) (ULIST .u8 32 (hs i)) ∧ b < w.heap.size ∧ b' < w.heap.size) := ⟨by have := A.out.1; clear ei; omega, A.out.2, hr i hin, hr' i hin, hb, hb'⟩
      clear A hb hb' hr hr' hin
      go_upto_region 6 with fail
      refine same6_region wr b o n c b' o' c' i (hs i) hlt (fun W => Below wr.heap.size wr W) (Below.refl _ _).drew (fun W hb => ?_) (equal_same _) (fun _ _ _ _ _ h => h) ?_
      · have h2 := A2.out.2.1.trans (hb.mono A2.out.2.1.size)
        exact ⟨range_below A2.out.2.2.1 h2 A2.out.2.2.2.2.1, range_below A2.out.2.2.2.1 h2 A2.out.2.2.2.2.2⟩
      · intro W hb
        have A3 : Aside (i + 1 + r = n ∧ Below w.heap.size w W) := ⟨A2.out.1, A2.out.2.1.trans (hb.mono A2.out.2.1.size)⟩
        clear hb A2
        go_wp2_with fail
        go_roundg r
        case measure => exact Nat.lt_succ_self _
        case rel => exact ⟨i + 1, by first | rfl | (rw [ei]), A3.out⟩
end Go.Proofs.YtdmbmphdiaepdaaGreatDoor.HX

/- The law MmrBags returns true. -/
namespace Go.Proofs.YtdmbmphdiaepdaaGreatDoor.HX
open Go.RowKit
set_option maxRecDepth 100000

theorem own_firsts {w : World} {B n g c : Nat} {hs : Nat → Nat → Nat} (h : w.ownsRow B 26 32 (.slice (some ⟨g, 0, none⟩) n c) n (HL (FSTS hs n))) : HASHES w (some ⟨g, 0, none⟩) n hs := by
  obtain ⟨a, c, e, hH⟩ := own_hashes h (FSTS_length hs n)
  cases e
  intro hk
  obtain ⟨b, o, e2, hl, hr⟩ := hH hk
  refine ⟨b, o, e2, hl, fun j hj => ?_⟩
  have h1 := hr j hj
  dsimp only at h1
  rwa [FSTS_get hs hj] at h1
theorem bags_long (d : Int) (n : Int) (a : Option Addr) (k c : Nat) (w : World) (hn : (200 : Int) < (k : Int)) : Calls Tryz.prog 3 #[.int .i64 d, .int .u64 n, .slice a k c] w fun e w' => e = .returned (.bool true) ∧ Below w.heap.size w w' := by
  go_enter Tryz.func3, Tryz.ntmps3
  go_wp2
  go_ret
  exact ⟨rfl, Below.refl _ _⟩
set_option maxHeartbeats 4000000 in
theorem bags_core (d : Int) (n : Nat) (hn : n < 2 ^ 64) (a : Option Addr) (k c : Nat) (hs : Nat → Nat → Nat) (w : World) (hk : k ≤ 200) (hH : HASHES w a k hs) (h8 : ∀ i, i < k → ∀ j, hs i j < 256) (hc : a = none → c = 0 ∧ k = 0) (hT : Go.Proofs.YtdmbmphdiaepdaaGreatDoor.Tabled w) (hX : Tabled w) : Calls Tryz.prog 3 #[.int .i64 d, .int .u64 (n : Int), .slice a k c] w fun e w' => e = .returned (.bool true) ∧ Below w.heap.size w w' := by
  have hlong : ¬ (200 : Int) < (k : Int) := by omega
  have cr := row6_ok a k c (by omega) hc hs w hH
  have hz := zeroHash
  have HA : Aside (HASHES w a k hs ∧ (∀ i, i < k → ∀ j, hs i j < 256) ∧ k ≤ 200 ∧ n < 2 ^ 64) := ⟨hH, h8, hk, hn⟩
  have tab : Aside (∀ W, Below w.heap.size w W → Go.Proofs.YtdmbmphdiaepdaaGreatDoor.Tabled W ∧ Tabled W) := fun W hb => ⟨hT.below (by have := hX.2.2; omega) hb, hX.below hb⟩
  clear hk hn hH h8 hc hT hX
  go_enter Tryz.func3, Tryz.ntmps3
  go_wp2_with fail
  refine cr.mono ?_
  rintro e w1 ⟨g, cg, rfl, r1, r2, r3, r4, r5⟩
  clear cr
  have A1 : Aside (w1.ownsRow w.heap.size 26 32 (.slice (some ⟨g, 0, none⟩) k cg) k (HL (FSTS hs k)) ∧ k + 1 ≤ cg ∧ w1.rangeAt g (k * 32) (ULIST .u8 32 MRKF) ∧ g < w1.heap.size ∧ Below w.heap.size w w1) := ⟨r1, r2, r3, r4, r5⟩
  have cb := refbag_any d n a k c hs w1 (HA.out.1.below r5) HA.out.2.1
  clear r1 r2 r3 r4 r5
  obtain ⟨X, hX⟩ : ∃ X, (BAGF d n k hs).2 = X := ⟨_, rfl⟩
  obtain ⟨E, hE⟩ : ∃ E, (BAGF d n k hs).1 = E := ⟨_, rfl⟩
  rw [hX, hE] at cb
  go_wp2_with fail
  refine cb.mono ?_
  rintro e w2 ⟨rfl, hb2⟩
  clear cb
  have hst := run_storeCells_new (P := Tryz.prog) w2 26 (UARR .u8 32 fun _ => 0) (UARR .u8 32 X) (info_HASH _) (by rw [UARR_size, UARR_size]) (UARR_one _ _ _)
  have hsu := UARR_size .u8 32 X
  obtain ⟨w3, hw3⟩ : ∃ w3, w2.alloc (.cells (UARR .u8 32 X) 26) = w3 := ⟨_, rfl⟩
  rw [hw3] at hst
  have hb3 : Below w1.heap.size w1 w3 := by rw [← hw3]; exact hb2.alloc hb2.size _
  have A3 : Aside (Below w1.heap.size w1 w3 ∧ Has w3 w2.heap.size (UARR .u8 32 X) 26 ∧ w1.heap.size ≤ w2.heap.size) := ⟨hb3, by rw [← hw3]; exact Has.new _ _ _, hb2.size⟩
  have hbw3 : Below w.heap.size w w3 := A1.out.2.2.2.2.trans (hb3.mono A1.out.2.2.2.2.size)
  have cb := bagf_any d n HA.out.2.2.2 (some ⟨g, 0, none⟩) k cg hs w3 ((own_firsts A1.out.1).below hb3) HA.out.2.1 (tab.out w3 hbw3).2
  rw [hX, hE] at cb
  clear hX hE hb2 hb3 hbw3
  go_wp2_with fail
  refine cb.mono ?_
  rintro e w4 ⟨rfl, hb4⟩
  clear cb hst hw3
  obtain ⟨b8, hb8⟩ : ∃ b, w2.heap.size = b := ⟨_, rfl⟩
  rw [hb8] at A3 ⊢
  clear hb8
  have hst := run_storeCells_new (P := Tryz.prog) w4 26 (UARR .u8 32 fun _ => 0) (UARR .u8 32 X) (info_HASH _) (by rw [UARR_size, UARR_size]) (UARR_one _ _ _)
  obtain ⟨w5, hw5⟩ : ∃ w5, w4.alloc (.cells (UARR .u8 32 X) 26) = w5 := ⟨_, rfl⟩
  rw [hw5] at hst
  have hb5 : Below w3.heap.size w3 w5 := by rw [← hw5]; exact hb4.alloc hb4.size _
  have h8' : Has w5 b8 (UARR .u8 32 X) 26 := A3.out.2.1.keep hb5
  have h10 : Has w5 w4.heap.size (UARR .u8 32 X) 26 := by rw [← hw5]; exact Has.new _ _ _
  have A5 : Aside (Below w1.heap.size w1 w5 ∧ Has w5 b8 (UARR .u8 32 X) 26 ∧ w1.heap.size ≤ b8 ∧ Has w5 w4.heap.size (UARR .u8 32 X) 26 ∧ b8 < w4.heap.size) := ⟨A3.out.1.trans (hb5.mono A3.out.1.size), h8', A3.out.2.2, h10, Nat.lt_of_lt_of_le A3.out.2.1.lt hb4.size⟩
  clear hb4 hb5 A3 hw5
  have qx := equal_same X
  have cs := same6_yes (some ⟨g, 0, none⟩) a k cg c hs w5 (by have := HA.out.2.2.1; omega) ((own_firsts A1.out.1).below A5.out.1) ((HA.out.1.below A1.out.2.2.2.2).below A5.out.1)
  go_wp2_with (first
    | (refine wpList_load_row rfl 26 (.tmp 10) rfl w4.heap.size rfl 26 (UARR .u8 32 X) (0, 0) _ h10 Tryz.underlying26 rfl (info_HASH _) ?_)
    | (refine wpList_load_row rfl 26 (.tmp 8) rfl b8 rfl 26 (UARR .u8 32 X) (0, 0) _ h8' Tryz.underlying26 rfl (info_HASH _) ?_))
  refine cs.mono ?_
  rintro e w6 ⟨rfl, hb6⟩
  clear cs hst h10 h8'
  obtain ⟨b10, hb10⟩ : ∃ b, w4.heap.size = b := ⟨_, rfl⟩
  rw [hb10] at A5 ⊢
  clear hb10
  have A6 : Aside (Below w1.heap.size w1 w6 ∧ Has w6 b8 (UARR .u8 32 X) 26 ∧ w1.heap.size ≤ b8 ∧ Has w6 b10 (UARR .u8 32 X) 26 ∧ b8 < b10) := ⟨A5.out.1.trans (hb6.mono A5.out.1.size), A5.out.2.1.keep hb6, A5.out.2.2.1, A5.out.2.2.2.1.keep hb6, A5.out.2.2.2.2⟩
  have cm := marked6_ok g k cg (by have := HA.out.2.2.1; omega) A1.out.2.1 w6 (range_below A1.out.2.2.1 A6.out.1 A1.out.2.2.2.1)
  clear A5 hb6 qx hsu
  go_wp2_with fail
  refine cm.mono ?_
  rintro e w7 ⟨rfl, rfl⟩
  clear cm
  have L0 : Aside (w6.ownsRow w.heap.size 26 32 (.slice (some ⟨g, 0, none⟩) k cg) k (HL (FSTS (UPS hs 0) k)) ∧ Has w6 b8 (UARR .u8 32 X) 26 ∧ Has w6 b10 (UARR .u8 32 X) 26 ∧ Below w.heap.size w w6) := ⟨by rw [UPS_zero]; exact own_keep A1.out.1 A6.out.1, A6.out.2.1, A6.out.2.2.2.1, A1.out.2.2.2.2.trans (A6.out.1.mono A1.out.2.2.2.2.size)⟩
  have G : Aside (g ≠ b8 ∧ g ≠ b10 ∧ b8 < b10 ∧ w.heap.size ≤ g ∧ w.heap.size ≤ b8) := by
    have h1 := A1.out.2.2.2.1
    have h2 := A6.out.2.2.1
    have h3 := A6.out.2.2.2.2
    have h4 := A1.out.2.2.2.2.size
    exact ⟨by omega, by omega, h3, (A1.out.1.lt g rfl).1, by omega⟩
  clear A1 A6
  go_wp2_with fail
  go_loopg [12] k (fun r s12 wx => ∃ i : Nat, s12 = .int .i64 (i : Int) ∧ Aside (i + r = k ∧ wx.ownsRow w.heap.size 26 32 (.slice (some ⟨g, 0, none⟩) k cg) k (HL (FSTS (UPS hs i) k)) ∧ Has wx b8 (UARR .u8 32 X) 26 ∧ Has wx b10 (UARR .u8 32 X) 26 ∧ Below w.heap.size w wx))
  case atStart => exact ⟨0, rfl, by omega, L0.out⟩
  case round =>
    obtain ⟨i, rfl, A⟩ := hrel
    clear L0
    cases gk with
    | succ r =>
      have hik : i < k := by have := A.out.1; omega
      have hlt : (i : Int) < (k : Int) := by omega
      have ei : wrap64 ((i : Int) + 1) = ((i + 1 : Nat) : Int) := by have := HA.out.2.2.1; unfold wrap64; omega
      have hlen : i * 32 < 32 * k := by omega
      have hcell : wr.cell? ⟨g, i * 32, none⟩ = some (.int .u8 ((hs i 0 : Nat) : Int)) := by
        have h1 := A.out.2.1.cellAt (i * 32) (by omega)
        rw [h1, HLF_at _ hlen, show i * 32 / 32 = i by omega, show i * 32 % 32 = 0 by omega]
        unfold UPS
        rw [if_neg (by omega)]
      have hfr := A.out.2.1.frozenAt (i * 32)
      have hy : IntKind.u8.wrap (((hs i 0 : Nat) : Int) + 1) = (((hs i 0 + 1) % 256 : Nat) : Int) := by
        simp [IntKind.wrap, IntKind.signed, IntKind.bits]
      have A2 : Aside (i + 1 + r = k ∧ True ∧ wr.cell? ⟨g, i * 32, none⟩ = some (.int .u8 ((hs i 0 : Nat) : Int)) ∧ wr.frozen? ⟨g, i * 32, none⟩ = false ∧ i < k) := ⟨by have := A.out.1; clear ei hy; omega, trivial, hcell, hfr, hik⟩
      clear hcell hfr hlen hik
      go_upto_region 11 with fail
      refine bags_bump wr g k cg i (hs i 0) _ hlt hy (fun W => W = wr.drew) rfl (fun W e => by rw [e]; exact ⟨A2.out.2.2.1, A2.out.2.2.2.1⟩) (fun _ _ _ _ _ h => h) ?_
      rintro W ⟨w0', e0, hW⟩
      subst e0
      have Z : Aside (i + 1 + r = k ∧ W.ownsRow w.heap.size 26 32 (.slice (some ⟨g, 0, none⟩) k cg) k (HL (FSTS (UPS hs (i + 1)) k)) ∧ Has W b8 (UARR .u8 32 X) 26 ∧ Has W b10 (UARR .u8 32 X) 26 ∧ Below w.heap.size w W) := by
        rw [hW]
        refine ⟨A2.out.1, ?_, (show Has wr.drew b8 (UARR .u8 32 X) 26 from A.out.2.2.1).other (fun e => G.out.1 e.symm) _, (show Has wr.drew b10 (UARR .u8 32 X) 26 from A.out.2.2.2.1).other (fun e => G.out.2.1 e.symm) _, A.out.2.2.2.2.drew.setCell (p := ⟨g, i * 32, none⟩) G.out.2.2.2.1 _⟩
        have h1 := own_set (show wr.drew.ownsRow w.heap.size 26 32 (.slice (some ⟨g, 0, none⟩) k cg) k (HL (FSTS (UPS hs i) k)) from own_keep A.out.2.1 (Below.refl _ _).drew) (i * 32) (.int .u8 (((hs i 0 + 1) % 256 : Nat) : Int))
        rwa [HL_up hs A2.out.2.2.2.2] at h1
      clear hW A A2 hy
      go_wp2_with fail
      go_roundg r
      case measure => exact Nat.lt_succ_self _
      case rel => exact ⟨i + 1, by first | rfl | (rw [ei]), Z.out⟩
    | zero =>
      obtain rfl : i = k := by have := A.out.1; omega
      have hlt : ¬ (i : Int) < (i : Int) := by omega
      obtain ⟨fs, hfs⟩ : ∃ fs, UPS hs i = fs := ⟨_, rfl⟩
      have hf8 : ∀ t, t < i → ∀ j, fs t j < 256 := by rw [← hfs]; exact UPS_lt HA.out.2.1
      have A2 : Aside (wr.ownsRow w.heap.size 26 32 (.slice (some ⟨g, 0, none⟩) i cg) i (HL (FSTS fs i)) ∧ Has wr b8 (UARR .u8 32 X) 26 ∧ Has wr b10 (UARR .u8 32 X) 26 ∧ Below w.heap.size w wr ∧ (∀ t, t < i → ∀ j, fs t j < 256)) := ⟨by rw [← hfs]; exact A.out.2.1, A.out.2.2.1, A.out.2.2.2.1, A.out.2.2.2.2, hf8⟩
      clear A hfs hf8
      go_wp2_with (at_builtin; refine app_hashesf _ rfl (.tmp 70) (.tmp 71) rfl wr.heap.size (.slice (some ⟨wr.heap.size, 0, none⟩) 0 0) 0 [] rfl (own_emptyh wr) (some ⟨g, 0, none⟩) i cg fs rfl ((own_firsts A2.out.1).below ((Below.refl _ _).alloc (Nat.le_refl _) _)) (fun h => by cases h) (fun h => by cases h) (by have := HA.out.2.2.1; omega) (by simp) ?_; rw [Nat.zero_add, List.nil_append]; intro a1 c1 w7 hown1 hgrow1)
      have hb7 : Below wr.heap.size wr w7 := ((Below.refl _ wr).alloc (Nat.le_refl _) _).grown hgrow1 (by simp) (fun k e => by cases e; exact Nat.le_refl _)
      obtain ⟨a9, c9, e9, hh9⟩ := own_hashes hown1 (FSTS_length fs i)
      cases e9
      have hh : HASHES w7 a1 i fs := fun hk => by
        obtain ⟨b, o, e2, hl, hr⟩ := hh9 hk
        refine ⟨b, o, e2, hl, fun j hj => ?_⟩
        have h1 := hr j hj
        dsimp only at h1
        rwa [FSTS_get fs hj] at h1
      have cb := refbag_any d n a1 i c1 fs w7 hh A2.out.2.2.2.2
      have A7 : Aside (Below wr.heap.size wr w7) := hb7
      clear hown1 hgrow1 hb7 hh9 hh
      obtain ⟨Y, hY⟩ : ∃ Y, (BAGF d n i fs).2 = Y := ⟨_, rfl⟩
      obtain ⟨F, hF⟩ : ∃ F, (BAGF d n i fs).1 = F := ⟨_, rfl⟩
      rw [hY, hF] at cb
      refine cb.mono ?_
      rintro e w8 ⟨rfl, hb8⟩
      clear cb
      have hbr8 : Below wr.heap.size wr w8 := A7.out.trans (hb8.mono A7.out.size)
      have h88 := A2.out.2.1.keep hbr8
      have hst2 := store_cells32 h88 Y
      have hsu := UARR_size .u8 32 Y
      have B8 : Aside (Below w.heap.size w (w8.setRow b8 (UARR .u8 32 Y)) ∧ Has (w8.setRow b8 (UARR .u8 32 Y)) b8 (UARR .u8 32 Y) 26 ∧ Has (w8.setRow b8 (UARR .u8 32 Y)) b10 (UARR .u8 32 X) 26 ∧ HASHES (w8.setRow b8 (UARR .u8 32 Y)) (some ⟨g, 0, none⟩) i fs) := by
        have hbw : Below w.heap.size w w8 := A2.out.2.2.2.1.trans (hbr8.mono A2.out.2.2.2.1.size)
        refine ⟨below_row hbw G.out.2.2.2.2 _, h88.row _, (A2.out.2.2.1.keep hbr8).row_other (by have := G.out.2.2.1; omega) _, fun hk => ?_⟩
        obtain ⟨b, o, e2, hl, hr⟩ := (own_firsts A2.out.1).below hbr8 hk
        cases e2
        exact ⟨g, 0, rfl, by simpa using hl, fun j hj q v hv => (World.cell?_of_block (w := w8) (by exact setRow_other w8 b8 g _ G.out.1)).trans (hr j hj q v hv)⟩
      clear hb8 hbr8 A7
      go_wp2_with fail
      clear hst2
      obtain ⟨w9, hw9⟩ : ∃ w9, w8.setRow b8 (UARR .u8 32 Y) = w9 := ⟨_, rfl⟩
      rw [hw9] at B8 ⊢
      clear hw9 h88
      have cb := bagf_any d n HA.out.2.2.2 (some ⟨g, 0, none⟩) i cg fs w9 B8.out.2.2.2 A2.out.2.2.2.2 (tab.out w9 B8.out.1).2
      rw [hY, hF] at cb
      clear hY hF
      go_wp2_with fail
      refine cb.mono ?_
      rintro e w10 ⟨rfl, hb10⟩
      clear cb
      have h810 := B8.out.2.1.keep hb10
      have h1010 := B8.out.2.2.1.keep hb10
      have hst2 := store_cells32 h1010 Y
      have C10 : Aside (Below w.heap.size w (w10.setRow b10 (UARR .u8 32 Y)) ∧ Has (w10.setRow b10 (UARR .u8 32 Y)) b8 (UARR .u8 32 Y) 26 ∧ Has (w10.setRow b10 (UARR .u8 32 Y)) b10 (UARR .u8 32 Y) 26) := ⟨below_row (B8.out.1.trans (hb10.mono B8.out.1.size)) (by have := G.out; omega) _, h810.row_other (by have := G.out.2.2.1; omega) _, h1010.row _⟩
      clear hb10 h810 B8 A2
      go_upto_region 14 with fail
      clear hst2
      obtain ⟨w11, hw11⟩ : ∃ w11, w10.setRow b10 (UARR .u8 32 Y) = w11 := ⟨_, rfl⟩
      rw [hw11] at C10 ⊢
      clear hw11 h1010
      have x8 := C10.out.2.1
      have x10 := C10.out.2.2
      have qx := equal_same Y
      have ca := awake6_ok w11 (tab.out w11 C10.out.1).1 (tab.out w11 C10.out.1).2
      go_wp2_with (first
        | (refine wpList_load_row rfl 26 (.tmp 10) rfl b10 rfl 26 (UARR .u8 32 Y) (0, 0) _ x10 Tryz.underlying26 rfl (info_HASH _) ?_)
        | (refine wpList_load_row rfl 26 (.tmp 8) rfl b8 rfl 26 (UARR .u8 32 Y) (0, 0) _ x8 Tryz.underlying26 rfl (info_HASH _) ?_))
      refine ca.mono ?_
      rintro e w12 ⟨rfl, hb12⟩
      clear ca
      have FN : Aside (Below w.heap.size w w12) := C10.out.1.trans (hb12.mono C10.out.1.size)
      clear hb12 C10
      go_wp2_with fail
      go_ret
      exact ⟨rfl, FN.out⟩
theorem mmrBags_walk (d : Int) (n : Int) (a : Option Addr) (k c : Nat) (hs : Nat → Nat → Nat) (w : World) (hn : (Lit.int IntKind.u64 n).wf = true) (hH : HASHES w a k hs) (h8 : ∀ i, i < k → ∀ j, hs i j < 256) (hc : a = none → c = 0 ∧ k = 0) (hT : Go.Proofs.YtdmbmphdiaepdaaGreatDoor.Tabled w) (hX : Tabled w) : Calls Tryz.prog 3 #[.int .i64 d, .int .u64 n, .slice a k c] w fun e w' => e = .returned (.bool true) ∧ Below w.heap.size w w' := by
  by_cases h : k ≤ 200
  · have hb := wf_u64 hn
    obtain ⟨m, rfl⟩ : ∃ m : Nat, n = (m : Int) := ⟨n.toNat, by omega⟩
    exact bags_core d m (by omega) a k c hs w h hH h8 hc hT hX
  · exact bags_long d n a k c w (by omega)
end Go.Proofs.YtdmbmphdiaepdaaGreatDoor.HX

/- awake answers true: the forest of seven leaves. -/
namespace Go.Proofs.YtdmbmphdiaepdaaGreatDoor
open Go.RowKit

theorem PEAKS_seven : PEAKS 7 = [6, 9, 10] := by
  have h : HS 0 7 = [2, 1, 0] := by rw [HS_zero]; decide
  have p2 : PKP 7 2 = 6 := by
    unfold PKP PLC NODES
    simp [PC_zero]
  have p1 : PKP 7 1 = 9 := by
    unfold PKP PLC NODES
    have := PC_pow 2
    simp at this
    simp [this]
  have p0 : PKP 7 0 = 10 := by
    unfold PKP PLC NODES
    have h1 := PC_even 3
    have h2 := PC_ones 2
    simp at h1 h2
    simp [h1, h2]
  unfold PEAKS
  rw [h]
  simp [p0, p1, p2]
theorem PC_seven : PC 7 = 3 := PC_ones 3
theorem NODES_seven : NODES 7 = 11 := by
  unfold NODES
  rw [PC_seven]
theorem PLC_nine : PLC 1 2 = 9 := by
  unfold PLC NODES
  have := PC_pow 2
  simp at this
  simp [this]
/-- a list of numbers, cell by cell. -/
theorem row_at {w : World} {base g n cap : Nat} {l : List Nat} (h : w.ownsRow base 22 1 (.slice (some ⟨g, 0, none⟩) n cap) n (UCELLS l)) (i : Nat) (hi : i < l.length) : w.cell? ⟨g, i, none⟩ = some (.int .u64 (l.getD i 0 : Nat)) := by
  have hlen : l.length = n := by have := h.1; simpa [UCELLS] using this
  rw [h.cellAt i (by omega)]
  unfold UCELLS
  rw [List.getElem?_map, List.getD_eq_getElem?_getD, List.getElem?_eq_getElem hi]
  rfl
end Go.Proofs.YtdmbmphdiaepdaaGreatDoor

/- What the card's row gives the walks of layer 3: spots that came in; the table of math/bits. -/
namespace Go.Proofs.YtdmbmphdiaepdaaGreatDoor
open Go.ChangeShapes Go.WideShapes Go.ChangeAt Go.WideMaps Go.WideElems Go.RowKit
set_option maxRecDepth 100000

theorem own : ownKnob Tryz.prog.godebug = none := by kernel_rfl
theorem laidOut : laidOutB Tryz.prog = true := by kernel_rfl
theorem gTab : Tryz.prog.globalNamed "math/bits.deBruijn64tab" = some 2 := by kernel_rfl
theorem tTab : (Tryz.prog.globals[2]?).map (·.type) = some 100 := by kernel_rfl
theorem tabData {H : Type} : (Rows.laid_math_bits_deBruijn64tab : DataW H) = .agg (TAB.map fun n => .lit (.int .u8 (n : Nat))) := rfl
theorem of_laid {W : World} (h : laidMetH Tryz.prog [("math/bits.deBruijn64tab", Rows.laid_math_bits_deBruijn64tab)] W) : Tabled W ∧ 0 < W.heap.size := by
  rw [MakeChecks.laidMetH_plain _ _ _ (by kernel_rfl)] at h
  obtain ⟨ps, ⟨g0, t0, cs0, f0, p0, q0, hg0, ht0, hv0, hd0, _, _⟩, _, _⟩ := h
  obtain rfl := Option.some.inj (gTab.symm.trans hg0)
  obtain rfl := Option.some.inj (tTab.symm.trans ht0)
  obtain ⟨xs, m1, rfl, hx1, hlen, hn, hel⟩ := DataW.trod_array Tryz.underlying100 hd0
  have c5 : Tryz.prog.cellsOf 5 = 1 := by kernel_rfl
  simp only [Prod.mk.injEq] at hx1
  have hx := hx1.1
  rw [tabData] at hx
  simp only [DataW.agg.injEq] at hx
  have T : Tabled W := fun i hi => by
    have h0 := hel i hi
    have hi' : i < xs.length := by omega
    rw [List.getElem?_eq_getElem hi', c5, Nat.mul_one] at h0
    obtain ⟨k, e1, e2, _⟩ := DataW.trod_int Tryz.underlying5 h0
    have hk : (k : Int) = ((TAB.getD i 0 : Nat) : Int) := by
      have hz := congrArg (fun l => l[i]?) hx
      have hT : i < TAB.length := hi
      simp only [List.getElem?_map, List.getElem?_eq_getElem hi', List.getElem?_eq_getElem hT, Option.map_some, e2] at hz
      simp at hz
      rw [List.getD_eq_getElem?_getD, List.getElem?_eq_getElem hT]
      simpa using hz.symm
    have hv := World.var?_cell hg0 hv0 i
    rw [hv, ← hk]
    have := congrArg (fun l => l[0]?) e1
    simp at this
    simpa using this
  refine ⟨T, ?_⟩
  have := T 0 (by decide)
  exact Nat.lt_of_le_of_lt (Nat.zero_le _) (World.block_lt_of_cell? W _ this)
/-- a spot that came in. -/
theorem open_spot {H : Type} {enc : TypeId × Value → H} {W : World} {r : Reach} {b0 base : Nat} {sp : Nat → Bool} {held : Bool} {v : Value} {d : DataW H} {ps : List MemPlace}
    (hval : Value.okWide Tryz.prog W r b0 61 v) (hd : DataW.Trod enc Tryz.prog W base sp held 61 v d ps) : ∃ h k : Nat, h < 256 ∧ k < 2 ^ 64 ∧ v = SPOT h k := by
  simp only [Value.okWide, Tryz.underlying61] at hval
  obtain ⟨cs, rfl, hsz, _⟩ := hval
  obtain ⟨fuel, hf⟩ := hd
  obtain ⟨y0, y1, m, _, hl, h0, h1⟩ := trod_struct2 Tryz.underlying61 hf
  obtain ⟨a, e1, _, e3⟩ := DataW.trod_int Tryz.underlying5 h0
  obtain ⟨b, f1, _, f3⟩ := DataW.trod_int Tryz.underlying22 h1
  have c1 : Tryz.prog.cellsOf 5 = 1 := by kernel_rfl
  have c2 : Tryz.prog.cellsOf 22 = 1 := by kernel_rfl
  have c3 : Tryz.prog.cellsOf 61 = 2 := by kernel_rfl
  rw [c3] at hsz
  rw [c1] at e1
  rw [c2] at f1
  have ha := bounds_u8 e3
  have hb := wf_u64 f3
  obtain ⟨x, y, rfl⟩ : ∃ x y, cs = #[x, y] := by
    obtain ⟨l⟩ := cs
    match l, hsz with
    | [x, y], _ => exact ⟨x, y, rfl⟩
  simp [Value.cells] at e1 f1
  subst e1 f1
  refine ⟨a.toNat, b.toNat, by omega, by omega, ?_⟩
  rw [SPOT, Int.toNat_of_nonneg (by omega), Int.toNat_of_nonneg (by omega)]
end Go.Proofs.YtdmbmphdiaepdaaGreatDoor
