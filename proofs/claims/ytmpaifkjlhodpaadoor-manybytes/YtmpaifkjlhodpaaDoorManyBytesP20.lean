/- Texts of ManyBytes, one behind the other: ManyTexts, ManyGivenRegion. -/
import Derived.Test.YtmpaifkjlhodpaaDoorManyBytesP14
import Derived.Test.YtmpaifkjlhodpaaDoorManyBytesP17
import Derived.Test.YtmpaifkjlhodpaaDoorManyBytesP19
/- row, text of the laws of layer 10; are these two proofs alike? -/
namespace Go.Proofs.YtmpaifkjlhodpaaDoor
open Go.RowKit
set_option maxRecDepth 100000

set_option maxHeartbeats 1000000 in
theorem row10_ok (a : Option Addr) (n c : Nat) (hn : n ≤ 1000) (hc : a = none → c = 0) (l : List Int) (w : World) (hF : Flat w a n l) : Calls Tryd.prog 31 #[.slice a n c] w (ROWED w n l) := by
  have HA : Aside (n ≤ 1000 ∧ (a = none → c = 0) ∧ Flat w a n l) := ⟨hn, hc, hF⟩
  clear hn hc hF
  go_enter Tryd.func31, Tryd.ntmps31
  go_wp2_with (first
    | (at_builtin; refine app_hashes _ rfl (.tmp 3) (.tmp 4) rfl w.heap.size (.slice (some ⟨w.heap.size, 0, none⟩) 0 0) 0 [] rfl (own_empty32 w) a n c l rfl (HA.out.2.2.below ((Below.refl _ _).alloc (Nat.le_refl _) _)) HA.out.2.1 (by have := HA.out.1; omega) (by simp) ?_; rw [Nat.zero_add, List.nil_append]; intro a1 c1 w1 hown1 hgrow1
       have R1 : Aside (w1.ownsRow w.heap.size 57 32 (.slice a1 n c1) n (CELLS l) ∧ Below w.heap.size w w1) := ⟨hown1, ((Below.refl _ w).alloc (Nat.le_refl _) _).grown hgrow1 (by simp) (fun k e => by cases e; exact Nat.le_refl _)⟩
       clear hown1 hgrow1)
    | (rw [← MRK_arr]; refine build_one _ rfl 30 57 (.tmp 6) rfl (CELLS MRK).toArray rfl 32 _ _ Tryd.underlying30 info_hashv (by rfl) rfl (by decide) (by decide) ?_)
    | (at_builtin; refine app_hash _ rfl (.tmp 5) (.tmp 7) rfl w.heap.size (.slice a1 n c1) n (CELLS l) rfl (R1.out.1.alloc _) w1.heap.size 1 MRK rfl rfl (Has.new _ _ _) (by have := HA.out.1; omega) (by have := R1.out.2.size; simp; omega) ?_; intro g2 c2 w2 hown2 hgrow2 hat2 hg2
       obtain ⟨f1, f2, f3, f4⟩ := own_front32 hown2 HA.out.2.2.1 rfl
       have hcap : (n : Int) ≤ (c2 : Int) := by omega
       have R2 : Aside (w2.ownsRow w.heap.size 57 32 (.slice (some ⟨g2, 0, none⟩) n c2) n (CELLS l) ∧ n + 1 ≤ c2 ∧ w2.rangeAt g2 (n * 32) (CELLS MRK) ∧ g2 < w2.heap.size ∧ Below w.heap.size w w2) := ⟨f1, f2, f3, f4, (R1.out.2.alloc R1.out.2.size _).grown hgrow2 (by have := R1.out.2.size; simp; omega) (fun k e => (R1.out.1.lt k e).1)⟩
       clear hown2 hgrow2 hat2 hg2 f1 f2 f3 f4))
  go_ret
  exact ⟨_, _, rfl, R2.out⟩
set_option maxHeartbeats 1000000 in
theorem text10_ok (a : Option Addr) (n c : Nat) (hn : n ≤ 1000000) (hc : a = none → c = 0) (l : List Int) (w : World) (hB : Bytes w a n l) : Calls Tryd.prog 18 #[.slice a n c] w (TEXTED w n l) := by
  have HA : Aside (n ≤ 1000000 ∧ (a = none → c = 0) ∧ Bytes w a n l) := ⟨hn, hc, hB⟩
  clear hn hc hB
  go_enter Tryd.func18, Tryd.ntmps18
  go_wp2_with (at_builtin; first
    | (refine app_any _ rfl (.tmp 3) (.tmp 4) rfl w.heap.size (.slice (some ⟨w.heap.size, 0, none⟩) 0 0) 0 [] rfl (own_empty w _ (Nat.le_refl _)) a n c l rfl (HA.out.2.2.below ((Below.refl _ _).alloc (Nat.le_refl _) _)) HA.out.2.1 n l (Nat.zero_add n) rfl (by have := HA.out.1; omega) (by simp) ?_; intro a1 c1 w1 hown1 hgrow1
       have R1 : Aside (w1.ownsRow w.heap.size 5 1 (.slice a1 n c1) n (CELLS l) ∧ Below w.heap.size w w1) := ⟨hown1, ((Below.refl _ w).alloc (Nat.le_refl _) _).grown hgrow1 (by simp) (fun k e => by cases e; exact Nat.le_refl _)⟩
       clear hown1 hgrow1)
    | (refine app_u8 _ rfl (.tmp 5) (.tmp 6) rfl w.heap.size (.slice a1 n c1) n l rfl (R1.out.1.alloc _) w1.heap.size 0 1 1 [171] rfl (one_bytes w1 171 (by decide) (by decide)) (by decide) (by have := HA.out.1; omega) (by have := R1.out.2.size; simp; omega) ?_; intro g2 c2 w2 hown2 hgrow2 hg2
       obtain ⟨f1, f2, f3⟩ := own_front hown2 HA.out.2.2.1
       have hcap : (n : Int) ≤ (c2 : Int) := by omega
       have R2 : Aside (w2.ownsRow w.heap.size 5 1 (.slice (some ⟨g2, 0, none⟩) n c2) n (CELLS l) ∧ n + 1 ≤ c2 ∧ w2.cell? ⟨g2, n, none⟩ = some (.int .u8 171) ∧ g2 < w2.heap.size ∧ Below w.heap.size w w2) := ⟨f1, f2, f3, hg2, (R1.out.2.alloc R1.out.2.size _).grown hgrow2 (by have := R1.out.2.size; simp; omega) (fun k e => (R1.out.1.lt k e).1)⟩
       clear hown2 hgrow2 hg2 f1 f2 f3))
  go_ret
  exact ⟨_, _, rfl, R2.out⟩
set_option maxHeartbeats 1000000 in
/-- two proofs that are alike. -/
theorem same10_ok (N : Int) (a b : Option Addr) (n ca cb : Nat) (L : List Nat) (x y : Option Addr) (m k cx cy : Nat) (l : List Int) (hl : L.length = n) (hn : n ≤ 2 ^ 24) (w : World) (hA : NUML w a L) (hB : NUML w b L) (hX : Flat w x m l) (hY : Flat w y k l) (hm : m ≤ 1000000) :
    Calls Tryd.prog 21 #[.agg #[.int .u64 N, .slice a n ca, .slice x m cx], .agg #[.int .u64 N, .slice b n cb, .slice y k cy]] w fun e w' => e = .returned (.bool true) ∧ Below w.heap.size w w' := by
  obtain ⟨w1, e1⟩ : ∃ w1, w.alloc (.cells #[.int .u64 N, .slice a n ca, .slice x m cx] 32) = w1 := ⟨_, rfl⟩
  obtain ⟨w2, e2⟩ : ∃ w2, w1.alloc (.cells #[.int .u64 N, .slice b n cb, .slice y k cy] 32) = w2 := ⟨_, rfl⟩
  have hb2 : Below w.heap.size w w2 := by rw [← e2, ← e1]; exact ((Below.refl _ _).alloc (Nat.le_refl _) _).alloc (by simp) _
  have h1 : Has w2 w.heap.size #[.int .u64 N, .slice a n ca, .slice x m cx] 32 := by rw [← e2, ← e1]; exact (Has.new w _ _).alloc _
  have h2 : Has w2 w1.heap.size #[.int .u64 N, .slice b n cb, .slice y k cy] 32 := by rw [← e2]; exact Has.new w1 _ _
  have x0 := h1.cell 0
  have x1 := h1.cell 1
  have y0 := h2.cell 0
  have y1 := h2.cell 1
  have cs := samenuml_ok a b n ca cb L hl hn w2 (hA.keep hb2) (hB.keep hb2)
  have HA : Aside (Has w2 w.heap.size #[.int .u64 N, .slice a n ca, .slice x m cx] 32 ∧ Has w2 w1.heap.size #[.int .u64 N, .slice b n cb, .slice y k cy] 32 ∧ Below w.heap.size w w2 ∧ Flat w x m l ∧ Flat w y k l ∧ m ≤ 1000000) := ⟨h1, h2, hb2, hX, hY, hm⟩
  clear hl hn hA hB hX hY hm hb2 h1 h2
  go_enter Tryd.func21, Tryd.ntmps21
  go_wp2_with fail
  refine cs.mono ?_
  rintro e w3 ⟨rfl, hb3⟩
  have k1 := HA.out.1.keep hb3
  have k2 := HA.out.2.1.keep hb3
  have x2 := k1.cell 2
  have y2 := k2.cell 2
  have B3 : Aside (Below w.heap.size w w3) := HA.out.2.2.1.trans (hb3.mono HA.out.2.2.1.size)
  have ch := samehashes_ok x y m k cx cy l l w3 (HA.out.2.2.2.1.below B3.out) (HA.out.2.2.2.2.1.below B3.out) HA.out.2.2.2.2.2
  rw [decide_eq_true rfl] at ch
  clear cs hb3 k1 k2 x0 x1 y0 y1 e1 e2 HA
  go_wp2_with fail
  refine ch.mono ?_
  rintro e w4 ⟨rfl, hb4⟩
  have B4 : Aside (Below w.heap.size w w4) := B3.out.trans (hb4.mono B3.out.size)
  clear ch hb4 B3
  go_wp2_with fail
  go_ret
  exact ⟨rfl, B4.out⟩
end Go.Proofs.YtmpaifkjlhodpaaDoor

/- The region of given of the law that draws its order. -/
namespace Go.Proofs.YtmpaifkjlhodpaaDoor
open Go.RowKit
set_option maxRecDepth 100000

def GV1OPS : Array Oper := #[{ dst := some 3, op := Op.fieldAddr 32 (Operand.tmp 1) 0, type := 0, pos := "law.go:44", after := #[], guard := none }, { dst := some 4, op := Op.load 23 (Operand.tmp 3), type := 23, pos := "law.go:44", after := #[{ on := 0, ground := Ground.data }], guard := none }, { dst := some 5, op := Op.fieldAddr 32 (Operand.tmp 1) 1, type := 0, pos := "law.go:44", after := #[], guard := none }, { dst := some 6, op := Op.load 22 (Operand.tmp 5), type := 22, pos := "law.go:44", after := #[{ on := 2, ground := Ground.data }], guard := none }, { dst := some 7, op := Op.call { callee := Callee.value (Operand.func 6), args := #[Operand.tmp 6], argTypes := #[22] }, type := 22, pos := "law.go:44", after := #[{ on := 3, ground := Ground.data }], guard := none }, { dst := some 8, op := Op.fieldAddr 32 (Operand.tmp 1) 2, type := 0, pos := "law.go:44", after := #[], guard := none }, { dst := some 9, op := Op.load 30 (Operand.tmp 8), type := 30, pos := "law.go:44", after := #[{ on := 5, ground := Ground.data }], guard := none }, { dst := some 10, op := Op.call { callee := Callee.value (Operand.func 31), args := #[Operand.tmp 9], argTypes := #[30] }, type := 30, pos := "law.go:44", after := #[{ on := 6, ground := Ground.data }, { on := 4, ground := Ground.chain }], guard := none }, { dst := some 11, op := Op.build 32 #[(0, Operand.tmp 4), (1, Operand.tmp 7), (2, Operand.tmp 10)], type := 32, pos := "law.go:44", after := #[{ on := 1, ground := Ground.data }, { on := 4, ground := Ground.data }, { on := 7, ground := Ground.data }], guard := none }, { dst := none, op := Op.store 32 (Operand.tmp 2) (Operand.tmp 11), type := 0, pos := "law.go:44", after := #[{ on := 8, ground := Ground.data }, { on := 7, ground := Ground.chain }, { on := 0, ground := Ground.phase }, { on := 1, ground := Ground.phase }, { on := 2, ground := Ground.phase }, { on := 3, ground := Ground.phase }, { on := 4, ground := Ground.phase }, { on := 5, ground := Ground.phase }, { on := 6, ground := Ground.phase }, { on := 7, ground := Ground.phase }, { on := 8, ground := Ground.phase }], guard := none }]
set_option maxHeartbeats 2000000 in
theorem given1 {Q : Exit → Act → World → Prop} {u0 u3 u4 u5 u6 u7 u8 u9 u10 u11 : Value} (W : World) (bb rs : Nat) (N : Int) (a : Option Addr) (n ca : Nat) (x : Option Addr) (m cx : Nat) (Z0 : Array Value) (hne : bb ≠ rs) (P0 : World → Prop) (P1 : Nat → Nat → World → Prop) (P2 : Nat → Nat → Nat → Nat → World → Prop) (h0 : P0 W.drew) (s0 : ∀ w, P0 w → (fun w : World => w.cell? ⟨bb, 0, none⟩ = some (.int .u64 N) ∧ w.cell? ⟨bb, 1, none⟩ = some (.slice a n ca) ∧ w.cell? ⟨bb, 2, none⟩ = some (.slice x m cx)) w) (s1 : ∀ g q w, P1 g q w → (fun w : World => w.cell? ⟨bb, 0, none⟩ = some (.int .u64 N) ∧ w.cell? ⟨bb, 1, none⟩ = some (.slice a n ca) ∧ w.cell? ⟨bb, 2, none⟩ = some (.slice x m cx)) w) (s2 : ∀ g q g' q' w, P2 g q g' q' w → (fun w : World => w.cell? ⟨bb, 0, none⟩ = some (.int .u64 N) ∧ w.cell? ⟨bb, 1, none⟩ = some (.slice a n ca) ∧ w.cell? ⟨bb, 2, none⟩ = some (.slice x m cx)) w) (h2 : ∀ g q g' q' w, P2 g q g' q' w → Has w rs Z0 32) (info3 : ∀ {u v y : Value} (_ : Value), (Tryd.prog.info? 32).map (·.size) = some (#[u, v, y] : Array Value).size) (size3 : ∀ {u v y : Value} (_ : Value), Z0.size = (#[u, v, y] : Array Value).size)
    (c1 : ∀ w, P0 w → Calls Tryd.prog 6 #[.slice a n ca] w fun e w' => ∃ g1 q1, e = .returned (.slice (some ⟨g1, 0, none⟩) n q1) ∧ P1 g1 q1 w') (c2 : ∀ g1 q1 w, P1 g1 q1 w → Calls Tryd.prog 31 #[.slice x m cx] w fun e w' => ∃ g2 q2, e = .returned (.slice (some ⟨g2, 0, none⟩) m q2) ∧ P2 g1 q1 g2 q2 w') (hQ : ∀ c (a : Act) (t : Tmp) (v : Value) w, Q (.panic c) (a.put (some t) v) w → Q (.panic c) a w)
    (hfin : ∀ (g1 : Nat) (q1 : Nat) (g2 : Nat) (q2 : Nat) (w : World), (∃ wx : World, P2 g1 q1 g2 q2 wx ∧ w = wx.setRow rs #[.int .u64 N, .slice (some ⟨g1, 0, none⟩) n q1, .slice (some ⟨g2, 0, none⟩) m q2]) → Q .normal { tmps := #[u0, .pointer (some ⟨bb, 0, none⟩), .pointer (some ⟨rs, 0, none⟩), .pointer (some ⟨bb, 0, none⟩), .int .u64 N, .pointer (some ⟨bb, 1, none⟩), .slice a n ca, .slice (some ⟨g1, 0, none⟩) n q1, .pointer (some ⟨bb, 2, none⟩), .slice x m cx, .slice (some ⟨g2, 0, none⟩) m q2, .agg #[.int .u64 N, .slice (some ⟨g1, 0, none⟩) n q1, .slice (some ⟨g2, 0, none⟩) m q2]], defers := [] } w) : (Code.region 1 GV1OPS true).wp Tryd.prog Q { tmps := #[u0, .pointer (some ⟨bb, 0, none⟩), .pointer (some ⟨rs, 0, none⟩), u3, u4, u5, u6, u7, u8, u9, u10, u11], defers := [] } W := by
  have k4_7_9 : ∀ (g1 : Nat) (q1 : Nat) (g2 : Nat) (q2 : Nat) (w : World), (∃ wx : World, P2 g1 q1 g2 q2 wx ∧ w = wx.setRow rs #[.int .u64 N, .slice (some ⟨g1, 0, none⟩) n q1, .slice (some ⟨g2, 0, none⟩) m q2]) → wpAnyH Tryd.prog .any GV1OPS Q (fun w : World => w.cell? ⟨bb, 0, none⟩ = some (.int .u64 N) ∧ w.cell? ⟨bb, 1, none⟩ = some (.slice a n ca) ∧ w.cell? ⟨bb, 2, none⟩ = some (.slice x m cx)) 0 #[true, true, true, true, true, true, true, true, true, true] { tmps := #[u0, .pointer (some ⟨bb, 0, none⟩), .pointer (some ⟨rs, 0, none⟩), .pointer (some ⟨bb, 0, none⟩), .int .u64 N, .pointer (some ⟨bb, 1, none⟩), .slice a n ca, .slice (some ⟨g1, 0, none⟩) n q1, .pointer (some ⟨bb, 2, none⟩), .slice x m cx, .slice (some ⟨g2, 0, none⟩) m q2, .agg #[.int .u64 N, .slice (some ⟨g1, 0, none⟩) n q1, .slice (some ⟨g2, 0, none⟩) m q2]], defers := [] } w := fun g1 q1 g2 q2 w hp => by
    exact wpAnyH_done (by kernel_rfl) (hfin g1 q1 g2 q2 w hp) _
  have k4_7 : ∀ (g1 : Nat) (q1 : Nat) (g2 : Nat) (q2 : Nat) (w : World), (P2 g1 q1 g2 q2 w) → wpAnyH Tryd.prog .any GV1OPS Q (fun w : World => w.cell? ⟨bb, 0, none⟩ = some (.int .u64 N) ∧ w.cell? ⟨bb, 1, none⟩ = some (.slice a n ca) ∧ w.cell? ⟨bb, 2, none⟩ = some (.slice x m cx)) 1 #[true, true, true, true, true, true, true, true, true, false] { tmps := #[u0, .pointer (some ⟨bb, 0, none⟩), .pointer (some ⟨rs, 0, none⟩), .pointer (some ⟨bb, 0, none⟩), .int .u64 N, .pointer (some ⟨bb, 1, none⟩), .slice a n ca, .slice (some ⟨g1, 0, none⟩) n q1, .pointer (some ⟨bb, 2, none⟩), .slice x m cx, .slice (some ⟨g2, 0, none⟩) m q2, .agg #[.int .u64 N, .slice (some ⟨g1, 0, none⟩) n q1, .slice (some ⟨g2, 0, none⟩) m q2]], defers := [] } w := fun g1 q1 g2 q2 w hp => by
    refine wpAnyH_ready (rs := [9]) (by kernel_rfl) (by simp) ?_
    refine AllReadyH.cons (o := { dst := none, op := Op.store 32 (Operand.tmp 2) (Operand.tmp 11), type := 0, pos := "law.go:44", after := #[{ on := 8, ground := Ground.data }, { on := 7, ground := Ground.chain }, { on := 0, ground := Ground.phase }, { on := 1, ground := Ground.phase }, { on := 2, ground := Ground.phase }, { on := 3, ground := Ground.phase }, { on := 4, ground := Ground.phase }, { on := 5, ground := Ground.phase }, { on := 6, ground := Ground.phase }, { on := 7, ground := Ground.phase }, { on := 8, ground := Ground.phase }], guard := none }) rfl (fun K hK => ?_) ?_
    · exact step_of_list (by rfl) (wpList_store_row rfl 32 (.tmp 2) (.tmp 11) rfl rs #[.int .u64 N, .slice (some ⟨g1, 0, none⟩) n q1, .slice (some ⟨g2, 0, none⟩) m q2] rfl rfl 32 Z0 (h2 _ _ _ _ _ hp) (info3 undef) (size3 undef) (by simp [Value.oneCell']) ⟨rfl, (have hp : (fun (g1 : Nat) (q1 : Nat) (g2 : Nat) (q2 : Nat) (w : World) => (∃ wx : World, P2 g1 q1 g2 q2 wx ∧ w = wx.setRow rs #[.int .u64 N, .slice (some ⟨g1, 0, none⟩) n q1, .slice (some ⟨g2, 0, none⟩) m q2])) g1 q1 g2 q2 _ := ⟨w, hp, rfl⟩; hK.out _ _ ((by obtain ⟨wx, h1, h2⟩ := hp; (first | rw [h2] | skip); have h3 := s2 _ _ _ _ _ h1; exact ⟨(World.cell?_of_block (w := wx) (by exact setRow_other wx rs bb _ hne)).trans h3.1, (World.cell?_of_block (w := wx) (by exact setRow_other wx rs bb _ hne)).trans h3.2.1, (World.cell?_of_block (w := wx) (by exact setRow_other wx rs bb _ hne)).trans h3.2.2⟩)) (fun _ => k4_7_9 g1 q1 g2 q2 _ hp))⟩)
    exact AllReadyH.nil
  have ek4_7 : ∀ (g1 : Nat) (q1 : Nat) (g2 : Nat) (q2 : Nat) (w : World), (P2 g1 q1 g2 q2 w) → wpAnyH Tryd.prog .any GV1OPS Q (fun w : World => w.cell? ⟨bb, 0, none⟩ = some (.int .u64 N) ∧ w.cell? ⟨bb, 1, none⟩ = some (.slice a n ca) ∧ w.cell? ⟨bb, 2, none⟩ = some (.slice x m cx)) 2 #[true, true, true, true, true, true, true, true, false, false] { tmps := #[u0, .pointer (some ⟨bb, 0, none⟩), .pointer (some ⟨rs, 0, none⟩), .pointer (some ⟨bb, 0, none⟩), .int .u64 N, .pointer (some ⟨bb, 1, none⟩), .slice a n ca, .slice (some ⟨g1, 0, none⟩) n q1, .pointer (some ⟨bb, 2, none⟩), .slice x m cx, .slice (some ⟨g2, 0, none⟩) m q2, u11], defers := [] } w := fun g1 q1 g2 q2 w hp => by
    have hww : (fun w : World => w.cell? ⟨bb, 0, none⟩ = some (.int .u64 N) ∧ w.cell? ⟨bb, 1, none⟩ = some (.slice a n ca) ∧ w.cell? ⟨bb, 2, none⟩ = some (.slice x m cx)) w := s2 _ _ _ _ _ hp
    have last := k4_7 g1 q1 g2 q2 w hp
    have t8 : wpAnyH Tryd.prog .any GV1OPS Q (fun w : World => w.cell? ⟨bb, 0, none⟩ = some (.int .u64 N) ∧ w.cell? ⟨bb, 1, none⟩ = some (.slice a n ca) ∧ w.cell? ⟨bb, 2, none⟩ = some (.slice x m cx)) 2 #[true, true, true, true, true, true, true, true, false, false] { tmps := #[u0, .pointer (some ⟨bb, 0, none⟩), .pointer (some ⟨rs, 0, none⟩), .pointer (some ⟨bb, 0, none⟩), .int .u64 N, .pointer (some ⟨bb, 1, none⟩), .slice a n ca, .slice (some ⟨g1, 0, none⟩) n q1, .pointer (some ⟨bb, 2, none⟩), .slice x m cx, .slice (some ⟨g2, 0, none⟩) m q2, u11], defers := [] } w :=
      wpAnyH_take (i := 8) (oi := { dst := some 11, op := Op.build 32 #[(0, Operand.tmp 4), (1, Operand.tmp 7), (2, Operand.tmp 10)], type := 32, pos := "law.go:44", after := #[{ on := 1, ground := Ground.data }, { on := 4, ground := Ground.data }, { on := 7, ground := Ground.data }], guard := none }) (v := .agg #[.int .u64 N, .slice (some ⟨g1, 0, none⟩) n q1, .slice (some ⟨g2, 0, none⟩) m q2]) rfl (by kernel_rfl) (by kernel_rfl) (by kernel_rfl) (fun _ _ _ h => hQ _ _ _ _ _ h) (Yields.yieldsIf (Or.inl ⟨by rfl, fun W => by go_simp⟩)) hww last
    exact t8
  have k4 : ∀ (g1 : Nat) (q1 : Nat) (w : World), (P1 g1 q1 w) → wpAnyH Tryd.prog .any GV1OPS Q (fun w : World => w.cell? ⟨bb, 0, none⟩ = some (.int .u64 N) ∧ w.cell? ⟨bb, 1, none⟩ = some (.slice a n ca) ∧ w.cell? ⟨bb, 2, none⟩ = some (.slice x m cx)) 3 #[true, true, true, true, true, true, true, false, false, false] { tmps := #[u0, .pointer (some ⟨bb, 0, none⟩), .pointer (some ⟨rs, 0, none⟩), .pointer (some ⟨bb, 0, none⟩), .int .u64 N, .pointer (some ⟨bb, 1, none⟩), .slice a n ca, .slice (some ⟨g1, 0, none⟩) n q1, .pointer (some ⟨bb, 2, none⟩), .slice x m cx, u10, u11], defers := [] } w := fun g1 q1 w hp => by
    refine wpAnyH_ready (rs := [7]) (by kernel_rfl) (by simp) ?_
    refine AllReadyH.cons (o := { dst := some 10, op := Op.call { callee := Callee.value (Operand.func 31), args := #[Operand.tmp 9], argTypes := #[30] }, type := 30, pos := "law.go:44", after := #[{ on := 6, ground := Ground.data }, { on := 4, ground := Ground.chain }], guard := none }) rfl (fun K hK => ?_) ?_
    · rw [if_pos (by rfl)]
      go_simp
      refine (show Calls _ _ _ w (fun e w' => ∃ (g2 : Nat) (q2 : Nat), e = .returned (.slice (some ⟨g2, 0, none⟩) m q2) ∧ (P2 g1 q1 g2 q2 w')) from c2 _ _ w hp).mono ?_
      rintro e w' ⟨g2, q2, rfl, hp⟩
      exact hK.out _ _ (s2 _ _ _ _ _ hp) (fun _ => ek4_7 g1 q1 g2 q2 w' hp)
    exact AllReadyH.nil
  have k : ∀ (w : World), (P0 w) → wpAnyH Tryd.prog .any GV1OPS Q (fun w : World => w.cell? ⟨bb, 0, none⟩ = some (.int .u64 N) ∧ w.cell? ⟨bb, 1, none⟩ = some (.slice a n ca) ∧ w.cell? ⟨bb, 2, none⟩ = some (.slice x m cx)) 4 #[true, true, true, true, false, true, true, false, false, false] { tmps := #[u0, .pointer (some ⟨bb, 0, none⟩), .pointer (some ⟨rs, 0, none⟩), .pointer (some ⟨bb, 0, none⟩), .int .u64 N, .pointer (some ⟨bb, 1, none⟩), .slice a n ca, u7, .pointer (some ⟨bb, 2, none⟩), .slice x m cx, u10, u11], defers := [] } w := fun  w hp => by
    refine wpAnyH_ready (rs := [4]) (by kernel_rfl) (by simp) ?_
    refine AllReadyH.cons (o := { dst := some 7, op := Op.call { callee := Callee.value (Operand.func 6), args := #[Operand.tmp 6], argTypes := #[22] }, type := 22, pos := "law.go:44", after := #[{ on := 3, ground := Ground.data }], guard := none }) rfl (fun K hK => ?_) ?_
    · rw [if_pos (by rfl)]
      go_simp
      refine (show Calls _ _ _ w (fun e w' => ∃ (g1 : Nat) (q1 : Nat), e = .returned (.slice (some ⟨g1, 0, none⟩) n q1) ∧ (P1 g1 q1 w')) from c1 w hp).mono ?_
      rintro e w' ⟨g1, q1, rfl, hp⟩
      exact hK.out _ _ (s1 _ _ _ hp) (fun _ => k4 g1 q1 w' hp)
    exact AllReadyH.nil
  have hp := h0
  have hww : (fun w : World => w.cell? ⟨bb, 0, none⟩ = some (.int .u64 N) ∧ w.cell? ⟨bb, 1, none⟩ = some (.slice a n ca) ∧ w.cell? ⟨bb, 2, none⟩ = some (.slice x m cx)) W.drew := s0 _ hp
  have last := k W.drew hp
  have z : wpAnyH Tryd.prog .any GV1OPS Q (fun w : World => w.cell? ⟨bb, 0, none⟩ = some (.int .u64 N) ∧ w.cell? ⟨bb, 1, none⟩ = some (.slice a n ca) ∧ w.cell? ⟨bb, 2, none⟩ = some (.slice x m cx)) 10 #[false, false, false, false, false, false, false, false, false, false] { tmps := #[u0, .pointer (some ⟨bb, 0, none⟩), .pointer (some ⟨rs, 0, none⟩), u3, u4, u5, u6, u7, u8, u9, u10, u11], defers := [] } W.drew := by
    have t6 : wpAnyH Tryd.prog .any GV1OPS Q (fun w : World => w.cell? ⟨bb, 0, none⟩ = some (.int .u64 N) ∧ w.cell? ⟨bb, 1, none⟩ = some (.slice a n ca) ∧ w.cell? ⟨bb, 2, none⟩ = some (.slice x m cx)) 5 #[true, true, true, true, false, true, false, false, false, false] { tmps := #[u0, .pointer (some ⟨bb, 0, none⟩), .pointer (some ⟨rs, 0, none⟩), .pointer (some ⟨bb, 0, none⟩), .int .u64 N, .pointer (some ⟨bb, 1, none⟩), .slice a n ca, u7, .pointer (some ⟨bb, 2, none⟩), u9, u10, u11], defers := [] } W.drew :=
      wpAnyH_take (i := 6) (oi := { dst := some 9, op := Op.load 30 (Operand.tmp 8), type := 30, pos := "law.go:44", after := #[{ on := 5, ground := Ground.data }], guard := none }) (v := .slice x m cx) rfl (by kernel_rfl) (by kernel_rfl) (by kernel_rfl) (fun _ _ _ h => hQ _ _ _ _ _ h) (Or.inl ⟨by rfl, fun w hw => by have hx := hw.2.2; go_simp⟩) hww last
    have t5 : wpAnyH Tryd.prog .any GV1OPS Q (fun w : World => w.cell? ⟨bb, 0, none⟩ = some (.int .u64 N) ∧ w.cell? ⟨bb, 1, none⟩ = some (.slice a n ca) ∧ w.cell? ⟨bb, 2, none⟩ = some (.slice x m cx)) 6 #[true, true, true, true, false, false, false, false, false, false] { tmps := #[u0, .pointer (some ⟨bb, 0, none⟩), .pointer (some ⟨rs, 0, none⟩), .pointer (some ⟨bb, 0, none⟩), .int .u64 N, .pointer (some ⟨bb, 1, none⟩), .slice a n ca, u7, u8, u9, u10, u11], defers := [] } W.drew :=
      wpAnyH_take (i := 5) (oi := { dst := some 8, op := Op.fieldAddr 32 (Operand.tmp 1) 2, type := 0, pos := "law.go:44", after := #[], guard := none }) (v := .pointer (some ⟨bb, 2, none⟩)) rfl (by kernel_rfl) (by kernel_rfl) (by kernel_rfl) (fun _ _ _ h => hQ _ _ _ _ _ h) (Yields.yieldsIf (Or.inl ⟨by rfl, fun W => by go_simp⟩)) hww t6
    have t3 : wpAnyH Tryd.prog .any GV1OPS Q (fun w : World => w.cell? ⟨bb, 0, none⟩ = some (.int .u64 N) ∧ w.cell? ⟨bb, 1, none⟩ = some (.slice a n ca) ∧ w.cell? ⟨bb, 2, none⟩ = some (.slice x m cx)) 7 #[true, true, true, false, false, false, false, false, false, false] { tmps := #[u0, .pointer (some ⟨bb, 0, none⟩), .pointer (some ⟨rs, 0, none⟩), .pointer (some ⟨bb, 0, none⟩), .int .u64 N, .pointer (some ⟨bb, 1, none⟩), u6, u7, u8, u9, u10, u11], defers := [] } W.drew :=
      wpAnyH_take (i := 3) (oi := { dst := some 6, op := Op.load 22 (Operand.tmp 5), type := 22, pos := "law.go:44", after := #[{ on := 2, ground := Ground.data }], guard := none }) (v := .slice a n ca) rfl (by kernel_rfl) (by kernel_rfl) (by kernel_rfl) (fun _ _ _ h => hQ _ _ _ _ _ h) (Or.inl ⟨by rfl, fun w hw => by have hx := hw.2.1; go_simp⟩) hww t5
    have t2 : wpAnyH Tryd.prog .any GV1OPS Q (fun w : World => w.cell? ⟨bb, 0, none⟩ = some (.int .u64 N) ∧ w.cell? ⟨bb, 1, none⟩ = some (.slice a n ca) ∧ w.cell? ⟨bb, 2, none⟩ = some (.slice x m cx)) 8 #[true, true, false, false, false, false, false, false, false, false] { tmps := #[u0, .pointer (some ⟨bb, 0, none⟩), .pointer (some ⟨rs, 0, none⟩), .pointer (some ⟨bb, 0, none⟩), .int .u64 N, u5, u6, u7, u8, u9, u10, u11], defers := [] } W.drew :=
      wpAnyH_take (i := 2) (oi := { dst := some 5, op := Op.fieldAddr 32 (Operand.tmp 1) 1, type := 0, pos := "law.go:44", after := #[], guard := none }) (v := .pointer (some ⟨bb, 1, none⟩)) rfl (by kernel_rfl) (by kernel_rfl) (by kernel_rfl) (fun _ _ _ h => hQ _ _ _ _ _ h) (Yields.yieldsIf (Or.inl ⟨by rfl, fun W => by go_simp⟩)) hww t3
    have t1 : wpAnyH Tryd.prog .any GV1OPS Q (fun w : World => w.cell? ⟨bb, 0, none⟩ = some (.int .u64 N) ∧ w.cell? ⟨bb, 1, none⟩ = some (.slice a n ca) ∧ w.cell? ⟨bb, 2, none⟩ = some (.slice x m cx)) 9 #[true, false, false, false, false, false, false, false, false, false] { tmps := #[u0, .pointer (some ⟨bb, 0, none⟩), .pointer (some ⟨rs, 0, none⟩), .pointer (some ⟨bb, 0, none⟩), u4, u5, u6, u7, u8, u9, u10, u11], defers := [] } W.drew :=
      wpAnyH_take (i := 1) (oi := { dst := some 4, op := Op.load 23 (Operand.tmp 3), type := 23, pos := "law.go:44", after := #[{ on := 0, ground := Ground.data }], guard := none }) (v := .int .u64 N) rfl (by kernel_rfl) (by kernel_rfl) (by kernel_rfl) (fun _ _ _ h => hQ _ _ _ _ _ h) (Or.inl ⟨by rfl, fun w hw => by have hx := hw.1; go_simp⟩) hww t2
    have t0 : wpAnyH Tryd.prog .any GV1OPS Q (fun w : World => w.cell? ⟨bb, 0, none⟩ = some (.int .u64 N) ∧ w.cell? ⟨bb, 1, none⟩ = some (.slice a n ca) ∧ w.cell? ⟨bb, 2, none⟩ = some (.slice x m cx)) 10 #[false, false, false, false, false, false, false, false, false, false] { tmps := #[u0, .pointer (some ⟨bb, 0, none⟩), .pointer (some ⟨rs, 0, none⟩), u3, u4, u5, u6, u7, u8, u9, u10, u11], defers := [] } W.drew :=
      wpAnyH_take (i := 0) (oi := { dst := some 3, op := Op.fieldAddr 32 (Operand.tmp 1) 0, type := 0, pos := "law.go:44", after := #[], guard := none }) (v := .pointer (some ⟨bb, 0, none⟩)) rfl (by kernel_rfl) (by kernel_rfl) (by kernel_rfl) (fun _ _ _ h => hQ _ _ _ _ _ h) (Yields.yieldsIf (Or.inl ⟨by rfl, fun W => by go_simp⟩)) hww t1
    exact t0
  exact wp_region_held_drew (S := (fun w : World => w.cell? ⟨bb, 0, none⟩ = some (.int .u64 N) ∧ w.cell? ⟨bb, 1, none⟩ = some (.slice a n ca) ∧ w.cell? ⟨bb, 2, none⟩ = some (.slice x m cx))) (by kernel_rfl) hww (fun _ => z)
end Go.Proofs.YtmpaifkjlhodpaaDoor
