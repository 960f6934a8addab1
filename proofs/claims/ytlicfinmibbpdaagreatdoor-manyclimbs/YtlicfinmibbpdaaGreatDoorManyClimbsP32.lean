/- Texts of ManyClimbs, one behind the other: ManyGivenRegion, ManyAwake, ManyNumbers, ProofInTurn, ProofSteps, ManyReader, ManyIndex, ManyDecodePlain, ManyHash. -/
import Derived.Laws.AppendOwnNone
import Derived.Laws.CopyOwn
import Derived.Deep.RegionLaw
import Derived.Test.YtlicfinmibbpdaaGreatDoorManyClimbsP31
/- The region of given of the law that draws its order. -/
namespace Go.Proofs.YtlicfinmibbpdaaGreatDoor
open Go.RowKit
set_option maxRecDepth 100000

def GV1OPS : Array Oper := #[{ dst := some 3, op := Op.fieldAddr 26 (Operand.tmp 1) 0, type := 0, pos := "law.go:44", after := #[], guard := none }, { dst := some 4, op := Op.load 23 (Operand.tmp 3), type := 23, pos := "law.go:44", after := #[{ on := 0, ground := Ground.data }], guard := none }, { dst := some 5, op := Op.fieldAddr 26 (Operand.tmp 1) 1, type := 0, pos := "law.go:44", after := #[], guard := none }, { dst := some 6, op := Op.load 24 (Operand.tmp 5), type := 24, pos := "law.go:44", after := #[{ on := 2, ground := Ground.data }], guard := none }, { dst := some 7, op := Op.call { callee := Callee.value (Operand.func 15), args := #[Operand.tmp 6], argTypes := #[24] }, type := 24, pos := "law.go:44", after := #[{ on := 3, ground := Ground.data }], guard := none }, { dst := some 8, op := Op.fieldAddr 26 (Operand.tmp 1) 2, type := 0, pos := "law.go:44", after := #[], guard := none }, { dst := some 9, op := Op.load 22 (Operand.tmp 8), type := 22, pos := "law.go:44", after := #[{ on := 5, ground := Ground.data }], guard := none }, { dst := some 10, op := Op.call { callee := Callee.value (Operand.func 7), args := #[Operand.tmp 9], argTypes := #[22] }, type := 22, pos := "law.go:44", after := #[{ on := 6, ground := Ground.data }, { on := 4, ground := Ground.chain }], guard := none }, { dst := some 11, op := Op.build 26 #[(0, Operand.tmp 4), (1, Operand.tmp 7), (2, Operand.tmp 10)], type := 26, pos := "law.go:44", after := #[{ on := 1, ground := Ground.data }, { on := 4, ground := Ground.data }, { on := 7, ground := Ground.data }], guard := none }, { dst := none, op := Op.store 26 (Operand.tmp 2) (Operand.tmp 11), type := 0, pos := "law.go:44", after := #[{ on := 8, ground := Ground.data }, { on := 7, ground := Ground.chain }, { on := 0, ground := Ground.phase }, { on := 1, ground := Ground.phase }, { on := 2, ground := Ground.phase }, { on := 3, ground := Ground.phase }, { on := 4, ground := Ground.phase }, { on := 5, ground := Ground.phase }, { on := 6, ground := Ground.phase }, { on := 7, ground := Ground.phase }, { on := 8, ground := Ground.phase }], guard := none }]
set_option maxHeartbeats 2000000 in
theorem given1 {Q : Exit → Act → World → Prop} {u0 u3 u4 u5 u6 u7 u8 u9 u10 u11 : Value} (W : World) (bb rs : Nat) (N : Int) (a : Option Addr) (n ca : Nat) (x : Option Addr) (m cx : Nat) (Z0 : Array Value) (hne : bb ≠ rs) (P0 : World → Prop) (P1 : Nat → Nat → World → Prop) (P2 : Nat → Nat → Nat → Nat → World → Prop) (h0 : P0 W.drew) (s0 : ∀ w, P0 w → (fun w : World => w.cell? ⟨bb, 0, none⟩ = some (.int .u64 N) ∧ w.cell? ⟨bb, 1, none⟩ = some (.slice a n ca) ∧ w.cell? ⟨bb, 2, none⟩ = some (.slice x m cx)) w) (s1 : ∀ g q w, P1 g q w → (fun w : World => w.cell? ⟨bb, 0, none⟩ = some (.int .u64 N) ∧ w.cell? ⟨bb, 1, none⟩ = some (.slice a n ca) ∧ w.cell? ⟨bb, 2, none⟩ = some (.slice x m cx)) w) (s2 : ∀ g q g' q' w, P2 g q g' q' w → (fun w : World => w.cell? ⟨bb, 0, none⟩ = some (.int .u64 N) ∧ w.cell? ⟨bb, 1, none⟩ = some (.slice a n ca) ∧ w.cell? ⟨bb, 2, none⟩ = some (.slice x m cx)) w) (h2 : ∀ g q g' q' w, P2 g q g' q' w → Has w rs Z0 26) (info3 : ∀ {u v y : Value} (_ : Value), (Tryz.prog.info? 26).map (·.size) = some (#[u, v, y] : Array Value).size) (size3 : ∀ {u v y : Value} (_ : Value), Z0.size = (#[u, v, y] : Array Value).size)
    (c1 : ∀ w, P0 w → Calls Tryz.prog 15 #[.slice a n ca] w fun e w' => ∃ g1 q1, e = .returned (.slice (some ⟨g1, 0, none⟩) n q1) ∧ P1 g1 q1 w') (c2 : ∀ g1 q1 w, P1 g1 q1 w → Calls Tryz.prog 7 #[.slice x m cx] w fun e w' => ∃ g2 q2, e = .returned (.slice (some ⟨g2, 0, none⟩) m q2) ∧ P2 g1 q1 g2 q2 w') (hQ : ∀ c (a : Act) (t : Tmp) (v : Value) w, Q (.panic c) (a.put (some t) v) w → Q (.panic c) a w)
    (hfin : ∀ (g1 : Nat) (q1 : Nat) (g2 : Nat) (q2 : Nat) (w : World), (∃ wx : World, P2 g1 q1 g2 q2 wx ∧ w = wx.setRow rs #[.int .u64 N, .slice (some ⟨g1, 0, none⟩) n q1, .slice (some ⟨g2, 0, none⟩) m q2]) → Q .normal { tmps := #[u0, .pointer (some ⟨bb, 0, none⟩), .pointer (some ⟨rs, 0, none⟩), .pointer (some ⟨bb, 0, none⟩), .int .u64 N, .pointer (some ⟨bb, 1, none⟩), .slice a n ca, .slice (some ⟨g1, 0, none⟩) n q1, .pointer (some ⟨bb, 2, none⟩), .slice x m cx, .slice (some ⟨g2, 0, none⟩) m q2, .agg #[.int .u64 N, .slice (some ⟨g1, 0, none⟩) n q1, .slice (some ⟨g2, 0, none⟩) m q2]], defers := [] } w) : (Code.region 1 GV1OPS true).wp Tryz.prog Q { tmps := #[u0, .pointer (some ⟨bb, 0, none⟩), .pointer (some ⟨rs, 0, none⟩), u3, u4, u5, u6, u7, u8, u9, u10, u11], defers := [] } W := by
  have k4_7_9 : ∀ (g1 : Nat) (q1 : Nat) (g2 : Nat) (q2 : Nat) (w : World), (∃ wx : World, P2 g1 q1 g2 q2 wx ∧ w = wx.setRow rs #[.int .u64 N, .slice (some ⟨g1, 0, none⟩) n q1, .slice (some ⟨g2, 0, none⟩) m q2]) → wpAnyH Tryz.prog .any GV1OPS Q (fun w : World => w.cell? ⟨bb, 0, none⟩ = some (.int .u64 N) ∧ w.cell? ⟨bb, 1, none⟩ = some (.slice a n ca) ∧ w.cell? ⟨bb, 2, none⟩ = some (.slice x m cx)) 0 #[true, true, true, true, true, true, true, true, true, true] { tmps := #[u0, .pointer (some ⟨bb, 0, none⟩), .pointer (some ⟨rs, 0, none⟩), .pointer (some ⟨bb, 0, none⟩), .int .u64 N, .pointer (some ⟨bb, 1, none⟩), .slice a n ca, .slice (some ⟨g1, 0, none⟩) n q1, .pointer (some ⟨bb, 2, none⟩), .slice x m cx, .slice (some ⟨g2, 0, none⟩) m q2, .agg #[.int .u64 N, .slice (some ⟨g1, 0, none⟩) n q1, .slice (some ⟨g2, 0, none⟩) m q2]], defers := [] } w := fun g1 q1 g2 q2 w hp => by
    exact wpAnyH_done (by kernel_rfl) (hfin g1 q1 g2 q2 w hp) _
  have k4_7 : ∀ (g1 : Nat) (q1 : Nat) (g2 : Nat) (q2 : Nat) (w : World), (P2 g1 q1 g2 q2 w) → wpAnyH Tryz.prog .any GV1OPS Q (fun w : World => w.cell? ⟨bb, 0, none⟩ = some (.int .u64 N) ∧ w.cell? ⟨bb, 1, none⟩ = some (.slice a n ca) ∧ w.cell? ⟨bb, 2, none⟩ = some (.slice x m cx)) 1 #[true, true, true, true, true, true, true, true, true, false] { tmps := #[u0, .pointer (some ⟨bb, 0, none⟩), .pointer (some ⟨rs, 0, none⟩), .pointer (some ⟨bb, 0, none⟩), .int .u64 N, .pointer (some ⟨bb, 1, none⟩), .slice a n ca, .slice (some ⟨g1, 0, none⟩) n q1, .pointer (some ⟨bb, 2, none⟩), .slice x m cx, .slice (some ⟨g2, 0, none⟩) m q2, .agg #[.int .u64 N, .slice (some ⟨g1, 0, none⟩) n q1, .slice (some ⟨g2, 0, none⟩) m q2]], defers := [] } w := fun g1 q1 g2 q2 w hp => by
    refine wpAnyH_ready (rs := [9]) (by kernel_rfl) (by simp) ?_
    refine AllReadyH.cons (o := { dst := none, op := Op.store 26 (Operand.tmp 2) (Operand.tmp 11), type := 0, pos := "law.go:44", after := #[{ on := 8, ground := Ground.data }, { on := 7, ground := Ground.chain }, { on := 0, ground := Ground.phase }, { on := 1, ground := Ground.phase }, { on := 2, ground := Ground.phase }, { on := 3, ground := Ground.phase }, { on := 4, ground := Ground.phase }, { on := 5, ground := Ground.phase }, { on := 6, ground := Ground.phase }, { on := 7, ground := Ground.phase }, { on := 8, ground := Ground.phase }], guard := none }) rfl (fun K hK => ?_) ?_
    · exact step_of_list (by rfl) (wpList_store_row rfl 26 (.tmp 2) (.tmp 11) rfl rs #[.int .u64 N, .slice (some ⟨g1, 0, none⟩) n q1, .slice (some ⟨g2, 0, none⟩) m q2] rfl rfl 26 Z0 (h2 _ _ _ _ _ hp) (info3 undef) (size3 undef) (by simp [Value.oneCell']) ⟨rfl, (have hp : (fun (g1 : Nat) (q1 : Nat) (g2 : Nat) (q2 : Nat) (w : World) => (∃ wx : World, P2 g1 q1 g2 q2 wx ∧ w = wx.setRow rs #[.int .u64 N, .slice (some ⟨g1, 0, none⟩) n q1, .slice (some ⟨g2, 0, none⟩) m q2])) g1 q1 g2 q2 _ := ⟨w, hp, rfl⟩; hK.out _ _ ((by obtain ⟨wx, h1, h2⟩ := hp; (first | rw [h2] | skip); have h3 := s2 _ _ _ _ _ h1; exact ⟨(World.cell?_of_block (w := wx) (by exact setRow_other wx rs bb _ hne)).trans h3.1, (World.cell?_of_block (w := wx) (by exact setRow_other wx rs bb _ hne)).trans h3.2.1, (World.cell?_of_block (w := wx) (by exact setRow_other wx rs bb _ hne)).trans h3.2.2⟩)) (fun _ => k4_7_9 g1 q1 g2 q2 _ hp))⟩)
    exact AllReadyH.nil
  have ek4_7 : ∀ (g1 : Nat) (q1 : Nat) (g2 : Nat) (q2 : Nat) (w : World), (P2 g1 q1 g2 q2 w) → wpAnyH Tryz.prog .any GV1OPS Q (fun w : World => w.cell? ⟨bb, 0, none⟩ = some (.int .u64 N) ∧ w.cell? ⟨bb, 1, none⟩ = some (.slice a n ca) ∧ w.cell? ⟨bb, 2, none⟩ = some (.slice x m cx)) 2 #[true, true, true, true, true, true, true, true, false, false] { tmps := #[u0, .pointer (some ⟨bb, 0, none⟩), .pointer (some ⟨rs, 0, none⟩), .pointer (some ⟨bb, 0, none⟩), .int .u64 N, .pointer (some ⟨bb, 1, none⟩), .slice a n ca, .slice (some ⟨g1, 0, none⟩) n q1, .pointer (some ⟨bb, 2, none⟩), .slice x m cx, .slice (some ⟨g2, 0, none⟩) m q2, u11], defers := [] } w := fun g1 q1 g2 q2 w hp => by
    have hww : (fun w : World => w.cell? ⟨bb, 0, none⟩ = some (.int .u64 N) ∧ w.cell? ⟨bb, 1, none⟩ = some (.slice a n ca) ∧ w.cell? ⟨bb, 2, none⟩ = some (.slice x m cx)) w := s2 _ _ _ _ _ hp
    have last := k4_7 g1 q1 g2 q2 w hp
    have t8 : wpAnyH Tryz.prog .any GV1OPS Q (fun w : World => w.cell? ⟨bb, 0, none⟩ = some (.int .u64 N) ∧ w.cell? ⟨bb, 1, none⟩ = some (.slice a n ca) ∧ w.cell? ⟨bb, 2, none⟩ = some (.slice x m cx)) 2 #[true, true, true, true, true, true, true, true, false, false] { tmps := #[u0, .pointer (some ⟨bb, 0, none⟩), .pointer (some ⟨rs, 0, none⟩), .pointer (some ⟨bb, 0, none⟩), .int .u64 N, .pointer (some ⟨bb, 1, none⟩), .slice a n ca, .slice (some ⟨g1, 0, none⟩) n q1, .pointer (some ⟨bb, 2, none⟩), .slice x m cx, .slice (some ⟨g2, 0, none⟩) m q2, u11], defers := [] } w :=
      wpAnyH_take (i := 8) (oi := { dst := some 11, op := Op.build 26 #[(0, Operand.tmp 4), (1, Operand.tmp 7), (2, Operand.tmp 10)], type := 26, pos := "law.go:44", after := #[{ on := 1, ground := Ground.data }, { on := 4, ground := Ground.data }, { on := 7, ground := Ground.data }], guard := none }) (v := .agg #[.int .u64 N, .slice (some ⟨g1, 0, none⟩) n q1, .slice (some ⟨g2, 0, none⟩) m q2]) rfl (by kernel_rfl) (by kernel_rfl) (by kernel_rfl) (fun _ _ _ h => hQ _ _ _ _ _ h) (Yields.yieldsIf (Or.inl ⟨by rfl, fun W => by go_simp⟩)) hww last
    exact t8
  have k4 : ∀ (g1 : Nat) (q1 : Nat) (w : World), (P1 g1 q1 w) → wpAnyH Tryz.prog .any GV1OPS Q (fun w : World => w.cell? ⟨bb, 0, none⟩ = some (.int .u64 N) ∧ w.cell? ⟨bb, 1, none⟩ = some (.slice a n ca) ∧ w.cell? ⟨bb, 2, none⟩ = some (.slice x m cx)) 3 #[true, true, true, true, true, true, true, false, false, false] { tmps := #[u0, .pointer (some ⟨bb, 0, none⟩), .pointer (some ⟨rs, 0, none⟩), .pointer (some ⟨bb, 0, none⟩), .int .u64 N, .pointer (some ⟨bb, 1, none⟩), .slice a n ca, .slice (some ⟨g1, 0, none⟩) n q1, .pointer (some ⟨bb, 2, none⟩), .slice x m cx, u10, u11], defers := [] } w := fun g1 q1 w hp => by
    refine wpAnyH_ready (rs := [7]) (by kernel_rfl) (by simp) ?_
    refine AllReadyH.cons (o := { dst := some 10, op := Op.call { callee := Callee.value (Operand.func 7), args := #[Operand.tmp 9], argTypes := #[22] }, type := 22, pos := "law.go:44", after := #[{ on := 6, ground := Ground.data }, { on := 4, ground := Ground.chain }], guard := none }) rfl (fun K hK => ?_) ?_
    · rw [if_pos (by rfl)]
      go_simp
      refine (show Calls _ _ _ w (fun e w' => ∃ (g2 : Nat) (q2 : Nat), e = .returned (.slice (some ⟨g2, 0, none⟩) m q2) ∧ (P2 g1 q1 g2 q2 w')) from c2 _ _ w hp).mono ?_
      rintro e w' ⟨g2, q2, rfl, hp⟩
      exact hK.out _ _ (s2 _ _ _ _ _ hp) (fun _ => ek4_7 g1 q1 g2 q2 w' hp)
    exact AllReadyH.nil
  have k : ∀ (w : World), (P0 w) → wpAnyH Tryz.prog .any GV1OPS Q (fun w : World => w.cell? ⟨bb, 0, none⟩ = some (.int .u64 N) ∧ w.cell? ⟨bb, 1, none⟩ = some (.slice a n ca) ∧ w.cell? ⟨bb, 2, none⟩ = some (.slice x m cx)) 4 #[true, true, true, true, false, true, true, false, false, false] { tmps := #[u0, .pointer (some ⟨bb, 0, none⟩), .pointer (some ⟨rs, 0, none⟩), .pointer (some ⟨bb, 0, none⟩), .int .u64 N, .pointer (some ⟨bb, 1, none⟩), .slice a n ca, u7, .pointer (some ⟨bb, 2, none⟩), .slice x m cx, u10, u11], defers := [] } w := fun  w hp => by
    refine wpAnyH_ready (rs := [4]) (by kernel_rfl) (by simp) ?_
    refine AllReadyH.cons (o := { dst := some 7, op := Op.call { callee := Callee.value (Operand.func 15), args := #[Operand.tmp 6], argTypes := #[24] }, type := 24, pos := "law.go:44", after := #[{ on := 3, ground := Ground.data }], guard := none }) rfl (fun K hK => ?_) ?_
    · rw [if_pos (by rfl)]
      go_simp
      refine (show Calls _ _ _ w (fun e w' => ∃ (g1 : Nat) (q1 : Nat), e = .returned (.slice (some ⟨g1, 0, none⟩) n q1) ∧ (P1 g1 q1 w')) from c1 w hp).mono ?_
      rintro e w' ⟨g1, q1, rfl, hp⟩
      exact hK.out _ _ (s1 _ _ _ hp) (fun _ => k4 g1 q1 w' hp)
    exact AllReadyH.nil
  have hp := h0
  have hww : (fun w : World => w.cell? ⟨bb, 0, none⟩ = some (.int .u64 N) ∧ w.cell? ⟨bb, 1, none⟩ = some (.slice a n ca) ∧ w.cell? ⟨bb, 2, none⟩ = some (.slice x m cx)) W.drew := s0 _ hp
  have last := k W.drew hp
  have z : wpAnyH Tryz.prog .any GV1OPS Q (fun w : World => w.cell? ⟨bb, 0, none⟩ = some (.int .u64 N) ∧ w.cell? ⟨bb, 1, none⟩ = some (.slice a n ca) ∧ w.cell? ⟨bb, 2, none⟩ = some (.slice x m cx)) 10 #[false, false, false, false, false, false, false, false, false, false] { tmps := #[u0, .pointer (some ⟨bb, 0, none⟩), .pointer (some ⟨rs, 0, none⟩), u3, u4, u5, u6, u7, u8, u9, u10, u11], defers := [] } W.drew := by
    have t6 : wpAnyH Tryz.prog .any GV1OPS Q (fun w : World => w.cell? ⟨bb, 0, none⟩ = some (.int .u64 N) ∧ w.cell? ⟨bb, 1, none⟩ = some (.slice a n ca) ∧ w.cell? ⟨bb, 2, none⟩ = some (.slice x m cx)) 5 #[true, true, true, true, false, true, false, false, false, false] { tmps := #[u0, .pointer (some ⟨bb, 0, none⟩), .pointer (some ⟨rs, 0, none⟩), .pointer (some ⟨bb, 0, none⟩), .int .u64 N, .pointer (some ⟨bb, 1, none⟩), .slice a n ca, u7, .pointer (some ⟨bb, 2, none⟩), u9, u10, u11], defers := [] } W.drew :=
      wpAnyH_take (i := 6) (oi := { dst := some 9, op := Op.load 22 (Operand.tmp 8), type := 22, pos := "law.go:44", after := #[{ on := 5, ground := Ground.data }], guard := none }) (v := .slice x m cx) rfl (by kernel_rfl) (by kernel_rfl) (by kernel_rfl) (fun _ _ _ h => hQ _ _ _ _ _ h) (Or.inl ⟨by rfl, fun w hw => by have hx := hw.2.2; go_simp⟩) hww last
    have t5 : wpAnyH Tryz.prog .any GV1OPS Q (fun w : World => w.cell? ⟨bb, 0, none⟩ = some (.int .u64 N) ∧ w.cell? ⟨bb, 1, none⟩ = some (.slice a n ca) ∧ w.cell? ⟨bb, 2, none⟩ = some (.slice x m cx)) 6 #[true, true, true, true, false, false, false, false, false, false] { tmps := #[u0, .pointer (some ⟨bb, 0, none⟩), .pointer (some ⟨rs, 0, none⟩), .pointer (some ⟨bb, 0, none⟩), .int .u64 N, .pointer (some ⟨bb, 1, none⟩), .slice a n ca, u7, u8, u9, u10, u11], defers := [] } W.drew :=
      wpAnyH_take (i := 5) (oi := { dst := some 8, op := Op.fieldAddr 26 (Operand.tmp 1) 2, type := 0, pos := "law.go:44", after := #[], guard := none }) (v := .pointer (some ⟨bb, 2, none⟩)) rfl (by kernel_rfl) (by kernel_rfl) (by kernel_rfl) (fun _ _ _ h => hQ _ _ _ _ _ h) (Yields.yieldsIf (Or.inl ⟨by rfl, fun W => by go_simp⟩)) hww t6
    have t3 : wpAnyH Tryz.prog .any GV1OPS Q (fun w : World => w.cell? ⟨bb, 0, none⟩ = some (.int .u64 N) ∧ w.cell? ⟨bb, 1, none⟩ = some (.slice a n ca) ∧ w.cell? ⟨bb, 2, none⟩ = some (.slice x m cx)) 7 #[true, true, true, false, false, false, false, false, false, false] { tmps := #[u0, .pointer (some ⟨bb, 0, none⟩), .pointer (some ⟨rs, 0, none⟩), .pointer (some ⟨bb, 0, none⟩), .int .u64 N, .pointer (some ⟨bb, 1, none⟩), u6, u7, u8, u9, u10, u11], defers := [] } W.drew :=
      wpAnyH_take (i := 3) (oi := { dst := some 6, op := Op.load 24 (Operand.tmp 5), type := 24, pos := "law.go:44", after := #[{ on := 2, ground := Ground.data }], guard := none }) (v := .slice a n ca) rfl (by kernel_rfl) (by kernel_rfl) (by kernel_rfl) (fun _ _ _ h => hQ _ _ _ _ _ h) (Or.inl ⟨by rfl, fun w hw => by have hx := hw.2.1; go_simp⟩) hww t5
    have t2 : wpAnyH Tryz.prog .any GV1OPS Q (fun w : World => w.cell? ⟨bb, 0, none⟩ = some (.int .u64 N) ∧ w.cell? ⟨bb, 1, none⟩ = some (.slice a n ca) ∧ w.cell? ⟨bb, 2, none⟩ = some (.slice x m cx)) 8 #[true, true, false, false, false, false, false, false, false, false] { tmps := #[u0, .pointer (some ⟨bb, 0, none⟩), .pointer (some ⟨rs, 0, none⟩), .pointer (some ⟨bb, 0, none⟩), .int .u64 N, u5, u6, u7, u8, u9, u10, u11], defers := [] } W.drew :=
      wpAnyH_take (i := 2) (oi := { dst := some 5, op := Op.fieldAddr 26 (Operand.tmp 1) 1, type := 0, pos := "law.go:44", after := #[], guard := none }) (v := .pointer (some ⟨bb, 1, none⟩)) rfl (by kernel_rfl) (by kernel_rfl) (by kernel_rfl) (fun _ _ _ h => hQ _ _ _ _ _ h) (Yields.yieldsIf (Or.inl ⟨by rfl, fun W => by go_simp⟩)) hww t3
    have t1 : wpAnyH Tryz.prog .any GV1OPS Q (fun w : World => w.cell? ⟨bb, 0, none⟩ = some (.int .u64 N) ∧ w.cell? ⟨bb, 1, none⟩ = some (.slice a n ca) ∧ w.cell? ⟨bb, 2, none⟩ = some (.slice x m cx)) 9 #[true, false, false, false, false, false, false, false, false, false] { tmps := #[u0, .pointer (some ⟨bb, 0, none⟩), .pointer (some ⟨rs, 0, none⟩), .pointer (some ⟨bb, 0, none⟩), u4, u5, u6, u7, u8, u9, u10, u11], defers := [] } W.drew :=
      wpAnyH_take (i := 1) (oi := { dst := some 4, op := Op.load 23 (Operand.tmp 3), type := 23, pos := "law.go:44", after := #[{ on := 0, ground := Ground.data }], guard := none }) (v := .int .u64 N) rfl (by kernel_rfl) (by kernel_rfl) (by kernel_rfl) (fun _ _ _ h => hQ _ _ _ _ _ h) (Or.inl ⟨by rfl, fun w hw => by have hx := hw.1; go_simp⟩) hww t2
    have t0 : wpAnyH Tryz.prog .any GV1OPS Q (fun w : World => w.cell? ⟨bb, 0, none⟩ = some (.int .u64 N) ∧ w.cell? ⟨bb, 1, none⟩ = some (.slice a n ca) ∧ w.cell? ⟨bb, 2, none⟩ = some (.slice x m cx)) 10 #[false, false, false, false, false, false, false, false, false, false] { tmps := #[u0, .pointer (some ⟨bb, 0, none⟩), .pointer (some ⟨rs, 0, none⟩), u3, u4, u5, u6, u7, u8, u9, u10, u11], defers := [] } W.drew :=
      wpAnyH_take (i := 0) (oi := { dst := some 3, op := Op.fieldAddr 26 (Operand.tmp 1) 0, type := 0, pos := "law.go:44", after := #[], guard := none }) (v := .pointer (some ⟨bb, 0, none⟩)) rfl (by kernel_rfl) (by kernel_rfl) (by kernel_rfl) (fun _ _ _ h => hQ _ _ _ _ _ h) (Yields.yieldsIf (Or.inl ⟨by rfl, fun W => by go_simp⟩)) hww t1
    exact t0
  exact wp_region_held_drew (S := (fun w : World => w.cell? ⟨bb, 0, none⟩ = some (.int .u64 N) ∧ w.cell? ⟨bb, 1, none⟩ = some (.slice a n ca) ∧ w.cell? ⟨bb, 2, none⟩ = some (.slice x m cx))) (by kernel_rfl) hww (fun _ => z)
end Go.Proofs.YtlicfinmibbpdaaGreatDoor

/- massiflaw10.awake: what two leaves of seven need; the bytes of a proof. -/
namespace Go.Proofs.YtlicfinmibbpdaaGreatDoor
open Go.RowKit
set_option maxRecDepth 100000

/-- the hash 7 0 0 .. -/
def H7 : List Int := 7 :: List.replicate 31 0
theorem H7_arr : (CELLS H7).toArray = #[.int .u8 7, .int .u8 0, .int .u8 0, .int .u8 0, .int .u8 0, .int .u8 0, .int .u8 0, .int .u8 0, .int .u8 0, .int .u8 0, .int .u8 0, .int .u8 0, .int .u8 0, .int .u8 0, .int .u8 0, .int .u8 0, .int .u8 0, .int .u8 0, .int .u8 0, .int .u8 0, .int .u8 0, .int .u8 0, .int .u8 0, .int .u8 0, .int .u8 0, .int .u8 0, .int .u8 0, .int .u8 0, .int .u8 0, .int .u8 0, .int .u8 0, .int .u8 0] := rfl
theorem PLCA_awake : PLCA [1, 2] 7 = [0, 4, 9, 10] := by decide +kernel
theorem RISEA_awake : RISEA [1, 2] 7 = 0 := by decide +kernel
theorem MENC_awake : MENC [0, 2] 3 1 H7 = (0, 78 :: 3 :: 2 :: 0 :: 1 :: H7) := by decide +kernel
theorem lit_two (w : World) (x y : Nat) : NUML (w.alloc (.cells #[.int .u64 (x : Int), .int .u64 (y : Int)] 23)) (some ⟨w.heap.size, 0, none⟩) [x, y] := fun _ => by
  refine ⟨w.heap.size, 0, rfl, by simp, fun i z hz => ?_⟩
  have h := (Has.new w #[.int .u64 (x : Int), .int .u64 (y : Int)] 23).cell (0 + i)
  rw [h, Nat.zero_add]
  match i with
  | 0 => simp at hz; subst hz; rfl
  | 1 => simp at hz; subst hz; rfl
  | i + 2 => simp at hz
theorem own_some {w : World} {B s n c : Nat} {t : TypeId} {a : Option Addr} {xs : List Value} (h : w.ownsRow B t s (.slice a n c) n xs) (hn : 0 < n) : ∃ g, a = some ⟨g, 0, none⟩ := by
  rcases h.2 with ⟨e, h0⟩ | ⟨g, cap, cur, e, _⟩
  · omega
  · simp only [Value.slice.injEq] at e
    exact ⟨g, e.1⟩
theorem flat_seven (w : World) : Flat (w.alloc (.cells (CELLS H7).toArray 38)) (some ⟨w.heap.size, 0, none⟩) 1 H7 := by
  refine ⟨rfl, fun _ => ⟨w.heap.size, 0, rfl, by simp, fun j hj => ?_⟩, by decide⟩
  rw [(Has.new w (CELLS H7).toArray 38).cell (0 + j), Nat.zero_add, List.getElem?_toArray]
  exact CELLS_get H7 j hj
set_option maxHeartbeats 2000000 in
theorem awake10_ok (w : World) (hT : Tabled w) (h0 : 0 < w.heap.size) : Calls Tryz.prog 14 #[] w fun e w' => e = .returned (.bool true) ∧ Below w.heap.size w w' := by
  obtain ⟨w1, e1⟩ : ∃ w1, w.alloc (.cells #[.int .u64 1, .int .u64 2] 23) = w1 := ⟨_, rfl⟩
  have hb1 : Below w.heap.size w w1 := by rw [← e1]; exact (Below.refl _ _).alloc (Nat.le_refl _) _
  have s1 : w1.heap.size = w.heap.size + 1 := by rw [← e1]; simp
  have cp := manyplaces_ok [1, 2] 7 (some ⟨w.heap.size, 0, none⟩) 2 2 w1 rfl (by decide) (by decide) (fun h => by cases h) (fun x e => by cases e; exact ⟨by show w.heap.size < w1.heap.size; omega, rfl⟩) (by rw [← e1]; exact lit_two w 1 2) (hT.below h0 hb1) (by omega)
  rw [PLCA_awake, RISEA_awake] at cp
  have B1 : Aside (Below w.heap.size w w1 ∧ Tabled w ∧ 0 < w.heap.size) := ⟨hb1, hT, h0⟩
  clear hb1 s1 hT h0
  go_enter Tryz.func14, Tryz.ntmps14
  go_wp2_with fail
  refine cp.mono ?_
  rintro e w2 ⟨a2, c2, rfl, hown2, hb2⟩
  clear cp e1
  have R2 : Aside (w2.ownsRow w1.heap.size 23 1 (.slice a2 4 c2) 4 (UCELLS [0, 4, 9, 10]) ∧ Below w.heap.size w w2) := ⟨hown2, B1.out.1.trans (hb2.mono B1.out.1.size)⟩
  clear hown2 hb2
  obtain ⟨w3, e3⟩ : ∃ w3, w2.alloc (.cells #[.int .u64 0, .int .u64 2] 23) = w3 := ⟨_, rfl⟩
  have s3 : w3.heap.size = w2.heap.size + 1 := by rw [← e3]; simp
  obtain ⟨w4, e4⟩ : ∃ w4, w3.alloc (.cells (CELLS H7).toArray 38) = w4 := ⟨_, rfl⟩
  have hb3 : Below w2.heap.size w2 w3 := by rw [← e3]; exact (Below.refl _ _).alloc (Nat.le_refl _) _
  have hb4' : Below w3.heap.size w3 w4 := by rw [← e4]; exact (Below.refl _ _).alloc (Nat.le_refl _) _
  have hb4 : Below w2.heap.size w2 w4 := hb3.trans (hb4'.mono hb3.size)
  have hbw4 : Below w.heap.size w w4 := R2.out.2.trans (hb4.mono R2.out.2.size)
  have hN4 : NUML w4 (some ⟨w2.heap.size, 0, none⟩) [0, 2] := by
    have h1 := lit_two w2 0 2
    have h2 : NUML w3 (some ⟨w2.heap.size, 0, none⟩) [0, 2] := by rw [← e3]; exact h1
    exact h2.below hb4' (fun x e => by cases e; show w2.heap.size < w3.heap.size; omega)
  have hF4 : Flat w4 (some ⟨w2.heap.size + 1, 0, none⟩) 1 H7 := by rw [← e4, ← s3]; exact flat_seven w3
  have ce := manyencode_ok [0, 2] 3 (some ⟨w2.heap.size, 0, none⟩) 2 2 (some ⟨w2.heap.size + 1, 0, none⟩) 1 1 H7 w4 rfl (by decide) (by decide) (fun h => by cases h) (fun x e => by cases e; exact ⟨by show w2.heap.size < w4.heap.size; have := hb4'.size; omega, rfl⟩) (by decide) hN4 hF4 (B1.out.2.1.below B1.out.2.2 hbw4) (by have := B1.out.2.2; have := hbw4.size; omega)
  rw [MENC_awake] at ce
  rw [H7_arr] at e4
  have hM : MBOX 3 (some ⟨w2.heap.size, 0, none⟩) 2 2 (some ⟨w2.heap.size + 1, 0, none⟩) 1 1 = #[.int .u64 3, .slice (some ⟨w2.heap.size, 0, none⟩) 2 2, .slice (some ⟨w2.heap.size + 1, 0, none⟩) 1 1] := rfl
  rw [hM] at ce
  have R4 : Aside (w4.ownsRow w1.heap.size 23 1 (.slice a2 4 c2) 4 (UCELLS [0, 4, 9, 10]) ∧ Below w.heap.size w w4) := ⟨own_below R2.out.1 hb4, hbw4⟩
  clear hM hb3 hb4' hb4 hbw4 hN4 hF4 R2 B1
  go_wp2_with fail
  refine ce.mono ?_
  rintro e w5 ⟨a5, c5, rfl, hown5, hb5⟩
  clear ce e3 e4
  have o2 := own_below R4.out.1 hb5
  obtain ⟨g2, rfl⟩ := own_some o2 (by decide)
  obtain ⟨g5, rfl⟩ := own_some hown5 (by decide)
  have y0 : w5.cell? ⟨g2, 0, none⟩ = some (.int .u64 0) := o2.cellAt 0 (by decide)
  have y1 : w5.cell? ⟨g2, 1, none⟩ = some (.int .u64 4) := o2.cellAt 1 (by decide)
  have y2 : w5.cell? ⟨g2, 2, none⟩ = some (.int .u64 9) := o2.cellAt 2 (by decide)
  have z0 : w5.cell? ⟨g5, 0, none⟩ = some (.int .u8 78) := hown5.cellAt 0 (by decide)
  have z4 : w5.cell? ⟨g5, 4, none⟩ = some (.int .u8 1) := hown5.cellAt 4 (by decide)
  have z5 : w5.cell? ⟨g5, 5, none⟩ = some (.int .u8 7) := hown5.cellAt 5 (by decide)
  have FN : Aside (Below w.heap.size w w5) := R4.out.2.trans (hb5.mono R4.out.2.size)
  have hlen : (78 :: 3 :: 2 :: 0 :: 1 :: H7).length = 37 := rfl
  rw [hlen]
  clear o2 hown5 hb5 R4 s3
  go_wp2_with fail
  go_ret
  exact ⟨rfl, FN.out⟩
end Go.Proofs.YtlicfinmibbpdaaGreatDoor

/- massiflaw10.numbers: the same numbers in a list of their own that goes on behind them. -/
namespace Go.Proofs.YtlicfinmibbpdaaGreatDoor
open Go.RowKit
set_option maxRecDepth 100000

/-- numbers are appended. -/
theorem app_nums {ops : Array Oper} {rest : List Oper} {o : Oper} {a : Act} {Q : Exit → Act → World → Prop} (w : World) (hgd : o.guard = none) (s x : Operand)
    (ho : o.op = .call { callee := .builtin .append, args := #[s, x], argTypes := #[24, 24] })
    (base : Nat) (v : Value) (n : Nat) (xs : List Value) (hs : a.eval s = v) (hown : w.ownsRow base 23 1 v n xs)
    (ad : Option Addr) (m c : Nat) (L : List Nat) (hx : a.eval x = .slice ad m c) (hL : NUML w ad L) (hl : L.length = m) (hc : ad = none → c = 0)
    (hb : n + m ≤ 2 ^ 30) (hbase : base ≤ w.heap.size)
    (hh : ∀ a' c' w', w'.ownsRow base 23 1 (.slice a' (n + m) c') (n + m) (xs ++ UCELLS L) → w.grownBy w' v.ownBlock → wpList Tryz.prog ops Q rest (a.put o.dst (.slice a' (n + m) c')) w') : wpList Tryz.prog ops Q (o :: rest) a w := by
  obtain ⟨i, hi, hz, hs1, hby⟩ := info_parts info_u64
  cases ad with
  | none =>
    obtain rfl := hc rfl
    have hL0 : L = [] := by
      cases L with
      | nil => rfl
      | cons y l =>
        obtain ⟨b, o', e, _⟩ := hL (by simp)
        cases e
    subst hL0
    obtain rfl : m = 0 := by simpa using hl.symm
    refine wpList_append_own_none hgd s x 24 ho base 23 i 1 Tryz.underlying24 hi v n xs hs hown hx ?_
    obtain ⟨a', c', rfl⟩ := own_sliced hown
    have := hh a' c' w (by simpa [UCELLS] using hown) ⟨rfl, rfl, rfl, Nat.le_refl _, fun _ _ _ => rfl⟩
    simpa using this
  | some ad =>
    have hcells : ∀ j u, (UCELLS L)[j]? = some u → w.cell? (ad.add j) = some u := by
      intro j u hu
      have hj : j < L.length := by have := (List.getElem?_eq_some_iff.1 hu).1; rwa [UCELLS_length] at this
      obtain ⟨g, o', e, _, hr⟩ := hL (by omega)
      cases e
      rw [Addr.add_mid, hr j _ (List.getElem?_eq_getElem hj)]
      rw [UCELLS, List.getElem?_map, List.getElem?_eq_getElem hj] at hu
      exact hu
    refine wpList_append_own w hgd s x 24 ho base 23 i (.int .u64 0) 1 8 Tryz.underlying24 hi hz hs1 hby rfl (by decide) v n xs hs hown ad m c (UCELLS L) hx (by rw [UCELLS_length]; omega) hcells (fun u hu => by
      obtain ⟨y, _, rfl⟩ := List.mem_map.1 hu
      rfl) (by simp only [maxLen]; omega) (by omega) hbase ?_
    intro v' w' h1 h2 _
    obtain ⟨a', c', rfl⟩ := own_sliced h1
    exact hh a' c' w' h1 h2
theorem own_nothing (w : World) : (w.alloc (.cells #[] 23)).ownsRow w.heap.size 23 1 (.slice (some ⟨w.heap.size, 0, none⟩) 0 0) 0 [] :=
  World.ownsRow_lit w #[] 0 (Nat.le_refl _) (by simp [maxLen]) rfl
theorem own_frontn {w : World} {base g n cap : Nat} {L : List Nat} {x : Nat} (hl : L.length = n) (h : w.ownsRow base 23 1 (.slice (some ⟨g, 0, none⟩) (n + 1) cap) (n + 1) (UCELLS (L ++ [x]))) : w.ownsRow base 23 1 (.slice (some ⟨g, 0, none⟩) n cap) n (UCELLS L) ∧ n + 1 ≤ cap ∧ w.cell? ⟨g, n, none⟩ = some (.int .u64 (x : Int)) ∧ g < w.heap.size := by
  have hr : w.cell? ⟨g, n, none⟩ = some (.int .u64 (x : Int)) := by
    rw [h.cellAt n (by omega), UCELLS_snoc, List.getElem?_append_right (by rw [UCELLS_length]; omega), UCELLS_length, hl, Nat.sub_self]
    rfl
  rcases h.2 with ⟨e, _⟩ | ⟨g', cap', cur, e, hb, hg, h1, h2, h3, h4⟩
  · cases e
  · cases e
    refine ⟨⟨by rw [UCELLS_length, hl, Nat.mul_one], .inr ⟨g, cap, cur, rfl, hb, hg, by omega, h2, h3, ?_⟩⟩, h1, hr, (Array.getElem?_eq_some_iff.1 hg).1⟩
    have h5 := congrArg (List.take (n * 1)) h4
    rw [List.take_take, show min (n * 1) ((n + 1) * 1) = n * 1 by omega] at h5
    rw [h5, UCELLS_snoc, List.take_left' (by rw [UCELLS_length, hl, Nat.mul_one])]
/-- what numbers answers. -/
structure NUMD (w w' : World) (g n cap : Nat) (L : List Nat) : Prop where
  own : w'.ownsRow w.heap.size 23 1 (.slice (some ⟨g, 0, none⟩) n cap) n (UCELLS L)
  room : n + 1 ≤ cap
  mark : w'.cell? ⟨g, n, none⟩ = some (.int .u64 171)
  lt : g < w'.heap.size
  base : w.heap.size ≤ g
  below : Below w.heap.size w w'
theorem NUMD.lies {w w' : World} {g n cap : Nat} {L : List Nat} (h : NUMD w w' g n cap L) (hl : L.length = n) : NUML w' (some ⟨g, 0, none⟩) L := fun _ => ⟨g, 0, rfl, h.lt, fun i x hx => by
  have hi : i < L.length := (List.getElem?_eq_some_iff.1 hx).1
  rw [Nat.zero_add, h.own.cellAt i (by omega), UCELLS, List.getElem?_map, hx]
  rfl⟩
set_option maxHeartbeats 1000000 in
theorem numbers10_ok (a : Option Addr) (n c : Nat) (L : List Nat) (hl : L.length = n) (hn : n < 2 ^ 20) (hc : a = none → c = 0) (w : World) (hL : NUML w a L) : Calls Tryz.prog 15 #[.slice a n c] w fun e w' => ∃ g cap, e = .returned (.slice (some ⟨g, 0, none⟩) n cap) ∧ NUMD w w' g n cap L := by
  have HA : Aside (L.length = n ∧ n < 2 ^ 20 ∧ (a = none → c = 0) ∧ NUML w a L) := ⟨hl, hn, hc, hL⟩
  clear hl hn hc hL
  go_enter Tryz.func15, Tryz.ntmps15
  go_wp2_with (first
    | (at_builtin; refine app_nums _ rfl (.tmp 3) (.tmp 4) rfl w.heap.size (.slice (some ⟨w.heap.size, 0, none⟩) 0 0) 0 [] rfl (own_nothing w) a n c L rfl (fun hp => by
         obtain ⟨b, o, e, hlt, hcc⟩ := HA.out.2.2.2 hp
         exact ⟨b, o, e, by simp; omega, fun i x hx => (((Below.refl w.heap.size w).alloc (Nat.le_refl _) _).cell (p := ⟨b, o + i, none⟩) hlt).trans (hcc i x hx)⟩) HA.out.1 HA.out.2.2.1 (by have := HA.out.2.1; omega) (by simp) ?_; rw [Nat.zero_add, List.nil_append]; intro a1 c1 w1 hown1 hgrow1
       have R1 : Aside (w1.ownsRow w.heap.size 23 1 (.slice a1 n c1) n (UCELLS L) ∧ Below w.heap.size w w1) := ⟨hown1, ((Below.refl _ w).alloc (Nat.le_refl _) _).grown hgrow1 (by simp) (fun k e => by cases e; exact Nat.le_refl _)⟩
       clear hown1 hgrow1)
    | (at_builtin; refine app_num _ rfl (.tmp 5) (.tmp 6) rfl w.heap.size (.slice a1 n c1) n L rfl (R1.out.1.alloc _) w1.heap.size 1 171 rfl ((Has.new _ _ _).cell 0) (by have := HA.out.2.1; omega) (by have := R1.out.2.size; simp; omega) ?_; intro g2 c2 w2 hown2 hgrow2 hg2
       obtain ⟨f1, f2, f3, f4⟩ := own_frontn HA.out.1 hown2
       have hcap : (n : Int) ≤ (c2 : Int) := by omega
       have R2 : Aside (NUMD w w2 g2 n c2 L) := ⟨f1, f2, f3, f4, (f1.lt g2 rfl).1, (R1.out.2.alloc R1.out.2.size _).grown hgrow2 (by have := R1.out.2.size; simp; omega) (fun k e => (R1.out.1.lt k e).1)⟩
       clear hown2 hgrow2 hg2 f1 f2 f3 f4))
  go_ret
  exact ⟨_, _, rfl, R2.out⟩
end Go.Proofs.YtlicfinmibbpdaaGreatDoor

/- Part by part: what inTurn answers, of the parts of either reader. -/
namespace Go.Proofs.YtlicfinmibbpdaaGreatDoor
open Go.RowKit
set_option maxRecDepth 100000

end Go.Proofs.YtlicfinmibbpdaaGreatDoor

/- What a reader has behind each part. -/
namespace Go.Proofs.YtlicfinmibbpdaaGreatDoor
open Go.RowKit
set_option maxRecDepth 100000

/-- a reader's cells: what is left, two numbers, the nodes. -/
def RCELLS (v : Value) (X Y : Nat) (nv : Value) : Array Value := #[v, .int .u64 (X : Int), .int .u64 (Y : Int), nv]
/-- the reader and the list of its parts lie there; what was there before is as it was. -/
structure FRM (w0 w : World) (rb gl : Nat) (t : TypeId) (v : Value) (X Y : Nat) (nv : Value) (fl : Array Value) (tf : TypeId) : Prop where
  bel : Below w0.heap.size w0 w
  rd : Has w rb (RCELLS v X Y nv) t
  fl : Has w gl fl tf
  ne : gl ≠ rb
  lb : w0.heap.size ≤ rb
  lg : w0.heap.size ≤ gl
/-- the bytes that are left lie there. -/
def SRC (w0 : World) (a : Option Addr) (c : Nat) (t : List Int) : Prop := Bytes w0 a t.length t ∧ t.length ≤ c ∧ t.length ≤ 1000000
theorem FRM.drew {w0 w : World} {rb gl : Nat} {t : TypeId} {v : Value} {X Y : Nat} {nv : Value} {fl : Array Value} {tf : TypeId} (h : FRM w0 w rb gl t v X Y nv fl tf) : FRM w0 w.drew rb gl t v X Y nv fl tf := ⟨h.bel.drew, h.rd, h.fl, h.ne, h.lb, h.lg⟩
theorem FRM.keep {w0 w w' : World} {rb gl : Nat} {t : TypeId} {v : Value} {X Y : Nat} {nv : Value} {fl : Array Value} {tf : TypeId} (h : FRM w0 w rb gl t v X Y nv fl tf) (hb : Below w.heap.size w w') : FRM w0 w' rb gl t v X Y nv fl tf := ⟨h.bel.trans (hb.mono h.bel.size), h.rd.keep hb, h.fl.keep hb, h.ne, h.lb, h.lg⟩
theorem FRM.rest {w0 w : World} {rb gl : Nat} {t : TypeId} {v : Value} {X Y : Nat} {nv : Value} {fl : Array Value} {tf : TypeId} (h : FRM w0 w rb gl t v X Y nv fl tf) (v' : Value) : FRM w0 (w.setCell ⟨rb, 0, none⟩ v') rb gl t v' X Y nv fl tf :=
  ⟨h.bel.setCell (p := ⟨rb, 0, none⟩) h.lb _, h.rd.set 0 v', h.fl.other (a := ⟨rb, 0, none⟩) h.ne _, h.ne, h.lb, h.lg⟩
theorem FRM.first {w0 w : World} {rb gl : Nat} {t : TypeId} {v : Value} {X Y : Nat} {nv : Value} {fl : Array Value} {tf : TypeId} (h : FRM w0 w rb gl t v X Y nv fl tf) (Z : Nat) : FRM w0 (w.setCell ⟨rb, 1, none⟩ (.int .u64 (Z : Int))) rb gl t v Z Y nv fl tf :=
  ⟨h.bel.setCell (p := ⟨rb, 1, none⟩) h.lb _, h.rd.set 1 _, h.fl.other (a := ⟨rb, 1, none⟩) h.ne _, h.ne, h.lb, h.lg⟩
theorem SRC.drop {w0 : World} {b off c : Nat} {t : List Int} (h : SRC w0 (some ⟨b, off, none⟩) c t) (k : Nat) (hk : k ≤ t.length) : SRC w0 (REST b off c k) (c - k) (t.drop k) := by
  obtain ⟨h1, h2, h3⟩ := h
  have := h1.behind k hk h2
  refine ⟨?_, by rw [List.length_drop]; omega, by rw [List.length_drop]; omega⟩
  rw [List.length_drop]
  exact this
end Go.Proofs.YtlicfinmibbpdaaGreatDoor

/- The reader of package many: a number, the mark, the end. -/
namespace Go.Proofs.YtlicfinmibbpdaaGreatDoor
open Go.RowKit
set_option maxRecDepth 100000

/-- the reader rb has the bytes t left; they lie as they lay in w0. -/
structure RDR (w0 w : World) (rb : Nat) (t : List Int) : Prop where
  rd : ∃ a c, Has w rb #[.slice a t.length c] 98 ∧ SRC w0 a c t
  bel : Below w0.heap.size w0 w
  lb : w0.heap.size ≤ rb
/-- but for the block rb, what was there is as it was. -/
structure STAY (w w' : World) (rb : Nat) : Prop where
  kp : ∀ k, k < w.heap.size → k ≠ rb → w'.heap[k]? = w.heap[k]?
  bl : Below rb w w'
theorem STAY.refl (w : World) (rb : Nat) : STAY w w rb := ⟨fun _ _ _ => rfl, Below.refl _ _⟩
theorem STAY.trans {w w' w'' : World} {rb : Nat} (h : STAY w w' rb) (h' : STAY w' w'' rb) : STAY w w'' rb := ⟨fun k hk hne => (h'.kp k (Nat.lt_of_lt_of_le hk h.bl.size) hne).trans (h.kp k hk hne), h.bl.trans h'.bl⟩
theorem STAY.set (w : World) (rb i : Nat) (v : Value) : STAY w (w.setCell ⟨rb, i, none⟩ v) rb := ⟨fun k _ hne => Below.heap_setCell w ⟨rb, i, none⟩ v k hne, (Below.refl _ _).setCell (p := ⟨rb, i, none⟩) (Nat.le_refl _) _⟩
theorem STAY.has {w w' : World} {rb g : Nat} {c : Array Value} {t : TypeId} (h : STAY w w' rb) (hg : Has w g c t) (hne : g ≠ rb) : Has w' g c t := (h.kp g hg.lt hne).trans hg
theorem RDR.lt {w0 w : World} {rb : Nat} {t : List Int} (h : RDR w0 w rb t) : rb < w.heap.size := by
  obtain ⟨_, _, h1, _⟩ := h.rd
  exact h1.lt
theorem RDR.keep {w0 w w' : World} {rb : Nat} {t : List Int} (h : RDR w0 w rb t) (hb : Below w.heap.size w w') : RDR w0 w' rb t := by
  obtain ⟨a, c, h1, h2⟩ := h.rd
  exact ⟨⟨a, c, h1.keep hb, h2⟩, h.bel.trans (hb.mono h.bel.size), h.lb⟩
/-- another block is written to. -/
theorem RDR.other {w0 w w' : World} {rb pb : Nat} {t : List Int} (h : RDR w0 w rb t) (hs : STAY w w' pb) (hne : rb ≠ pb) (hp : w0.heap.size ≤ pb) : RDR w0 w' rb t := by
  obtain ⟨a, c, h1, h2⟩ := h.rd
  exact ⟨⟨a, c, hs.has h1 hne, h2⟩, h.bel.trans (hs.bl.mono hp), h.lb⟩
/-! the mark -/
/-! the size, the end -/
end Go.Proofs.YtlicfinmibbpdaaGreatDoor

/- index of the reader of package many: so many indices, each as what is between it and the one ahead. -/
namespace Go.Proofs.YtlicfinmibbpdaaGreatDoor
open Go.RowKit
set_option maxRecDepth 100000

end Go.Proofs.YtlicfinmibbpdaaGreatDoor

/- What Decode of package many answers, of any bytes: plain. -/
namespace Go.Proofs.YtlicfinmibbpdaaGreatDoor
set_option maxRecDepth 100000

end Go.Proofs.YtlicfinmibbpdaaGreatDoor

/- hash of the reader of package many: the next 32 bytes. -/
namespace Go.Proofs.YtlicfinmibbpdaaGreatDoor
open Go.RowKit
set_option maxRecDepth 100000

end Go.Proofs.YtlicfinmibbpdaaGreatDoor
