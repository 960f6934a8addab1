/- Texts of ProofWrites, one behind the other: PosRefKin, PosBackward. -/
import Derived.RangeFuncBox
import Derived.RangeFuncLeaves
import Derived.RangeFuncCalls
import Derived.Shelf.Abstract
import Derived.Shelf.RegionOpen
import Derived.WalkKit
import Derived.OwnWalkIn
import Derived.TacticsInMore
import Derived.LoopNIn
import Derived.LoopIn
import Derived.Maps.AppendAt
import Derived.Test.YtfjmbfppilfepaaDoorProofWritesP8
import Derived.Test.YtfjmbfppilfepaaDoorProofWritesP9
/- What the document's answers give for a node's kin. -/
namespace Go.Proofs.YtfjmbfppilfepaaDoor
open Go.RowKit

/-- the document's Spot answers so at p. -/
def RefAt (p : Int) (h k : Nat) (ok : Bool) : Prop := ∀ w, Calls Tryd.prog 115 #[.int .u64 p] w fun e w' => e = .returned (.tuple #[SPOT h k, .bool ok]) ∧ Below w.heap.size w w'
theorem RefAt.node {h k : Nat} (hN : Node h k) : RefAt ((PLC h k : Nat) : Int) h k true := fun w => refspot_ok h k hN w
theorem RefAt.out {p : Int} (hp : 9223372036854775807 ≤ p) : RefAt p 0 0 false := fun w => refspot_not p hp w
theorem refsibling_top (p : Int) (k : Nat) (w : World) (cs : RefAt p 62 k true) : Calls Tryd.prog 107 #[.int .u64 p] w fun e w' => e = .returned (.tuple #[.int .u64 0, .bool false]) ∧ Below w.heap.size w w' := by
  have cs := cs w
  go_enter Tryd.func107, Tryd.ntmps107
  go_wp2_with fail
  refine cs.mono ?_
  rintro e w1 ⟨rfl, hb⟩
  clear cs
  have R : Aside (Below w.heap.size w w1) := hb
  clear hb
  go_wp2
  go_ret2
  exact ⟨rfl, R.out.alloc R.out.size _⟩
theorem refsibling_not (p : Int) (h k : Nat) (w : World) (cs : RefAt p h k false) : Calls Tryd.prog 107 #[.int .u64 p] w fun e w' => e = .returned (.tuple #[.int .u64 0, .bool false]) ∧ Below w.heap.size w w' := by
  have cs := cs w
  go_enter Tryd.func107, Tryd.ntmps107
  go_wp2_with fail
  refine cs.mono ?_
  rintro e w1 ⟨rfl, hb⟩
  clear cs
  have R : Aside (Below w.heap.size w w1) := hb
  clear hb
  go_wp2
  go_ret2
  exact ⟨rfl, R.out.alloc R.out.size _⟩
theorem refplace_raw (h k : Nat) (t z y l a r : Int) (w : World) (hh : h ≤ 62) (hm : wrap64 (h : Int) = (h : Int)) (hm2 : IntKind.u64.wrap (h : Int) = (h : Int)) (ht : wrap64 (62 - (h : Int)) = t) (hk : decide (y ≤ (k : Int)) = false)
    (cy : ∀ w, Calls Tryd.prog 108 #[.int .i64 t] w fun e w' => e = .returned (.int .u64 y) ∧ w = w') (cz : ∀ w, Calls Tryd.prog 108 #[.int .i64 (h : Int)] w fun e w' => e = .returned (.int .u64 z) ∧ w = w')
    (e0 : IntKind.u64.wrap ((k : Int) + 1) = (k : Int) + 1) (e1 : IntKind.u64.wrap (IntKind.u64.wrap (((k : Int) + 1) * z) - 1) = l) (ca : ∀ w, Calls Tryd.prog 109 #[.int .u64 l] w fun e w' => e = .returned (.tuple #[.int .u64 a, .bool true]) ∧ w = w') (e2 : IntKind.u64.wrap (a + (h : Int)) = r) :
    Calls Tryd.prog 92 #[SPOT h k] w fun e w' => e = .returned (.tuple #[.int .u64 r, .bool true]) ∧ Below w.heap.size w w' := by
  have hd : decide ((62 : Int) < (h : Int)) = false := by simp; omega
  go_enter Tryd.func92, Tryd.ntmps92
  go_wp2
  have hc0 : (w.alloc (.cells #[.int .u8 (h : Int), .int .u64 (k : Int)] 99)).cell? ⟨w.heap.size, 0, none⟩ = some (.int .u8 (h : Int)) := by simp
  have hc1 : (w.alloc (.cells #[.int .u8 (h : Int), .int .u64 (k : Int)] 99)).cell? ⟨w.heap.size, 1, none⟩ = some (.int .u64 (k : Int)) := by simp
  have R2 : Aside (Below w.heap.size w (w.alloc (.cells #[.int .u8 (h : Int), .int .u64 (k : Int)] 99))) := (Below.refl _ _).alloc (Nat.le_refl _) _
  generalize w.alloc (.cells #[.int .u8 (h : Int), .int .u64 (k : Int)] 99) = W at *
  generalize hb : w.heap.size = b at *
  clear hh
  go_quiet ((go_at_call 108; exact quiet_eq (cy _)))
  have R3 : Aside (Below b w (W.drewN nq)) := below_drewN R2.out nq
  have hc0' : (W.drewN nq).cell? ⟨b, 0, none⟩ = some (.int .u8 (h : Int)) := hc0
  have hc1' : (W.drewN nq).cell? ⟨b, 1, none⟩ = some (.int .u64 (k : Int)) := hc1
  clear hc0 hc1 R2 cy
  generalize W.drewN nq = W2 at *
  go_wp2
  go_quiet (first | (go_at_call 108; exact quiet_eq (cz _)) | (go_at_call 109; exact quiet_eq (ca _)))
  go_wp2
  go_ret2
  exact ⟨rfl, by rw [hb]; exact below_drewN R3.out _⟩
theorem refplace_high (h k : Nat) (hh : 62 < h) (hm : wrap64 (h : Int) = (h : Int)) (w : World) : Calls Tryd.prog 92 #[SPOT h k] w fun e w' => e = .returned (.tuple #[.int .u64 0, .bool false]) ∧ Below w.heap.size w w' := by
  have hd : decide ((62 : Int) < (h : Int)) = true := by simp; omega
  go_enter Tryd.func92, Tryd.ntmps92
  go_wp2
  have hc0 : (w.alloc (.cells #[.int .u8 (h : Int), .int .u64 (k : Int)] 99)).cell? ⟨w.heap.size, 0, none⟩ = some (.int .u8 (h : Int)) := by simp
  have R2 : Aside (Below w.heap.size w (w.alloc (.cells #[.int .u8 (h : Int), .int .u64 (k : Int)] 99))) := (Below.refl _ _).alloc (Nat.le_refl _) _
  generalize w.alloc (.cells #[.int .u8 (h : Int), .int .u64 (k : Int)] 99) = W at *
  generalize hb : w.heap.size = b at *
  go_quiet (fail)
  go_wp2
  go_ret2
  exact ⟨rfl, by rw [hb]; exact below_drewN R2.out nq⟩
theorem refplace_wide (h k : Nat) (t y : Int) (w : World) (hh : h ≤ 62) (hm : wrap64 (h : Int) = (h : Int)) (ht : wrap64 (62 - (h : Int)) = t) (hk : decide (y ≤ (k : Int)) = true) (cy : ∀ w, Calls Tryd.prog 108 #[.int .i64 t] w fun e w' => e = .returned (.int .u64 y) ∧ w = w') :
    Calls Tryd.prog 92 #[SPOT h k] w fun e w' => e = .returned (.tuple #[.int .u64 0, .bool false]) ∧ Below w.heap.size w w' := by
  have hd : decide ((62 : Int) < (h : Int)) = false := by simp; omega
  go_enter Tryd.func92, Tryd.ntmps92
  go_wp2
  have hc0 : (w.alloc (.cells #[.int .u8 (h : Int), .int .u64 (k : Int)] 99)).cell? ⟨w.heap.size, 0, none⟩ = some (.int .u8 (h : Int)) := by simp
  have hc1 : (w.alloc (.cells #[.int .u8 (h : Int), .int .u64 (k : Int)] 99)).cell? ⟨w.heap.size, 1, none⟩ = some (.int .u64 (k : Int)) := by simp
  have R2 : Aside (Below w.heap.size w (w.alloc (.cells #[.int .u8 (h : Int), .int .u64 (k : Int)] 99))) := (Below.refl _ _).alloc (Nat.le_refl _) _
  generalize w.alloc (.cells #[.int .u8 (h : Int), .int .u64 (k : Int)] 99) = W at *
  generalize hb : w.heap.size = b at *
  clear hh
  go_quiet ((go_at_call 108; exact quiet_eq (cy _)))
  go_wp2
  go_ret2
  exact ⟨rfl, by rw [hb]; exact below_drewN R2.out nq⟩
theorem refsibling_left (p : Int) (h k k1 : Nat) (r : Int) (w : World) (hh : ((h : Int) == 62) = false) (e1 : IntKind.u64.wrap ((k : Int) + 1) = (k1 : Int)) (ha : ((k : Int) % 2 == 1) = false) (cs : RefAt p h k true)
    (cp : ∀ w, Calls Tryd.prog 92 #[SPOT h k1] w fun e w' => e = .returned (.tuple #[.int .u64 r, .bool true]) ∧ Below w.heap.size w w') :
    Calls Tryd.prog 107 #[.int .u64 p] w fun e w' => e = .returned (.tuple #[.int .u64 r, .bool true]) ∧ Below w.heap.size w w' := by
  have cs := cs w
  go_enter Tryd.func107, Tryd.ntmps107
  go_wp2_with fail
  refine cs.mono ?_
  rintro e w1 ⟨rfl, hb⟩
  clear cs
  have R : Aside (Below w.heap.size w w1) := hb
  clear hb
  go_wp2_with fail
  refine (cp _).mono ?_
  rintro e w2 ⟨rfl, hb2⟩
  have R2 : Aside (Below w.heap.size w w2) := (R.out.alloc R.out.size _).trans (hb2.mono (by have := R.out.size; simp; omega))
  clear cp hb2 R
  go_wp2
  go_ret2
  exact ⟨rfl, R2.out⟩
theorem refsibling_right (p : Int) (h k k1 : Nat) (r : Int) (w : World) (hh : ((h : Int) == 62) = false) (e1 : IntKind.u64.wrap ((k : Int) - 1) = (k1 : Int)) (ha : ((k : Int) % 2 == 1) = true) (cs : RefAt p h k true)
    (cp : ∀ w, Calls Tryd.prog 92 #[SPOT h k1] w fun e w' => e = .returned (.tuple #[.int .u64 r, .bool true]) ∧ Below w.heap.size w w') :
    Calls Tryd.prog 107 #[.int .u64 p] w fun e w' => e = .returned (.tuple #[.int .u64 r, .bool true]) ∧ Below w.heap.size w w' := by
  have cs := cs w
  go_enter Tryd.func107, Tryd.ntmps107
  go_wp2_with fail
  refine cs.mono ?_
  rintro e w1 ⟨rfl, hb⟩
  clear cs
  have R : Aside (Below w.heap.size w w1) := hb
  clear hb
  go_wp2_with fail
  refine (cp _).mono ?_
  rintro e w2 ⟨rfl, hb2⟩
  have R2 : Aside (Below w.heap.size w w2) := (R.out.alloc R.out.size _).trans (hb2.mono (by have := R.out.size; simp; omega))
  clear cp hb2 R
  go_wp2
  go_ret2
  exact ⟨rfl, R2.out⟩
theorem odd_mod (k : Nat) : ((k : Int) % 2 == 1) = decide (k % 2 = 1) := by
  rw [Bool.eq_iff_iff]
  simp
  omega
theorem refplace_ok (h k : Nat) (hN : Node h k) (w : World) : Calls Tryd.prog 92 #[SPOT h k] w fun e w' => e = .returned (.tuple #[.int .u64 ((PLC h k : Nat) : Int), .bool true]) ∧ Below w.heap.size w w' := by
  have h1 := hN.1
  have h2 := hN.2
  have h3 := hN.span
  have h4 := hN.index_lt
  have h5 := hN.lt
  have h7 := PLC_last h k
  have h8 := last_lt h k
  refine refplace_raw h k ((62 - h : Nat) : Int) ((2 ^ h : Nat) : Int) ((2 ^ (62 - h) : Nat) : Int) (((k + 1) * 2 ^ h - 1 : Nat) : Int) ((NODES ((k + 1) * 2 ^ h - 1) : Nat) : Int) _ w h1 (by unfold wrap64; omega) (by rw [wrapU]; omega) (by unfold wrap64; omega) (by simp only [decide_eq_false_iff_not]; omega) (fun w => power_ok _ (by omega) w) (fun w => power_ok _ (by omega) w) (by rw [wrapU]; omega) ?_ (fun w => refnodes_ok _ (by omega) w) ?_
  · rw [show (((k : Int) + 1) * ((2 ^ h : Nat) : Int)) = (((k + 1) * 2 ^ h : Nat) : Int) by rw [Int.natCast_mul]; rfl]
    generalize (k + 1) * 2 ^ h = x at *
    rw [wrapU, wrapU]
    omega
  · rw [wrapU]
    omega
theorem refplace_not (h k : Nat) (hh : h < 256) (hN : ¬ Node h k) (w : World) : Calls Tryd.prog 92 #[SPOT h k] w fun e w' => e = .returned (.tuple #[.int .u64 0, .bool false]) ∧ Below w.heap.size w w' := by
  rcases Nat.lt_or_ge 62 h with h1 | h1
  · exact refplace_high h k h1 (by unfold wrap64; omega) w
  · have h2 : 2 ^ (62 - h) ≤ k := by
      rcases Nat.lt_or_ge k (2 ^ (62 - h)) with h3 | h3
      · exact absurd ⟨h1, h3⟩ hN
      · exact h3
    exact refplace_wide h k ((62 - h : Nat) : Int) ((2 ^ (62 - h) : Nat) : Int) w h1 (by unfold wrap64; omega) (by unfold wrap64; omega) (by simp only [decide_eq_true_eq]; omega) (fun w => power_ok _ (by omega) w)
theorem refsibling_ok (h k : Nat) (hN : Node h k) (hh : h < 62) (w : World) : Calls Tryd.prog 107 #[.int .u64 ((PLC h k : Nat) : Int)] w fun e w' => e = .returned (.tuple #[.int .u64 ((PLC h (SIB k) : Nat) : Int), .bool true]) ∧ Below w.heap.size w w' := by
  have hs := hN.sib hh
  have hi := hN.index_lt
  by_cases hk : k % 2 = 1
  · have e : SIB k = k - 1 := by unfold SIB; rw [if_pos hk]
    rw [e] at hs ⊢
    exact refsibling_right _ h k (k - 1) _ w (by simp; omega) (by rw [wrapU]; omega) (by rw [odd_mod, decide_eq_true hk]) (.node hN) (fun w => refplace_ok _ _ hs w)
  · have e : SIB k = k + 1 := by unfold SIB; rw [if_neg hk]
    rw [e] at hs ⊢
    exact refsibling_left _ h k (k + 1) _ w (by simp; omega) (by rw [wrapU]; omega) (by rw [odd_mod, decide_eq_false hk]) (.node hN) (fun w => refplace_ok _ _ hs w)
end Go.Proofs.YtfjmbfppilfepaaDoor

/- slices.Backward over a list of heights: the heights come from the last to the first. -/
namespace Go.Proofs.YtfjmbfppilfepaaDoor
open Go.RowKit Go.Shelf

attribute [local go_sem] Oper.semAt_some

/-- what has come when k rounds are over. -/
def UPTO {α : Type} (f : Nat → α) (k : Nat) : List α := (List.range k).map f
theorem UPTO_succ {α : Type} (f : Nat → α) (k : Nat) : UPTO f (k + 1) = UPTO f k ++ [f k] := by simp [UPTO, List.range_succ]
theorem UPTO_length {α : Type} (f : Nat → α) (k : Nat) : (UPTO f k).length = k := by simp [UPTO]

/-- what a round keeps: what lies below n₀, and the list's own box. -/
def KB (n₀ Bs : Nat) (A B : World) : Prop := Below n₀ A B ∧ B.cell? ⟨Bs, 0, none⟩ = A.cell? ⟨Bs, 0, none⟩
theorem KB.t {n₀ Bs : Nat} {A B C : World} (h : KB n₀ Bs A B) (k : KB n₀ Bs B C) : KB n₀ Bs A C := ⟨h.1.trans k.1, k.2.trans h.2⟩
theorem KB.b {n₀ Bs : Nat} {w : World} (hn : n₀ ≤ w.heap.size) (hB : Bs < w.heap.size) (W : World) (l : Nat) (o o' : Obj) (hl : w.heap.size ≤ l) (h : W.heap[l]? = some o) (h1 : o.isCells = false) (h2 : o.isWalk = false) : KB n₀ Bs W (W.putObj l o') :=
  ⟨belowK_b hn W l o o' hl h h1 h2, (belowK_b (Nat.le_refl w.heap.size) W l o o' hl h h1 h2).cell (p := ⟨Bs, 0, none⟩) hB⟩

/-- the pair that comes in round j: the index, and the height there. -/
def BACK (len : Nat) (f : Nat → Fin 64) (j : Nat) : Nat × Fin 64 := (len - 1 - j, f (len - 1 - j))

set_option maxRecDepth 100000 in
set_option maxHeartbeats 2000000 in
theorem backward1_in (F : Fence) (n : Nat) (hF : F.fn 101) (hro : F.round = none) (hn : 1 ≤ n) (l Bs n₀ b len cap : Nat) (f : Nat → Fin 64) (hreach : len ≤ 64) (hb : b < n₀) (J Jx : List (Nat × Fin 64) → World → Prop)
    (hY : ∀ pre x W, J pre W → pre.length < len → YieldAt F (n - 1) Tryd.prog l #[.int .i64 (x.1 : Int), .int .i64 (x.2.val : Int)] W fun e W' =>
      (e = .returned (.bool true) ∧ J (pre ++ [x]) W' ∧ KB n₀ Bs W W') ∨ (e = .returned (.bool false) ∧ Jx (pre ++ [x]) W'))
    (W : World) (hBs : W.cell? ⟨Bs, 0, none⟩ = some (.slice (some ⟨b, 0, none⟩) len cap)) (hc : ∀ j, j < len → W.cell? ⟨b, j, none⟩ = some (.int .i64 ((f j).val : Int))) (h0 : J [] W) :
    CallsIn F n Tryd.prog 101 #[.func (.yield l) #[] #[], .pointer (some ⟨Bs, 0, none⟩)] W fun e W' => (∃ v, e = .returned v) ∧
      ((∃ ys, ys = UPTO (BACK len f) len ∧ J ys W') ∨ (∃ pre, (∃ k, k ≤ len ∧ pre = UPTO (BACK len f) k) ∧ Jx pre W')) := by
  refine callsIn_of_wp Tryd.func101 rfl hF ?_ hro
  simp only [Tryd.ntmps101, List.size_toArray, List.length_cons, List.length_nil, Nat.reduceAdd, Nat.reduceSub, Array.replicate_succ, Array.replicate_zero, List.push_toArray, List.append_toArray, List.nil_append, List.cons_append]
  have e1 : wrap64 ((len : Int) - 1) = (len : Int) - 1 := by unfold wrap64; omega
  gi_wp2
  gi_loopw [3] (fun i wr => ∃ k : Nat, k ≤ len ∧ i = .int .i64 ((len : Int) - 1 - (k : Int)) ∧ J (UPTO (BACK len f) k) wr ∧ KB n₀ Bs W wr)
    (fun i _ => (intOf i + 1).toNat)
  case atStart => exact ⟨0, Nat.zero_le _, by simp, h0, Below.refl _ _, rfl⟩
  case round =>
    obtain ⟨k, hk, rfl, hJs, hnx⟩ := hrel
    by_cases hlt : k < len
    · obtain ⟨j, hj⟩ : ∃ j : Nat, (len : Int) - 1 - (k : Int) = (j : Int) := ⟨len - 1 - k, by omega⟩
      have hjl : j < len := by omega
      have hbk : BACK len f k = (j, f j) := by
        unfold BACK
        rw [show len - 1 - k = j by omega]
      have hcx : wr.cell? ⟨b, j, none⟩ = some (.int .i64 ((f j).val : Int)) := (hnx.1.cell (p := ⟨b, j, none⟩) hb).trans (hc j hjl)
      have hcs : wr.cell? ⟨Bs, 0, none⟩ = some (.slice (some ⟨b, 0, none⟩) len cap) := hnx.2.trans hBs
      obtain ⟨fn, tmps, assign, body, hy, hR⟩ := hY _ (j, f j) wr hJs (by rw [UPTO_length]; exact hlt)
      dsimp only at hy
      rw [hj]
      have e2 : wrap64 ((j : Int) - 1) = (j : Int) - 1 := by unfold wrap64; omega
      have hJ' : Aside ((len : Int) - 1 - (k : Int) = (j : Int)) := hj
      have hjl' : (j : Int) < (len : Int) := by omega
      clear hj
      gi_wp2
      refine hR.mono ?_
      rintro e W3 (⟨rfl, hJ3, hk3⟩ | ⟨rfl, hJx3⟩)
      · gi_wp2
        go_roundw
        case rel => exact ⟨k + 1, by omega, by have := hJ'.out; congr 1; omega, by rw [UPTO_succ, hbk]; exact hJ3, hnx.t hk3⟩
        case measure => simp [intOf]
      · gi_wp2
        refine bodyPost_ret (results_none rfl _ _ _) rfl ?_
        exact ⟨⟨_, rfl⟩, .inr ⟨_, ⟨k + 1, by omega, by rw [UPTO_succ, hbk]⟩, hJx3⟩⟩
    · obtain rfl : k = len := by omega
      rw [show (k : Int) - 1 - (k : Int) = -1 by omega]
      gi_wp2
      go_end0
      exact ⟨⟨_, rfl⟩, .inl ⟨_, rfl, hJs⟩⟩

set_option maxHeartbeats 1000000 in
theorem backward_in (F : Fence) (n : Nat) (hF : F.fn 81) (hro : F.round = none) (a : Option Addr) (len cap : Nat) (w : World) :
    CallsIn F n Tryd.prog 81 #[.slice a len cap] w fun e w' => e = .returned (.func (.func 101) #[] #[.pointer (some ⟨w.heap.size, 0, none⟩)]) ∧ w' = w.alloc (.cells #[.slice a len cap] 118) := by
  refine callsIn_of_wp Tryd.func81 rfl hF ?_ hro
  simp only [Tryd.ntmps81, List.size_toArray, List.length_cons, List.length_nil, Nat.reduceAdd, Nat.reduceSub, Array.replicate_succ, Array.replicate_zero, List.push_toArray, List.append_toArray, List.nil_append, List.cons_append]
  gi_wp2
  go_ret
  exact ⟨rfl, rfl⟩

theorem backward_stops (F : Fence) (n : Nat) (hF : F.fn 101) (hro : F.round = none) (hn : 1 ≤ n) (Bs n₀ b len cap : Nat) (f : Nat → Fin 64) (hreach : len ≤ 64) (hb : b < n₀) (w : World) (hBs : Bs < w.heap.size) (hn₀ : n₀ ≤ w.heap.size)
    (hc : w.cell? ⟨Bs, 0, none⟩ = some (.slice (some ⟨b, 0, none⟩) len cap)) (hI : ∀ j, j < len → w.cell? ⟨b, j, none⟩ = some (.int .i64 ((f j).val : Int))) :
    SeqStopsK F n Tryd.prog 101 #[.pointer (some ⟨Bs, 0, none⟩)] (fun x : Nat × Fin 64 => #[Value.int .i64 (x.1 : Int), Value.int .i64 (x.2.val : Int)]) (KB n₀ Bs) (fun ys => ys = UPTO (BACK len f) len)
      (fun pre => ∃ k, k ≤ len ∧ pre = UPTO (BACK len f) k) len w := fun l J Jx W hW _ _ hY h0 =>
  backward1_in F n hF hro hn l Bs n₀ b len cap f hreach hb J Jx hY W ((hW.cell (p := ⟨Bs, 0, none⟩) hBs).trans hc) (fun j hj => (hW.cell (p := ⟨b, j, none⟩) (by show b < _; omega)).trans (hI j hj)) h0
end Go.Proofs.YtfjmbfppilfepaaDoor
