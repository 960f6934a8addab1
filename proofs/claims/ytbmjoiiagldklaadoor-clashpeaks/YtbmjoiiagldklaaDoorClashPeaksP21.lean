/- Texts of ClashPeaks, one behind the other: ClashBackward. -/
import Derived.RangeFuncBox
import Derived.RangeFuncLeaves
import Derived.RangeFuncCalls
import Derived.RangeFuncNested
import Derived.Shelf.Abstract
import Derived.Shelf.RegionOpen
import Derived.WalkKit
import Derived.OwnWalkIn
import Derived.TacticsInMore
import Derived.LoopNIn
import Derived.LoopIn
import Derived.Maps.AppendAt
import Derived.Test.YtbmjoiiagldklaaDoorClashPeaksP4
import Derived.Test.YtbmjoiiagldklaaDoorClashPeaksP14
/- slices.Backward over a list of hashes: the hashes come from the last to the first. -/
namespace Go.Proofs.YtbmjoiiagldklaaDoor
open Go.RowKit Go.Shelf
set_option maxRecDepth 100000

attribute [local go_sem] Oper.semAt_some

/-- the index that comes in round j. -/
def BCK (m : Nat) (hm : 0 < m) (j : Nat) : Fin m := ⟨m - 1 - j, by omega⟩
/-- what is handed over in a round: the index, and the hash there. -/
def PAIRH (l : List Int) (x : Nat) : Array Value := #[.int .i64 (x : Int), .agg (CELLS (HSH l x)).toArray]
theorem run_value9 {s : Sem Value} {w w' : World} {v : Value} (h : s.run Tryd.prog w = .ok v w') : (do pure (Next.value (← s)) : Sem Next).run Tryd.prog w = .ok (.value v) w' := by
  simp [h]
theorem run_skip9 {s : Sem Unit} {w w' : World} (h : s.run Tryd.prog w = .ok () w') : (do s; pure Next.skip : Sem Next).run Tryd.prog w = .ok .skip w' := by
  simp [h]
theorem wpListIn_load_mid {F : Fence} {n : Nat} {ops : Array Oper} {rest : List Oper} {o : Oper} {a : Act} {w : World} {Q : Exit → Act → World → Prop} (hg : o.guard = none) (ty : TypeId) (x : Operand) (ho : o.op = .load ty x) (b k : Nat) (hx : a.eval x = .pointer (some ⟨b, k, none⟩)) (h : List Int) (d : TypeDesc)
    (hc : w.rangeAt b k (CELLS h)) (hu : Tryd.prog.underlying ty = some d) (hd : d.isRow = true) (hi : (Tryd.prog.info? ty).map (·.size) = some (CELLS h).length) (hh : wpListIn F n Tryd.prog ops Q rest (a.put o.dst (.agg (CELLS h).toArray)) w) : wpListIn F n Tryd.prog ops Q (o :: rest) a w := by
  refine wpListIn_plain hg fun K hK => ⟨fun f hf => (by simp [Oper.about, ho] at hf), ?_⟩
  rw [Oper.semAt_eq _ _ _ (by rw [ho]; intro c h; cases h)]
  have e : (execOp a.eval o).run Tryd.prog w = .ok (.value (.agg (CELLS h).toArray)) w := by
    unfold execOp
    rw [ho]
    simp only [hx]
    exact run_value9 (run_loadAt_mid (P := Tryd.prog) w b k ty _ d hc hu hd hi)
  rw [e]
  exact hK _ _ hh
set_option maxHeartbeats 2000000 in
theorem backwardh1_in (F : Fence) (n : Nat) (hF : F.fn 77) (hro : F.round = none) (hn : 1 ≤ n) (y Bs b o len cap : Nat) (l : List Int) (hl : l.length = 32 * len) (hlen : 0 < len) (hreach : len ≤ 1000) (J Jx : List (Fin len) → World → Prop) (KB2 : World → World → Prop) (hrefl : ∀ W, KB2 W W) (htr : ∀ {A B C : World}, KB2 A B → KB2 B C → KB2 A C) (W : World)
    (hkb : ∀ A, KB2 W A → A.cell? ⟨Bs, 0, none⟩ = some (.slice (some ⟨b, o, none⟩) len cap) ∧ ∀ j, j < len → A.rangeAt b (o + j * 32) (CELLS (HSH l j)))
    (hY : ∀ pre x W, J pre W → pre.length < len → YieldAt F (n - 1) Tryd.prog y (PAIRH l x.val) W fun e W' =>
      (e = .returned (.bool true) ∧ J (pre ++ [x]) W' ∧ KB2 W W') ∨ (e = .returned (.bool false) ∧ Jx (pre ++ [x]) W'))
    (h0 : J [] W) :
    CallsIn F n Tryd.prog 77 #[.func (.yield y) #[] #[], .pointer (some ⟨Bs, 0, none⟩)] W fun e W' => (∃ v, e = .returned v) ∧
      ((∃ ys, ys = UPTO (BCK len hlen) len ∧ J ys W') ∨ (∃ pre, (∃ k, k ≤ len ∧ pre = UPTO (BCK len hlen) k) ∧ Jx pre W')) := by
  refine callsIn_of_wp Tryd.func77 rfl hF ?_ hro
  simp only [Tryd.ntmps77, List.size_toArray, List.length_cons, List.length_nil, Nat.reduceAdd, Nat.reduceSub, Array.replicate_succ, Array.replicate_zero, List.push_toArray, List.append_toArray, List.nil_append, List.cons_append]
  have e1 : wrap64 ((len : Int) - 1) = (len : Int) - 1 := by unfold wrap64; omega
  have hc0 := (hkb W (hrefl W)).1
  gi_wp2
  clear hc0
  gi_loopw [3] (fun i wr => ∃ k : Nat, k ≤ len ∧ i = .int .i64 ((len : Int) - 1 - (k : Int)) ∧ J (UPTO (BCK len hlen) k) wr ∧ KB2 W wr)
    (fun i _ => (intOf i + 1).toNat)
  case atStart => exact ⟨0, Nat.zero_le _, by simp, h0, hrefl W⟩
  case round =>
    obtain ⟨k, hk, rfl, hJs, hnx⟩ := hrel
    by_cases hlt : k < len
    · obtain ⟨j, hj⟩ : ∃ j : Nat, (len : Int) - 1 - (k : Int) = (j : Int) := ⟨len - 1 - k, by omega⟩
      have hjl : j < len := by omega
      have hbk : (BCK len hlen k).val = j := by
        unfold BCK
        dsimp only
        omega
      obtain ⟨hcs, hcx⟩ := hkb wr hnx
      have hcx := hcx j hjl
      have hl32 := HSH_length hl hjl
      obtain ⟨fn, tmps, assign, body, hy, hR⟩ := hY _ (BCK len hlen k) wr hJs (by rw [UPTO_length]; exact hlt)
      rw [hbk] at hy
      unfold PAIRH at hy
      generalize HSH l j = L at *
      rw [hj]
      have e2 : wrap64 ((j : Int) - 1) = (j : Int) - 1 := by unfold wrap64; omega
      have hJ' : Aside ((len : Int) - 1 - (k : Int) = (j : Int)) := hj
      have hjl' : (j : Int) < (len : Int) := by omega
      have HK : Aside (k + 1 ≤ len) := hlt
      clear hj hlt hk hl hkb hY
      gi_wp2_with (first | (refine wpListIn_load_mid rfl 26 (.tmp 15) rfl b (o + j * 32) rfl L _ hcx Tryd.underlying26 rfl (info_cells hl32) ?_) | fail)
      refine hR.mono ?_
      rintro e W3 (⟨rfl, hJ3, hk3⟩ | ⟨rfl, hJx3⟩)
      · gi_wp2
        go_roundw
        case rel => exact ⟨k + 1, HK.out, by have := hJ'.out; congr 1; omega, by rw [UPTO_succ]; exact hJ3, htr hnx hk3⟩
        case measure => simp [intOf]
      · gi_wp2
        refine bodyPost_ret (results_none rfl _ _ _) rfl ?_
        exact ⟨⟨_, rfl⟩, .inr ⟨_, ⟨k + 1, HK.out, by rw [UPTO_succ]⟩, hJx3⟩⟩
    · obtain rfl : k = len := by omega
      rw [show (k : Int) - 1 - (k : Int) = -1 by omega]
      clear hY hkb
      gi_wp2
      go_end0
      exact ⟨⟨_, rfl⟩, .inl ⟨_, rfl, hJs⟩⟩
set_option maxHeartbeats 1000000 in
theorem backwardh_in (F : Fence) (n : Nat) (hF : F.fn 48) (hro : F.round = none) (a : Option Addr) (len cap : Nat) (w : World) :
    CallsIn F n Tryd.prog 48 #[.slice a len cap] w fun e w' => e = .returned (.func (.func 77) #[] #[.pointer (some ⟨w.heap.size, 0, none⟩)]) ∧ w' = w.alloc (.cells #[.slice a len cap] 23) := by
  refine callsIn_of_wp Tryd.func48 rfl hF ?_ hro
  simp only [Tryd.ntmps48, List.size_toArray, List.length_cons, List.length_nil, Nat.reduceAdd, Nat.reduceSub, Array.replicate_succ, Array.replicate_zero, List.push_toArray, List.append_toArray, List.nil_append, List.cons_append]
  gi_wp2
  go_ret
  exact ⟨rfl, rfl⟩
/-- what a round keeps: the list's own box, and the list. -/
def KBH (Bs b : Nat) (A B : World) : Prop := B.heap[Bs]? = A.heap[Bs]? ∧ B.heap[b]? = A.heap[b]?
theorem KBH.t {Bs b : Nat} {A B C : World} (h : KBH Bs b A B) (k : KBH Bs b B C) : KBH Bs b A C := ⟨k.1.trans h.1, k.2.trans h.2⟩
theorem KBH.b {Bs b : Nat} {w : World} (hB : Bs < w.heap.size) (hb : b < w.heap.size) (W : World) (l : Nat) (o o' : Obj) (hl : w.heap.size ≤ l) (h : W.heap[l]? = some o) (h1 : o.isCells = false) (h2 : o.isWalk = false) : KBH Bs b W (W.putObj l o') :=
  ⟨(belowK_b (Nat.le_refl w.heap.size) W l o o' hl h h1 h2).block Bs hB, (belowK_b (Nat.le_refl w.heap.size) W l o o' hl h h1 h2).block b hb⟩
theorem backwardh_stops (F : Fence) (n : Nat) (hF : F.fn 77) (hro : F.round = none) (hn : 1 ≤ n) (Bs b o len cap : Nat) (l : List Int) (hlen : 0 < len) (hreach : len ≤ 1000) (w : World) (hBs : Bs < w.heap.size) (hl : Flat w (some ⟨b, o, none⟩) len l) (hb : b < w.heap.size)
    (hc : w.cell? ⟨Bs, 0, none⟩ = some (.slice (some ⟨b, o, none⟩) len cap)) :
    SeqStopsK F n Tryd.prog 77 #[.pointer (some ⟨Bs, 0, none⟩)] (fun x : Fin len => PAIRH l x.val) (KBH Bs b) (fun ys => ys = UPTO (BCK len hlen) len)
      (fun pre => ∃ k, k ≤ len ∧ pre = UPTO (BCK len hlen) k) len w := fun y J Jx W hW _ _ hY h0 =>
  backwardh1_in F n hF hro hn y Bs b o len cap l hl.1 hlen hreach J Jx (KBH Bs b) (fun _ => ⟨rfl, rfl⟩) KBH.t W (fun A hA => by
    have e1 : A.heap[Bs]? = w.heap[Bs]? := hA.1.trans (hW.block Bs hBs)
    have e2 : A.heap[b]? = w.heap[b]? := hA.2.trans (hW.block b hb)
    refine ⟨(World.cell?_of_block (w := w) (by exact e1)).trans hc, fun j hj i v hv => ?_⟩
    rw [← hl.at hj i v hv]
    exact World.cell?_of_block (w := w) (by exact e2)) hY h0
end Go.Proofs.YtbmjoiiagldklaaDoor
