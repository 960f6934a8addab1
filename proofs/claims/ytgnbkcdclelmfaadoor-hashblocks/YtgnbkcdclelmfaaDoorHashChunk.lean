/- slices.Chunk over whole blocks of 64 bytes: the blocks come from the first to the last. -/
import Derived.RangeFuncBox
import Derived.RangeFuncLeaves
import Derived.RangeFuncCalls
import Derived.RangeFuncNested
import Derived.Shelf.Abstract
import Derived.Shelf.RegionOpen
import Derived.WalkKit
import Derived.OwnWalkIn
import Derived.TacticsInMore
import Derived.LoopNIn
import Derived.LoopIn
import Derived.Maps.AppendAt
import Derived.Sort.CutIn
import Derived.Test.YtgnbkcdclelmfaaDoorHashConcat
namespace Go.Proofs.YtgnbkcdclelmfaaDoor
open Go.RowKit Go.Shelf
set_option maxRecDepth 100000

attribute [local go_sem] Oper.semAt_some

/-- what has come when k rounds are over. -/
def UPTO {α : Type} (f : Nat → α) (k : Nat) : List α := (List.range k).map f
theorem UPTO_succ {α : Type} (f : Nat → α) (k : Nat) : UPTO f (k + 1) = UPTO f k ++ [f k] := by simp [UPTO, List.range_succ]
theorem UPTO_length {α : Type} (f : Nat → α) (k : Nat) : (UPTO f k).length = k := by simp [UPTO]
/-- what a round keeps: what lies below n₀, and the two boxes. -/
def KEEPC (n₀ Bs Bn : Nat) (A B : World) : Prop := Below n₀ A B ∧ B.cell? ⟨Bs, 0, none⟩ = A.cell? ⟨Bs, 0, none⟩ ∧ B.cell? ⟨Bn, 0, none⟩ = A.cell? ⟨Bn, 0, none⟩
theorem KEEPC.t {n₀ Bs Bn : Nat} {A B C : World} (h : KEEPC n₀ Bs Bn A B) (k : KEEPC n₀ Bs Bn B C) : KEEPC n₀ Bs Bn A C := ⟨h.1.trans k.1, k.2.1.trans h.2.1, k.2.2.trans h.2.2⟩
theorem KEEPC.b {n₀ Bs Bn : Nat} {w : World} (hn : n₀ ≤ w.heap.size) (hB : Bs < w.heap.size) (hN : Bn < w.heap.size) (W : World) (l : Nat) (o o' : Obj) (hl : w.heap.size ≤ l) (h : W.heap[l]? = some o) (h1 : o.isCells = false) (h2 : o.isWalk = false) : KEEPC n₀ Bs Bn W (W.putObj l o') :=
  ⟨belowK_b hn W l o o' hl h h1 h2, (belowK_b (Nat.le_refl w.heap.size) W l o o' hl h h1 h2).cell (p := ⟨Bs, 0, none⟩) hB, (belowK_b (Nat.le_refl w.heap.size) W l o o' hl h h1 h2).cell (p := ⟨Bn, 0, none⟩) hN⟩
/-- the block that comes in round j. -/
def NTH (m : Nat) (hm : 0 < m) (j : Nat) : Fin m := ⟨j % m, Nat.mod_lt _ hm⟩
/-- a block as a slice. -/
def PIECE (b j : Nat) : Value := .slice (some ⟨b, 64 * j, none⟩) 64 64

theorem slice_from (b M cap K : Nat) (h1 : K ≤ M) (h2 : K < cap) (w : World) : (Instr.slice 23 (.slice (some ⟨b, 0, none⟩) M cap) (some (.int .i64 (K : Int))) none none).run Tryd.prog w = .ok (.slice (some ⟨b, K, none⟩) (M - K) (cap - K)) w := by
  have c2 : (0 : Int) ≤ (K : Int) := by omega
  have c3 : (K : Int) ≤ (M : Int) := by omega
  have c4 : ¬ cap = K := by omega
  simp [go_sem, c2, c3, c4, Addr.add]
  omega
theorem wrap_sixty (K Z : Nat) (h : K + 64 = Z) (hZ : Z < 2 ^ 41) : wrap64 ((K : Int) + 64) = (Z : Int) := by unfold wrap64; omega
theorem less_left (m K Z : Nat) (h : K + 64 = Z) (hm : Z ≤ 64 * m) : (64 * (m : Int) - (Z : Int)).toNat < (64 * (m : Int) - (K : Int)).toNat := by omega
theorem slice_piece (b M cap K Z : Nat) (hZ : K + 64 = Z) (h1 : Z ≤ cap) (w : World) : (Instr.slice 23 (.slice (some ⟨b, 0, none⟩) M cap) (some (.int .i64 (K : Int))) (some (.int .i64 (Z : Int))) (some (.int .i64 (Z : Int)))).run Tryd.prog w = .ok (.slice (some ⟨b, K, none⟩) 64 64) w := by
  subst hZ
  have c2 : (0 : Int) ≤ (K : Int) := by omega
  have c3 : (K : Int) ≤ ((K + 64 : Nat) : Int) := by omega
  have c4 : ((K + 64 : Nat) : Int) ≤ (cap : Int) := by omega
  rw [run_slice_lhm (P := Tryd.prog) w 23 _ M cap Tryd.underlying23 .i64 .i64 .i64 _ _ _ c2 c3 (Int.le_refl _) c4]
  have e1 : (K : Int).toNat = K := by omega
  have e2 : ((K + 64 : Nat) : Int).toNat = K + 64 := by omega
  have e3 : K + 64 - K = 64 := by omega
  rw [e1, e2]
  simp [go_sem, Addr.add, e3]
  omega
set_option maxHeartbeats 2000000 in
theorem chunk1_in (F : Fence) (n : Nat) (hF : F.fn 52) (hro : F.round = none) (hn : 1 ≤ n) (l Bs Bn n₀ b m cap : Nat) (hm : 0 < m) (hcap : 64 * m ≤ cap) (hreach : m < 2 ^ 30) (J Jx : List (Fin m) → World → Prop)
    (hY : ∀ pre x W, J pre W → pre.length < m → YieldAt F (n - 1) Tryd.prog l #[PIECE b x.val] W fun e W' =>
      (e = .returned (.bool true) ∧ J (pre ++ [x]) W' ∧ KEEPC n₀ Bs Bn W W') ∨ (e = .returned (.bool false) ∧ Jx (pre ++ [x]) W'))
    (W : World) (hBs : W.cell? ⟨Bs, 0, none⟩ = some (.slice (some ⟨b, 0, none⟩) (64 * m) cap)) (hBn : W.cell? ⟨Bn, 0, none⟩ = some (.int .i64 64)) (h0 : J [] W) (hd : ∀ s A, J s A → J s A.drew) :
    CallsIn F n Tryd.prog 52 #[.func (.yield l) #[] #[], .pointer (some ⟨Bs, 0, none⟩), .pointer (some ⟨Bn, 0, none⟩)] W fun e W' => (∃ v, e = .returned v) ∧
      ((∃ ys, ys = UPTO (NTH m hm) m ∧ J ys W') ∨ (∃ pre, (∃ k, k ≤ m ∧ pre = UPTO (NTH m hm) k) ∧ Jx pre W')) := by
  refine callsIn_of_wp Tryd.func52 rfl hF ?_ hro
  simp only [Tryd.ntmps52, List.size_toArray, List.length_cons, List.length_nil, Nat.reduceAdd, Nat.reduceSub, Array.replicate_succ, Array.replicate_zero, List.push_toArray, List.append_toArray, List.nil_append, List.cons_append]
  gi_wp2
  gi_loopw [4, 5] (fun i t5 wr => ∃ k : Nat, k ≤ m ∧ i = .int .i64 ((64 * k : Nat) : Int) ∧ J (UPTO (NTH m hm) k) wr ∧ KEEPC n₀ Bs Bn W wr)
    (fun i _ _ => (64 * (m : Int) - intOf i).toNat)
  case atStart => exact ⟨0, Nat.zero_le _, by simp, h0, Below.refl _ _, rfl, rfl⟩
  case round =>
    obtain ⟨k, hk, rfl, hJs, hnx⟩ := hrel
    have hcs : wr.cell? ⟨Bs, 0, none⟩ = some (.slice (some ⟨b, 0, none⟩) (64 * m) cap) := hnx.2.1.trans hBs
    have hcn : wr.cell? ⟨Bn, 0, none⟩ = some (.int .i64 64) := hnx.2.2.trans hBn
    by_cases hlt : k < m
    · obtain ⟨M, hM⟩ : ∃ M : Nat, 64 * m = M := ⟨_, rfl⟩
      obtain ⟨K, hK⟩ : ∃ K : Nat, 64 * k = K := ⟨_, rfl⟩
      have hKM : K + 64 ≤ M := by omega
      have H : Aside (64 * m = M ∧ 64 * k = K ∧ K + 64 ≤ M ∧ M ≤ cap ∧ M < 2 ^ 40 ∧ k < m) := ⟨hM, hK, hKM, by omega, by omega, hlt⟩
      rw [hM] at hcs
      rw [hK]
      have c1 : (K : Int) < (M : Int) := by omega
      have c2 : (0 : Int) ≤ (K : Int) := by omega
      have c3 : (K : Int) ≤ (M : Int) := by omega
      have hsl : ∀ w, (Instr.slice 23 (.slice (some ⟨b, 0, none⟩) M cap) (some (.int .i64 (K : Int))) none none).run Tryd.prog w = .ok (.slice (some ⟨b, K, none⟩) (M - K) (cap - K)) w := fun w => slice_from b M cap K (by omega) (by omega) w
      have hmin : ¬ ((M - K : Nat) : Int) < 64 := by omega
      obtain ⟨Z, hZ⟩ : ∃ Z : Nat, K + 64 = Z := ⟨_, rfl⟩
      have hsp := slice_piece b M cap K Z hZ (by omega)
      have HZ : Aside (k + 1 ≤ m ∧ (Z : Int) = ((64 * (k + 1) : Nat) : Int) ∧ (64 * (m : Int) - (Z : Int)).toNat < (64 * (m : Int) - (K : Int)).toNat) := ⟨hlt, by omega, less_left m K Z hZ (by omega)⟩
      have e1 := wrap_sixty K Z hZ (by omega)
      clear hZ
      have hbk : (NTH m hm k).val = k := Nat.mod_eq_of_lt hlt
      obtain ⟨fn, tmps, assign, body, hy, hR⟩ := hY _ (NTH m hm k) wr.drew (hd _ _ hJs) (by rw [UPTO_length]; exact hlt)
      rw [hbk, PIECE, hK] at hy
      clear hKM hM hK hlt hk hreach hcap hBs hBn hbk
      gi_upto_region 3 with fail
      gi_cut [5] from 13 (fun s5 W => s5 = .int .i64 64 ∧ wr.drew = W)
      case first =>
        rename_i JJ KK hJJ hKK
        gi_region
        all_goals refine hKK _ _ (Met.intro (hJJ _ _ ?_))
        all_goals (repeat apply Exists.intro)
        all_goals exact ⟨⟨rfl, rfl⟩, rfl⟩
      case rest =>
        obtain ⟨rfl, rfl⟩ := hcut
        clear hsl hmin
        gi_wp2
        refine hR.mono ?_
        rintro e W3 (⟨rfl, hJ3, hk3⟩ | ⟨rfl, hJx3⟩)
        · have hcs3 : W3.cell? ⟨Bs, 0, none⟩ = some (.slice (some ⟨b, 0, none⟩) M cap) := hk3.2.1.trans hcs
          have hcn3 : W3.cell? ⟨Bn, 0, none⟩ = some (.int .i64 64) := hk3.2.2.trans hcn
          gi_wp2
          go_roundw
          case rel => exact ⟨k + 1, HZ.out.1, by rw [e1, HZ.out.2.1], by rw [UPTO_succ]; exact hJ3, hnx.t ⟨((Below.refl _ _).drew).trans hk3.1, hk3.2⟩⟩
          case measure => rw [e1]; exact HZ.out.2.2
        · gi_wp2
          refine bodyPost_ret (results_none rfl _ _ _) rfl ?_
          exact ⟨⟨_, rfl⟩, .inr ⟨_, ⟨k + 1, HZ.out.1, by rw [UPTO_succ]⟩, hJx3⟩⟩
    · obtain rfl : k = m := by omega
      have c1 : ¬ ((64 * k : Nat) : Int) < ((64 * k : Nat) : Int) := Int.lt_irrefl _
      clear hlt hk hreach hcap
      gi_wp2
      go_end0
      exact ⟨⟨_, rfl⟩, .inl hJs⟩
set_option maxHeartbeats 1000000 in
theorem chunk_in (F : Fence) (n : Nat) (hF : F.fn 38) (hro : F.round = none) (a : Option Addr) (len cap : Nat) (w : World) :
    CallsIn F n Tryd.prog 38 #[.slice a len cap, .int .i64 64] w fun e w' => e = .returned (.func (.func 52) #[] #[.pointer (some ⟨w.heap.size, 0, none⟩), .pointer (some ⟨w.heap.size + 1, 0, none⟩)]) ∧ w' = (w.alloc (.cells #[.slice a len cap] 23)).alloc (.cells #[.int .i64 64] 3) := by
  refine callsIn_of_wp Tryd.func38 rfl hF ?_ hro
  simp only [Tryd.ntmps38, List.size_toArray, List.length_cons, List.length_nil, Nat.reduceAdd, Nat.reduceSub, Array.replicate_succ, Array.replicate_zero, List.push_toArray, List.append_toArray, List.nil_append, List.cons_append]
  gi_wp2
  go_ret
  exact ⟨rfl, rfl⟩
theorem chunk_stops (F : Fence) (n : Nat) (hF : F.fn 52) (hro : F.round = none) (hn : 1 ≤ n) (Bs Bn n₀ b m cap : Nat) (hm : 0 < m) (hcap : 64 * m ≤ cap) (hreach : m < 2 ^ 30) (w : World) (hBs : Bs < w.heap.size) (hBn : Bn < w.heap.size)
    (hc : w.cell? ⟨Bs, 0, none⟩ = some (.slice (some ⟨b, 0, none⟩) (64 * m) cap)) (hI : w.cell? ⟨Bn, 0, none⟩ = some (.int .i64 64)) :
    SeqStopsK F n Tryd.prog 52 #[.pointer (some ⟨Bs, 0, none⟩), .pointer (some ⟨Bn, 0, none⟩)] (fun x : Fin m => #[PIECE b x.val]) (KEEPC n₀ Bs Bn) (fun ys => ys = UPTO (NTH m hm) m)
      (fun pre => ∃ k, k ≤ m ∧ pre = UPTO (NTH m hm) k) m w := fun l J Jx W hW hJ _ hY h0 =>
  chunk1_in F n hF hro hn l Bs Bn n₀ b m cap hm hcap hreach J Jx hY W ((hW.cell (p := ⟨Bs, 0, none⟩) hBs).trans hc) ((hW.cell (p := ⟨Bn, 0, none⟩) hBn).trans hI) h0 (fun s A h => hJ s A A.drew none h ⟨rfl, rfl, rfl, Nat.le_refl _, fun _ _ _ => rfl⟩ (fun r e => by cases e))
end Go.Proofs.YtgnbkcdclelmfaaDoor
