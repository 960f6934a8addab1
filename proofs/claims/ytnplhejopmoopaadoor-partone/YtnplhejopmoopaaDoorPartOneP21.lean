/- Texts of PartOne, one behind the other: PartPlain, PosBackward, PosPeaksCall. -/
import Derived.RangeFuncBox
import Derived.RangeFuncLeaves
import Derived.RangeFuncCalls
import Derived.Shelf.Abstract
import Derived.Shelf.RegionOpen
import Derived.WalkKit
import Derived.OwnWalkIn
import Derived.TacticsInMore
import Derived.LoopNIn
import Derived.LoopIn
import Derived.Maps.AppendAt
import Derived.RangeFuncNested
import Derived.Test.YtnplhejopmoopaaDoorPartOneP20
/- Where two forests part, in plain numbers: what is asked, in order, and what is told. -/
namespace Go.Proofs.YtnplhejopmoopaaDoor

/-- how it ends: an error, or a leaf. -/
inductive POUT where
  | err (e : Int)
  | leaf (k : Nat)
/-- one row of spots, from the left: the two errors, whether the two tell the same; what is done where they do not. -/
def PSC (EA EB : Nat → Int) (S : Nat → Bool) (down : Nat × Nat → List Nat → POUT × List Nat × List Nat) (no : Int) : List (Nat × Nat) → List Nat → POUT × List Nat × List Nat
  | [], L => (.err no, L, L)
  | s :: r, L =>
    if EA (PLC s.1 s.2) = 0 then
      if EB (PLC s.1 s.2) = 0 then
        if S (PLC s.1 s.2) = true then PSC EA EB S down no r (L ++ [PLC s.1 s.2]) else down s (L ++ [PLC s.1 s.2])
      else (.err (EB (PLC s.1 s.2)), L ++ [PLC s.1 s.2], L ++ [PLC s.1 s.2])
    else (.err (EA (PLC s.1 s.2)), L ++ [PLC s.1 s.2], L)
/-- the kids of a spot. -/
def KDS (s : Nat × Nat) : List (Nat × Nat) := [(s.1 - 1, 2 * s.2), (s.1 - 1, 2 * s.2 + 1)]
/-- from a spot down. -/
def PGO (EA EB : Nat → Int) (S : Nat → Bool) : Nat → Nat × Nat → List Nat → POUT × List Nat × List Nat
  | 0 => fun s L => (.leaf s.2, L, L)
  | f + 1 => fun s L => if s.1 = 0 then (.leaf s.2, L, L) else PSC EA EB S (PGO EA EB S f) 160 (KDS s) L
/-- First, of n leaves. -/
def PFST (EA EB : Nat → Int) (S : Nat → Bool) (n : Nat) : POUT × List Nat × List Nat := PSC EA EB S (PGO EA EB S 62) 210 (SPAN 0 n) []
theorem PSC_err_a {EA EB : Nat → Int} {S : Nat → Bool} {down : Nat × Nat → List Nat → POUT × List Nat × List Nat} {no : Int} {s : Nat × Nat} {r : List (Nat × Nat)} {L : List Nat} (h : EA (PLC s.1 s.2) ≠ 0) : PSC EA EB S down no (s :: r) L = (.err (EA (PLC s.1 s.2)), L ++ [PLC s.1 s.2], L) := by
  rw [PSC, if_neg h]
theorem PSC_err_b {EA EB : Nat → Int} {S : Nat → Bool} {down : Nat × Nat → List Nat → POUT × List Nat × List Nat} {no : Int} {s : Nat × Nat} {r : List (Nat × Nat)} {L : List Nat} (ha : EA (PLC s.1 s.2) = 0) (h : EB (PLC s.1 s.2) ≠ 0) : PSC EA EB S down no (s :: r) L = (.err (EB (PLC s.1 s.2)), L ++ [PLC s.1 s.2], L ++ [PLC s.1 s.2]) := by
  rw [PSC, if_pos ha, if_neg h]
theorem PSC_same {EA EB : Nat → Int} {S : Nat → Bool} {down : Nat × Nat → List Nat → POUT × List Nat × List Nat} {no : Int} {s : Nat × Nat} {r : List (Nat × Nat)} {L : List Nat} (ha : EA (PLC s.1 s.2) = 0) (hb : EB (PLC s.1 s.2) = 0) (h : S (PLC s.1 s.2) = true) : PSC EA EB S down no (s :: r) L = PSC EA EB S down no r (L ++ [PLC s.1 s.2]) := by
  rw [PSC, if_pos ha, if_pos hb, if_pos h]
theorem PSC_down {EA EB : Nat → Int} {S : Nat → Bool} {down : Nat × Nat → List Nat → POUT × List Nat × List Nat} {no : Int} {s : Nat × Nat} {r : List (Nat × Nat)} {L : List Nat} (ha : EA (PLC s.1 s.2) = 0) (hb : EB (PLC s.1 s.2) = 0) (h : S (PLC s.1 s.2) = false) : PSC EA EB S down no (s :: r) L = down s (L ++ [PLC s.1 s.2]) := by
  rw [PSC, if_pos ha, if_pos hb, if_neg (by rw [h]; decide)]
theorem PGO_leaf {EA EB : Nat → Int} {S : Nat → Bool} {f : Nat} {s : Nat × Nat} {L : List Nat} (h : s.1 = 0) : PGO EA EB S f s L = (.leaf s.2, L, L) := by
  cases f with
  | zero => rfl
  | succ f =>
    show (if s.1 = 0 then _ else _) = _
    rw [if_pos h]
theorem PGO_kids {EA EB : Nat → Int} {S : Nat → Bool} {f : Nat} {s : Nat × Nat} {L : List Nat} (h : s.1 ≠ 0) : PGO EA EB S (f + 1) s L = PSC EA EB S (PGO EA EB S f) 160 (KDS s) L := by
  show (if s.1 = 0 then _ else _) = _
  rw [if_neg h]

/-! How many places are asked for. -/
theorem PSC_few {EA EB : Nat → Int} {S : Nat → Bool} {down : Nat × Nat → List Nat → POUT × List Nat × List Nat} {no : Int} (hd : ∀ s L, (down s L).2.1.length ≤ L.length + 2 * s.1) : ∀ (r : List (Nat × Nat)) (L : List Nat) (B : Nat), L.length + r.length ≤ B → (∀ i s, r[i]? = some s → L.length + i + 1 + 2 * s.1 ≤ B) → (PSC EA EB S down no r L).2.1.length ≤ B
  | [], L, B, h, _ => by
    rw [PSC]
    simpa using h
  | s :: r, L, B, h, hs => by
    have h0 := hs 0 s rfl
    have hl : (L ++ [PLC s.1 s.2]).length = L.length + 1 := by simp
    simp only [List.length_cons] at h
    by_cases ha : EA (PLC s.1 s.2) = 0
    · by_cases hb : EB (PLC s.1 s.2) = 0
      · cases hS : S (PLC s.1 s.2) with
        | true =>
          rw [PSC_same ha hb hS]
          refine PSC_few hd r _ B (by rw [hl]; omega) fun i t e => ?_
          have := hs (i + 1) t (by simpa using e)
          rw [hl]
          omega
        | false =>
          rw [PSC_down ha hb hS]
          have := hd s (L ++ [PLC s.1 s.2])
          rw [hl] at this
          omega
      · rw [PSC_err_b ha hb]
        show (L ++ [PLC s.1 s.2]).length ≤ B
        rw [hl]
        omega
    · rw [PSC_err_a ha]
      show (L ++ [PLC s.1 s.2]).length ≤ B
      rw [hl]
      omega
theorem PGO_few {EA EB : Nat → Int} {S : Nat → Bool} : ∀ (f : Nat) (s : Nat × Nat) (L : List Nat), (PGO EA EB S f s L).2.1.length ≤ L.length + 2 * s.1
  | 0, s, L => Nat.le_add_right _ _
  | f + 1, s, L => by
    by_cases h : s.1 = 0
    · rw [PGO_leaf h]
      exact Nat.le_add_right _ _
    · rw [PGO_kids h]
      refine PSC_few (PGO_few f) _ _ _ (by simp only [KDS, List.length_cons, List.length_nil]; omega) fun i t e => ?_
      match i, e with
      | 0, e =>
        cases e
        dsimp only
        omega
      | 1, e =>
        cases e
        dsimp only
        omega
      | i + 2, e => simp [KDS] at e
theorem PFST_few {EA EB : Nat → Int} {S : Nat → Bool} {n H : Nat} (hn : n ≤ 4611686018427387904) (h : n < 2 ^ (H + 1)) : (PFST EA EB S n).2.1.length ≤ 1 + 2 * H := by
  have hpc := PC_lt_pow (H + 1) n h
  refine PSC_few (PGO_few 62) _ _ _ (by rw [SPAN_zero_length hn]; simp; omega) fun i s e => ?_
  have hi : i < PC n := by rw [← SPAN_zero_length hn]; exact (List.getElem?_eq_some_iff.1 e).1
  rw [SPAN_zero_at hn hi] at e
  cases e
  obtain ⟨_, h2, h3⟩ := HGT_at (n := n) (i := i) (by omega) hi
  generalize HGT n i = g at *
  have hg : g ≤ H := by
    rcases Nat.lt_or_ge H g with h4 | h4
    · have : n / 2 ^ g = 0 := Nat.div_eq_of_lt (Nat.lt_of_lt_of_le h (Nat.pow_le_pow_right (by decide) h4))
      rw [this] at h2
      omega
    · exact h4
  have h5 : n / 2 ^ (g + 1) < 2 ^ (H - g) := by
    rw [Nat.div_lt_iff_lt_mul (Nat.two_pow_pos _), ← Nat.pow_add, show H - g + (g + 1) = H + 1 by omega]
    exact h
  have h6 := PC_lt_pow (H - g) _ h5
  simp only [List.length_nil]
  omega

/-! Two trees. -/
/-- each leaf ahead of a stands under a node (or is one) that is the same in both. -/
def PCOV (S : Nat → Bool) (n a : Nat) : Prop := ∀ i, i < a → ∃ h, (i / 2 ^ h + 1) * 2 ^ h ≤ n ∧ S (PLC h (i / 2 ^ h)) = true
/-- they part at a leaf. -/
def PPART (S : Nat → Bool) (n : Nat) (o : POUT × List Nat × List Nat) : Prop := ∃ k, o.1 = .leaf k ∧ k < n ∧ S (PLC 0 k) = false ∧ PCOV S n k ∧ o.2.1 = o.2.2 ∧ 0 < o.2.1.length
theorem PCOV.next {S : Nat → Bool} {n h k : Nat} (hc : PCOV S n (k * 2 ^ h)) (hk : (k + 1) * 2 ^ h ≤ n) (hS : S (PLC h k) = true) : PCOV S n ((k + 1) * 2 ^ h) := fun i hi => by
  rcases Nat.lt_or_ge i (k * 2 ^ h) with h1 | h1
  · exact hc i h1
  · have e : i / 2 ^ h = k := by
      have h2 := Nat.two_pow_pos h
      rw [Nat.div_eq_iff h2]
      rw [Nat.succ_mul] at hi
      omega
    exact ⟨h, by rw [e]; exact hk, by rw [e]; exact hS⟩
theorem PGO_tree {S : Nat → Bool} {n : Nat} (hP : ∀ h k, (k + 1) * 2 ^ (h + 1) ≤ n → S (PLC h (2 * k)) = true → S (PLC h (2 * k + 1)) = true → S (PLC (h + 1) k) = true) : ∀ (f : Nat) (s : Nat × Nat) (L : List Nat), s.1 ≤ f → (s.2 + 1) * 2 ^ s.1 ≤ n → S (PLC s.1 s.2) = false → PCOV S n (s.2 * 2 ^ s.1) → 0 < L.length → PPART S n (PGO (fun _ => 0) (fun _ => 0) S f s L)
  | f, s, L, hf, hs, hS, hc, hL => by
    obtain ⟨h, k⟩ := s
    cases h with
    | zero =>
      rw [PGO_leaf rfl]
      exact ⟨k, rfl, by have : (k + 1) * 2 ^ 0 ≤ n := hs; omega, hS, by simpa using hc, rfl, hL⟩
    | succ h =>
      cases f with
      | zero => exact absurd hf (by simp)
      | succ f =>
        rw [PGO_kids (by simp)]
        dsimp only at hf hs hS hc
        have e1 : k * 2 ^ (h + 1) = 2 * k * 2 ^ h := by rw [Nat.pow_succ, Nat.mul_comm (2 ^ h) 2, ← Nat.mul_assoc, Nat.mul_comm k 2]
        have e2 : (k + 1) * 2 ^ (h + 1) = (2 * k + 1 + 1) * 2 ^ h := by rw [Nat.pow_succ, Nat.mul_comm (2 ^ h) 2, ← Nat.mul_assoc, show (k + 1) * 2 = 2 * k + 1 + 1 by omega]
        have hs2 : (2 * k + 1) * 2 ^ h ≤ n := by
          have := Nat.mul_le_mul_right (2 ^ h) (show 2 * k + 1 ≤ 2 * k + 1 + 1 by omega)
          omega
        rw [e1] at hc
        show PPART S n (PSC _ _ S _ 160 [(h, 2 * k), (h, 2 * k + 1)] L)
        cases hl : S (PLC h (2 * k)) with
        | false =>
          rw [PSC_down rfl rfl hl]
          exact PGO_tree hP f _ _ (by simp; omega) hs2 hl hc (by simp)
        | true =>
          rw [PSC_same rfl rfl hl]
          have hr : S (PLC h (2 * k + 1)) = false := by
            cases hr : S (PLC h (2 * k + 1)) with
            | false => rfl
            | true =>
              have := hP h k hs hl hr
              rw [hS] at this
              cases this
          rw [PSC_down rfl rfl hr]
          exact PGO_tree hP f _ _ (by simp; omega) (by dsimp only; omega) hr (hc.next hs2 hl) (by simp)
theorem PSC_tree {S : Nat → Bool} {n : Nat} (hn : n ≤ 4611686018427387904) (hP : ∀ h k, (k + 1) * 2 ^ (h + 1) ≤ n → S (PLC h (2 * k)) = true → S (PLC h (2 * k + 1)) = true → S (PLC (h + 1) k) = true) : ∀ (r : List (Nat × Nat)) (a : Nat) (L : List Nat), Tile a r n → PCOV S n a → ((PSC (fun _ => 0) (fun _ => 0) S (PGO (fun _ => 0) (fun _ => 0) S 62) 210 r L).1 = .err 210 ∧ PCOV S n n ∧ ∀ s ∈ r, S (PLC s.1 s.2) = true) ∨ PPART S n (PSC (fun _ => 0) (fun _ => 0) S (PGO (fun _ => 0) (fun _ => 0) S 62) 210 r L)
  | [], a, L, hT, hc => by
    have e : a = n := hT
    subst e
    exact .inl ⟨rfl, hc, fun s hs => by cases hs⟩
  | (h, k) :: r, a, L, hT, hc => by
    obtain ⟨h1, h2, h3⟩ := hT
    dsimp only at h2 h3
    have hle := (Tile.bound h3).1
    cases hS : S (PLC h k) with
    | false =>
      rw [PSC_down rfl rfl hS]
      exact .inr (PGO_tree hP 62 _ _ h1.1 hle hS (by rw [show k * 2 ^ h = a from h2]; exact hc) (by simp))
    | true =>
      rw [PSC_same rfl rfl hS]
      rcases PSC_tree hn hP r _ (L ++ [PLC h k]) h3 (PCOV.next (by rw [h2]; exact hc) hle hS) with ⟨i1, i2, i3⟩ | i
      · refine .inl ⟨i1, i2, fun s hs => ?_⟩
        rcases List.mem_cons.1 hs with e | e
        · rw [e]
          exact hS
        · exact i3 s e
      · exact .inr i
/-- what First answers of two trees. -/
theorem PFST_tree {S : Nat → Bool} {n : Nat} (hn : n ≤ 4611686018427387904) (hP : ∀ h k, (k + 1) * 2 ^ (h + 1) ≤ n → S (PLC h (2 * k)) = true → S (PLC h (2 * k + 1)) = true → S (PLC (h + 1) k) = true) : ((PFST (fun _ => 0) (fun _ => 0) S n).1 = .err 210 ∧ PCOV S n n ∧ ∀ s ∈ SPAN 0 n, S (PLC s.1 s.2) = true) ∨ PPART S n (PFST (fun _ => 0) (fun _ => 0) S n) :=
  PSC_tree hn hP (SPAN 0 n) 0 [] (tile_span hn (Nat.zero_le _)) fun i hi => absurd hi (by omega)
theorem PSC_self {down : Nat × Nat → List Nat → POUT × List Nat × List Nat} {no : Int} {S : Nat → Bool} (hS : ∀ p, S p = true) : ∀ (r : List (Nat × Nat)) (L : List Nat), (PSC (fun _ => 0) (fun _ => 0) S down no r L).1 = .err no
  | [], _ => rfl
  | s :: r, L => by
    rw [PSC_same rfl rfl (hS _)]
    exact PSC_self hS r _
theorem PFST_self {S : Nat → Bool} (hS : ∀ p, S p = true) (n : Nat) : (PFST (fun _ => 0) (fun _ => 0) S n).1 = .err 210 := PSC_self hS _ _
/-- how many each of the two is asked for at most. -/
def MOSTP (n : Nat) : Nat := if n = 0 ∨ 4611686018427387904 < n then 0 else 1 + 2 * (LEN n - 1)
theorem MOSTP_few {EA EB : Nat → Int} {S : Nat → Bool} {n : Nat} (hn : n ≤ 4611686018427387904) : (PFST EA EB S n).2.1.length ≤ MOSTP n := by
  by_cases h0 : n = 0
  · subst h0
    have : PFST EA EB S 0 = (.err 210, [], []) := by
      unfold PFST
      rw [SPAN_end (Nat.le_refl 0)]
      rfl
    rw [this]
    exact Nat.zero_le _
  · unfold MOSTP
    rw [if_neg (by omega)]
    obtain ⟨h1, _, h3⟩ := LEN_span n (by omega) h0
    exact PFST_few hn (by rwa [show LEN n - 1 + 1 = LEN n by omega])
end Go.Proofs.YtnplhejopmoopaaDoor

/- slices.Backward over a list of heights: the heights come from the last to the first. -/
namespace Go.Proofs.YtnplhejopmoopaaDoor
open Go.RowKit Go.Shelf

attribute [local go_sem] Oper.semAt_some

/-- what has come when k rounds are over. -/
def UPTO {α : Type} (f : Nat → α) (k : Nat) : List α := (List.range k).map f
theorem UPTO_succ {α : Type} (f : Nat → α) (k : Nat) : UPTO f (k + 1) = UPTO f k ++ [f k] := by simp [UPTO, List.range_succ]
theorem UPTO_length {α : Type} (f : Nat → α) (k : Nat) : (UPTO f k).length = k := by simp [UPTO]

/-- what a round keeps: what lies below n₀, and the list's own box. -/
def KB (n₀ Bs : Nat) (A B : World) : Prop := Below n₀ A B ∧ B.cell? ⟨Bs, 0, none⟩ = A.cell? ⟨Bs, 0, none⟩
theorem KB.t {n₀ Bs : Nat} {A B C : World} (h : KB n₀ Bs A B) (k : KB n₀ Bs B C) : KB n₀ Bs A C := ⟨h.1.trans k.1, k.2.trans h.2⟩
theorem KB.b {n₀ Bs : Nat} {w : World} (hn : n₀ ≤ w.heap.size) (hB : Bs < w.heap.size) (W : World) (l : Nat) (o o' : Obj) (hl : w.heap.size ≤ l) (h : W.heap[l]? = some o) (h1 : o.isCells = false) (h2 : o.isWalk = false) : KB n₀ Bs W (W.putObj l o') :=
  ⟨belowK_b hn W l o o' hl h h1 h2, (belowK_b (Nat.le_refl w.heap.size) W l o o' hl h h1 h2).cell (p := ⟨Bs, 0, none⟩) hB⟩

/-- the pair that comes in round j: the index, and the height there. -/
def BACK (len : Nat) (f : Nat → Fin 64) (j : Nat) : Nat × Fin 64 := (len - 1 - j, f (len - 1 - j))

set_option maxRecDepth 100000 in
set_option maxHeartbeats 2000000 in
theorem backward1_in (F : Fence) (n : Nat) (hF : F.fn 52) (hro : F.round = none) (hn : 1 ≤ n) (l Bs n₀ b len cap : Nat) (f : Nat → Fin 64) (hreach : len ≤ 64) (hb : b < n₀) (J Jx : List (Nat × Fin 64) → World → Prop)
    (hY : ∀ pre x W, J pre W → pre.length < len → YieldAt F (n - 1) Tryd.prog l #[.int .i64 (x.1 : Int), .int .i64 (x.2.val : Int)] W fun e W' =>
      (e = .returned (.bool true) ∧ J (pre ++ [x]) W' ∧ KB n₀ Bs W W') ∨ (e = .returned (.bool false) ∧ Jx (pre ++ [x]) W'))
    (W : World) (hBs : W.cell? ⟨Bs, 0, none⟩ = some (.slice (some ⟨b, 0, none⟩) len cap)) (hc : ∀ j, j < len → W.cell? ⟨b, j, none⟩ = some (.int .i64 ((f j).val : Int))) (h0 : J [] W) :
    CallsIn F n Tryd.prog 52 #[.func (.yield l) #[] #[], .pointer (some ⟨Bs, 0, none⟩)] W fun e W' => (∃ v, e = .returned v) ∧
      ((∃ ys, ys = UPTO (BACK len f) len ∧ J ys W') ∨ (∃ pre, (∃ k, k ≤ len ∧ pre = UPTO (BACK len f) k) ∧ Jx pre W')) := by
  refine callsIn_of_wp Tryd.func52 rfl hF ?_ hro
  simp only [Tryd.ntmps52, List.size_toArray, List.length_cons, List.length_nil, Nat.reduceAdd, Nat.reduceSub, Array.replicate_succ, Array.replicate_zero, List.push_toArray, List.append_toArray, List.nil_append, List.cons_append]
  have e1 : wrap64 ((len : Int) - 1) = (len : Int) - 1 := by unfold wrap64; omega
  gi_wp2
  gi_loopw [3] (fun i wr => ∃ k : Nat, k ≤ len ∧ i = .int .i64 ((len : Int) - 1 - (k : Int)) ∧ J (UPTO (BACK len f) k) wr ∧ KB n₀ Bs W wr)
    (fun i _ => (intOf i + 1).toNat)
  case atStart => exact ⟨0, Nat.zero_le _, by simp, h0, Below.refl _ _, rfl⟩
  case round =>
    obtain ⟨k, hk, rfl, hJs, hnx⟩ := hrel
    by_cases hlt : k < len
    · obtain ⟨j, hj⟩ : ∃ j : Nat, (len : Int) - 1 - (k : Int) = (j : Int) := ⟨len - 1 - k, by omega⟩
      have hjl : j < len := by omega
      have hbk : BACK len f k = (j, f j) := by
        unfold BACK
        rw [show len - 1 - k = j by omega]
      have hcx : wr.cell? ⟨b, j, none⟩ = some (.int .i64 ((f j).val : Int)) := (hnx.1.cell (p := ⟨b, j, none⟩) hb).trans (hc j hjl)
      have hcs : wr.cell? ⟨Bs, 0, none⟩ = some (.slice (some ⟨b, 0, none⟩) len cap) := hnx.2.trans hBs
      obtain ⟨fn, tmps, assign, body, hy, hR⟩ := hY _ (j, f j) wr hJs (by rw [UPTO_length]; exact hlt)
      dsimp only at hy
      rw [hj]
      have e2 : wrap64 ((j : Int) - 1) = (j : Int) - 1 := by unfold wrap64; omega
      have hJ' : Aside ((len : Int) - 1 - (k : Int) = (j : Int)) := hj
      have hjl' : (j : Int) < (len : Int) := by omega
      clear hj
      gi_wp2
      refine hR.mono ?_
      rintro e W3 (⟨rfl, hJ3, hk3⟩ | ⟨rfl, hJx3⟩)
      · gi_wp2
        go_roundw
        case rel => exact ⟨k + 1, by omega, by have := hJ'.out; congr 1; omega, by rw [UPTO_succ, hbk]; exact hJ3, hnx.t hk3⟩
        case measure => simp [intOf]
      · gi_wp2
        refine bodyPost_ret (results_none rfl _ _ _) rfl ?_
        exact ⟨⟨_, rfl⟩, .inr ⟨_, ⟨k + 1, by omega, by rw [UPTO_succ, hbk]⟩, hJx3⟩⟩
    · obtain rfl : k = len := by omega
      rw [show (k : Int) - 1 - (k : Int) = -1 by omega]
      gi_wp2
      go_end0
      exact ⟨⟨_, rfl⟩, .inl ⟨_, rfl, hJs⟩⟩

set_option maxHeartbeats 1000000 in
theorem backward_in (F : Fence) (n : Nat) (hF : F.fn 37) (hro : F.round = none) (a : Option Addr) (len cap : Nat) (w : World) :
    CallsIn F n Tryd.prog 37 #[.slice a len cap] w fun e w' => e = .returned (.func (.func 52) #[] #[.pointer (some ⟨w.heap.size, 0, none⟩)]) ∧ w' = w.alloc (.cells #[.slice a len cap] 83) := by
  refine callsIn_of_wp Tryd.func37 rfl hF ?_ hro
  simp only [Tryd.ntmps37, List.size_toArray, List.length_cons, List.length_nil, Nat.reduceAdd, Nat.reduceSub, Array.replicate_succ, Array.replicate_zero, List.push_toArray, List.append_toArray, List.nil_append, List.cons_append]
  gi_wp2
  go_ret
  exact ⟨rfl, rfl⟩

theorem backward_stops (F : Fence) (n : Nat) (hF : F.fn 52) (hro : F.round = none) (hn : 1 ≤ n) (Bs n₀ b len cap : Nat) (f : Nat → Fin 64) (hreach : len ≤ 64) (hb : b < n₀) (w : World) (hBs : Bs < w.heap.size) (hn₀ : n₀ ≤ w.heap.size)
    (hc : w.cell? ⟨Bs, 0, none⟩ = some (.slice (some ⟨b, 0, none⟩) len cap)) (hI : ∀ j, j < len → w.cell? ⟨b, j, none⟩ = some (.int .i64 ((f j).val : Int))) :
    SeqStopsK F n Tryd.prog 52 #[.pointer (some ⟨Bs, 0, none⟩)] (fun x : Nat × Fin 64 => #[Value.int .i64 (x.1 : Int), Value.int .i64 (x.2.val : Int)]) (KB n₀ Bs) (fun ys => ys = UPTO (BACK len f) len)
      (fun pre => ∃ k, k ≤ len ∧ pre = UPTO (BACK len f) k) len w := fun l J Jx W hW _ _ hY h0 =>
  backward1_in F n hF hro hn l Bs n₀ b len cap f hreach hb J Jx hY W ((hW.cell (p := ⟨Bs, 0, none⟩) hBs).trans hc) (fun j hj => (hW.cell (p := ⟨b, j, none⟩) (by show b < _; omega)).trans (hI j hj)) h0
end Go.Proofs.YtnplhejopmoopaaDoor

/- What Peaks answers: the places of the peaks, in a list of its own. -/
namespace Go.Proofs.YtnplhejopmoopaaDoor
open Go.RowKit Go.Shelf

attribute [local go_sem] Oper.semAt_some

/-- numbers as cells. -/
def UCELLS (l : List Nat) : List Value := l.map fun (x : Nat) => Value.int .u64 (x : Int)
theorem UCELLS_snoc (l : List Nat) (x : Nat) : UCELLS (l ++ [x]) = UCELLS l ++ [.int .u64 (x : Int)] := by simp [UCELLS]
theorem info_u64 : (Tryd.prog.info? 25).map (fun i => (i.zero, i.size, i.bytes)) = some (some (.int .u64 0), 1, 8) := by kernel_rfl
theorem make_u64 (n : Nat) (hn : n ≤ 64) (w : World) : ∃ cur : Array Value, cur.size = n ∧ (Instr.makeSlice 22 (.int .i64 0) (.int .i64 (n : Int))).run Tryd.prog w = .ok (.slice (some ⟨w.heap.size, 0, none⟩) 0 n) (w.alloc (.cells cur 25)) := by
  obtain ⟨i, hi, hz, hs1, hby⟩ := info_parts info_u64
  have h := run_make (P := Tryd.prog) w 22 25 i (.int .u64 0) Tryd.underlying22 hi hz .i64 .i64 0 n (by omega) (by omega) (by rw [hby]; omega) (by omega)
  refine ⟨_, ?_, h⟩
  rw [size_madeCells, hs1]
  omega
/-- the heights that have come. -/
def HTS (pre : List (Nat × Fin 64)) : List Nat := pre.map fun x => x.2.val
theorem HTS_snoc (pre : List (Nat × Fin 64)) (x : Nat × Fin 64) : HTS (pre ++ [x]) = HTS pre ++ [x.2.val] := by simp [HTS]
theorem ST_length (l : List Nat) : (ST l).2.length = l.length := by
  have key : ∀ (l : List Nat) (s : Nat × List Nat), (l.foldl (fun s h => ((s.1 + TREE h) % 2 ^ 64, s.2 ++ [((s.1 + TREE h) % 2 ^ 64 + (2 ^ 64 - 1)) % 2 ^ 64])) s).2.length = s.2.length + l.length := by
    intro l
    induction l with
    | nil => intro s; simp
    | cons h l ih =>
      intro s
      rw [List.foldl_cons, ih]
      simp
      omega
  have := key l (0, [])
  simpa [ST] using this
theorem ST_lt (l : List Nat) : (ST l).1 < 2 ^ 64 := by
  rcases List.eq_nil_or_concat l with rfl | ⟨i, x, rfl⟩
  · simp [ST]
  · rw [List.concat_eq_append, ST_snoc]
    exact Nat.mod_lt _ (by decide)
theorem HTS_back (X : Nat) (f : Nat → Fin 64) (hf : ∀ j, j < POP X → (f j).val = PLACE X j) : HTS (UPTO (BACK (POP X) f) (POP X)) = (PLACES X).reverse := by
  apply List.ext_getElem?
  intro j
  by_cases hj : j < POP X
  · rw [List.getElem?_reverse (by rw [PLACES_length]; exact hj), PLACES_length, PLACE_at (by omega), ← hf _ (by omega)]
    simp [HTS, UPTO, BACK, hj]
  · rw [List.getElem?_eq_none (by simp [HTS, UPTO]; omega), List.getElem?_eq_none (by rw [List.length_reverse, PLACES_length]; omega)]

theorem own_mono {w : World} {base base' : Nat} {t : TypeId} {s : Nat} {v : Value} {n : Nat} {xs : List Value} (h : w.ownsRow base t s v n xs) (hb : base' ≤ base) : w.ownsRow base' t s v n xs :=
  ⟨h.1, h.2.imp id fun ⟨g, c, cur, a, b, r⟩ => ⟨g, c, cur, a, Nat.le_trans hb b, r⟩⟩
set_option maxRecDepth 100000 in
set_option maxHeartbeats 2000000 in
theorem peaks_ok (X : Nat) (hX : X ≤ 4611686018427387904) (w : World) (hT : Tabled w) (h0 : 0 < w.heap.size) : Calls Tryd.prog 22 #[.int .u64 (X : Int)] w fun e w' =>
    ∃ g cap, e = .returned (.slice (some ⟨g, 0, none⟩) (PC X) cap) ∧ w'.ownsRow w.heap.size 25 1 (.slice (some ⟨g, 0, none⟩) (PC X) cap) (PC X) (UCELLS (PEAKS X)) ∧ Below w.heap.size w w' := by
  obtain ⟨i0, hi, hz0, hz1, hz2⟩ := info_parts info_u64
  have cb := bits_ok X (by omega) w hT h0
  have hle := POP_le X
  obtain ⟨f, hf⟩ : ∃ f : Nat → Fin 64, ∀ j, j < POP X → (f j).val = PLACE X j := ⟨fun j => if h : j < POP X then ⟨PLACE X j, by have := PLACE_le h; omega⟩ else 0, fun j hj => by simp [hj]⟩
  have hba := HTS_back X f hf
  have hplc := fun (w' : World) (base g n cap : Nat) (h : w'.ownsRow base 3 1 (.slice (some ⟨g, 0, none⟩) n cap) n (ICELLS (PLACES X))) => places_at h
  have hpc : POP X = PC X := POP_PC (by omega)
  generalize POP X = p at *
  obtain ⟨L, hL⟩ : ∃ L, ICELLS (PLACES X) = L := ⟨_, rfl⟩
  simp only [hL] at hplc cb
  have HA : Aside (HTS (UPTO (BACK p f) p) = (PLACES X).reverse ∧ p = PC X ∧ X ≤ 4611686018427387904) := ⟨hba, hpc, hX⟩
  clear hba hpc hX hL hT h0
  have hd : ¬ (4611686018427387904 : Int) < (X : Int) := by have := HA.out.2.2; omega
  refine (callsIn_wide (n := 5)).1 ?_
  refine callsIn_of_wp_marks Tryd.func22 rfl trivial ?_ rfl
  simp only [Tryd.ntmps22, List.size_toArray, List.length_cons, List.length_nil, Nat.reduceAdd, Nat.reduceSub, Array.replicate_succ, Array.replicate_zero, List.push_toArray, List.append_toArray, List.nil_append, List.cons_append]
  gi_wp2_with fail
  refine ⟨trivial, (callsIn_wide.2 cb).mono ?_⟩
  rintro e w1 ⟨g, cap, rfl, hrow, hg, hb⟩
  clear cb
  obtain ⟨cur, hcs, hmk⟩ := make_u64 p hle w1
  gi_wp2_with fail
  refine ⟨trivial, (backward_in Fence.wide 4 trivial rfl _ _ _ _).mono ?_⟩
  rintro e w2 ⟨rfl, rfl⟩
  obtain ⟨s1, hs1⟩ : ∃ s1, w1.heap.size = s1 := ⟨_, rfl⟩
  have bO := Boxed.new (w1.alloc (.cells cur 25)) 22 (.slice (some ⟨w1.heap.size, 0, none⟩) 0 p)
  have bM := Boxed.new ((w1.alloc (.cells cur 25)).alloc (.cells #[.slice (some ⟨w1.heap.size, 0, none⟩) 0 p] 22)) 25 (.int .u64 0)
  have bN := Boxed.new (((w1.alloc (.cells cur 25)).alloc (.cells #[.slice (some ⟨w1.heap.size, 0, none⟩) 0 p] 22)).alloc (.cells #[.int .u64 0] 25)) 83 (.slice (some ⟨g, 0, none⟩) p cap)
  have hr0 : (w1.alloc (.cells cur 25)).ownsRow s1 25 1 (.slice (some ⟨s1, 0, none⟩) 0 p) 0 [] := by
    rw [← hs1]
    exact World.ownsRow_made w1 cur p (Nat.le_refl _) (by simp only [maxLen]; omega) (by rw [hcs]; omega)
  simp only [World.size_alloc, hs1] at bO bM bN ⊢
  have bO := (bO.alloc (.cells #[.int .u64 0] 25)).alloc (.cells #[.slice (some ⟨g, 0, none⟩) p cap] 83)
  have bM := bM.alloc (.cells #[.slice (some ⟨g, 0, none⟩) p cap] 83)
  have hr0 := ((hr0.alloc (.cells #[.slice (some ⟨s1, 0, none⟩) 0 p] 22)).alloc (.cells #[.int .u64 0] 25)).alloc (.cells #[.slice (some ⟨g, 0, none⟩) p cap] 83)
  have hB1 : Below s1 w1 ((((w1.alloc (.cells cur 25)).alloc (.cells #[.slice (some ⟨s1, 0, none⟩) 0 p] 22)).alloc (.cells #[.int .u64 0] 25)).alloc (.cells #[.slice (some ⟨g, 0, none⟩) p cap] 83)) :=
    ((((Below.refl _ w1).alloc (by omega) _).alloc (by simp; omega) _).alloc (by simp; omega) _).alloc (by simp; omega) _
  have hgs : g < s1 := by omega
  have hcg : ∀ j, j < p → w1.cell? ⟨g, j, none⟩ = some (.int .i64 ((f j).val : Int)) := fun j hj => by rw [hf j hj]; exact hplc _ _ _ _ _ hrow j hj
  have hsz : ((((w1.alloc (.cells cur 25)).alloc (.cells #[.slice (some ⟨s1, 0, none⟩) 0 p] 22)).alloc (.cells #[.int .u64 0] 25)).alloc (.cells #[.slice (some ⟨g, 0, none⟩) p cap] 83)).heap.size = s1 + 4 := by simp; omega
  obtain ⟨W0, hW0⟩ : ∃ W0, ((((w1.alloc (.cells cur 25)).alloc (.cells #[.slice (some ⟨s1, 0, none⟩) 0 p] 22)).alloc (.cells #[.int .u64 0] 25)).alloc (.cells #[.slice (some ⟨g, 0, none⟩) p cap] 83)) = W0 := ⟨_, rfl⟩
  rw [hW0] at bO bM bN hr0 hB1 hsz ⊢
  have hbw : Below w.heap.size w W0 := hb.trans (hB1.mono (by have := hb.size; omega))
  clear hW0
  gi_wp2_with fail
  refine wpIn_rangeFunc_ownG rfl (by omega) (gf := 52) (lb := #[.pointer (some ⟨s1 + 1 + 1 + 1, 0, none⟩)]) rfl trivial (enters_of Tryd.func52 (by kernel_rfl) rfl)
    (backward_stops Fence.wide (5 - 1) trivial rfl (by omega) (s1 + 1 + 1 + 1) s1 g p cap f hle hgs W0 (by omega) (by omega) bN.cell (fun j hj => (hB1.cell (p := ⟨g, j, none⟩) hgs).trans (hcg j hj)))
    KB.t (KB.b (by omega) (by omega)) (Below.refl _ _) (fun _ => rfl)
    (fun pre W => ((∃ v, Boxed W (s1 + 1) 22 v ∧ W.ownsRow s1 25 1 v pre.length (UCELLS (ST (HTS pre)).2) ∧ v = .slice (some ⟨s1, 0, none⟩) pre.length p) ∧ Boxed W (s1 + 1 + 1) 25 (.int .u64 ((ST (HTS pre)).1 : Int)) ∧ Boxed W (s1 + 1 + 1 + 1) 83 (.slice (some ⟨g, 0, none⟩) p cap)) ∧ Below w.heap.size w W)
    (fun _ _ _ => False)
    (OwnFrom.and (OwnFrom.and (Own.from (holdsRow_own s1 (s1 + 1) 22 25 1 (fun pre => pre.length) (fun pre => UCELLS (ST (HTS pre)).2) (fun pre v => v = .slice (some ⟨s1, 0, none⟩) pre.length p)) _) (OwnFrom.and (Own.from (boxed_own _ _ _) _) (Own.from (boxed_own _ _ _) _))) (ownFrom_below (Nat.le_refl _) (by have := hb.size; omega)))
    (fun _ _ _ _ _ hs _ _ => hs)
    ⟨⟨⟨_, bO, hr0, rfl⟩, bM, bN⟩, hbw⟩
    (fun x => { tmps := #[.int .u64 (X : Int), undef, .slice none 0 0, .slice (some ⟨g, 0, none⟩) p cap, .pointer (some ⟨s1 + 1, 0, none⟩), .pointer (some ⟨s1 + 1 + 1, 0, none⟩), undef, .int .i64 (x.2.val : Int), .int .u64 (X : Int), .bool false, .int .u64 (X : Int), .slice (some ⟨g, 0, none⟩) p cap, .slice (some ⟨g, 0, none⟩) p cap, .int .i64 (p : Int), .slice (some ⟨s1, 0, none⟩) 0 p, .slice (some ⟨g, 0, none⟩) p cap, .func (.func 52) #[] #[.pointer (some ⟨s1 + 1 + 1 + 1, 0, none⟩)], .int .i64 (x.1 : Int), .int .i64 (x.2.val : Int), undef, undef, undef, undef, undef, undef, undef, undef, undef, undef], defers := [] }) ?assign ?body ?done ?stop
  case assign =>
    intro l x W K hK
    gi_wp2
    exact hK
  case body =>
    rintro l pre x W ⟨⟨⟨v, bO, hrow, rfl⟩, bM, bN⟩, hB⟩ hlt
    have hsn := ST_snoc (HTS pre) x.2.val
    have hml := ST_lt (HTS pre)
    have hsl := ST_length (HTS pre)
    rw [show (HTS pre).length = pre.length by simp [HTS]] at hsl
    obtain ⟨m, hm⟩ : ∃ m, (ST (HTS pre)).1 = m := ⟨_, rfl⟩
    obtain ⟨ls, hls⟩ : ∃ ls, (ST (HTS pre)).2 = ls := ⟨_, rfl⟩
    have ct := fun w => tree_ok x.2.val (by omega) w
    obtain ⟨t, ht⟩ : ∃ t, TREE x.2.val = t := ⟨_, rfl⟩
    rw [hm, hls, ht] at hsn
    rw [hm] at hml bM
    rw [hls] at hsl hrow
    rw [ht] at ct
    obtain ⟨m2, hm2⟩ : ∃ m2, (m + t) % 2 ^ 64 = m2 := ⟨_, rfl⟩
    obtain ⟨q, hq⟩ : ∃ q, (m2 + (2 ^ 64 - 1)) % 2 ^ 64 = q := ⟨_, rfl⟩
    rw [hm2, hq] at hsn
    have e1 : IntKind.u64.wrap ((m : Int) + (t : Int)) = (m2 : Int) := by rw [wrapU]; omega
    have e2 : IntKind.u64.wrap ((m2 : Int) - 1) = (q : Int) := by rw [wrapU]; omega
    have R : Aside (ST (HTS (pre ++ [x])) = (m2, ls ++ [q]) ∧ ls.length = pre.length ∧ pre.length < p) := ⟨by rw [HTS_snoc]; exact hsn, hsl, hlt⟩
    clear hsn hml hsl hlt hm hls ht hm2 hq
    have hc4 := bO.cell
    have hc5 := bM.cell
    have hf5 := bM.frozen
    have hmx : Tryd.prog.follows .mixedOrders = true := by kernel_rfl
    clear hplc hf hcg hz0 hz2
    have hsW : s1 + 4 ≤ W.heap.size := by have := bN.lt; omega
    obtain ⟨W5, hW5⟩ : ∃ W5, (W.setCell ⟨s1 + 1 + 1, 0, none⟩ (.int .u64 (m2 : Int))).drew = W5 := ⟨_, rfl⟩
    have bO5 : Boxed W5 (s1 + 1) 22 (.slice (some ⟨s1, 0, none⟩) pre.length p) := by rw [← hW5]; exact bO.other (by omega) _
    have bM5 : Boxed W5 (s1 + 1 + 1) 25 (.int .u64 (m2 : Int)) := by rw [← hW5]; exact bM.set _
    have bN5 : Boxed W5 (s1 + 1 + 1 + 1) 83 (.slice (some ⟨g, 0, none⟩) p cap) := by rw [← hW5]; exact bN.other (by omega) _
    have hrow5 : W5.ownsRow s1 25 1 (.slice (some ⟨s1, 0, none⟩) pre.length p) pre.length (UCELLS ls) := by rw [← hW5]; exact (hrow.kept (grownBy_setCell' W (s1 + 1 + 1) (.int .u64 (m2 : Int))) (.inr (by simp [Value.ownBlock]; omega))).drew
    have hk5 : KeepsOthers W W5 := by rw [← hW5]; exact (KeepsOthers.setCell _ _ _).trans (KeepsOthers.drew _)
    have hb5 : Below s1 W W5 := by rw [← hW5]; exact ((Below.refl s1 W).setCell (p := ⟨s1 + 1 + 1, 0, none⟩) (by show s1 ≤ s1 + 1 + 1; omega) _).drew
    have hs5 : s1 + 4 ≤ W5.heap.size := by have := bN5.lt; omega
    have hcN : W.cell? ⟨s1 + 1 + 1 + 1, 0, none⟩ = some (.slice (some ⟨g, 0, none⟩) p cap) := bN.cell
    gi_wp2
    gi_region_with_o (refine ⟨trivial, ?_⟩; gi_at_call 38; refine (CallsIn.inRound l (callsIn_wide.2 (ct _))).mono ?_; rintro e w' ⟨rfl, rfl⟩)
    all_goals clear hc4 hc5 hf5 bO bM bN hrow ct
    all_goals have hc4 := bO5.cell
    all_goals have hc5 := bM5.cell
    all_goals gi_wp2_with (gi_at_builtin; refine wpListIn_append_fits _ rfl _ _ 22 rfl s1 25 i0 1 Tryd.underlying22 hi hz1 s1 pre.length p (UCELLS ls) rfl (hrow5.alloc _) ⟨W5.heap.size, 0, none⟩ 1 1 [.int .u64 (q : Int)] rfl rfl (cell_one_new _ _ _) (by simp [Value.oneCell']) (by have := R.out.2.2; omega) ?_; intro w1' hown' hgrow; obtain ⟨hv1, hv2, hr2, hk2, hb2⟩ := bO5.appended (by decide) hrow5 (by omega) (by omega) hown' hgrow; have hc1 := hv1.cell; have hf1 := hv1.frozen)
    all_goals have bN6 := ((bN5.alloc (.cells #[.int .u64 (q : Int)] 25)).kept hgrow (by simp; omega)).other (B' := s1 + 1) (by omega) (.slice (some ⟨s1, 0, none⟩) (pre.length + 1) p)
    all_goals have bM6 := ((bM5.alloc (.cells #[.int .u64 (q : Int)] 25)).kept hgrow (by simp; omega)).other (B' := s1 + 1) (by omega) (.slice (some ⟨s1, 0, none⟩) (pre.length + 1) p)
    all_goals obtain ⟨r1, r2, r3⟩ := R.out
    all_goals refine ⟨(hk5.trans hk2).from _, ⟨hb5.trans hb2, bN6.cell.trans hcN.symm⟩, ⟨⟨_, hv2, ?_, by simp⟩, ?_, bN6⟩, hB.trans ((hb5.trans hb2).mono (by have := hb.size; omega))⟩
    all_goals rw [r1]
    all_goals first | exact bM6 | (rw [UCELLS_snoc, List.length_append]; exact hr2)
  case done =>
    rintro D ys W hD hys ⟨⟨⟨v, bO, hrow, rfl⟩, bM, bN⟩, hB⟩ hK
    have hc := bO.cell
    gi_wp2
    refine ⟨by simp, .inl ⟨_, _, rfl, run_takeDeferred hK, ?_⟩⟩
    have hys' : ys = UPTO (BACK p f) p := hys
    subst hys'
    obtain ⟨a1, a2, a3⟩ := HA.out
    have hl : (UPTO (BACK p f) p).length = p := UPTO_length _ _
    rw [hl, a1, ← HS_zero, ST_all a3] at hrow
    refine ⟨_, results_tmp rfl _ _ _, s1, p, ?_, ?_, hB.trans (belowK_b (w := w) (Nat.le_refl _) W D _ _ (by have := hb.size; omega) hK rfl rfl)⟩
    · rw [← a2, hl]
      rfl
    · rw [← a2]
      exact ownsRow_putObj (own_mono hrow (by have := hb.size; omega)) _ hK rfl
  case stop =>
    rintro D c pre W _ _ h _
    exact h.elim
end Go.Proofs.YtnplhejopmoopaaDoor
