/- Texts of StoreCuts, one behind the other: StoreHashList, RegionSteps, StepLists, NumPlaces, NumLowPlain, StoreThinPlain. -/
import Derived.Great.BuildSlice
import Derived.Test.YtkmcmngdainofaaProg
import Derived.WalkKit
import Derived.WalkLawsBesides
import Derived.Deep.RegionHeld3
import Derived.Deep.CutRange
import Derived.Deep.MidRow
import Derived.Deep.AppendLies
import Derived.Test.YtkmcmngdainofaaStoreCutsP1
import Derived.Test.YtkmcmngdainofaaStoreCutsP4
import Derived.Test.YtkmcmngdainofaaStoreCutsP5
/- Lists of hashes that are made and grow. -/
namespace Go.Proofs.Ytkmcmngdainofaa
open Go.RowKit
set_option maxRecDepth 100000

/-- a list of one hash. -/
theorem build_hash {ops : Array Oper} {rest : List Oper} {o : Oper} {a : Act} {Q : Exit → Act → World → Prop} (w : World) (hg : o.guard = none) (x : Operand) (ho : o.op = .buildSlice 22 1 #[(0, x)]) (f : Nat → Nat) (hx : a.eval x = .agg (UARR .u8 32 f))
    (h : wpList Try.prog ops Q rest (a.put o.dst (.slice (some ⟨w.heap.size, 0, none⟩) 1 1)) (w.alloc (.cells (UARR .u8 32 f) 33))) : wpList Try.prog ops Q (o :: rest) a w := by
  obtain ⟨i, hie, hz', hs1, _⟩ := info_parts info_hashT
  refine wpList_buildSlice hg 22 33 1 _ ho (UARR .u8 32 f) i _ Try.underlying22 hie hz' (by rw [hs1]; omega) (by rw [hs1]; omega) ?_ h
  have := Great.fill_whole (s := 32) (by decide) [.agg (UARR .u8 32 f)] ((Array.range (1 * i.size)).map ((Value.agg (UARR .u8 32 fun _ => 0)).cells[· % (Value.agg (UARR .u8 32 fun _ => 0)).cells.size]!)) (fun v hv => by simp at hv; subst hv; exact UARR_size _ _ _) (by simp [hs1])
  simp [Value.cells] at this
  rw [hs1]
  simp [hx]
  rw [hs1] at this
  exact this
/-- a hash is appended. -/
theorem app_hashf {ops : Array Oper} {rest : List Oper} {o : Oper} {a : Act} {Q : Exit → Act → World → Prop} (w : World) (hgd : o.guard = none) (s x : Operand)
    (ho : o.op = .call { callee := .builtin .append, args := #[s, x], argTypes := #[22, 22] }) (base : Nat) (v : Value) (n : Nat) (xs : List Value) (hs : a.eval s = v) (hown : w.ownsRow base 33 32 v n xs)
    (b c : Nat) (f : Nat → Nat) (hx : a.eval x = .slice (some ⟨b, 0, none⟩) 1 c) (hb : Has w b (UARR .u8 32 f) 33) (hn : n ≤ 100000) (hbase : base ≤ w.heap.size)
    (h : ∀ g cap w', w'.ownsRow base 33 32 (.slice (some ⟨g, 0, none⟩) (n + 1) cap) (n + 1) (xs ++ ULIST .u8 32 f) → w.grownBy w' v.ownBlock → (v.ownBlock = some g ∨ g = w.heap.size) → g < w'.heap.size → wpList Try.prog ops Q rest (a.put o.dst (.slice (some ⟨g, 0, none⟩) (n + 1) cap)) w') : wpList Try.prog ops Q (o :: rest) a w := by
  obtain ⟨i, hi, hz, hs1, hby⟩ := info_parts info_hashT
  exact wpList_append_lies w hgd s x 22 ho base 33 i _ 32 32 Try.underlying22 hi hz hs1 hby (by simp [Value.cells, UARR_size]) (by decide) v n xs hs hown ⟨b, 0, none⟩ 1 c (ULIST .u8 32 f) hx (by rw [ULIST_length]) (fun j u hj => by rw [Addr.add_mid, hb.cell, Nat.zero_add, UARR_list, List.getElem?_toArray]; exact hj) (ULIST_one _ _ _) (by decide) (by simp only [maxLen]; omega) (by omega) hbase w.heap.size rfl h
theorem make_hashesf (N : Nat) (hN : N ≤ 1000) (w : World) : ∃ cur : Array Value, cur.size = N * 32 ∧ (Instr.makeSlice 22 (.int .i64 0) (.int .i64 (N : Int))).run Try.prog w = .ok (.slice (some ⟨w.heap.size, 0, none⟩) 0 N) (w.alloc (.cells cur 33)) := by
  obtain ⟨i, hi, hz, h1, h2⟩ := info_parts info_hashT
  have h := run_make (P := Try.prog) w 22 33 i _ Try.underlying22 hi hz .i64 .i64 0 N (by omega) (by omega) (by rw [h2]; omega) (by omega)
  refine ⟨madeCells (Value.agg (UARR .u8 32 fun _ => 0)).cells (N * i.size), ?_, ?_⟩
  · rw [size_madeCells, h1]
  · simpa using h
theorem own_room {w : World} {N : Nat} (hN : N ≤ 1000) {cur : Array Value} (hc : cur.size = N * 32) : (w.alloc (.cells cur 33)).ownsRow w.heap.size 33 32 (.slice (some ⟨w.heap.size, 0, none⟩) 0 N) 0 (HL []) := by
  refine ⟨rfl, .inr ⟨w.heap.size, N, cur, rfl, Nat.le_refl _, Has.new w cur 33, by omega, by simp only [maxLen]; omega, hc, by simp [HL]⟩⟩
theorem own_at {w : World} {B g m c k : Nat} {l : List (Nat → Nat)} {f : Nat → Nat} (h : w.ownsRow B 33 32 (.slice (some ⟨g, 0, none⟩) m c) m (HL l)) (hl : l.length = m) (hk : l[k]? = some f) : w.rangeAt g (k * 32) (ULIST .u8 32 f) := by
  intro j v hv
  have hj : j < 32 := by
    have := (List.getElem?_eq_some_iff.1 hv).1
    rwa [ULIST_length] at this
  have hkm : k < m := by
    have := (List.getElem?_eq_some_iff.1 hk).1
    omega
  rw [h.cellAt (k * 32 + j) (by omega), HL_get l k j f hk hj, ← hv, ULIST_get _ _ _ _ hj]
end Go.Proofs.Ytkmcmngdainofaa

/- Steps of a region that draws its order, one operation at a time. -/
namespace Go.Proofs.Ytkmcmngdainofaa
open Go.RowKit
set_option maxRecDepth 100000

end Go.Proofs.Ytkmcmngdainofaa

/- Laws of one operation, at a step of a region that draws its order. -/
namespace Go.Proofs.Ytkmcmngdainofaa
open Go.RowKit
set_option maxRecDepth 100000

theorem wp_both {P : Program} {o : Oper} {a : Act} {w : World} {K K' : Act → World → Prop} {Q Q' : Exit → Act → World → Prop} (h : ∀ a w, K a w → K' a w) (hq : ∀ c a w, Q (.panic c) a w → Q' (.panic c) a w) (hl : LetsOut Q → LetsOut Q') (hh : o.wp P a w K Q) : o.wp P a w K' Q' := by
  unfold Oper.wp at *
  generalize (execOp a.eval o).run P w = r at *
  cases r with
  | ok n w' =>
    cases n <;> simp only [Oper.upon] at hh ⊢ <;>
      first
        | exact h _ _ hh
        | exact Calls.mono hh (fun e w'' he => by cases e <;> first | exact h _ _ he | exact hq _ _ _ he | exact hl he)
        | exact Rows.mono hh (fun _ _ he => h _ _ he)
  | halt x w' => cases x <;> simp only [Oper.upon] at hh ⊢ <;> first | exact hq _ _ _ hh | exact hh
/-- a law of one operation in a row serves at a step. -/
theorem step_of_list {P : Program} {ops : Array Oper} {o : Oper} {a : Act} {w : World} {K : Act → World → Prop} {Q : Exit → Act → World → Prop} {E : Prop} (hw : Region.wanted o (yielded ops a.tmps) = true)
    (h : wpList P ops (fun e a w => e = Exit.normal ∧ K a w) [o] a w) : if Region.wanted o (yielded ops a.tmps) = true then Oper.wp P o a w K Q else E := by
  rw [if_pos hw]
  unfold wpList at h
  rw [if_pos hw] at h
  rcases h with h | ⟨_, a', w', h', _⟩
  · exact wp_both (fun a w h => by unfold wpList at h; exact h.2) (fun c a w h => by cases h.1) (fun h => by obtain ⟨_, _, h, _⟩ := h; cases h) h
  · cases h'
/-- an operation that gives a value. -/
theorem step_valw {ops : Array Oper} {o : Oper} {a : Act} {w w' : World} {K : Act → World → Prop} {Q : Exit → Act → World → Prop} {E : Prop} {v : Value} (hw : Region.wanted o (yielded ops a.tmps) = true)
    (hrun : (execOp a.eval o).run Try.prog w = .ok (.value v) w') (h : K (a.put o.dst v) w') : if Region.wanted o (yielded ops a.tmps) = true then Oper.wp Try.prog o a w K Q else E := by
  rw [if_pos hw]
  unfold Oper.wp
  rw [hrun]
  exact h
end Go.Proofs.Ytkmcmngdainofaa

/- The places of the set bits, in plain numbers. -/
namespace Go.Proofs.Ytkmcmngdainofaa
open Go.RowKit

/-- the places of the set bits among the lowest k ones, o added to each. -/
def PL : Nat → Nat → Nat → List Nat
  | 0, _, _ => []
  | k + 1, o, X => if X % 2 = 1 then o :: PL k (o + 1) (X / 2) else PL k (o + 1) (X / 2)
def PLACES (X : Nat) : List Nat := PL 64 0 X
theorem PL_zero : ∀ k o, PL k o 0 = []
  | 0, _ => rfl
  | k + 1, o => by
    have := PL_zero k (o + 1)
    simpa [PL] using this
theorem PL_length : ∀ k o X, (PL k o X).length = DSUM 1 k X
  | 0, _, _ => rfl
  | k + 1, o, X => by
    have ih := PL_length k (o + 1) (X / 2)
    unfold PL DSUM
    rw [Nat.pow_one]
    split
    · rw [List.length_cons, ih]; omega
    · rw [ih]; omega
theorem PLACES_length (X : Nat) : (PLACES X).length = POP X := PL_length 64 0 X
theorem PL_step : ∀ (t k o q : Nat), t < k → PL k o (2 ^ t * (2 * q + 1)) = (o + t) :: PL k o (2 ^ (t + 1) * q)
  | 0, 0, _, _, h => by omega
  | 0, k + 1, o, q, _ => by
    have h1 : (2 ^ 0 * (2 * q + 1)) = 2 * q + 1 := by simp
    have h2 : 2 ^ (0 + 1) * q = 2 * q := by simp
    rw [h1, h2]
    unfold PL
    rw [if_pos (by omega), if_neg (by omega), show (2 * q + 1) / 2 = q by omega, show 2 * q / 2 = q by omega]
    rfl
  | t + 1, 0, _, _, h => by omega
  | t + 1, k + 1, o, q, h => by
    have ih := PL_step t k (o + 1) q (by omega)
    have h1 : 2 ^ (t + 1) * (2 * q + 1) = 2 * (2 ^ t * (2 * q + 1)) := by rw [Nat.pow_succ, Nat.mul_comm (2 ^ t) 2, Nat.mul_assoc]
    have h2 : 2 ^ (t + 1 + 1) * q = 2 * (2 ^ (t + 1) * q) := by rw [Nat.pow_succ, Nat.mul_comm (2 ^ (t + 1)) 2, Nat.mul_assoc]
    rw [h1, h2]
    generalize 2 ^ t * (2 * q + 1) = a at ih ⊢
    generalize 2 ^ (t + 1) * q = b at ih ⊢
    unfold PL
    rw [if_neg (by omega), if_neg (by omega), show 2 * a / 2 = a by omega, show 2 * b / 2 = b by omega, ih, show o + (t + 1) = o + 1 + t by omega]
theorem POP_le (X : Nat) : POP X ≤ 64 := by
  have : ∀ k X, DSUM 1 k X ≤ k := fun k => by
    induction k with
    | zero => intro X; exact Nat.le_refl _
    | succ k ih =>
      intro X
      have := ih (X / 2)
      unfold DSUM
      rw [Nat.pow_one]
      omega
  exact this 64 X
theorem odd_less (q : Nat) : (2 * q + 1) &&& (2 * q) = 2 * q := by
  apply Nat.eq_of_testBit_eq
  intro i
  rw [Nat.testBit_and]
  cases i with
  | zero => simp [Nat.testBit_zero]
  | succ i =>
    rw [Nat.testBit_succ, Nat.testBit_succ, show (2 * q + 1) / 2 = q by omega, show 2 * q / 2 = q by omega]
    simp
theorem less_and : ∀ (t q : Nat), 2 ^ t * (2 * q + 1) &&& (2 ^ t * (2 * q + 1) - 1) = 2 ^ (t + 1) * q
  | 0, q => by
    have h1 : (2 ^ 0 * (2 * q + 1)) = 2 * q + 1 := by simp
    have h2 : 2 ^ (0 + 1) * q = 2 * q := by simp
    rw [h1, h2]
    exact odd_less q
  | t + 1, q => by
    have ih := less_and t q
    have h1 : 2 ^ (t + 1) * (2 * q + 1) = 2 * (2 ^ t * (2 * q + 1)) := by rw [Nat.pow_succ, Nat.mul_comm (2 ^ t) 2, Nat.mul_assoc]
    have h2 : 2 ^ (t + 1 + 1) * q = 2 * (2 ^ (t + 1) * q) := by rw [Nat.pow_succ, Nat.mul_comm (2 ^ (t + 1)) 2, Nat.mul_assoc]
    have hp : 0 < 2 ^ t * (2 * q + 1) := Nat.mul_pos (Nat.two_pow_pos t) (by omega)
    rw [h1, h2, ← ih]
    generalize 2 ^ t * (2 * q + 1) = a at hp ⊢
    apply Nat.eq_of_testBit_eq
    intro i
    rw [Nat.testBit_and]
    cases i with
    | zero => simp [Nat.testBit_zero]
    | succ i =>
      rw [Nat.testBit_succ, Nat.testBit_succ, Nat.testBit_succ, show 2 * a / 2 = a by omega, show (2 * a - 1) / 2 = a - 1 by omega, ← Nat.testBit_and, show 2 * (a &&& (a - 1)) / 2 = a &&& (a - 1) by omega]
end Go.Proofs.Ytkmcmngdainofaa

/- The lowest set bit, in plain numbers. -/
namespace Go.Proofs.Ytkmcmngdainofaa
open Go.RowKit

theorem low_split : ∀ X : Nat, X ≠ 0 → ∃ t q, X = 2 ^ t * (2 * q + 1) := fun X => by
  induction X using Nat.strongRecOn with
  | _ X ih =>
    intro h
    by_cases ho : X % 2 = 1
    · exact ⟨0, X / 2, by omega⟩
    · obtain ⟨t, q, e⟩ := ih (X / 2) (by omega) (by omega)
      refine ⟨t + 1, q, ?_⟩
      rw [Nat.pow_succ, Nat.mul_comm (2 ^ t) 2, Nat.mul_assoc, ← e]
      omega
theorem odd_and {q s : Nat} (h : 2 * q + 1 < 2 ^ s) : (2 * q + 1) &&& (2 ^ s - (2 * q + 1)) = 1 := by
  apply Nat.eq_of_testBit_eq
  intro i
  rw [Nat.testBit_and, Nat.testBit_two_pow_sub_succ (by omega)]
  cases i with
  | zero =>
    have hs : 0 < s := by
      rcases Nat.eq_zero_or_pos s with h0 | h0
      · subst h0
        simp at h
      · exact h0
    simp [Nat.testBit_zero, hs]
  | succ i =>
    rw [Nat.testBit_succ, Nat.testBit_succ, Nat.testBit_succ, show (2 * q + 1) / 2 = q by omega, show 2 * q / 2 = q by omega]
    simp
    intro h1 _
    exact h1
theorem neg_and {X t q : Nat} (hX : X < 2 ^ 64) (e : X = 2 ^ t * (2 * q + 1)) : X &&& (2 ^ 64 - X) = 2 ^ t ∧ t < 64 := by
  have hp := Nat.two_pow_pos t
  have ht : t < 64 := by
    rcases Nat.lt_or_ge t 64 with h | h
    · exact h
    · have h1 : 2 ^ 64 ≤ 2 ^ t := Nat.pow_le_pow_right (by decide) h
      have h2 : 2 ^ t * 1 ≤ 2 ^ t * (2 * q + 1) := Nat.mul_le_mul_left _ (by omega)
      omega
  have h64 : (2 : Nat) ^ 64 = 2 ^ t * 2 ^ (64 - t) := by rw [← Nat.pow_add, show t + (64 - t) = 64 by omega]
  have hq : 2 * q + 1 < 2 ^ (64 - t) := by
    rw [e, h64] at hX
    exact Nat.lt_of_mul_lt_mul_left hX
  refine ⟨?_, ht⟩
  rw [e, h64, ← Nat.mul_sub, Nat.mul_comm, Nat.mul_comm (2 ^ t), ← Nat.shiftLeft_eq, ← Nat.shiftLeft_eq, ← Nat.shiftLeft_and_distrib, odd_and hq, Nat.shiftLeft_eq, Nat.one_mul]
end Go.Proofs.Ytkmcmngdainofaa

/- What is kept of a row: bits and hashes, in plain numbers. -/
namespace Go.Proofs.Ytkmcmngdainofaa
open Go.RowKit
set_option maxRecDepth 100000

theorem PL_at : ∀ (k o X i : Nat), i < k → X.testBit i = true → (PL k o X)[RK X i]? = some (o + i)
  | 0, _, _, _, h, _ => by omega
  | k + 1, o, X, 0, _, hb => by
    rw [Nat.testBit_zero] at hb
    have h1 : X % 2 = 1 := by simpa using hb
    unfold PL
    rw [if_pos h1]
    rfl
  | k + 1, o, X, i + 1, h, hb => by
    rw [Nat.testBit_succ] at hb
    have ih := PL_at k (o + 1) (X / 2) i (by omega) hb
    rw [RK_shift]
    unfold PL
    by_cases h1 : X % 2 = 1
    · have h2 : X.testBit 0 = true := by rw [Nat.testBit_zero]; simpa using h1
      rw [if_pos h1, if_pos h2, Nat.add_comm 1, List.getElem?_cons_succ, ih]
      congr 1
      omega
    · have h2 : X.testBit 0 = false := by rw [Nat.testBit_zero]; simpa using h1
      rw [if_neg h1, if_neg (by rw [h2]; decide), Nat.zero_add, ih]
      congr 1
      omega
theorem PLACES_at {X i : Nat} (h : i < 64) (hb : X.testBit i = true) : (PLACES X)[RK X i]? = some i := by
  have := PL_at 64 0 X i h hb
  rw [Nat.zero_add] at this
  exact this
theorem PLACES_step {X t q : Nat} (e : X = 2 ^ t * (2 * q + 1)) (ht : t < 64) : PLACES X = t :: PLACES (2 ^ (t + 1) * q) := by
  unfold PLACES
  rw [e, PL_step t 64 0 q ht, Nat.zero_add]
theorem low_bit {X t q : Nat} (e : X = 2 ^ t * (2 * q + 1)) : X.testBit t = true := by
  rw [e, Nat.mul_comm, ← Nat.shiftLeft_eq, Nat.testBit_shiftLeft]
  simp [Nat.testBit_zero]
theorem less_bits {X Y i : Nat} (h : X &&& (X - 1) = Y) (hb : Y.testBit i = true) : X.testBit i = true := by
  rw [← h, Nat.testBit_and] at hb
  simp only [Bool.and_eq_true] at hb
  exact hb.1
/-- the hashes of the bits st, out of those of the bits lv. -/
def KPT (lv : Nat) (hs : List (Nat → Nat)) (l : List Nat) : List (Nat → Nat) := l.map fun k => hs.getD (RK lv k) (fun _ => 0)
theorem KPT_length (lv st : Nat) (hs : List (Nat → Nat)) : (KPT lv hs (PLACES st)).length = POP st := by
  unfold KPT
  rw [List.length_map, PLACES_length]
theorem KPT_at {lv st k : Nat} {hs : List (Nat → Nat)} (hk : k < 64) (hb : st.testBit k = true) (hl : RK lv k < hs.length) : (KPT lv hs (PLACES st))[RK st k]? = hs[RK lv k]? := by
  unfold KPT
  rw [List.getElem?_map, PLACES_at hk hb, Option.map_some, List.getD_eq_getElem?_getD, List.getElem?_eq_getElem hl]
  rfl
theorem KPT_mem {lv : Nat} {hs : List (Nat → Nat)} {l : List Nat} {P : (Nat → Nat) → Prop} (h0 : P (fun _ => 0)) (h : ∀ x ∈ hs, P x) : ∀ x ∈ KPT lv hs l, P x := fun x hx => by
  obtain ⟨k, _, rfl⟩ := List.mem_map.1 hx
  rw [List.getD_eq_getElem?_getD]
  cases e : hs[RK lv k]? with
  | none => exact h0
  | some y => exact h y (List.mem_of_getElem? e)
/-- the bits that stay. -/
theorem stay_bits {lv st k : Nat} (hb : (st &&& lv).testBit k = true) : lv.testBit k = true := by
  rw [Nat.testBit_and] at hb
  simp only [Bool.and_eq_true] at hb
  exact hb.2
theorem POP_sub {X Y : Nat} (h : ∀ k, k < 64 → X.testBit k = true → Y.testBit k = true) : POP X ≤ POP Y := by
  rw [POP_RK, POP_RK]
  have : ∀ n, n ≤ 64 → RK X n ≤ RK Y n := fun n => by
    induction n with
    | zero => intro _; exact Nat.le_refl _
    | succ n ih =>
      intro hn
      have := ih (by omega)
      unfold RK
      cases hx : X.testBit n with
      | false => simp; split <;> omega
      | true => rw [h n (by omega) hx]; simp; omega
  exact this 64 (Nat.le_refl _)
end Go.Proofs.Ytkmcmngdainofaa
