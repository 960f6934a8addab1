/- Bits and ranks; rows and what they hold. -/
import Derived.Test.YtkmcmngdainofaaStoreRegions
namespace Go.Proofs.Ytkmcmngdainofaa
open Go.RowKit
set_option maxRecDepth 100000

/-- how many of the first k bits are set. -/
def RK (X : Nat) : Nat → Nat
  | 0 => 0
  | k + 1 => RK X k + if X.testBit k then 1 else 0
theorem RK_shift (X : Nat) : ∀ k, RK X (k + 1) = (if X.testBit 0 then 1 else 0) + RK (X / 2) k
  | 0 => by simp [RK]
  | k + 1 => by rw [RK, RK_shift X k, RK, Nat.testBit_succ]; omega
theorem DSUM_RK : ∀ (n X : Nat), DSUM 1 n X = RK X n
  | 0, _ => rfl
  | n + 1, X => by
    rw [DSUM, RK_shift, DSUM_RK n, Nat.pow_one]
    congr 1
    rw [Nat.testBit_zero]
    rcases Nat.mod_two_eq_zero_or_one X with h | h <;> simp [h]
theorem POP_RK (X : Nat) : POP X = RK X 64 := DSUM_RK 64 X
theorem RK_congr {X Y : Nat} : ∀ {k : Nat}, (∀ i, i < k → X.testBit i = Y.testBit i) → RK X k = RK Y k
  | 0, _ => rfl
  | k + 1, h => by rw [RK, RK, RK_congr (fun i hi => h i (by omega)), h k (by omega)]
theorem RK_mono (X : Nat) {i j : Nat} (h : i ≤ j) : RK X i ≤ RK X j := by
  induction h with
  | refl => exact Nat.le_refl _
  | step _ ih => rw [RK]; omega
theorem RK_none {X : Nat} {k : Nat} : ∀ {j : Nat}, k ≤ j → (∀ i, k ≤ i → i < j → X.testBit i = false) → RK X j = RK X k
  | 0, h, _ => by
    have e : k = 0 := by omega
    subst e
    rfl
  | j + 1, h, hi => by
    by_cases e : k = j + 1
    · subst e; rfl
    · rw [RK, RK_none (j := j) (by omega) (fun i a b => hi i a (by omega)), hi j (by omega) (by omega)]
      simp
theorem POP_mod {X k : Nat} (hk : k ≤ 64) : POP (X % 2 ^ k) = RK X k := by
  rw [POP_RK, RK_none (k := k) hk (fun i a _ => by rw [Nat.testBit_mod_two_pow]; simp; omega)]
  exact RK_congr fun i hi => by rw [Nat.testBit_mod_two_pow]; simp [hi]
theorem RK_lt {X k : Nat} (hk : k < 64) (h : X.testBit k = true) : RK X k < POP X := by
  rw [POP_RK]
  have := RK_mono X (i := k + 1) (j := 64) (by omega)
  rw [RK, h] at this
  simp at this
  omega
theorem bit_zero {X k : Nat} : X &&& 2 ^ k = 0 ↔ X.testBit k = false := by
  constructor
  · intro h
    have := congrArg (fun x => x.testBit k) h
    simpa [Nat.testBit_and] using this
  · intro h
    apply Nat.eq_of_testBit_eq
    intro i
    rw [Nat.testBit_and, Nat.testBit_two_pow]
    by_cases e : k = i
    · subst e; simp [h]
    · simp [e]
/-- a row: its number, its bits, the block and the room of its hashes, and these. -/
structure ROW where
  num : Nat
  live : Nat
  gh : Nat
  ch : Nat
  hs : List (Nat → Nat)
/-- the hashes as a slice. -/
abbrev ROW.v (r : ROW) : Value := .slice (some ⟨r.gh, 0, none⟩) r.hs.length r.ch
def ROW.rw (r : ROW) : RW := ⟨r.num, r.live, some ⟨r.gh, 0, none⟩, r.hs.length, r.ch⟩
/-- hashes as cells. -/
def HL (hs : List (Nat → Nat)) : List Value := hs.flatMap fun h => ULIST .u8 32 h
/-- rows as cells. -/
def RC (rs : List ROW) : List Value := rs.flatMap fun r => [.int .u64 (r.num : Int), .int .u64 (r.live : Int), r.v]
theorem HL_length : ∀ hs : List (Nat → Nat), (HL hs).length = hs.length * 32
  | [] => rfl
  | h :: hs => by
    have ih := HL_length hs
    unfold HL at ih ⊢
    rw [List.flatMap_cons, List.length_append, ULIST_length, ih, List.length_cons]
    omega
theorem HL_get : ∀ (hs : List (Nat → Nat)) (k i : Nat) (h : Nat → Nat), hs[k]? = some h → i < 32 → (HL hs)[k * 32 + i]? = some (.int .u8 ((h i : Nat) : Int))
  | [], _, _, _, e, _ => by simp at e
  | x :: hs, 0, i, h, e, hi => by
    simp only [List.getElem?_cons_zero, Option.some.injEq] at e
    subst e
    unfold HL
    rw [List.flatMap_cons, List.getElem?_append_left (by rw [ULIST_length]; omega), Nat.zero_mul, Nat.zero_add, ULIST_get _ _ _ _ hi]
  | x :: hs, k + 1, i, h, e, hi => by
    simp only [List.getElem?_cons_succ] at e
    have ih := HL_get hs k i h e hi
    unfold HL at ih ⊢
    rw [List.flatMap_cons, List.getElem?_append_right (by rw [ULIST_length]; omega), ULIST_length, show (k + 1) * 32 + i - 32 = k * 32 + i by omega]
    exact ih
theorem RC_length : ∀ rs : List ROW, (RC rs).length = rs.length * 3
  | [] => rfl
  | r :: rs => by
    have ih := RC_length rs
    unfold RC at ih ⊢
    rw [List.flatMap_cons, List.length_append, ih, List.length_cons]
    simp
    omega
theorem RC_get : ∀ (rs : List ROW) (k i : Nat) (r : ROW), rs[k]? = some r → i < 3 → (RC rs)[k * 3 + i]? = [.int .u64 (r.num : Int), .int .u64 (r.live : Int), r.v][i]?
  | [], _, _, _, e, _ => by simp at e
  | x :: rs, 0, i, r, e, hi => by
    simp only [List.getElem?_cons_zero, Option.some.injEq] at e
    subst e
    unfold RC
    rw [List.flatMap_cons, List.getElem?_append_left (by simp; omega), Nat.zero_mul, Nat.zero_add]
  | x :: rs, k + 1, i, r, e, hi => by
    simp only [List.getElem?_cons_succ] at e
    have ih := RC_get rs k i r e hi
    unfold RC at ih ⊢
    rw [List.flatMap_cons, List.getElem?_append_right (by simp; omega)]
    simp only [List.length_cons, List.length_nil]
    rw [show (k + 1) * 3 + i - (0 + 1 + 1 + 1) = k * 3 + i by omega]
    exact ih
/-- a chunk in block g, its rows and their hashes in blocks from B on. -/
structure CHUNK (w : World) (B g : Nat) (rs : List ROW) : Prop where
  box : ∃ v, Has w g #[v] 70 ∧ w.ownsRow B 73 3 v rs.length (RC rs)
  far : B ≤ g
  few : rs.length < 2 ^ 40
  rise : ∀ (i j : Nat) (r s : ROW), i < j → rs[i]? = some r → rs[j]? = some s → r.num < s.num
  row : ∀ r ∈ rs, r.num < 2 ^ 58 ∧ r.live < 2 ^ 64 ∧ r.hs.length = POP r.live ∧ (∀ h ∈ r.hs, ∀ i, h i < 256) ∧ w.ownsRow B 33 32 r.v r.hs.length (HL r.hs)
  apart : ∀ (i j : Nat) (r s : ROW), i ≠ j → rs[i]? = some r → rs[j]? = some s → r.gh ≠ s.gh
  lives : ∀ r ∈ rs, ∃ j, j < 64 ∧ r.live.testBit j = true
/-- what a chunk has at the place p. -/
def LOOK (rs : List ROW) (p : Nat) : Option (Nat → Nat) := (rs.find? fun r => r.num == p / 64).bind fun r => if r.live.testBit (p % 64) then r.hs[RK r.live (p % 64)]? else none
theorem LOOK_none {rs : List ROW} {p : Nat} (h : ∀ r ∈ rs, r.num ≠ p / 64) : LOOK rs p = none := by
  unfold LOOK
  rw [List.find?_eq_none.2 (fun r hr => by simpa using h r hr)]
  rfl
theorem LOOK_at {rs : List ROW} {p i : Nat} {r : ROW} (hr : rs[i]? = some r) (hn : r.num = p / 64) (hd : ∀ (i j : Nat) (r s : ROW), i < j → rs[i]? = some r → rs[j]? = some s → r.num < s.num) : LOOK rs p = if r.live.testBit (p % 64) then r.hs[RK r.live (p % 64)]? else none := by
  have hf : (rs.find? fun r => r.num == p / 64) = some r := by
    cases hc : rs.find? fun r => r.num == p / 64 with
    | none => exact absurd (List.find?_eq_none.1 hc r (List.mem_of_getElem? hr)) (by simp [hn])
    | some s =>
      have hs := List.find?_some hc
      obtain ⟨j, hj⟩ := List.getElem?_of_mem (List.mem_of_find?_eq_some hc)
      have hs' : s.num = p / 64 := by simpa using hs
      rcases Nat.lt_trichotomy i j with h | h | h
      · have := hd i j r s h hr hj; omega
      · subst h; rw [hr] at hj; exact hj.symm
      · have := hd j i s r h hj hr; omega
  unfold LOOK
  rw [hf]
  rfl
theorem RW_get {rs : List ROW} {i : Nat} {q : RW} (h : (rs.map ROW.rw)[i]? = some q) : ∃ r, rs[i]? = some r ∧ q = r.rw := by
  rw [List.getElem?_map] at h
  obtain ⟨r, hr, rfl⟩ := Option.map_eq_some_iff.1 h
  exact ⟨r, hr, rfl⟩
theorem CHUNK.rises {w : World} {B g : Nat} {rs : List ROW} (h : CHUNK w B g rs) : Rises (rs.map ROW.rw) := fun i j q s hij hq hs => by
  obtain ⟨r, hr, rfl⟩ := RW_get hq
  obtain ⟨t, ht, rfl⟩ := RW_get hs
  exact h.rise i j r t hij hr ht
theorem CHUNK.lies {w : World} {B g : Nat} {rs : List ROW} (h : CHUNK w B g rs) : ∃ a cap, Has w g #[.slice a rs.length cap] 70 ∧ RowsLie w a (rs.map ROW.rw) ∧ (0 < rs.length → ∃ gr, a = some ⟨gr, 0, none⟩ ∧ B ≤ gr ∧ gr < w.heap.size) ∧ w.ownsRow B 73 3 (.slice a rs.length cap) rs.length (RC rs) := by
  obtain ⟨v, hv, ho⟩ := h.box
  rcases ho.2 with ⟨rfl, h0⟩ | ⟨gr, cap, cur, rfl, hb, hg, hle, hm, hsz, hx⟩
  · have hr : rs = [] := List.eq_nil_of_length_eq_zero h0
    subst hr
    exact ⟨none, 0, hv, fun h => by simp at h, fun h => by simp at h, ho⟩
  · have hlt : gr < w.heap.size := (Array.getElem?_eq_some_iff.1 hg).1
    refine ⟨_, cap, hv, fun _ => ⟨gr, 0, rfl, hlt, fun j q hq => ?_⟩, fun _ => ⟨gr, rfl, hb, hlt⟩, ho⟩
    obtain ⟨r, hr, rfl⟩ := RW_get hq
    have hj : j < rs.length := (List.getElem?_eq_some_iff.1 hr).1
    have g0 := RC_get rs j 0 r hr (by decide)
    have g1 := RC_get rs j 1 r hr (by decide)
    have g2 := RC_get rs j 2 r hr (by decide)
    refine ⟨?_, ?_, ?_⟩
    · rw [Nat.zero_add, ho.cellAt (j * 3) (by omega)]
      exact g0
    · rw [Nat.zero_add, ho.cellAt (j * 3 + 1) (by omega)]
      exact g1
    · rw [Nat.zero_add, ho.cellAt (j * 3 + 2) (by omega)]
      exact g2
theorem CHUNK.hash {w : World} {B g k : Nat} {rs : List ROW} {r : ROW} {h : Nat → Nat} (hC : CHUNK w B g rs) (hr : r ∈ rs) (hh : r.hs[k]? = some h) : w.rangeAt r.gh (k * 32) (ULIST .u8 32 h) := fun j v hv => by
  have hj : j < 32 := by have := (List.getElem?_eq_some_iff.1 hv).1; rw [ULIST_length] at this; exact this
  rw [ULIST_get _ _ _ _ hj] at hv
  have hk : k < r.hs.length := (List.getElem?_eq_some_iff.1 hh).1
  rw [(hC.row r hr).2.2.2.2.cellAt (k * 32 + j) (by omega), HL_get r.hs k j h hh hj, hv]
end Go.Proofs.Ytkmcmngdainofaa
