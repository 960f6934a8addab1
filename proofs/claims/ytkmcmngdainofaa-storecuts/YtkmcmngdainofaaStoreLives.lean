/- How many nodes live: a chunk's rows counted, a store's places counted. -/
import Derived.Test.YtkmcmngdainofaaStoreChunkThin
namespace Go.Proofs.Ytkmcmngdainofaa
open Go.RowKit
set_option maxRecDepth 100000

/-- how many numbers below n there are of which P says so. -/
def LCT (P : Nat → Bool) : Nat → Nat
  | 0 => 0
  | n + 1 => LCT P n + if P n then 1 else 0
theorem LCT_congr {P Q : Nat → Bool} : ∀ {n : Nat}, (∀ p, p < n → P p = Q p) → LCT P n = LCT Q n
  | 0, _ => rfl
  | n + 1, h => by rw [LCT, LCT, LCT_congr fun p hp => h p (by omega), h n (by omega)]
theorem LCT_none {P : Nat → Bool} : ∀ {n : Nat}, (∀ p, p < n → P p = false) → LCT P n = 0
  | 0, _ => rfl
  | n + 1, h => by rw [LCT, LCT_none fun p hp => h p (by omega), h n (by omega)]; rfl
theorem LCT_all {P : Nat → Bool} : ∀ {n : Nat}, (∀ p, p < n → P p = true) → LCT P n = n
  | 0, _ => rfl
  | n + 1, h => by rw [LCT, LCT_all fun p hp => h p (by omega), h n (by omega)]; rfl
theorem LCT_or {P Q : Nat → Bool} (hd : ∀ p, P p = true → Q p = true → False) : ∀ n, LCT (fun p => P p || Q p) n = LCT P n + LCT Q n
  | 0 => rfl
  | n + 1 => by
    rw [LCT, LCT, LCT, LCT_or hd n]
    have := hd n
    cases hp : P n <;> cases hq : Q n <;> simp_all <;> omega
theorem LCT_add {P : Nat → Bool} (a : Nat) : ∀ b, LCT P (a + b) = LCT P a + LCT (fun j => P (a + j)) b
  | 0 => by simp [LCT]
  | b + 1 => by rw [← Nat.add_assoc, LCT, LCT_add a b, LCT]; omega
theorem LCT_le {P Q : Nat → Bool} (h : ∀ p, P p = true → Q p = true) : ∀ n, LCT P n ≤ LCT Q n
  | 0 => Nat.le_refl _
  | n + 1 => by
    rw [LCT, LCT]
    have := LCT_le h n
    have h1 := h n
    cases hp : P n <;> cases hq : Q n <;> simp_all <;> omega
theorem LCT_bits (X : Nat) : ∀ k, LCT (fun j => X.testBit j) k = RK X k
  | 0 => rfl
  | k + 1 => by rw [LCT, RK, LCT_bits X k]
/-- does the row have a node at the place p? -/
def HASP (r : ROW) (p : Nat) : Bool := r.num == p / 64 && r.live.testBit (p % 64)
theorem LCT_row {r : ROW} {M : Nat} (hM : r.num * 64 + 64 ≤ M) : LCT (HASP r) M = POP r.live := by
  obtain ⟨e, rfl⟩ : ∃ e, M = r.num * 64 + (64 + e) := ⟨M - r.num * 64 - 64, by omega⟩
  rw [LCT_add, LCT_add, LCT_none fun p hp => ?_, LCT_none (n := e) fun p hp => ?_, LCT_congr (Q := fun j => r.live.testBit j) fun j hj => ?_, LCT_bits, POP_RK]
  · omega
  · have : (r.num == (r.num * 64 + j) / 64) = true := beq_iff_eq.2 (by omega)
    unfold HASP
    rw [this, show (r.num * 64 + j) % 64 = j by omega]
    rfl
  · have : (r.num == (r.num * 64 + (64 + p)) / 64) = false := beq_eq_false_iff_ne.2 (by omega)
    unfold HASP
    rw [this]
    rfl
  · have : (r.num == p / 64) = false := beq_eq_false_iff_ne.2 (by omega)
    unfold HASP
    rw [this]
    rfl
theorem SUMP_count : ∀ {rs : List ROW} {M : Nat}, rs.Pairwise (fun r s => r.num < s.num) → (∀ r ∈ rs, r.num * 64 + 64 ≤ M) → SUMP rs = LCT (fun p => rs.any fun r => HASP r p) M
  | [], M, _, _ => (LCT_none (P := fun p => ([] : List ROW).any fun r => HASP r p) (n := M) fun p _ => rfl).symm
  | r :: l, M, hp, hM => by
    obtain ⟨h1, h2⟩ := List.pairwise_cons.1 hp
    rw [SUMP, SUMP_count h2 (fun s hs => hM s (List.mem_cons_of_mem _ hs)), ← LCT_row (hM r (List.mem_cons_self ..))]
    rw [← LCT_or]
    · rfl
    · intro p hr hl
      obtain ⟨s, hs, e⟩ := List.any_eq_true.1 hl
      unfold HASP at hr e
      have a1 := h1 s hs
      have a2 : r.num = p / 64 := by simp at hr; exact hr.1
      have a3 : s.num = p / 64 := by simp at e; exact e.1
      omega
theorem LOOK_any {w : World} {B g : Nat} {rs : List ROW} (hC : CHUNK w B g rs) (p : Nat) : (LOOK rs p).isSome = rs.any fun r => HASP r p := by
  by_cases hex : ∃ (i : Nat) (r : ROW), rs[i]? = some r ∧ r.num = p / 64
  · obtain ⟨i, r, hr, hn⟩ := hex
    rw [LOOK_at hr hn hC.rise]
    have hm := List.mem_of_getElem? hr
    obtain ⟨_, _, hl, _, _⟩ := hC.row r hm
    by_cases hb : r.live.testBit (p % 64) = true
    · rw [if_pos hb, List.getElem?_eq_getElem (by rw [hl]; exact RK_lt (Nat.mod_lt _ (by decide)) hb)]
      symm
      rw [Option.isSome_some, List.any_eq_true]
      exact ⟨r, hm, by unfold HASP; rw [hb, hn]; simp⟩
    · rw [if_neg hb]
      symm
      rw [Option.isSome_none, List.any_eq_false]
      intro s hs he
      obtain ⟨j, hj⟩ := List.mem_iff_getElem?.1 hs
      unfold HASP at he
      simp at he
      have : i = j := by
        rcases Nat.lt_trichotomy i j with h | h | h
        · have := hC.rise i j r s h hr hj; omega
        · exact h
        · have := hC.rise j i s r h hj hr; omega
      subst this
      rw [hr] at hj
      cases hj
      exact hb he.2
  · rw [LOOK_none fun r hr e => by obtain ⟨i, hi⟩ := List.mem_iff_getElem?.1 hr; exact hex ⟨i, r, hi, e⟩]
    symm
    rw [Option.isSome_none, List.any_eq_false]
    intro s hs he
    obtain ⟨j, hj⟩ := List.mem_iff_getElem?.1 hs
    unfold HASP at he
    simp at he
    exact hex ⟨j, s, hj, he.1⟩
/-- how many nodes of the store live below M. -/
def LIVES (C : CHUNKS) (log M : Nat) : Nat := LCT (fun p => (AT C log p).isSome) M
/-- those of one chunk are its rows' bits. -/
theorem SUMP_chunk {w : World} {B g log len alive N : Nat} {C : CHUNKS} (hS : STORE w B g log len alive N C) {K gc : Nat} {rs : List ROW} (hK : C K = some (gc, rs)) {M : Nat} (hM : len ≤ M) : SUMP rs = LCT (fun p => decide (p / 2 ^ log = K) && (AT C log p).isSome) M := by
  obtain ⟨_, hC, hin⟩ := hS.chunk K gc rs hK
  have hp : rs.Pairwise (fun r s => r.num < s.num) := RISE_iff.1 hC.rise
  obtain ⟨T, hT⟩ : ∃ T, ∀ r ∈ rs, r.num * 64 + 64 ≤ T := by
    clear hS hK hC hin hp
    induction rs with
    | nil => exact ⟨0, fun r hr => by cases hr⟩
    | cons a l ih =>
      obtain ⟨T, h⟩ := ih
      refine ⟨T + (a.num * 64 + 64), fun r hr => ?_⟩
      rcases List.mem_cons.1 hr with rfl | hr
      · omega
      · have := h r hr
        omega
  have hone : ∀ p, (rs.any fun r => HASP r p) = (decide (p / 2 ^ log = K) && (AT C log p).isSome) := fun p => by
    rw [← LOOK_any hC p]
    by_cases e : p / 2 ^ log = K
    · unfold AT
      rw [e, hK, decide_eq_true rfl]
      rfl
    · rw [decide_eq_false e, Bool.false_and, LOOK_any hC p, List.any_eq_false]
      intro r hr he
      unfold HASP at he
      simp at he
      have := (hin r hr (p % 64) (Nat.mod_lt _ (by decide)) he.2).1
      rw [he.1, show p / 64 * 64 + p % 64 = p by omega] at this
      exact e this
  have hfar : ∀ p, len ≤ p → (rs.any fun r => HASP r p) = false := fun p hl => by
    rw [List.any_eq_false]
    intro r hr he
    unfold HASP at he
    simp at he
    have := (hin r hr (p % 64) (Nat.mod_lt _ (by decide)) he.2).2
    rw [he.1] at this
    omega
  have hcut : ∀ X, len ≤ X → LCT (fun p => rs.any fun r => HASP r p) X = LCT (fun p => rs.any fun r => HASP r p) len := fun X hX => by
    obtain ⟨e, rfl⟩ : ∃ e, X = len + e := ⟨X - len, by omega⟩
    rw [LCT_add, LCT_none (n := e) fun p _ => hfar _ (by omega)]
    omega
  rw [SUMP_count (M := T + len) hp (fun r hr => by have := hT r hr; omega), hcut _ (by omega), ← hcut M hM]
  exact LCT_congr fun p _ => hone p
/-- a store whose number of living nodes is what it says. -/
def ALV (C : CHUNKS) (log len alive : Nat) : Prop := alive = LIVES C log len
theorem ALV.sump {w : World} {B g log len alive N : Nat} {C : CHUNKS} (hS : STORE w B g log len alive N C) (h : ALV C log len alive) {K gc : Nat} {rs : List ROW} (hK : C K = some (gc, rs)) : SUMP rs ≤ alive := by
  rw [SUMP_chunk hS hK (Nat.le_refl _), show alive = LIVES C log len from h]
  refine LCT_le (fun p hp => ?_) _
  simp at hp
  exact hp.2
end Go.Proofs.Ytkmcmngdainofaa
