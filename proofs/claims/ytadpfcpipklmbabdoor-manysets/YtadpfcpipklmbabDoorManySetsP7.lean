/- Texts of ManySets, one behind the other: PosCoversPlain, CutTopsPlain, ManySetsPlain, ManySplit, PosHas. -/
import Derived.BigQuiet
import Derived.Deep.Cut
import Derived.Test.YtadpfcpipklmbabDoorProg
import Derived.WalkKit
import Derived.WalkLawsBesides
import Derived.Deep.WholeRow
import Derived.Deep.LoopGhost
import Derived.Laws.ResultCell
import Derived.Laws.Rows
import Derived.Laws.Tables
import Derived.Test.YtadpfcpipklmbabDoorManySetsP4
import Derived.Test.YtadpfcpipklmbabDoorManySetsP6
/- The peaks of n leaves, one behind the other, in plain numbers. -/
namespace Go.Proofs.YtadpfcpipklmbabDoor

theorem PC_eq_zero {n : Nat} (h : PC n = 0) : n = 0 := by
  induction n using Nat.strongRecOn with
  | _ n ih =>
    by_cases h0 : n = 0
    · exact h0
    · rw [PC_step] at h
      have := ih (n / 2) (by omega) (by omega)
      omega
theorem PC_split (n a b : Nat) (hab : a ≤ b) : n / 2 ^ a = n / 2 ^ b * 2 ^ (b - a) + n / 2 ^ a % 2 ^ (b - a) ∧ PC (n / 2 ^ a) = PC (n / 2 ^ b) + PC (n / 2 ^ a % 2 ^ (b - a)) := by
  have e : n / 2 ^ b = n / 2 ^ a / 2 ^ (b - a) := by rw [Nat.div_div_eq_div_mul, ← Nat.pow_add, show a + (b - a) = b by omega]
  have h1 : n / 2 ^ a = n / 2 ^ b * 2 ^ (b - a) + n / 2 ^ a % 2 ^ (b - a) := by
    rw [e, Nat.mul_comm]
    exact (Nat.div_add_mod _ _).symm
  refine ⟨h1, ?_⟩
  have h2 := PC_add (b - a) (n / 2 ^ b) (n / 2 ^ a % 2 ^ (b - a)) (Nat.mod_lt _ (Nat.two_pow_pos _))
  rw [← h1] at h2
  exact h2
theorem PC_mono (n : Nat) {a b : Nat} (hab : a ≤ b) : PC (n / 2 ^ b) ≤ PC (n / 2 ^ a) := by
  have := (PC_split n a b hab).2
  omega
theorem trunc_eq (n : Nat) {a b : Nat} (hab : a ≤ b) (h : PC (n / 2 ^ a) = PC (n / 2 ^ b)) : n / 2 ^ a * 2 ^ a = n / 2 ^ b * 2 ^ b := by
  obtain ⟨h1, h2⟩ := PC_split n a b hab
  have h3 : n / 2 ^ a % 2 ^ (b - a) = 0 := PC_eq_zero (by omega)
  rw [h3, Nat.add_zero] at h1
  rw [h1, Nat.mul_assoc, ← Nat.pow_add, show b - a + a = b by omega]
theorem HS_index {n : Nat} (hn : n < 2 ^ 64) : ∀ h, h ≤ 64 → ∀ i, i < PC (n / 2 ^ h) → ∃ g, h ≤ g ∧ g < 64 ∧ (HS h n)[i]? = some g ∧ n / 2 ^ g % 2 = 1 ∧ i = PC (n / 2 ^ (g + 1)) := by
  have key : ∀ d h, h + d = 64 → ∀ i, i < PC (n / 2 ^ h) → ∃ g, h ≤ g ∧ g < 64 ∧ (HS h n)[i]? = some g ∧ n / 2 ^ g % 2 = 1 ∧ i = PC (n / 2 ^ (g + 1)) := by
    intro d
    induction d with
    | zero =>
      intro h e i hi
      obtain rfl : h = 64 := by omega
      rw [Nat.div_eq_of_lt hn, PC_zero] at hi
      omega
    | succ d ih =>
      intro h e i hi
      have hl := HS_length hn (h + 1) (by omega)
      have hs : PC (n / 2 ^ h) = n / 2 ^ h % 2 + PC (n / 2 ^ (h + 1)) := by rw [PC_step, half_pow]
      rcases Nat.lt_or_ge i (PC (n / 2 ^ (h + 1))) with h1 | h1
      · obtain ⟨g, a, b, c, r⟩ := ih (h + 1) (by omega) i h1
        refine ⟨g, by omega, b, ?_, r⟩
        by_cases hb : n / 2 ^ h % 2 = 1
        · rw [HS_set (by omega) hb, List.getElem?_append_left (by omega)]
          exact c
        · rw [HS_clear (by omega) hb]
          exact c
      · have hb : n / 2 ^ h % 2 = 1 := by omega
        have hi' : i = PC (n / 2 ^ (h + 1)) := by omega
        refine ⟨h, Nat.le_refl _, by omega, ?_, hb, hi'⟩
        rw [HS_set (by omega) hb, List.getElem?_append_right (by omega), hl, hi']
        simp
  intro h hh
  exact key (64 - h) h (by omega)
/-- the height of the peak i of n leaves; the leaves ahead of it. -/
def HGT (n i : Nat) : Nat := (HS 0 n).getD i 0
def AHEAD (n : Nat) : Nat → Nat
  | 0 => 0
  | i + 1 => n / 2 ^ HGT n i * 2 ^ HGT n i
theorem HGT_at {n i : Nat} (hn : n < 2 ^ 64) (hi : i < PC n) : (HS 0 n)[i]? = some (HGT n i) ∧ n / 2 ^ HGT n i % 2 = 1 ∧ i = PC (n / 2 ^ (HGT n i + 1)) := by
  obtain ⟨g, _, _, c, d, e⟩ := HS_index hn 0 (by omega) i (by rw [Nat.pow_zero, Nat.div_one]; exact hi)
  have hg : HGT n i = g := by unfold HGT; rw [List.getD_eq_getElem?_getD, c]; rfl
  rw [hg]
  exact ⟨c, d, e⟩
/-- the index of the peak i among the nodes of its height. -/
def KGT (n i : Nat) : Nat := 2 * (n / 2 ^ (HGT n i + 1))
theorem PEAKS_at {n i : Nat} (hn : n < 2 ^ 64) (hi : i < PC n) : (PEAKS n).getD i 0 = PLC (HGT n i) (KGT n i) := by
  unfold PEAKS
  rw [List.getD_eq_getElem?_getD, List.getElem?_map, (HGT_at hn hi).1]
  rfl
theorem PEAK_node {n i : Nat} (hn : n ≤ 4611686018427387904) (hi : i < PC n) : Node (HGT n i) (KGT n i) := Node.peak hn (HGT_at (by omega) hi).2.1
theorem PC_after {n i : Nat} (hn : n < 2 ^ 64) (hi : i < PC n) : PC (n / 2 ^ HGT n i) = i + 1 := by
  obtain ⟨_, h2, h3⟩ := HGT_at hn hi
  rw [PC_step, ← half_pow]
  omega
theorem HGT_falls {n i : Nat} (hn : n < 2 ^ 64) (hi : i + 1 < PC n) : HGT n (i + 1) < HGT n i := by
  have h1 := PC_after hn (i := i) (by omega)
  have h2 := (HGT_at hn hi).2.2
  rcases Nat.lt_or_ge (HGT n (i + 1)) (HGT n i) with h | h
  · exact h
  · have h3 := PC_mono n (a := HGT n i + 1) (b := HGT n (i + 1) + 1) (by omega)
    have h4 := (HGT_at hn (i := i) (by omega)).2.2
    omega
theorem AHEAD_from {n i : Nat} (hn : n < 2 ^ 64) (hi : i < PC n) : KGT n i * 2 ^ HGT n i = AHEAD n i := by
  have hk : KGT n i * 2 ^ HGT n i = n / 2 ^ (HGT n i + 1) * 2 ^ (HGT n i + 1) := double_pow _ _
  have h2 := (HGT_at hn hi).2.2
  cases i with
  | zero =>
    rw [hk, PC_eq_zero h2.symm, Nat.zero_mul]
    rfl
  | succ i =>
    have h1 := PC_after hn (i := i) (by omega)
    have h3 := HGT_falls hn hi
    rw [hk]
    exact trunc_eq n (by omega) (by omega)
theorem AHEAD_to {n i : Nat} (hn : n < 2 ^ 64) (hi : i < PC n) : (KGT n i + 1) * 2 ^ HGT n i = AHEAD n (i + 1) := by
  have := at_set (HGT_at hn hi).2.1
  show (2 * (n / 2 ^ (HGT n i + 1)) + 1) * 2 ^ HGT n i = n / 2 ^ HGT n i * 2 ^ HGT n i
  rw [← this]
theorem AHEAD_le (n i : Nat) : AHEAD n i ≤ n := by
  cases i with
  | zero => exact Nat.zero_le _
  | succ i => exact Nat.div_mul_le_self _ _
theorem AHEAD_all {n : Nat} (hn : n < 2 ^ 64) : AHEAD n (PC n) = n := by
  cases h : PC n with
  | zero =>
    rw [PC_eq_zero h]
    rfl
  | succ i =>
    have h1 := PC_after hn (i := i) (by omega)
    have h2 := trunc_eq n (a := 0) (b := HGT n i) (by omega) (by rw [Nat.pow_zero, Nat.div_one]; omega)
    rw [Nat.pow_zero, Nat.div_one, Nat.mul_one] at h2
    exact h2.symm
theorem PEAK_last {n i : Nat} (hn : n < 2 ^ 64) (hi : i < PC n) : PLC (HGT n i) (KGT n i) + 1 = NODES (AHEAD n (i + 1)) := by
  rw [← AHEAD_to hn hi]
  have h1 := NODES_plus (n / 2 ^ (HGT n i + 1)) (HGT n i)
  have h2 := two_le (HGT n i)
  show NODES (KGT n i * 2 ^ HGT n i) + (2 ^ (HGT n i + 1) - 2) + 1 = NODES ((2 * (n / 2 ^ (HGT n i + 1)) + 1) * 2 ^ HGT n i)
  rw [h1]
  unfold TREE KGT
  omega
theorem PEAK_lt {n i : Nat} (hn : n < 2 ^ 64) (hi : i < PC n) : PLC (HGT n i) (KGT n i) < NODES n := by
  have h1 := PEAK_last hn hi
  have h2 := NODES_le (AHEAD_le n (i + 1))
  omega
theorem PEAK_parent {n i : Nat} : NODES n ≤ PLC (HGT n i + 1) (KGT n i / 2) := by
  have e : KGT n i / 2 = n / 2 ^ (HGT n i + 1) := by unfold KGT; omega
  rw [e]
  have h1 := PLC_last (HGT n i + 1) (n / 2 ^ (HGT n i + 1))
  have h2 : n ≤ (n / 2 ^ (HGT n i + 1) + 1) * 2 ^ (HGT n i + 1) - 1 := by
    have := Nat.lt_mul_div_succ n (Nat.two_pow_pos (HGT n i + 1))
    rw [Nat.mul_comm] at this
    omega
  have h3 := NODES_le h2
  omega
end Go.Proofs.YtadpfcpipklmbabDoor

/- The spots of the peaks are the span of all leaves. -/
namespace Go.Proofs.YtadpfcpipklmbabDoor

/-- the peaks' spots from the j-th on. -/
def PKS (n j c : Nat) : List (Nat × Nat) := (List.range' j c).map fun i => (HGT n i, KGT n i)
theorem PKS_step (n j c : Nat) : PKS n j (c + 1) = (HGT n j, KGT n j) :: PKS n (j + 1) c := by simp [PKS, List.range'_succ]
theorem PKS_at {n c i : Nat} (h : i < c) : (PKS n 0 c)[i]? = some (HGT n i, KGT n i) := by
  simp [PKS, h]
theorem PKS_tile {n : Nat} (hn : n ≤ 4611686018427387904) : ∀ c j, j + c = PC n → Tile (AHEAD n j) (PKS n j c) n ∧ Irr (PKS n j c) := by
  intro c
  induction c with
  | zero =>
    intro j e
    obtain rfl : j = PC n := by omega
    exact ⟨AHEAD_all (by omega), trivial⟩
  | succ c ih =>
    intro j e
    obtain ⟨i1, i2⟩ := ih (j + 1) (by omega)
    rw [PKS_step]
    refine ⟨⟨PEAK_node hn (by omega), AHEAD_from (by omega) (by omega), ?_⟩, ?_, i2⟩
    · show Tile ((KGT n j + 1) * 2 ^ HGT n j) _ n
      rw [AHEAD_to (by omega) (by omega)]
      exact i1
    · intro y hy ⟨h1, _, _⟩
      cases c with
      | zero => simp [PKS] at hy
      | succ c =>
        rw [PKS_step] at hy
        simp at hy
        subst hy
        have := HGT_falls (n := n) (i := j) (by omega) (by omega)
        dsimp only at h1
        omega
theorem SPAN_peaks {n : Nat} (hn : n ≤ 4611686018427387904) : SPAN 0 n = PKS n 0 (PC n) := by
  obtain ⟨h1, h2⟩ := PKS_tile hn (PC n) 0 (by omega)
  exact (span_only h1 h2).symm
theorem SPAN_zero_length {n : Nat} (hn : n ≤ 4611686018427387904) : (SPAN 0 n).length = PC n := by
  rw [SPAN_peaks hn]
  simp [PKS]
theorem SPAN_zero_at {n i : Nat} (hn : n ≤ 4611686018427387904) (hi : i < PC n) : (SPAN 0 n)[i]? = some (HGT n i, KGT n i) := by
  rw [SPAN_peaks hn]
  exact PKS_at hi
end Go.Proofs.YtadpfcpipklmbabDoor

/- What leaves need, and they, are all leaves, none twice: plain. -/
namespace Go.Proofs.YtadpfcpipklmbabDoor
set_option maxRecDepth 100000

/-- the spots that leaves under a node need. -/
def NSP : Nat → Nat → List Nat → List (Nat × Nat)
  | h, k, [] => [(h, k)]
  | 0, _, _ :: _ => []
  | h + 1, k, x :: l => NSP h (2 * k) ((x :: l).filter fun y => decide (y < (2 * k + 1) * 2 ^ h)) ++ NSP h (2 * k + 1) ((x :: l).filter fun y => !decide (y < (2 * k + 1) * 2 ^ h))
def SPL (s : Nat × Nat) : Nat := PLC s.1 s.2
theorem NSP_nil (h k : Nat) : NSP h k [] = [(h, k)] := by cases h <;> rfl
theorem NEED_NSP : ∀ (h k : Nat) (L : List Nat), NEED h k L = (NSP h k L).map SPL
  | h, k, [] => by rw [NEED_nil, NSP_nil]; rfl
  | 0, _, _ :: _ => rfl
  | h + 1, k, x :: l => by rw [NEED_node, NSP, List.map_append, ← NEED_NSP h, ← NEED_NSP h]
def NSPS : List (Nat × Nat) → List Nat → List (Nat × Nat)
  | [], _ => []
  | (h, k) :: ps, L => NSP h k (L.filter fun y => decide (y < (k + 1) * 2 ^ h)) ++ NSPS ps (L.filter fun y => !decide (y < (k + 1) * 2 ^ h))
theorem NEEDS_NSPS : ∀ (ps : List (Nat × Nat)) (L : List Nat), NEEDS ps L = (NSPS ps L).map SPL
  | [], _ => rfl
  | (h, k) :: ps, L => by rw [NEEDS, NSPS, List.map_append, NEED_NSP, NEEDS_NSPS ps]
/-- where a spot's leaves begin, where they end. -/
def FRM (s : Nat × Nat) : Nat := s.2 * 2 ^ s.1
def TOE (s : Nat × Nat) : Nat := (s.2 + 1) * 2 ^ s.1
/-- spots and leaves that together are all from A up to B. -/
structure COVER (A B : Nat) (L : List Nat) (l : List (Nat × Nat)) : Prop where
  within : ∀ s ∈ l, A ≤ FRM s ∧ TOE s ≤ B
  off : ∀ s ∈ l, ∀ x ∈ L, ¬ (FRM s ≤ x ∧ x < TOE s)
  sum : (l.map fun s => 2 ^ s.1).sum + L.length = B - A
  order : l.Pairwise fun s t => TOE s ≤ FRM t
theorem FRM_lt (s : Nat × Nat) : FRM s + 2 ^ s.1 = TOE s := by unfold FRM TOE; rw [Nat.add_mul, Nat.one_mul]
theorem COVER.join {A B C : Nat} {L1 L2 L : List Nat} {l1 l2 : List (Nat × Nat)} (h1 : COVER A B L1 l1) (h2 : COVER B C L2 l2) (hAB : A ≤ B) (hBC : B ≤ C) (m1 : ∀ x ∈ L1, x < B) (m2 : ∀ x ∈ L2, B ≤ x) (hm : ∀ x ∈ L, x ∈ L1 ∨ x ∈ L2) (hl : L1.length + L2.length = L.length) : COVER A C L (l1 ++ l2) := by
  refine ⟨fun s hs => ?_, fun s hs x hx => ?_, ?_, ?_⟩
  · rcases List.mem_append.1 hs with h | h
    · have := h1.within s h; omega
    · have := h2.within s h; omega
  · rcases List.mem_append.1 hs with h | h
    · rcases hm x hx with hx | hx
      · exact h1.off s h x hx
      · have := (h1.within s h).2
        have := m2 x hx
        omega
    · rcases hm x hx with hx | hx
      · have := (h2.within s h).1
        have := m1 x hx
        omega
      · exact h2.off s h x hx
  · rw [List.map_append, List.sum_append]
    have e1 := h1.sum
    have e2 := h2.sum
    omega
  · rw [List.pairwise_append]
    refine ⟨h1.order, h2.order, fun s hs t ht => ?_⟩
    have e1 := (h1.within s hs).2
    have e2 := (h2.within t ht).1
    omega
theorem twice_pow (h k : Nat) : k * 2 ^ (h + 1) = 2 * k * 2 ^ h ∧ (k + 1) * 2 ^ (h + 1) = (2 * k + 1 + 1) * 2 ^ h := by
  constructor
  · rw [Nat.pow_succ, Nat.mul_comm (2 ^ h) 2, ← Nat.mul_assoc, Nat.mul_comm k 2]
  · rw [Nat.pow_succ, Nat.mul_comm (2 ^ h) 2, ← Nat.mul_assoc, Nat.mul_comm (k + 1) 2, show 2 * (k + 1) = 2 * k + 1 + 1 by omega]
theorem filter_parts (p : Nat → Bool) (L : List Nat) : ∀ x ∈ L, x ∈ L.filter p ∨ x ∈ L.filter fun y => !p y := fun x hx => by
  cases h : p x
  · exact .inr (List.mem_filter.2 ⟨hx, by simp [h]⟩)
  · exact .inl (List.mem_filter.2 ⟨hx, h⟩)
theorem nsp_cover : ∀ (h k : Nat) (L : List Nat), L.Pairwise (· < ·) → (∀ x ∈ L, k * 2 ^ h ≤ x ∧ x < (k + 1) * 2 ^ h) → COVER (k * 2 ^ h) ((k + 1) * 2 ^ h) L (NSP h k L)
  | h, k, [], _, _ => by
    rw [NSP_nil]
    refine ⟨fun s hs => ?_, fun s hs x hx => (by cases hx), ?_, List.pairwise_singleton ..⟩
    · rw [List.mem_singleton] at hs
      subst hs
      exact ⟨Nat.le_refl _, Nat.le_refl _⟩
    · have h1 : k * 2 ^ h + 2 ^ h = (k + 1) * 2 ^ h := FRM_lt (h, k)
      show ([2 ^ h] : List Nat).sum + 0 = (k + 1) * 2 ^ h - k * 2 ^ h
      rw [← h1, Nat.add_sub_cancel_left]
      simp
  | 0, k, x :: l, hp, hm => by
    have hx := hm x (List.mem_cons_self ..)
    have hl : l = [] := by
      cases l with
      | nil => rfl
      | cons y t =>
        have h1 := hm y (by simp)
        have h2 : x < y := (List.pairwise_cons.1 hp).1 y (by simp)
        simp at hx h1
        omega
    subst hl
    refine ⟨fun s hs => (by cases hs), fun s hs => (by cases hs), ?_, List.Pairwise.nil⟩
    simp [NSP]
  | h + 1, k, x :: l, hp, hm => by
    rw [NSP]
    obtain ⟨t1, t2⟩ := twice_pow h k
    have e1 : 2 * k * 2 ^ h ≤ (2 * k + 1) * 2 ^ h := Nat.mul_le_mul_right _ (by omega)
    have e2 : (2 * k + 1) * 2 ^ h ≤ (2 * k + 1 + 1) * 2 ^ h := Nat.mul_le_mul_right _ (by omega)
    rw [t1, t2] at hm ⊢
    have c1 := nsp_cover h (2 * k) ((x :: l).filter fun y => decide (y < (2 * k + 1) * 2 ^ h)) (hp.filter _) (fun y hy => by
      obtain ⟨a, b⟩ := List.mem_filter.1 hy
      exact ⟨(hm y a).1, of_decide_eq_true b⟩)
    have c2 := nsp_cover h (2 * k + 1) ((x :: l).filter fun y => !decide (y < (2 * k + 1) * 2 ^ h)) (hp.filter _) (fun y hy => by
      obtain ⟨a, b⟩ := List.mem_filter.1 hy
      have b : ¬ y < (2 * k + 1) * 2 ^ h := by simpa using b
      exact ⟨by omega, (hm y a).2⟩)
    exact c1.join c2 e1 e2 (fun y hy => of_decide_eq_true (List.mem_filter.1 hy).2) (fun y hy => by have b := (List.mem_filter.1 hy).2; have b : ¬ y < (2 * k + 1) * 2 ^ h := (by simpa using b); omega) (filter_parts _ _) (filter_both _ _)
/-- the parent has one of the leaves under it. -/
def MET (L : List Nat) (s : Nat × Nat) : Prop := ∃ x ∈ L, FRM (s.1 + 1, s.2 / 2) ≤ x ∧ x < TOE (s.1 + 1, s.2 / 2)
theorem MET.mono {L L' : List Nat} {s : Nat × Nat} (h : MET L s) (hm : ∀ x ∈ L, x ∈ L') : MET L' s := by
  obtain ⟨x, hx, h1⟩ := h
  exact ⟨x, hm x hx, h1⟩
theorem nsp_met : ∀ (h k : Nat) (L : List Nat), L ≠ [] → (∀ x ∈ L, k * 2 ^ h ≤ x ∧ x < (k + 1) * 2 ^ h) → ∀ s ∈ NSP h k L, MET L s
  | _, _, [], hL, _, _, _ => absurd rfl hL
  | 0, _, _ :: _, _, _, s, hs => by cases hs
  | h + 1, k, x :: l, _, hm, s, hs => by
    rw [NSP] at hs
    have kid : ∀ j, j / 2 = k → MET (x :: l) (h, j) := fun j hj => ⟨x, List.mem_cons_self .., by unfold FRM; rw [hj]; exact (hm x (List.mem_cons_self ..)).1, by unfold TOE; rw [hj]; exact (hm x (List.mem_cons_self ..)).2⟩
    obtain ⟨t1, t2⟩ := twice_pow h k
    rcases List.mem_append.1 hs with hs | hs
    · generalize hA : ((x :: l).filter fun y => decide (y < (2 * k + 1) * 2 ^ h)) = A at hs
      by_cases hA0 : A = []
      · rw [hA0, NSP_nil, List.mem_singleton] at hs
        subst hs
        exact kid (2 * k) (by omega)
      · refine (nsp_met h (2 * k) A hA0 (fun y hy => ?_) s hs).mono (fun y hy => ?_)
        · rw [← hA] at hy
          obtain ⟨a, b⟩ := List.mem_filter.1 hy
          have := hm y a
          rw [t1] at this
          exact ⟨this.1, of_decide_eq_true b⟩
        · rw [← hA] at hy
          exact (List.mem_filter.1 hy).1
    · generalize hA : ((x :: l).filter fun y => !decide (y < (2 * k + 1) * 2 ^ h)) = A at hs
      by_cases hA0 : A = []
      · rw [hA0, NSP_nil, List.mem_singleton] at hs
        subst hs
        exact kid (2 * k + 1) (by omega)
      · refine (nsp_met h (2 * k + 1) A hA0 (fun y hy => ?_) s hs).mono (fun y hy => ?_)
        · rw [← hA] at hy
          obtain ⟨a, b⟩ := List.mem_filter.1 hy
          have := hm y a
          rw [t2] at this
          have b : ¬ y < (2 * k + 1) * 2 ^ h := by simpa using b
          exact ⟨by omega, this.2⟩
        · rw [← hA] at hy
          exact (List.mem_filter.1 hy).1
theorem nsps_cover : ∀ (ps : List (Nat × Nat)) (A B : Nat) (L : List Nat), Tile A ps B → L.Pairwise (· < ·) → (∀ x ∈ L, A ≤ x ∧ x < B) → COVER A B L (NSPS ps L)
  | [], A, B, L, ht, _, hm => by
    have hAB : A = B := ht
    have hL : L = [] := by
      cases L with
      | nil => rfl
      | cons x l => have := hm x (List.mem_cons_self ..); omega
    subst hL
    refine ⟨fun s hs => (by cases hs), fun s hs => (by cases hs), by simp [NSPS]; omega, List.Pairwise.nil⟩
  | (h, k) :: ps, A, B, L, ht, hp, hm => by
    obtain ⟨hN, hA, ht⟩ : Node h k ∧ k * 2 ^ h = A ∧ Tile ((k + 1) * 2 ^ h) ps B := ht
    have hb := ht.bound.1
    have e1 : k * 2 ^ h ≤ (k + 1) * 2 ^ h := Nat.mul_le_mul_right _ (by omega)
    rw [NSPS, ← hA]
    have c1 := nsp_cover h k (L.filter fun y => decide (y < (k + 1) * 2 ^ h)) (hp.filter _) (fun y hy => by
      obtain ⟨a, b⟩ := List.mem_filter.1 hy
      exact ⟨by rw [hA]; exact (hm y a).1, of_decide_eq_true b⟩)
    have c2 := nsps_cover ps ((k + 1) * 2 ^ h) B (L.filter fun y => !decide (y < (k + 1) * 2 ^ h)) ht (hp.filter _) (fun y hy => by
      obtain ⟨a, b⟩ := List.mem_filter.1 hy
      have b : ¬ y < (k + 1) * 2 ^ h := by simpa using b
      exact ⟨by omega, (hm y a).2⟩)
    exact c1.join c2 e1 hb (fun y hy => of_decide_eq_true (List.mem_filter.1 hy).2) (fun y hy => by have b := (List.mem_filter.1 hy).2; have b : ¬ y < (k + 1) * 2 ^ h := (by simpa using b); omega) (filter_parts _ _) (filter_both _ _)
theorem nsps_met : ∀ (ps : List (Nat × Nat)) (A B : Nat) (L : List Nat), Tile A ps B → (∀ x ∈ L, A ≤ x ∧ x < B) → ∀ s ∈ NSPS ps L, s ∈ ps ∨ MET L s
  | [], _, _, _, _, _, s, hs => by cases hs
  | (h, k) :: ps, A, B, L, ht, hm, s, hs => by
    obtain ⟨hN, hA, ht⟩ : Node h k ∧ k * 2 ^ h = A ∧ Tile ((k + 1) * 2 ^ h) ps B := ht
    rw [NSPS] at hs
    rcases List.mem_append.1 hs with hs | hs
    · generalize hAA : (L.filter fun y => decide (y < (k + 1) * 2 ^ h)) = C at hs
      by_cases hC : C = []
      · rw [hC, NSP_nil, List.mem_singleton] at hs
        subst hs
        exact .inl (List.mem_cons_self ..)
      · refine .inr ((nsp_met h k C hC (fun y hy => ?_) s hs).mono (fun y hy => ?_))
        · rw [← hAA] at hy
          obtain ⟨a, b⟩ := List.mem_filter.1 hy
          exact ⟨by rw [hA]; exact (hm y a).1, of_decide_eq_true b⟩
        · rw [← hAA] at hy
          exact (List.mem_filter.1 hy).1
    · rcases nsps_met ps ((k + 1) * 2 ^ h) B _ ht (fun y hy => by
        obtain ⟨a, b⟩ := List.mem_filter.1 hy
        have b : ¬ y < (k + 1) * 2 ^ h := by simpa using b
        exact ⟨by omega, (hm y a).2⟩) s hs with h1 | h1
      · exact .inl (List.mem_cons_of_mem _ h1)
      · exact .inr (h1.mono fun y hy => (List.mem_filter.1 hy).1)
theorem TPS_eq {n : Nat} (hn : n ≤ 4611686018427387904) : TPS n = PKS n 0 (PC n) := by
  apply List.ext_getElem?
  intro i
  by_cases hi : i < PC n
  · rw [PKS_at hi]
    unfold TPS
    rw [List.getElem?_map, (HGT_at (by omega) hi).1]
    rfl
  · rw [List.getElem?_eq_none (by rw [TPS_length (by omega)]; omega), List.getElem?_eq_none (by simp [PKS]; omega)]
theorem TPS_tile {n : Nat} (hn : n ≤ 4611686018427387904) : Tile 0 (TPS n) n := by
  rw [TPS_eq hn]
  exact (PKS_tile hn (PC n) 0 (by omega)).1
theorem RISES.pairwise {L : List Nat} (h : RISES L) : L.Pairwise (· < ·) := by
  rw [List.pairwise_iff_getElem]
  intro i j hi hj hij
  exact h i j _ _ hij (List.getElem?_eq_getElem hi) (List.getElem?_eq_getElem hj)
theorem plc_ge {h k n : Nat} (he : n < (k + 1) * 2 ^ h) : NODES n ≤ PLC h k := by
  have h1 := PLC_last h k
  have h2 := NODES_le (n := n) (m := (k + 1) * 2 ^ h - 1) (by omega)
  omega
theorem plc_under {h k n : Nat} (he : (k + 1) * 2 ^ h ≤ n) : PLC h k < NODES n := by
  have h1 := NODES_le he
  have e1 := NODES_add ((k + 1) * 2 ^ h)
  have e2 := NODES_add (k * 2 ^ h)
  rw [PC_shift] at e1 e2
  have h3 := PC_succ k
  have h4 := two_le h
  have e : (k + 1) * 2 ^ h = k * 2 ^ h + 2 ^ h := by rw [Nat.add_mul, Nat.one_mul]
  have hp := pow_up h
  unfold PLC
  omega
/-- places rise with the leaves under them. -/
theorem PLC_before {h k h' k' : Nat} (hle : (k + 1) * 2 ^ h ≤ k' * 2 ^ h') : PLC h k < PLC h' k' := by
  have h1 := plc_under hle
  have h2 := PLC_last h' k'
  have h3 := Nat.two_pow_pos h'
  have h4 : k' * 2 ^ h' ≤ (k' + 1) * 2 ^ h' - 1 := by rw [Nat.add_mul]; omega
  have h5 : NODES (k' * 2 ^ h') ≤ NODES ((k' + 1) * 2 ^ h' - 1) := NODES_le h4
  omega
end Go.Proofs.YtadpfcpipklmbabDoor

/- What split of package many answers. -/
namespace Go.Proofs.YtadpfcpipklmbabDoor
open Go.RowKit
set_option maxRecDepth 100000

/-- what need does: all places are told, or one of them was refused. -/
def TOLD (S P : List Nat → World → Prop) (X : List PanicEntry) (acc l : List Nat) (e : Ending) (w' : World) : Prop := (e = .returned (.tuple #[]) ∧ S (acc ++ l) w') ∨ ∃ pre p, (pre ++ [p]) <+: (acc ++ l) ∧ e = .panicked X ∧ P pre w'
/-- what split answers. -/
structure SPLIT (w w' : World) (a : Option Addr) (n c : Nat) (L : List Nat) (t r : Nat) (a' : Option Addr) : Prop where
  rank : RANKS L t r
  lies : NUML w a' (L.drop r)
  nil : a' = none → c - r = 0
  block : ∀ x, a' = some x → ∃ y, a = some y ∧ x.block = y.block
  spot : ∀ x, a' = some x → x.spot = none
  below : Below w.heap.size w w'
set_option maxHeartbeats 1000000 in
theorem split_ok (h k : Nat) (hN : Node h k) (a : Option Addr) (n c : Nat) (L : List Nat) (hl : L.length = n) (hn : n < 2 ^ 40) (hR : RISES L) (hc : n ≤ c) (hnil : a = none → c = 0) (hsp : ∀ x, a = some x → x.spot = none) (w : World) (hL : NUML w a L) :
    Calls Tryd.prog 42 #[.slice a n c, .int .u64 ((PLC h k : Nat) : Int)] w fun e w' => ∃ r a', e = .returned (.tuple #[.slice a r c, .slice a' (n - r) (c - r)]) ∧ SPLIT w w' a n c L ((k + 1) * 2 ^ h) r a' := by
  have cu := under_ok h k hN w
  obtain ⟨t, ht⟩ : ∃ t, (k + 1) * 2 ^ h = t := ⟨_, rfl⟩
  rw [ht] at cu ⊢
  have HA : Aside (L.length = n ∧ n < 2 ^ 40 ∧ RISES L ∧ NUML w a L ∧ n ≤ c) := ⟨hl, hn, hR, hL, hc⟩
  have NI : Aside (a = none → c = 0) := hnil
  have SP : Aside (∀ x, a = some x → x.spot = none) := hsp
  clear hl hn hR hL hc hnil hsp ht
  go_enter Tryd.func42, Tryd.ntmps42
  go_wp2_with fail
  refine cu.mono ?_
  rintro e w1 ⟨rfl, hb1⟩
  clear cu
  have cs := search_ok a n c L t HA.out.1 HA.out.2.1 HA.out.2.2.1 w1 (fun h0 => by
    obtain ⟨b, o, e, hl, hc⟩ := HA.out.2.2.2.1 h0
    exact ⟨b, o, e, Nat.lt_of_lt_of_le hl hb1.size, fun i x hx => (hb1.cell (p := ⟨b, o + i, none⟩) hl).trans (hc i x hx)⟩)
  have B1 : Aside (Below w.heap.size w w1) := hb1
  clear hb1
  go_wp2_with fail
  refine cs.mono ?_
  rintro e w2 ⟨r, f, rfl, hr, rfl⟩
  clear cs
  have hrn : r ≤ n := by have := hr.le; have := HA.out.1; omega
  have y1 : (r : Int) ≤ (c : Int) := by have := HA.out.2.2.2.2; omega
  have y2 : (r : Int) ≤ (n : Int) := by omega
  have y3 : (0 : Int) ≤ (r : Int) := by omega
  have RK : Aside (RANKS L t r) := hr
  clear hr
  cases a with
  | none =>
    have h0 := NI.out rfl
    subst h0
    have hr0 : r = 0 := by omega
    subst hr0
    have hn0 : n = 0 := by have := HA.out.2.2.2.2; omega
    subst hn0
    have FN : Aside (∀ W, Below w.heap.size w W → SPLIT w W none 0 0 L t 0 none) := fun W hb => ⟨RK.out, fun h => by have := HA.out.1; simp at h; omega, fun _ => rfl, (fun x e => by cases e), (fun x e => by cases e), hb⟩
    clear HA NI SP RK
    go_upto_region 3 with fail
    go_quiet (fail)
    go_wp2
    go_ret2
    exact ⟨0, none, rfl, FN.out _ (below_drewN B1.out _)⟩
  | some x =>
    obtain ⟨b, o, sp⟩ := x
    have hsp : sp = none := SP.out _ rfl
    subst hsp
    by_cases hcr : c = r
    · have FN : Aside (∀ W, Below w.heap.size w W → SPLIT w W (some ⟨b, o, none⟩) n c L t r (some ⟨b, o, none⟩)) := fun W hb => ⟨RK.out, fun h => by have := HA.out.1; have := HA.out.2.2.2.2; simp at h; omega, (fun e => by cases e), (fun x e => ⟨_, rfl, by cases e; rfl⟩), (fun x e => by cases e; rfl), hb⟩
      clear HA NI SP RK
      go_upto_region 3 with fail
      go_quiet (fail)
      go_wp2
      go_ret2
      exact ⟨r, _, by rw [hcr, Nat.sub_self]; rfl, FN.out _ (below_drewN B1.out _)⟩
    · have FN : Aside (∀ W, Below w.heap.size w W → SPLIT w W (some ⟨b, o, none⟩) n c L t r (some ⟨b, o + r, none⟩)) := fun W hb => by
        refine ⟨RK.out, fun h => ?_, (fun e => by cases e), (fun x e => ⟨_, rfl, by cases e; rfl⟩), (fun x e => by cases e; rfl), hb⟩
        obtain ⟨b', o', e, hl, hc⟩ := HA.out.2.2.2.1 (by simp at h; omega)
        cases e
        refine ⟨b, o + r, rfl, hl, fun i x hx => ?_⟩
        rw [List.getElem?_drop] at hx
        rw [Nat.add_assoc]
        exact hc (r + i) x hx
      clear HA NI SP RK
      go_upto_region 3 with fail
      go_quiet (fail)
      go_wp2
      go_ret2
      exact ⟨r, _, rfl, FN.out _ (below_drewN B1.out _)⟩
end Go.Proofs.YtadpfcpipklmbabDoor

/- Blocks of one's own in a world that is a variable. -/
namespace Go.Proofs.YtadpfcpipklmbabDoor
open Go.RowKit

/-- the block g holds the cells c. -/
def Has (w : World) (g : Nat) (c : Array Value) (t : TypeId) : Prop := w.heap[g]? = some (.cells c t)
theorem Has.cell {w : World} {g : Nat} {c : Array Value} {t : TypeId} (h : Has w g c t) (i : Nat) : w.cell? ⟨g, i, none⟩ = c[i]? := cell_of_row w g i c t _ h
theorem Has.lt {w : World} {g : Nat} {c : Array Value} {t : TypeId} (h : Has w g c t) : g < w.heap.size := (Array.getElem?_eq_some_iff.1 h).1
theorem Has.frozen {w : World} {g : Nat} {c : Array Value} {t : TypeId} (h : Has w g c t) (i : Nat) : w.frozen? ⟨g, i, none⟩ = false := by
  have e : w.heap[g]? = some (.cells c t) := h
  simp [World.frozen?, e]
theorem Has.set {w : World} {g : Nat} {c : Array Value} {t : TypeId} (h : Has w g c t) (i : Nat) (v : Value) : Has (w.setCell ⟨g, i, none⟩ v) g (c.setIfInBounds i v) t := by
  have e : w.heap[g]? = some (.cells c t) := h
  unfold Has
  rw [setCell_eq_setRow w g i c t _ v e, setRow_heap w g c _ t _ e]
theorem Has.other {w : World} {g : Nat} {c : Array Value} {t : TypeId} (h : Has w g c t) {a : Addr} (ha : g ≠ a.block) (v : Value) : Has (w.setCell a v) g c t := by
  have e : w.heap[g]? = some (.cells c t) := h
  unfold Has
  rw [Below.heap_setCell w a v g ha, e]
theorem Has.below {B : Nat} {w w' : World} {g : Nat} {c : Array Value} {t : TypeId} (h : Has w g c t) (hb : Below B w w') (hg : g < B) : Has w' g c t := (hb.block g hg).trans h
theorem Has.keep {w w' : World} {g : Nat} {c : Array Value} {t : TypeId} (h : Has w g c t) (hb : Below w.heap.size w w') : Has w' g c t := h.below hb h.lt
theorem Has.alloc {w : World} {g : Nat} {c : Array Value} {t : TypeId} (h : Has w g c t) (o : Obj) : Has (w.alloc o) g c t := by
  have e : w.heap[g]? = some (.cells c t) := h
  unfold Has
  rw [Below.heap_alloc w o g h.lt, e]
theorem Has.new (w : World) (c : Array Value) (t : TypeId) : Has (w.alloc (.cells c t)) w.heap.size c t := heap_alloc_new w _
theorem Has.at (w : World) (c : Array Value) (t : TypeId) {g : Nat} (hg : g = w.heap.size) : Has (w.alloc (.cells c t)) g c t := by subst hg; exact Has.new w c t
theorem Has.row {w : World} {g : Nat} {c : Array Value} {t : TypeId} (h : Has w g c t) (c' : Array Value) : Has (w.setRow g c') g c' t := setRow_heap w g c c' t _ h
theorem Has.row_other {w : World} {g k : Nat} {c : Array Value} {t : TypeId} (h : Has w g c t) (hk : g ≠ k) (c' : Array Value) : Has (w.setRow k c') g c t := by
  have e : w.heap[g]? = some (.cells c t) := h
  unfold Has
  rw [setRow_other w k g c' hk, e]
theorem Has.drewN {w : World} {g : Nat} {c : Array Value} {t : TypeId} (h : Has w g c t) (n : Nat) : Has (w.drewN n) g c t := h
theorem set_off {w : World} {b i j : Nat} (h : i ≠ j) (v : Value) : (w.setCell ⟨b, i, none⟩ v).cell? ⟨b, j, none⟩ = w.cell? ⟨b, j, none⟩ := World.cell?_setCell_other w _ _ v (fun e => h (congrArg Addr.off e))
theorem below_row {B g : Nat} {w0 w : World} (hb : Below B w0 w) (hBg : B ≤ g) (cs : Array Value) : Below B w0 (w.setRow g cs) :=
  ⟨hb.os, hb.tape, hb.output, by have := hb.size; simpa [World.setRow] using this, fun k hk => by rw [setRow_other w g k cs (by omega)]; exact hb.block k hk⟩
end Go.Proofs.YtadpfcpipklmbabDoor
