/- Texts of ManyPlaces, one behind the other: ManySetsPlain, ManySplit, ManyRise, ManyRefPlain, ManyTake. -/
import Derived.BigQuiet
import Derived.Deep.Cut
import Derived.WalkLawsBesides
import Derived.Test.YtmpaifkjlhodpaaDoorManyPlacesP5
import Derived.Test.YtmpaifkjlhodpaaDoorManyPlacesP7
import Derived.Test.YtmpaifkjlhodpaaDoorManyPlacesP10
/- What leaves need, and they, are all leaves, none twice: plain. -/
namespace Go.Proofs.YtmpaifkjlhodpaaDoor
set_option maxRecDepth 100000

/-- the spots that leaves under a node need. -/
def NSP : Nat → Nat → List Nat → List (Nat × Nat)
  | h, k, [] => [(h, k)]
  | 0, _, _ :: _ => []
  | h + 1, k, x :: l => NSP h (2 * k) ((x :: l).filter fun y => decide (y < (2 * k + 1) * 2 ^ h)) ++ NSP h (2 * k + 1) ((x :: l).filter fun y => !decide (y < (2 * k + 1) * 2 ^ h))
def SPL (s : Nat × Nat) : Nat := PLC s.1 s.2
theorem NSP_nil (h k : Nat) : NSP h k [] = [(h, k)] := by cases h <;> rfl
theorem NEED_NSP : ∀ (h k : Nat) (L : List Nat), NEED h k L = (NSP h k L).map SPL
  | h, k, [] => by rw [NEED_nil, NSP_nil]; rfl
  | 0, _, _ :: _ => rfl
  | h + 1, k, x :: l => by rw [NEED_node, NSP, List.map_append, ← NEED_NSP h, ← NEED_NSP h]
def NSPS : List (Nat × Nat) → List Nat → List (Nat × Nat)
  | [], _ => []
  | (h, k) :: ps, L => NSP h k (L.filter fun y => decide (y < (k + 1) * 2 ^ h)) ++ NSPS ps (L.filter fun y => !decide (y < (k + 1) * 2 ^ h))
theorem NEEDS_NSPS : ∀ (ps : List (Nat × Nat)) (L : List Nat), NEEDS ps L = (NSPS ps L).map SPL
  | [], _ => rfl
  | (h, k) :: ps, L => by rw [NEEDS, NSPS, List.map_append, NEED_NSP, NEEDS_NSPS ps]
/-- where a spot's leaves begin, where they end. -/
def FRS (s : Nat × Nat) : Nat := s.2 * 2 ^ s.1
def TOE (s : Nat × Nat) : Nat := (s.2 + 1) * 2 ^ s.1
/-- spots and leaves that together are all from A up to B. -/
structure COVER (A B : Nat) (L : List Nat) (l : List (Nat × Nat)) : Prop where
  within : ∀ s ∈ l, A ≤ FRS s ∧ TOE s ≤ B
  off : ∀ s ∈ l, ∀ x ∈ L, ¬ (FRS s ≤ x ∧ x < TOE s)
  sum : (l.map fun s => 2 ^ s.1).sum + L.length = B - A
  order : l.Pairwise fun s t => TOE s ≤ FRS t
theorem FRS_lt (s : Nat × Nat) : FRS s + 2 ^ s.1 = TOE s := by unfold FRS TOE; rw [Nat.add_mul, Nat.one_mul]
theorem COVER.join {A B C : Nat} {L1 L2 L : List Nat} {l1 l2 : List (Nat × Nat)} (h1 : COVER A B L1 l1) (h2 : COVER B C L2 l2) (hAB : A ≤ B) (hBC : B ≤ C) (m1 : ∀ x ∈ L1, x < B) (m2 : ∀ x ∈ L2, B ≤ x) (hm : ∀ x ∈ L, x ∈ L1 ∨ x ∈ L2) (hl : L1.length + L2.length = L.length) : COVER A C L (l1 ++ l2) := by
  refine ⟨fun s hs => ?_, fun s hs x hx => ?_, ?_, ?_⟩
  · rcases List.mem_append.1 hs with h | h
    · have := h1.within s h; omega
    · have := h2.within s h; omega
  · rcases List.mem_append.1 hs with h | h
    · rcases hm x hx with hx | hx
      · exact h1.off s h x hx
      · have := (h1.within s h).2
        have := m2 x hx
        omega
    · rcases hm x hx with hx | hx
      · have := (h2.within s h).1
        have := m1 x hx
        omega
      · exact h2.off s h x hx
  · rw [List.map_append, List.sum_append]
    have e1 := h1.sum
    have e2 := h2.sum
    omega
  · rw [List.pairwise_append]
    refine ⟨h1.order, h2.order, fun s hs t ht => ?_⟩
    have e1 := (h1.within s hs).2
    have e2 := (h2.within t ht).1
    omega
theorem twice_pow (h k : Nat) : k * 2 ^ (h + 1) = 2 * k * 2 ^ h ∧ (k + 1) * 2 ^ (h + 1) = (2 * k + 1 + 1) * 2 ^ h := by
  constructor
  · rw [Nat.pow_succ, Nat.mul_comm (2 ^ h) 2, ← Nat.mul_assoc, Nat.mul_comm k 2]
  · rw [Nat.pow_succ, Nat.mul_comm (2 ^ h) 2, ← Nat.mul_assoc, Nat.mul_comm (k + 1) 2, show 2 * (k + 1) = 2 * k + 1 + 1 by omega]
theorem filter_parts (p : Nat → Bool) (L : List Nat) : ∀ x ∈ L, x ∈ L.filter p ∨ x ∈ L.filter fun y => !p y := fun x hx => by
  cases h : p x
  · exact .inr (List.mem_filter.2 ⟨hx, by simp [h]⟩)
  · exact .inl (List.mem_filter.2 ⟨hx, h⟩)
theorem nsp_cover : ∀ (h k : Nat) (L : List Nat), L.Pairwise (· < ·) → (∀ x ∈ L, k * 2 ^ h ≤ x ∧ x < (k + 1) * 2 ^ h) → COVER (k * 2 ^ h) ((k + 1) * 2 ^ h) L (NSP h k L)
  | h, k, [], _, _ => by
    rw [NSP_nil]
    refine ⟨fun s hs => ?_, fun s hs x hx => (by cases hx), ?_, List.pairwise_singleton ..⟩
    · rw [List.mem_singleton] at hs
      subst hs
      exact ⟨Nat.le_refl _, Nat.le_refl _⟩
    · have h1 : k * 2 ^ h + 2 ^ h = (k + 1) * 2 ^ h := FRS_lt (h, k)
      show ([2 ^ h] : List Nat).sum + 0 = (k + 1) * 2 ^ h - k * 2 ^ h
      rw [← h1, Nat.add_sub_cancel_left]
      simp
  | 0, k, x :: l, hp, hm => by
    have hx := hm x (List.mem_cons_self ..)
    have hl : l = [] := by
      cases l with
      | nil => rfl
      | cons y t =>
        have h1 := hm y (by simp)
        have h2 : x < y := (List.pairwise_cons.1 hp).1 y (by simp)
        simp at hx h1
        omega
    subst hl
    refine ⟨fun s hs => (by cases hs), fun s hs => (by cases hs), ?_, List.Pairwise.nil⟩
    simp [NSP]
  | h + 1, k, x :: l, hp, hm => by
    rw [NSP]
    obtain ⟨t1, t2⟩ := twice_pow h k
    have e1 : 2 * k * 2 ^ h ≤ (2 * k + 1) * 2 ^ h := Nat.mul_le_mul_right _ (by omega)
    have e2 : (2 * k + 1) * 2 ^ h ≤ (2 * k + 1 + 1) * 2 ^ h := Nat.mul_le_mul_right _ (by omega)
    rw [t1, t2] at hm ⊢
    have c1 := nsp_cover h (2 * k) ((x :: l).filter fun y => decide (y < (2 * k + 1) * 2 ^ h)) (hp.filter _) (fun y hy => by
      obtain ⟨a, b⟩ := List.mem_filter.1 hy
      exact ⟨(hm y a).1, of_decide_eq_true b⟩)
    have c2 := nsp_cover h (2 * k + 1) ((x :: l).filter fun y => !decide (y < (2 * k + 1) * 2 ^ h)) (hp.filter _) (fun y hy => by
      obtain ⟨a, b⟩ := List.mem_filter.1 hy
      have b : ¬ y < (2 * k + 1) * 2 ^ h := by simpa using b
      exact ⟨by omega, (hm y a).2⟩)
    exact c1.join c2 e1 e2 (fun y hy => of_decide_eq_true (List.mem_filter.1 hy).2) (fun y hy => by have b := (List.mem_filter.1 hy).2; have b : ¬ y < (2 * k + 1) * 2 ^ h := (by simpa using b); omega) (filter_parts _ _) (filter_both _ _)
/-- the parent has one of the leaves under it. -/
def MET (L : List Nat) (s : Nat × Nat) : Prop := ∃ x ∈ L, FRS (s.1 + 1, s.2 / 2) ≤ x ∧ x < TOE (s.1 + 1, s.2 / 2)
theorem MET.mono {L L' : List Nat} {s : Nat × Nat} (h : MET L s) (hm : ∀ x ∈ L, x ∈ L') : MET L' s := by
  obtain ⟨x, hx, h1⟩ := h
  exact ⟨x, hm x hx, h1⟩
theorem nsp_met : ∀ (h k : Nat) (L : List Nat), L ≠ [] → (∀ x ∈ L, k * 2 ^ h ≤ x ∧ x < (k + 1) * 2 ^ h) → ∀ s ∈ NSP h k L, MET L s
  | _, _, [], hL, _, _, _ => absurd rfl hL
  | 0, _, _ :: _, _, _, s, hs => by cases hs
  | h + 1, k, x :: l, _, hm, s, hs => by
    rw [NSP] at hs
    have kid : ∀ j, j / 2 = k → MET (x :: l) (h, j) := fun j hj => ⟨x, List.mem_cons_self .., by unfold FRS; rw [hj]; exact (hm x (List.mem_cons_self ..)).1, by unfold TOE; rw [hj]; exact (hm x (List.mem_cons_self ..)).2⟩
    obtain ⟨t1, t2⟩ := twice_pow h k
    rcases List.mem_append.1 hs with hs | hs
    · generalize hA : ((x :: l).filter fun y => decide (y < (2 * k + 1) * 2 ^ h)) = A at hs
      by_cases hA0 : A = []
      · rw [hA0, NSP_nil, List.mem_singleton] at hs
        subst hs
        exact kid (2 * k) (by omega)
      · refine (nsp_met h (2 * k) A hA0 (fun y hy => ?_) s hs).mono (fun y hy => ?_)
        · rw [← hA] at hy
          obtain ⟨a, b⟩ := List.mem_filter.1 hy
          have := hm y a
          rw [t1] at this
          exact ⟨this.1, of_decide_eq_true b⟩
        · rw [← hA] at hy
          exact (List.mem_filter.1 hy).1
    · generalize hA : ((x :: l).filter fun y => !decide (y < (2 * k + 1) * 2 ^ h)) = A at hs
      by_cases hA0 : A = []
      · rw [hA0, NSP_nil, List.mem_singleton] at hs
        subst hs
        exact kid (2 * k + 1) (by omega)
      · refine (nsp_met h (2 * k + 1) A hA0 (fun y hy => ?_) s hs).mono (fun y hy => ?_)
        · rw [← hA] at hy
          obtain ⟨a, b⟩ := List.mem_filter.1 hy
          have := hm y a
          rw [t2] at this
          have b : ¬ y < (2 * k + 1) * 2 ^ h := by simpa using b
          exact ⟨by omega, this.2⟩
        · rw [← hA] at hy
          exact (List.mem_filter.1 hy).1
theorem nsps_cover : ∀ (ps : List (Nat × Nat)) (A B : Nat) (L : List Nat), Tile A ps B → L.Pairwise (· < ·) → (∀ x ∈ L, A ≤ x ∧ x < B) → COVER A B L (NSPS ps L)
  | [], A, B, L, ht, _, hm => by
    have hAB : A = B := ht
    have hL : L = [] := by
      cases L with
      | nil => rfl
      | cons x l => have := hm x (List.mem_cons_self ..); omega
    subst hL
    refine ⟨fun s hs => (by cases hs), fun s hs => (by cases hs), by simp [NSPS]; omega, List.Pairwise.nil⟩
  | (h, k) :: ps, A, B, L, ht, hp, hm => by
    obtain ⟨hN, hA, ht⟩ : Node h k ∧ k * 2 ^ h = A ∧ Tile ((k + 1) * 2 ^ h) ps B := ht
    have hb := ht.bound.1
    have e1 : k * 2 ^ h ≤ (k + 1) * 2 ^ h := Nat.mul_le_mul_right _ (by omega)
    rw [NSPS, ← hA]
    have c1 := nsp_cover h k (L.filter fun y => decide (y < (k + 1) * 2 ^ h)) (hp.filter _) (fun y hy => by
      obtain ⟨a, b⟩ := List.mem_filter.1 hy
      exact ⟨by rw [hA]; exact (hm y a).1, of_decide_eq_true b⟩)
    have c2 := nsps_cover ps ((k + 1) * 2 ^ h) B (L.filter fun y => !decide (y < (k + 1) * 2 ^ h)) ht (hp.filter _) (fun y hy => by
      obtain ⟨a, b⟩ := List.mem_filter.1 hy
      have b : ¬ y < (k + 1) * 2 ^ h := by simpa using b
      exact ⟨by omega, (hm y a).2⟩)
    exact c1.join c2 e1 hb (fun y hy => of_decide_eq_true (List.mem_filter.1 hy).2) (fun y hy => by have b := (List.mem_filter.1 hy).2; have b : ¬ y < (k + 1) * 2 ^ h := (by simpa using b); omega) (filter_parts _ _) (filter_both _ _)
theorem nsps_met : ∀ (ps : List (Nat × Nat)) (A B : Nat) (L : List Nat), Tile A ps B → (∀ x ∈ L, A ≤ x ∧ x < B) → ∀ s ∈ NSPS ps L, s ∈ ps ∨ MET L s
  | [], _, _, _, _, _, s, hs => by cases hs
  | (h, k) :: ps, A, B, L, ht, hm, s, hs => by
    obtain ⟨hN, hA, ht⟩ : Node h k ∧ k * 2 ^ h = A ∧ Tile ((k + 1) * 2 ^ h) ps B := ht
    rw [NSPS] at hs
    rcases List.mem_append.1 hs with hs | hs
    · generalize hAA : (L.filter fun y => decide (y < (k + 1) * 2 ^ h)) = C at hs
      by_cases hC : C = []
      · rw [hC, NSP_nil, List.mem_singleton] at hs
        subst hs
        exact .inl (List.mem_cons_self ..)
      · refine .inr ((nsp_met h k C hC (fun y hy => ?_) s hs).mono (fun y hy => ?_))
        · rw [← hAA] at hy
          obtain ⟨a, b⟩ := List.mem_filter.1 hy
          exact ⟨by rw [hA]; exact (hm y a).1, of_decide_eq_true b⟩
        · rw [← hAA] at hy
          exact (List.mem_filter.1 hy).1
    · rcases nsps_met ps ((k + 1) * 2 ^ h) B _ ht (fun y hy => by
        obtain ⟨a, b⟩ := List.mem_filter.1 hy
        have b : ¬ y < (k + 1) * 2 ^ h := by simpa using b
        exact ⟨by omega, (hm y a).2⟩) s hs with h1 | h1
      · exact .inl (List.mem_cons_of_mem _ h1)
      · exact .inr (h1.mono fun y hy => (List.mem_filter.1 hy).1)
theorem TPS_eq {n : Nat} (hn : n ≤ 4611686018427387904) : TPS n = PKS n 0 (PC n) := by
  apply List.ext_getElem?
  intro i
  by_cases hi : i < PC n
  · rw [PKS_at hi]
    unfold TPS
    rw [List.getElem?_map, (HGT_at (by omega) hi).1]
    rfl
  · rw [List.getElem?_eq_none (by rw [TPS_length (by omega)]; omega), List.getElem?_eq_none (by simp [PKS]; omega)]
theorem TPS_tile {n : Nat} (hn : n ≤ 4611686018427387904) : Tile 0 (TPS n) n := by
  rw [TPS_eq hn]
  exact (PKS_tile hn (PC n) 0 (by omega)).1
theorem RISES.pairwise {L : List Nat} (h : RISES L) : L.Pairwise (· < ·) := by
  rw [List.pairwise_iff_getElem]
  intro i j hi hj hij
  exact h i j _ _ hij (List.getElem?_eq_getElem hi) (List.getElem?_eq_getElem hj)
theorem plc_ge {h k n : Nat} (he : n < (k + 1) * 2 ^ h) : NODES n ≤ PLC h k := by
  have h1 := PLC_last h k
  have h2 := NODES_le (n := n) (m := (k + 1) * 2 ^ h - 1) (by omega)
  omega
theorem plc_under {h k n : Nat} (he : (k + 1) * 2 ^ h ≤ n) : PLC h k < NODES n := by
  have h1 := NODES_le he
  have e1 := NODES_add ((k + 1) * 2 ^ h)
  have e2 := NODES_add (k * 2 ^ h)
  rw [PC_shift] at e1 e2
  have h3 := PC_succ k
  have h4 := two_le h
  have e : (k + 1) * 2 ^ h = k * 2 ^ h + 2 ^ h := by rw [Nat.add_mul, Nat.one_mul]
  have hp := pow_up h
  unfold PLC
  omega
/-- places rise with the leaves under them. -/
theorem PLC_before {h k h' k' : Nat} (hle : (k + 1) * 2 ^ h ≤ k' * 2 ^ h') : PLC h k < PLC h' k' := by
  have h1 := plc_under hle
  have h2 := PLC_last h' k'
  have h3 := Nat.two_pow_pos h'
  have h4 : k' * 2 ^ h' ≤ (k' + 1) * 2 ^ h' - 1 := by rw [Nat.add_mul]; omega
  have h5 : NODES (k' * 2 ^ h') ≤ NODES ((k' + 1) * 2 ^ h' - 1) := NODES_le h4
  omega
end Go.Proofs.YtmpaifkjlhodpaaDoor

/- What split of package many answers. -/
namespace Go.Proofs.YtmpaifkjlhodpaaDoor
open Go.RowKit
set_option maxRecDepth 100000

/-- what need does: all places are told, or one of them was refused. -/
def TOLD (S P : List Nat → World → Prop) (X : List PanicEntry) (acc l : List Nat) (e : Ending) (w' : World) : Prop := (e = .returned (.tuple #[]) ∧ S (acc ++ l) w') ∨ ∃ pre p, (pre ++ [p]) <+: (acc ++ l) ∧ e = .panicked X ∧ P pre w'
/-- what split answers. -/
structure SPLIT (w w' : World) (a : Option Addr) (n c : Nat) (L : List Nat) (t r : Nat) (a' : Option Addr) : Prop where
  rank : RANKS L t r
  lies : NUML w a' (L.drop r)
  nil : a' = none → c - r = 0
  block : ∀ x, a' = some x → ∃ y, a = some y ∧ x.block = y.block
  spot : ∀ x, a' = some x → x.spot = none
  below : Below w.heap.size w w'
set_option maxHeartbeats 1000000 in
theorem split_ok (h k : Nat) (hN : Node h k) (a : Option Addr) (n c : Nat) (L : List Nat) (hl : L.length = n) (hn : n < 2 ^ 40) (hR : RISES L) (hc : n ≤ c) (hnil : a = none → c = 0) (hsp : ∀ x, a = some x → x.spot = none) (w : World) (hL : NUML w a L) :
    Calls Tryd.prog 47 #[.slice a n c, .int .u64 ((PLC h k : Nat) : Int)] w fun e w' => ∃ r a', e = .returned (.tuple #[.slice a r c, .slice a' (n - r) (c - r)]) ∧ SPLIT w w' a n c L ((k + 1) * 2 ^ h) r a' := by
  have cu := under_ok h k hN w
  obtain ⟨t, ht⟩ : ∃ t, (k + 1) * 2 ^ h = t := ⟨_, rfl⟩
  rw [ht] at cu ⊢
  have HA : Aside (L.length = n ∧ n < 2 ^ 40 ∧ RISES L ∧ NUML w a L ∧ n ≤ c) := ⟨hl, hn, hR, hL, hc⟩
  have NI : Aside (a = none → c = 0) := hnil
  have SP : Aside (∀ x, a = some x → x.spot = none) := hsp
  clear hl hn hR hL hc hnil hsp ht
  go_enter Tryd.func47, Tryd.ntmps47
  go_wp2_with fail
  refine cu.mono ?_
  rintro e w1 ⟨rfl, hb1⟩
  clear cu
  have cs := search_ok a n c L t HA.out.1 HA.out.2.1 HA.out.2.2.1 w1 (fun h0 => by
    obtain ⟨b, o, e, hl, hc⟩ := HA.out.2.2.2.1 h0
    exact ⟨b, o, e, Nat.lt_of_lt_of_le hl hb1.size, fun i x hx => (hb1.cell (p := ⟨b, o + i, none⟩) hl).trans (hc i x hx)⟩)
  have B1 : Aside (Below w.heap.size w w1) := hb1
  clear hb1
  go_wp2_with fail
  refine cs.mono ?_
  rintro e w2 ⟨r, f, rfl, hr, rfl⟩
  clear cs
  have hrn : r ≤ n := by have := hr.le; have := HA.out.1; omega
  have y1 : (r : Int) ≤ (c : Int) := by have := HA.out.2.2.2.2; omega
  have y2 : (r : Int) ≤ (n : Int) := by omega
  have y3 : (0 : Int) ≤ (r : Int) := by omega
  have RK : Aside (RANKS L t r) := hr
  clear hr
  cases a with
  | none =>
    have h0 := NI.out rfl
    subst h0
    have hr0 : r = 0 := by omega
    subst hr0
    have hn0 : n = 0 := by have := HA.out.2.2.2.2; omega
    subst hn0
    have FN : Aside (∀ W, Below w.heap.size w W → SPLIT w W none 0 0 L t 0 none) := fun W hb => ⟨RK.out, fun h => by have := HA.out.1; simp at h; omega, fun _ => rfl, (fun x e => by cases e), (fun x e => by cases e), hb⟩
    clear HA NI SP RK
    go_upto_region 3 with fail
    go_quiet (fail)
    go_wp2
    go_ret2
    exact ⟨0, none, rfl, FN.out _ (below_drewN B1.out _)⟩
  | some x =>
    obtain ⟨b, o, sp⟩ := x
    have hsp : sp = none := SP.out _ rfl
    subst hsp
    by_cases hcr : c = r
    · have FN : Aside (∀ W, Below w.heap.size w W → SPLIT w W (some ⟨b, o, none⟩) n c L t r (some ⟨b, o, none⟩)) := fun W hb => ⟨RK.out, fun h => by have := HA.out.1; have := HA.out.2.2.2.2; simp at h; omega, (fun e => by cases e), (fun x e => ⟨_, rfl, by cases e; rfl⟩), (fun x e => by cases e; rfl), hb⟩
      clear HA NI SP RK
      go_upto_region 3 with fail
      go_quiet (fail)
      go_wp2
      go_ret2
      exact ⟨r, _, by rw [hcr, Nat.sub_self]; rfl, FN.out _ (below_drewN B1.out _)⟩
    · have FN : Aside (∀ W, Below w.heap.size w W → SPLIT w W (some ⟨b, o, none⟩) n c L t r (some ⟨b, o + r, none⟩)) := fun W hb => by
        refine ⟨RK.out, fun h => ?_, (fun e => by cases e), (fun x e => ⟨_, rfl, by cases e; rfl⟩), (fun x e => by cases e; rfl), hb⟩
        obtain ⟨b', o', e, hl, hc⟩ := HA.out.2.2.2.1 (by simp at h; omega)
        cases e
        refine ⟨b, o + r, rfl, hl, fun i x hx => ?_⟩
        rw [List.getElem?_drop] at hx
        rw [Nat.add_assoc]
        exact hc (r + i) x hx
      clear HA NI SP RK
      go_upto_region 3 with fail
      go_quiet (fail)
      go_wp2
      go_ret2
      exact ⟨r, _, rfl, FN.out _ (below_drewN B1.out _)⟩
end Go.Proofs.YtmpaifkjlhodpaaDoor

/- mustRise of package many: it gives up where leaves are not those of n, or do not rise. -/
namespace Go.Proofs.YtmpaifkjlhodpaaDoor
open Go.RowKit
set_option maxRecDepth 100000

/-- not above the one ahead. -/
def NOTUP : Option Nat → Nat → Bool
  | none, _ => false
  | some y, x => decide (x ≤ y)
/-- what is wrong with indices, the one ahead of them prev. -/
def RCHK (n : Nat) : Option Nat → List Nat → Int
  | _, [] => 0
  | prev, x :: l => if NOTUP prev x = true then 71 else if n ≤ x then 32 else RCHK n (some x) l
/-- what is wrong with the indices of n leaves. -/
def RISEA (L : List Nat) (n : Nat) : Int := if 4611686018427387904 < n then 30 else RCHK n none L
theorem RCHK_ok {n : Nat} : ∀ {prev : Option Nat} {L : List Nat}, RCHK n prev L = 0 → (∀ x ∈ L, x < n) ∧ RISES L ∧ ∀ y, prev = some y → ∀ x ∈ L, y < x
  | _, [], _ => ⟨(fun x h => by cases h), (fun i j x y _ h => by simp at h), (fun y _ x h => by cases h)⟩
  | prev, x :: l, h => by
    rw [RCHK] at h
    split at h
    · cases h
    · rename_i h1
      split at h
      · cases h
      · rename_i h2
        obtain ⟨a1, a2, a3⟩ := RCHK_ok h
        refine ⟨fun y hy => ?_, fun i j u v hij hu hv => ?_, fun y hy z hz => ?_⟩
        · rcases List.mem_cons.1 hy with rfl | hy
          · omega
          · exact a1 y hy
        · cases i with
          | zero =>
            cases j with
            | zero => omega
            | succ j =>
              simp only [List.getElem?_cons_zero, Option.some.injEq] at hu
              rw [List.getElem?_cons_succ] at hv
              subst hu
              exact a3 x rfl v (List.mem_of_getElem? hv)
          | succ i =>
            cases j with
            | zero => omega
            | succ j =>
              rw [List.getElem?_cons_succ] at hu hv
              exact a2 i j u v (by omega) hu hv
        · subst hy
          have h1 : ¬ x ≤ y := fun h => h1 (decide_eq_true h)
          rcases List.mem_cons.1 hz with rfl | hz
          · omega
          · have := a3 x rfl z hz
            omega
theorem RISEA_ok {n : Nat} {L : List Nat} (h : RISEA L n = 0) : n ≤ 4611686018427387904 ∧ RISES L ∧ ∀ x ∈ L, x < n := by
  unfold RISEA at h
  split at h
  · cases h
  · obtain ⟨a1, a2, _⟩ := RCHK_ok h
    exact ⟨by omega, a2, a1⟩
/-- the panic of a wrong proof. -/
def WRONG (x : Int) : List PanicEntry := [{ v := .iface 73 (.int .i64 x), recovered := false }]
def ROSE (L : List Nat) (n : Nat) (w : World) (e : Ending) (w' : World) : Prop := w = w' ∧ ((RISEA L n = 0 ∧ e = .returned (.tuple #[])) ∨ (RISEA L n ≠ 0 ∧ e = .panicked (WRONG (RISEA L n))))
/-- the one ahead. -/
def AHD (L : List Nat) : Nat → Option Nat
  | 0 => none
  | j + 1 => L[j]?
theorem drop_step {L : List Nat} {j x : Nat} (h : L[j]? = some x) : L.drop j = x :: L.drop (j + 1) := by
  induction L generalizing j with
  | nil => simp at h
  | cons y l ih =>
    cases j with
    | zero => simp at h; simp [h]
    | succ j => simp at h; simp; exact ih h
set_option maxHeartbeats 1000000 in
theorem rise_far (L : List Nat) (n : Nat) (hn : (4611686018427387904 : Int) < (n : Int)) (a : Option Addr) (m c : Nat) (w : World) : Calls Tryd.prog 28 #[.slice a m c, .int .u64 (n : Int)] w (ROSE L n w) := by
  have e : RISEA L n = 30 := by unfold RISEA; rw [if_pos (by omega)]
  have E : Aside (RISEA L n = 30) := e
  clear e
  go_enter Tryd.func28, Tryd.ntmps28
  go_wp2_with fail
  exact ⟨rfl, rfl, .inr ⟨by rw [E.out]; decide, by rw [E.out]; rfl⟩⟩
set_option maxHeartbeats 2000000 in
theorem mustrise_ok (L : List Nat) (n : Nat) (a : Option Addr) (m c : Nat) (hl : L.length = m) (hm : m < 2 ^ 40) (w : World) (hL : NUML w a L) : Calls Tryd.prog 28 #[.slice a m c, .int .u64 (n : Int)] w (ROSE L n w) := by
  by_cases hn : (4611686018427387904 : Int) < (n : Int)
  · exact rise_far L n hn a m c w
  · have e : RISEA L n = RCHK n none L := by unfold RISEA; rw [if_neg (by omega)]
    have HA : Aside (L.length = m ∧ m < 2 ^ 40 ∧ NUML w a L ∧ RISEA L n = RCHK n none L) := ⟨hl, hm, hL, e⟩
    clear hl hm hL e
    go_enter Tryd.func28, Tryd.ntmps28
    go_wp2_with fail
    go_loopg [11] m (fun q s11 wx => ∃ j : Nat, s11 = .int .i64 (j : Int) ∧ Aside (j + q = m ∧ RISEA L n = RCHK n (AHD L j) (L.drop j)) ∧ wx = w)
    case atStart => exact ⟨0, rfl, ⟨by omega, HA.out.2.2.2⟩, rfl⟩
    case round =>
      obtain ⟨j, rfl, A, rfl⟩ := hrel
      cases gk with
      | zero =>
        obtain rfl : j = m := by have := A.out.1; omega
        have hlt : ¬ (j : Int) < (j : Int) := by omega
        have FN : Aside (RISEA L n = 0) := by
          have h1 := A.out.2
          rw [List.drop_of_length_le (by have := HA.out.1; omega)] at h1
          exact h1
        clear A HA
        go_wp2_with fail
        exact bodyPost_end (v := .tuple #[]) (by simp [results, Tryd.f28]) rfl ⟨rfl, .inl ⟨FN.out, rfl⟩⟩
      | succ q =>
        have hjm : j < m := by have := A.out.1; omega
        have hlt : (j : Int) < (m : Int) := by omega
        obtain ⟨x, ex⟩ : ∃ x, L[j]? = some x := ⟨_, List.getElem?_eq_getElem (by have := HA.out.1; omega)⟩
        obtain ⟨b, o, rfl, hb, hcc⟩ := HA.out.2.2.1 (by have := HA.out.1; omega)
        have x0 := hcc j x ex
        have ej : wrap64 ((j : Int) + 1) = ((j + 1 : Nat) : Int) := by have := HA.out.2.1; unfold wrap64; omega
        have hch : RISEA L n = if NOTUP (AHD L j) x = true then 71 else if n ≤ x then 32 else RCHK n (some x) (L.drop (j + 1)) := by
          rw [A.out.2, drop_step ex, RCHK]
        have hnx : AHD L (j + 1) = some x := ex
        rcases Nat.eq_zero_or_pos j with hj0 | hj0
        · have hz : ¬ (0 : Int) < (j : Int) := by omega
          have hch : RISEA L n = if n ≤ x then 32 else RCHK n (some x) (L.drop (j + 1)) := by
            rw [hch, hj0, if_neg (by simp [AHD, NOTUP])]
          by_cases hx : n ≤ x
          · have hx' : (n : Int) ≤ (x : Int) := by omega
            rw [if_pos hx] at hch
            have FN : Aside (RISEA L n = 32) := hch
            clear A HA hch hnx hcc hx hj0 ex hjm
            go_wp2_with fail
            exact ⟨rfl, rfl, .inr ⟨by rw [FN.out]; decide, by rw [FN.out]; rfl⟩⟩
          · have hx' : ¬ (n : Int) ≤ (x : Int) := by omega
            rw [if_neg hx] at hch
            have Z : Aside (j + 1 + q = m ∧ RISEA L n = RCHK n (AHD L (j + 1)) (L.drop (j + 1))) := ⟨by have := A.out.1; clear ej; omega, by rw [hnx]; exact hch⟩
            clear A hch hnx hcc hx hj0 ex hjm
            go_wp2_with fail
            go_roundg q
            case measure => exact Nat.lt_succ_self _
            case rel => exact ⟨j + 1, by first | rfl | (rw [ej]), Z.out, rfl⟩
        · obtain ⟨i, hi⟩ : ∃ i, j = i + 1 := ⟨j - 1, by omega⟩
          obtain ⟨y, ey⟩ : ∃ y, L[i]? = some y := ⟨_, List.getElem?_eq_getElem (by have := HA.out.1; omega)⟩
          have y0 := hcc i y ey
          have ei : wrap64 ((j : Int) - 1) = (i : Int) := by have := HA.out.2.1; unfold wrap64; omega
          have him : (i : Int) < (m : Int) := by omega
          have hi0 : (0 : Int) < (j : Int) := by omega
          have hch : RISEA L n = if NOTUP (some y) x = true then 71 else if n ≤ x then 32 else RCHK n (some x) (L.drop (j + 1)) := by
            rw [hch, show AHD L j = some y by rw [hi]; exact ey]
          by_cases hxy : x ≤ y
          · have hxy' : (x : Int) ≤ (y : Int) := by omega
            rw [if_pos (show NOTUP (some y) x = true from decide_eq_true hxy)] at hch
            have FN : Aside (RISEA L n = 71) := hch
            clear A HA hch hnx hcc hxy hj0 hi ex ey hjm
            go_wp2_with fail
            exact ⟨rfl, rfl, .inr ⟨by rw [FN.out]; decide, by rw [FN.out]; rfl⟩⟩
          · have hxy' : ¬ (x : Int) ≤ (y : Int) := by omega
            rw [if_neg (show ¬ NOTUP (some y) x = true from fun h => hxy (of_decide_eq_true h))] at hch
            by_cases hx : n ≤ x
            · have hx' : (n : Int) ≤ (x : Int) := by omega
              rw [if_pos hx] at hch
              have FN : Aside (RISEA L n = 32) := hch
              clear A HA hch hnx hcc hx hxy hj0 hi ex ey hjm
              go_wp2_with fail
              exact ⟨rfl, rfl, .inr ⟨by rw [FN.out]; decide, by rw [FN.out]; rfl⟩⟩
            · have hx' : ¬ (n : Int) ≤ (x : Int) := by omega
              rw [if_neg hx] at hch
              have Z : Aside (j + 1 + q = m ∧ RISEA L n = RCHK n (AHD L (j + 1)) (L.drop (j + 1))) := ⟨by have := A.out.1; clear ej ei; omega, by rw [hnx]; exact hch⟩
              clear A hch hnx hcc hx hxy hj0 hi ex ey hjm
              go_wp2_with fail
              go_roundg q
              case measure => exact Nat.lt_succ_self _
              case rel => exact ⟨j + 1, by first | rfl | (rw [ej]), Z.out, rfl⟩
end Go.Proofs.YtmpaifkjlhodpaaDoor

/- Which spots leaves need, as the document says it: plain. -/
namespace Go.Proofs.YtmpaifkjlhodpaaDoor
set_option maxRecDepth 100000

/-- the leaves of L under the k-th node of height h. -/
def UND (h k : Nat) (L : List Nat) : List Nat := L.filter fun y => decide (y / 2 ^ h = k)
theorem und_mem {h k y : Nat} {L : List Nat} (hy : y ∈ UND h k L) : y ∈ L ∧ y / 2 ^ h = k := ⟨(List.mem_filter.1 hy).1, of_decide_eq_true (List.mem_filter.1 hy).2⟩
theorem und_length (h k : Nat) (L : List Nat) : (UND h k L).length ≤ L.length := List.length_filter_le _ _
theorem und_kid {h k y : Nat} (e : y / 2 ^ (h + 1) = k) : (y < (2 * k + 1) * 2 ^ h ↔ y / 2 ^ h = 2 * k) ∧ (¬ y < (2 * k + 1) * 2 ^ h ↔ y / 2 ^ h = 2 * k + 1) := by
  have h1 : y / 2 ^ h / 2 = k := by rw [Nat.div_div_eq_div_mul, ← Nat.pow_succ]; exact e
  have h2 := Nat.div_lt_iff_lt_mul (Nat.two_pow_pos h) (x := y) (y := 2 * k + 1)
  rw [← h2]
  generalize y / 2 ^ h = q at *
  omega
theorem NSP_und (h k : Nat) (L : List Nat) (hL : UND (h + 1) k L ≠ []) : NSP (h + 1) k (UND (h + 1) k L) = NSP h (2 * k) (UND h (2 * k) (UND (h + 1) k L)) ++ NSP h (2 * k + 1) (UND h (2 * k + 1) (UND (h + 1) k L)) := by
  have hm : ∀ y ∈ UND (h + 1) k L, y / 2 ^ (h + 1) = k := fun y hy => (und_mem hy).2
  generalize UND (h + 1) k L = M at *
  cases M with
  | nil => exact absurd rfl hL
  | cons x l =>
    rw [NSP]
    have e1 : ((x :: l).filter fun y => decide (y < (2 * k + 1) * 2 ^ h)) = UND h (2 * k) (x :: l) := List.filter_congr fun y hy => decide_eq_decide.2 (und_kid (hm y hy)).1
    have e2 : ((x :: l).filter fun y => !decide (y < (2 * k + 1) * 2 ^ h)) = UND h (2 * k + 1) (x :: l) := List.filter_congr fun y hy => by rw [← decide_not]; exact decide_eq_decide.2 (und_kid (hm y hy)).2
    rw [e1, e2]
/-- the spots that leaves need, peak by peak. -/
def RNS (ps : List (Nat × Nat)) (L : List Nat) : List (Nat × Nat) := ps.flatMap fun s => NSP s.1 s.2 (UND s.1 s.2 L)
theorem RNS_congr {ps : List (Nat × Nat)} {L M : List Nat} (h : ∀ s ∈ ps, UND s.1 s.2 L = UND s.1 s.2 M) : RNS ps L = RNS ps M := by
  induction ps with
  | nil => rfl
  | cons s ps ih =>
    rw [RNS, RNS, List.flatMap_cons, List.flatMap_cons, h s (List.mem_cons_self ..)]
    exact congrArg _ (ih fun t ht => h t (List.mem_cons_of_mem _ ht))
theorem RNS_NSPS : ∀ (ps : List (Nat × Nat)) (A B : Nat) (L : List Nat), Tile A ps B → (∀ x ∈ L, A ≤ x ∧ x < B) → RNS ps L = NSPS ps L
  | [], _, _, _, _, _ => rfl
  | (h, k) :: ps, A, B, L, ht, hm => by
    obtain ⟨hN, hA, ht⟩ : Node h k ∧ k * 2 ^ h = A ∧ Tile ((k + 1) * 2 ^ h) ps B := ht
    have e1 : UND h k L = L.filter fun y => decide (y < (k + 1) * 2 ^ h) := List.filter_congr fun y hy => decide_eq_decide.2 (by
      have h1 := Nat.div_lt_iff_lt_mul (Nat.two_pow_pos h) (x := y) (y := k + 1)
      have h2 := Nat.le_div_iff_mul_le (Nat.two_pow_pos h) (x := k) (y := y)
      have h3 := (hm y hy).1
      rw [← h1]
      rw [hA] at h2
      generalize y / 2 ^ h = q at *
      omega)
    have e2 : RNS ps L = RNS ps (L.filter fun y => !decide (y < (k + 1) * 2 ^ h)) := RNS_congr fun s hs => by
      have h1 := (ht.within s hs).1
      unfold UND
      rw [List.filter_filter]
      refine List.filter_congr fun y hy => ?_
      by_cases e : y / 2 ^ s.1 = s.2
      · have h2 : s.2 * 2 ^ s.1 ≤ y := by rw [← e]; exact Nat.div_mul_le_self _ _
        have h3 : ¬ y < (k + 1) * 2 ^ h := by omega
        simp [e, h3]
      · simp [e]
    have e3 := RNS_NSPS ps ((k + 1) * 2 ^ h) B (L.filter fun y => !decide (y < (k + 1) * 2 ^ h)) ht (fun y hy => by
      obtain ⟨a, b⟩ := List.mem_filter.1 hy
      have b : ¬ y < (k + 1) * 2 ^ h := by simpa using b
      exact ⟨by omega, (hm y a).2⟩)
    have e4 : RNS ((h, k) :: ps) L = NSP h k (UND h k L) ++ RNS ps L := rfl
    rw [e4, NSPS, e1, e2, e3]
theorem RNS_all {N : Nat} {L : List Nat} (hr : RISEA L N = 0) : NEEDS (TPS N) L = (RNS (TPS N) L).map SPL := by
  obtain ⟨h1, h2, h3⟩ := RISEA_ok hr
  rw [NEEDS_NSPS, RNS_NSPS (TPS N) 0 N L (TPS_tile h1) (fun x hx => ⟨Nat.zero_le _, h3 x hx⟩)]
theorem NSP_most (h k : Nat) (L : List Nat) : (NSP h k L).length ≤ L.length * h + 1 := by
  have := NEED_most h k L
  rwa [NEED_NSP, List.length_map] at this
/-- the spots are nodes of the forest. -/
theorem NSP_node : ∀ (h k : Nat) (L : List Nat), Node h k → ∀ s ∈ NSP h k L, Node s.1 s.2
  | h, k, [], hN, s, hs => by
    rw [NSP_nil, List.mem_singleton] at hs
    subst hs
    exact hN
  | 0, _, _ :: _, _, s, hs => by cases hs
  | h + 1, k, x :: l, hN, s, hs => by
    rw [NSP] at hs
    rcases List.mem_append.1 hs with hs | hs
    · exact NSP_node h (2 * k) _ hN.kid.1 s hs
    · exact NSP_node h (2 * k + 1) _ hN.kid.2 s hs
end Go.Proofs.YtmpaifkjlhodpaaDoor

/- The places that are told are put behind one another: the closure of Places of package many. -/
namespace Go.Proofs.YtmpaifkjlhodpaaDoor
open Go.RowKit
set_option maxRecDepth 100000

/-- a number is appended. -/
theorem app_num {ops : Array Oper} {rest : List Oper} {o : Oper} {a : Act} {Q : Exit → Act → World → Prop} (w : World) (hgd : o.guard = none) (s x : Operand)
    (ho : o.op = .call { callee := .builtin .append, args := #[s, x], argTypes := #[22, 22] })
    (base : Nat) (v : Value) (n : Nat) (xs : List Nat) (hs : a.eval s = v) (hown : w.ownsRow base 23 1 v n (UCELLS xs))
    (b c : Nat) (y : Nat) (hx : a.eval x = .slice (some ⟨b, 0, none⟩) 1 c) (hc : w.cell? ⟨b, 0, none⟩ = some (.int .u64 (y : Int)))
    (hb : n ≤ 2 ^ 30) (hbase : base ≤ w.heap.size)
    (h : ∀ g cap w', w'.ownsRow base 23 1 (.slice (some ⟨g, 0, none⟩) (n + 1) cap) (n + 1) (UCELLS (xs ++ [y])) → w.grownBy w' v.ownBlock → g < w'.heap.size → wpList Tryd.prog ops Q rest (a.put o.dst (.slice (some ⟨g, 0, none⟩) (n + 1) cap)) w') : wpList Tryd.prog ops Q (o :: rest) a w := by
  obtain ⟨i, hi, hz, hs1, hby⟩ := info_parts info_u64
  refine wpList_append_lies w hgd s x 22 ho base 23 i (.int .u64 0) 1 8 Tryd.underlying22 hi hz hs1 hby rfl (by decide) v n (UCELLS xs) hs hown ⟨b, 0, none⟩ 1 c [.int .u64 (y : Int)] hx rfl ?_ (fun u hu => by simp at hu; subst hu; rfl) (by decide) (by simp only [maxLen]; omega) (by omega) hbase w.heap.size rfl ?_
  · intro j u hj
    cases j with
    | zero =>
      simp only [List.getElem?_cons_zero, Option.some.injEq] at hj
      subst hj
      exact hc
    | succ j => simp at hj
  · intro g cap w' h1 h2 _ h4
    rw [← UCELLS_snoc] at h1
    exact h g cap w' h1 h2 h4
/-- the list that lies in bp has been told acc since w0. -/
structure TAKING (w0 w : World) (bp : Nat) (acc : List Nat) : Prop where
  row : ∃ v, Has w bp #[v] 22 ∧ w.ownsRow w0.heap.size 23 1 v acc.length (UCELLS acc)
  keep : ∀ b, b < w0.heap.size → b ≠ bp → w.heap[b]? = w0.heap[b]?
  lt : bp < w0.heap.size
  below : Below bp w0 w
theorem own_sliced {w : World} {B s n : Nat} {t : TypeId} {v : Value} {xs : List Value} (h : w.ownsRow B t s v n xs) : ∃ a c, v = .slice a n c := by
  rcases h.2 with ⟨e, h0⟩ | ⟨g, cap, cur, e, _⟩
  · exact ⟨none, 0, by rw [e, h0]⟩
  · exact ⟨_, _, e⟩
set_option maxHeartbeats 1000000 in
theorem take_ok {w0 w : World} {bp : Nat} {acc : List Nat} (hK : TAKING w0 w bp acc) (p : Nat) (hn : acc.length ≤ 2 ^ 30) : Calls Tryd.prog 30 #[.int .u64 (p : Int), .pointer (some ⟨bp, 0, none⟩)] w fun e w' => e = .returned (.tuple #[]) ∧ TAKING w0 w' bp (acc ++ [p]) := by
  obtain ⟨v, hv, hown⟩ := hK.row
  obtain ⟨a, c, rfl⟩ := own_sliced hown
  have c0 : w.cell? ⟨bp, 0, none⟩ = some (.slice a acc.length c) := hv.cell 0
  have HA : Aside (TAKING w0 w bp acc ∧ acc.length ≤ 2 ^ 30 ∧ Has w bp #[.slice a acc.length c] 22 ∧ w.ownsRow w0.heap.size 23 1 (.slice a acc.length c) acc.length (UCELLS acc)) := ⟨hK, hn, hv, hown⟩
  clear hK hn hv hown
  obtain ⟨n, hn⟩ : ∃ n, acc.length = n := ⟨_, rfl⟩
  rw [hn] at HA c0
  have HN : Aside (acc.length = n) := hn
  clear hn
  go_enter Tryd.func30, Tryd.ntmps30
  go_wp2_with (first
    | (at_builtin; refine app_num _ rfl (.tmp 3) (.tmp 5) rfl w0.heap.size (.slice a n c) n acc rfl (HA.out.2.2.2.alloc _) w.heap.size 1 p rfl ((Has.new _ _ _).cell 0) HA.out.2.1 (by have := HA.out.1.below.size; simp; omega) ?_; intro g1 c1 w1 hown1 hgrow1 hg1
       have hbp : Has w1 bp #[.slice a n c] 22 := by
         refine (hgrow1.block bp (by have := HA.out.2.2.1.lt; simp; omega) (fun e => ?_)).trans (HA.out.2.2.1.alloc _)
         have := (HA.out.2.2.2.lt bp e.symm).1
         have := HA.out.1.lt
         omega
       have x0 := hbp.cell 0
       have x1 := hbp.frozen 0
       have FN : Aside (TAKING w0 (w1.setCell ⟨bp, 0, none⟩ (.slice (some ⟨g1, 0, none⟩) (n + 1) c1)) bp (acc ++ [p])) := by
         have hlt := HA.out.1.lt
         have hsz := HA.out.1.below.size
         refine ⟨⟨.slice (some ⟨g1, 0, none⟩) (n + 1) c1, hbp.set 0 _, ?_⟩, fun b hb hne => ?_, hlt, ?_⟩
         · rw [List.length_append, HN.out]
           exact ownsRow_setCell_below hown1 (a := ⟨bp, 0, none⟩) hlt _
         · rw [Below.heap_setCell _ _ _ _ (by exact hne), hgrow1.block b (by simp; omega) (fun e => by have := (HA.out.2.2.2.lt b e.symm).1; omega), Below.heap_alloc _ _ _ (by omega)]
           exact HA.out.1.keep b hb hne
         · refine ((HA.out.1.below.alloc (by omega) _).grown hgrow1 (by simp; omega) (fun k e => ?_)).setCell (Nat.le_refl _) _
           have := (HA.out.2.2.2.lt k e).1
           omega
       clear hown1 hgrow1 hg1 hbp c0))
  exact bodyPost_end (v := .tuple #[]) (by simp [results, Tryd.f30]) rfl ⟨rfl, FN.out⟩
end Go.Proofs.YtmpaifkjlhodpaaDoor
