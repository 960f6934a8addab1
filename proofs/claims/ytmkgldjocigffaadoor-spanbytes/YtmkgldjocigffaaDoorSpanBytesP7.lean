/- Texts of SpanBytes, one behind the other: SpanPlain, ManyLies, SpanRefNeeds, SpanNeed. -/
import Derived.Test.YtmkgldjocigffaaDoorSpanBytesP6
/- Which nodes a span needs, as what its leaves need: plain. -/
namespace Go.Proofs.YtmkgldjocigffaaDoor
set_option maxRecDepth 100000

/-- the leaves from a on and below b. -/
def SEG (a b : Nat) : List Nat := List.range' a (b - a)
theorem SEG_length (a b : Nat) : (SEG a b).length = b - a := List.length_range' ..
theorem SEG_nil {a b : Nat} (h : b ≤ a) : SEG a b = [] := by rw [SEG, show b - a = 0 by omega, List.range'_zero]
theorem SEG_ne {a b : Nat} (h : a < b) : SEG a b ≠ [] := fun e => by
  have := congrArg List.length e
  rw [SEG_length, List.length_nil] at this
  omega
theorem filter_low (m : Nat) : ∀ (n a : Nat), (List.range' a n).filter (fun y => decide (y < m)) = List.range' a (min n (m - a))
  | 0, a => by simp
  | n + 1, a => by
    rw [List.range'_succ, List.filter_cons, filter_low m n (a + 1)]
    by_cases h : a < m
    · rw [decide_eq_true h, if_pos rfl, show min (n + 1) (m - a) = min n (m - (a + 1)) + 1 by omega, List.range'_succ]
    · rw [decide_eq_false h, show min (n + 1) (m - a) = 0 by omega, show min n (m - (a + 1)) = 0 by omega]
      rfl
theorem filter_high (m : Nat) : ∀ (n a : Nat), (List.range' a n).filter (fun y => !decide (y < m)) = List.range' (max a m) (n - (m - a))
  | 0, a => by simp
  | n + 1, a => by
    rw [List.range'_succ, List.filter_cons, filter_high m n (a + 1)]
    by_cases h : a < m
    · rw [decide_eq_true h, if_neg (by simp), show max (a + 1) m = max a m by omega, show n + 1 - (m - a) = n - (m - (a + 1)) by omega]
    · rw [decide_eq_false h, if_pos (show (!false) = true from rfl), show n + 1 - (m - a) = n + 1 by omega, show n - (m - (a + 1)) = n by omega, show max (a + 1) m = a + 1 by omega, show max a m = a by omega, List.range'_succ]
theorem SEG_low (a b m : Nat) : (SEG a b).filter (fun y => decide (y < m)) = SEG a (min b m) := by
  rw [SEG, filter_low, SEG]
  congr 1
  omega
theorem SEG_high (a b m : Nat) : (SEG a b).filter (fun y => !decide (y < m)) = SEG (max a m) b := by
  rw [SEG, filter_high, SEG]
  congr 1
  omega
/-- the leaves of the span under a node. -/
def SG (F T h k : Nat) : List Nat := SEG (max F (k * 2 ^ h)) (min T ((k + 1) * 2 ^ h))
/-- none of the span's leaves is under the node; all the node's leaves are of the span. -/
abbrev APRT (F T h k : Nat) : Prop := min T ((k + 1) * 2 ^ h) ≤ max F (k * 2 ^ h)
abbrev WITHN (F T h k : Nat) : Prop := F ≤ k * 2 ^ h ∧ (k + 1) * 2 ^ h ≤ T
theorem need_apart {F T h k : Nat} (e : APRT F T h k) : NEED h k (SG F T h k) = [PLC h k] := by rw [SG, SEG_nil e, NEED_nil]
theorem mid_node (h k : Nat) : k * 2 ^ (h + 1) = 2 * k * 2 ^ h ∧ (k + 1) * 2 ^ (h + 1) = (2 * k + 1 + 1) * 2 ^ h ∧ 2 * k * 2 ^ h + 2 ^ h = (2 * k + 1) * 2 ^ h ∧ (2 * k + 1) * 2 ^ h + 2 ^ h = (2 * k + 1 + 1) * 2 ^ h := by
  obtain ⟨a, b⟩ := twice_pow h k
  refine ⟨a, b, ?_, ?_⟩
  · rw [Nat.add_mul (2 * k) 1, Nat.one_mul]
  · rw [Nat.add_mul (2 * k + 1) 1, Nat.one_mul]
theorem seg_kids (F T h k : Nat) : (SG F T (h + 1) k).filter (fun y => decide (y < (2 * k + 1) * 2 ^ h)) = SG F T h (2 * k) ∧ (SG F T (h + 1) k).filter (fun y => !decide (y < (2 * k + 1) * 2 ^ h)) = SG F T h (2 * k + 1) := by
  obtain ⟨t1, t2, t3, t4⟩ := mid_node h k
  have hp := Nat.two_pow_pos h
  unfold SG
  rw [t1, t2, SEG_low, SEG_high]
  generalize 2 * k * 2 ^ h = A at *
  generalize (2 * k + 1) * 2 ^ h = B at *
  generalize (2 * k + 1 + 1) * 2 ^ h = C at *
  generalize 2 ^ h = P at *
  constructor
  · congr 1
    omega
  · congr 1
    omega
theorem need_kids {F T h k : Nat} (e : ¬ APRT F T (h + 1) k) : NEED (h + 1) k (SG F T (h + 1) k) = NEED h (2 * k) (SG F T h (2 * k)) ++ NEED h (2 * k + 1) (SG F T h (2 * k + 1)) := by
  obtain ⟨s1, s2⟩ := seg_kids F T h k
  have hne : SG F T (h + 1) k ≠ [] := SEG_ne (Nat.lt_of_not_le e)
  cases hs : SG F T (h + 1) k with
  | nil => exact absurd hs hne
  | cons x l => rw [NEED_node, ← hs, s1, s2]
theorem apart_leaf {F T k : Nat} (e : ¬ APRT F T 0 k) : WITHN F T 0 k := by
  unfold APRT at e
  unfold WITHN
  rw [Nat.pow_zero] at *
  omega
theorem within_not {F T h k : Nat} (e : WITHN F T h k) : ¬ APRT F T h k := by
  unfold WITHN at e
  unfold APRT
  have h1 : k * 2 ^ h + 2 ^ h = (k + 1) * 2 ^ h := by rw [Nat.add_mul, Nat.one_mul]
  have hp := Nat.two_pow_pos h
  generalize 2 ^ h = P at *
  generalize k * P = A at *
  generalize (k + 1) * P = B at *
  omega
theorem within_kids {F T h k : Nat} (e : WITHN F T (h + 1) k) : WITHN F T h (2 * k) ∧ WITHN F T h (2 * k + 1) := by
  obtain ⟨t1, t2, t3, t4⟩ := mid_node h k
  unfold WITHN at *
  rw [t1, t2] at e
  generalize 2 * k * 2 ^ h = A at *
  generalize (2 * k + 1) * 2 ^ h = B at *
  generalize (2 * k + 1 + 1) * 2 ^ h = C at *
  generalize 2 ^ h = P at *
  omega
theorem need_within {F T : Nat} : ∀ {h k : Nat}, WITHN F T h k → NEED h k (SG F T h k) = []
  | 0, k, e => by
    have hne : SG F T 0 k ≠ [] := SEG_ne (Nat.lt_of_not_le (within_not e))
    cases hs : SG F T 0 k with
    | nil => exact absurd hs hne
    | cons x l => rfl
  | h + 1, k, e => by
    obtain ⟨a, b⟩ := within_kids e
    rw [need_kids (within_not e), need_within a, need_within b]
    rfl
/-- how many ends of the span lie within the node, not at its ends. -/
def CROSS (F T h k : Nat) : Nat := (if k * 2 ^ h < F ∧ F < (k + 1) * 2 ^ h then 1 else 0) + (if k * 2 ^ h < T ∧ T < (k + 1) * 2 ^ h then 1 else 0)
theorem cross_kids (F T h k : Nat) : CROSS F T h (2 * k) + CROSS F T h (2 * k + 1) ≤ CROSS F T (h + 1) k := by
  obtain ⟨t1, t2, t3, t4⟩ := mid_node h k
  unfold CROSS
  rw [t1, t2]
  have hp := Nat.two_pow_pos h
  generalize 2 * k * 2 ^ h = A at *
  generalize (2 * k + 1) * 2 ^ h = B at *
  generalize (2 * k + 1 + 1) * 2 ^ h = C at *
  generalize 2 ^ h = P at *
  (repeat' split) <;> omega
theorem cross_some {F T h k : Nat} (e : ¬ APRT F T h k) (e' : ¬ WITHN F T h k) : 1 ≤ CROSS F T h k := by
  unfold APRT at e
  unfold WITHN at e'
  unfold CROSS
  generalize k * 2 ^ h = A at *
  generalize (k + 1) * 2 ^ h = B at *
  (repeat' split) <;> omega
theorem need_few (F T : Nat) : ∀ (h k : Nat), (NEED h k (SG F T h k)).length ≤ 1 + h * CROSS F T h k
  | 0, k => by
    by_cases e : APRT F T 0 k
    · rw [need_apart e]; simp
    · rw [need_within (apart_leaf e)]; simp
  | h + 1, k => by
    by_cases e : APRT F T (h + 1) k
    · rw [need_apart e]; simp
    · by_cases e' : WITHN F T (h + 1) k
      · rw [need_within e']; simp
      · rw [need_kids e, List.length_append]
        have h1 := need_few F T h (2 * k)
        have h2 := need_few F T h (2 * k + 1)
        have h3 := cross_kids F T h k
        have h4 := cross_some e e'
        generalize CROSS F T h (2 * k) = c1 at *
        generalize CROSS F T h (2 * k + 1) = c2 at *
        generalize CROSS F T (h + 1) k = c at *
        have h5 : h * (c1 + c2) ≤ h * c := Nat.mul_le_mul_left h h3
        rw [Nat.mul_add] at h5
        rw [Nat.add_mul h 1, Nat.one_mul]
        generalize h * c1 = x at *
        generalize h * c2 = y at *
        generalize h * c = z at *
        omega
/-- what the peaks behind A need of a span. -/
theorem needs_seg (F T : Nat) : ∀ (ps : List (Nat × Nat)) (A B : Nat), Tile A ps B → T ≤ B → NEEDS ps (SEG (max F A) T) = (ps.map fun s => NEED s.1 s.2 (SG F T s.1 s.2)).flatten
  | [], _, _, _, _ => rfl
  | (h, k) :: ps, A, B, ht, hT => by
    obtain ⟨hN, hA, ht⟩ : Node h k ∧ k * 2 ^ h = A ∧ Tile ((k + 1) * 2 ^ h) ps B := ht
    have hp : A + 2 ^ h = (k + 1) * 2 ^ h := by rw [← hA, Nat.add_mul, Nat.one_mul]
    have h2 := Nat.two_pow_pos h
    rw [NEEDS, SEG_low, SEG_high, show max (max F A) ((k + 1) * 2 ^ h) = max F ((k + 1) * 2 ^ h) by omega, needs_seg F T ps _ B ht hT, List.map_cons, List.flatten_cons]
    unfold SG
    rw [hA]
theorem cross_sum (F T : Nat) : ∀ (ps : List (Nat × Nat)) (A B : Nat), Tile A ps B → (ps.map fun s => CROSS F T s.1 s.2).sum ≤ (if A < F ∧ F < B then 1 else 0) + (if A < T ∧ T < B then 1 else 0)
  | [], _, _, _ => by simp
  | (h, k) :: ps, A, B, ht => by
    obtain ⟨hN, hA, ht⟩ : Node h k ∧ k * 2 ^ h = A ∧ Tile ((k + 1) * 2 ^ h) ps B := ht
    have hp : A + 2 ^ h = (k + 1) * 2 ^ h := by rw [← hA, Nat.add_mul, Nat.one_mul]
    have h2 := Nat.two_pow_pos h
    have h3 := ht.bound.1
    have h4 := cross_sum F T ps _ B ht
    rw [List.map_cons, List.sum_cons]
    unfold CROSS at *
    simp only at *
    rw [hA]
    generalize (k + 1) * 2 ^ h = C at *
    generalize (ps.map fun s => (if s.2 * 2 ^ s.1 < F ∧ F < (s.2 + 1) * 2 ^ s.1 then 1 else 0) + (if s.2 * 2 ^ s.1 < T ∧ T < (s.2 + 1) * 2 ^ s.1 then 1 else 0)).sum = s at *
    repeat' split at h4
    all_goals (repeat' split) <;> omega
theorem flat_few (F T : Nat) : ∀ (ps : List (Nat × Nat)), (∀ p ∈ ps, p.1 ≤ 62) → ((ps.map fun s => NEED s.1 s.2 (SG F T s.1 s.2)).flatten).length ≤ ps.length + 62 * (ps.map fun s => CROSS F T s.1 s.2).sum
  | [], _ => by simp
  | (h, k) :: ps, hh => by
    have h1 := flat_few F T ps (fun p hp => hh p (List.mem_cons_of_mem _ hp))
    have h2 := need_few F T h k
    have h3 : h * CROSS F T h k ≤ 62 * CROSS F T h k := Nat.mul_le_mul_right _ (hh (h, k) (List.mem_cons_self ..))
    rw [List.map_cons, List.flatten_cons, List.length_append, List.map_cons, List.sum_cons, List.length_cons, Nat.mul_add]
    show (NEED h k (SG F T h k)).length + _ ≤ _ + (62 * CROSS F T h k + _)
    omega
/-- what a span of n leaves needs. -/
def SPP (F T N : Nat) : List Nat := NEEDS (TPS N) (SEG F T)
theorem SPP_flat {F T N : Nat} (hN : N ≤ 4611686018427387904) (hT : T ≤ N) : SPP F T N = ((TPS N).map fun s => NEED s.1 s.2 (SG F T s.1 s.2)).flatten := by
  have h := needs_seg F T (TPS N) 0 N (TPS_tile hN) hT
  rw [Nat.max_zero] at h
  exact h
theorem SPP_few {F T N : Nat} (hN : N ≤ 4611686018427387904) (hT : T ≤ N) : (SPP F T N).length ≤ 188 := by
  rw [SPP_flat hN hT]
  have h1 := flat_few F T (TPS N) (fun p hp => (TPS_span (n := N) (by omega) (h := p.1) (k := p.2) hp).1)
  have h2 := cross_sum F T (TPS N) 0 N (TPS_tile hN)
  have h3 := TPS_length (n := N) (by omega)
  have h4 : PC N ≤ 64 := PC_lt_pow 64 N (by omega)
  repeat' split at h2
  all_goals omega
/-- Places' error. -/
def SPE (F T N : Nat) : Int := if 4611686018427387904 < N then 30 else if T < F ∨ N < T then 32 else 0
end Go.Proofs.YtmkgldjocigffaaDoor

/- A list of numbers of one's own lies there; what lies there stays. -/
namespace Go.Proofs.YtmkgldjocigffaaDoor
open Go.RowKit
set_option maxRecDepth 100000

theorem NUML.keep {w w' : World} {a : Option Addr} {L : List Nat} (h : NUML w a L) (hb : Below w.heap.size w w') : NUML w' a L := fun h0 => by
  obtain ⟨b, o, e, hl, hc⟩ := h h0
  exact ⟨b, o, e, Nat.lt_of_lt_of_le hl hb.size, fun i x hx => (hb.cell (p := ⟨b, o + i, none⟩) hl).trans (hc i x hx)⟩
end Go.Proofs.YtmkgldjocigffaaDoor

/- massifref20.needs: the spots that a span needs, from the left. -/
namespace Go.Proofs.YtmkgldjocigffaaDoor
open Go.RowKit
set_option maxRecDepth 100000

theorem nsp_apart {F T h k : Nat} (e : APRT F T h k) : NSP h k (SG F T h k) = [(h, k)] := by rw [SG, SEG_nil e, NSP_nil]
theorem nsp_kids {F T h k : Nat} (e : ¬ APRT F T (h + 1) k) : NSP (h + 1) k (SG F T (h + 1) k) = NSP h (2 * k) (SG F T h (2 * k)) ++ NSP h (2 * k + 1) (SG F T h (2 * k + 1)) := by
  obtain ⟨s1, s2⟩ := seg_kids F T h k
  have hne : SG F T (h + 1) k ≠ [] := SEG_ne (Nat.lt_of_not_le e)
  cases hs : SG F T (h + 1) k with
  | nil => exact absurd hs hne
  | cons x l => rw [NSP, ← hs, s1, s2]
theorem nsp_within {F T h k : Nat} (e : WITHN F T h k) : NSP h k (SG F T h k) = [] := by
  have h1 := need_within e
  rw [NEED_NSP] at h1
  exact List.map_eq_nil_iff.1 h1
theorem nsp_few (F T h k : Nat) : (NSP h k (SG F T h k)).length ≤ 1 + h * CROSS F T h k := by
  have h1 := need_few F T h k
  rw [NEED_NSP, List.length_map] at h1
  exact h1
theorem cross_two (F T h k : Nat) : CROSS F T h k ≤ 2 := by
  unfold CROSS
  (repeat' split) <;> omega
/-- the numbers of a node, as the document reckons them. -/
structure NUMS (h k A B : Nat) (z : Int) : Prop where
  a : IntKind.u64.wrap ((k : Int) * z) = (A : Int)
  k1 : IntKind.u64.wrap ((k : Int) + 1) = ((k + 1 : Nat) : Int)
  b : IntKind.u64.wrap (((k + 1 : Nat) : Int) * z) = (B : Int)
theorem node_nums {h k : Nat} (hN : Node h k) : NUMS h k (k * 2 ^ h) ((k + 1) * 2 ^ h) ((2 ^ h : Nat) : Int) := by
  have h1 : (k + 1) * 2 ^ h ≤ 2 ^ 62 := by
    have h2 : (k + 1) * 2 ^ h ≤ 2 ^ (62 - h) * 2 ^ h := Nat.mul_le_mul_right _ hN.2
    rw [← Nat.pow_add, show 62 - h + h = 62 by have := hN.1; omega] at h2
    exact h2
  have h3 : k * 2 ^ h ≤ (k + 1) * 2 ^ h := Nat.mul_le_mul_right _ (by omega)
  have h4 : k + 1 ≤ (k + 1) * 2 ^ h := Nat.le_mul_of_pos_right _ (Nat.two_pow_pos h)
  refine ⟨?_, ?_, ?_⟩
  · rw [← Int.natCast_mul, wrapU]; generalize k * 2 ^ h = A at *; omega
  · rw [wrapU]; omega
  · rw [← Int.natCast_mul, wrapU]; generalize (k + 1) * 2 ^ h = B at *; omega
set_option maxHeartbeats 2000000 in
theorem rmeets_ok (h k F T : Nat) (hN : Node h k) (w : World) : Calls Tryd.prog 47 #[SPOT h k, .int .u64 (F : Int), .int .u64 (T : Int)] w fun e w' => e = .returned (.bool (decide (¬ APRT F T h k))) ∧ Below w.heap.size w w' := by
  have cp := power_ok h (by have := hN.1; omega)
  have hm : wrap64 (h : Int) = (h : Int) := by have := hN.1; unfold wrap64; omega
  obtain ⟨n1, n2, n3⟩ := node_nums hN
  obtain ⟨r, hr⟩ : ∃ r, decide (¬ APRT F T h k) = r := ⟨_, rfl⟩
  have hlt : k * 2 ^ h < (k + 1) * 2 ^ h := by
    have : k * 2 ^ h + 2 ^ h = (k + 1) * 2 ^ h := by rw [Nat.add_mul, Nat.one_mul]
    have := Nat.two_pow_pos h
    omega
  unfold APRT at hr
  rw [hr]
  generalize k * 2 ^ h = A at *
  generalize (k + 1) * 2 ^ h = B at *
  have g : (¬ (F : Int) < (T : Int) ∧ r = false) ∨ ((F : Int) < (T : Int) ∧ ¬ (A : Int) < (T : Int) ∧ r = false) ∨ ((F : Int) < (T : Int) ∧ (A : Int) < (T : Int) ∧ ¬ (F : Int) < (B : Int) ∧ r = false) ∨ ((F : Int) < (T : Int) ∧ (A : Int) < (T : Int) ∧ (F : Int) < (B : Int) ∧ r = true) := by
    by_cases h1 : F < T
    · by_cases h2 : A < T
      · by_cases h3 : F < B
        · exact .inr (.inr (.inr ⟨by omega, by omega, by omega, by rw [← hr]; exact decide_eq_true (by omega)⟩))
        · exact .inr (.inr (.inl ⟨by omega, by omega, by omega, by rw [← hr]; exact decide_eq_false (by omega)⟩))
      · exact .inr (.inl ⟨by omega, by omega, by rw [← hr]; exact decide_eq_false (by omega)⟩)
    · exact .inl ⟨by omega, by rw [← hr]; exact decide_eq_false (by omega)⟩
  clear hr hlt hN
  obtain ⟨w1, e1⟩ : ∃ w1, w.alloc (.cells #[.int .u8 (h : Int), .int .u64 (k : Int)] 55) = w1 := ⟨_, rfl⟩
  have hB : Has w1 w.heap.size #[.int .u8 (h : Int), .int .u64 (k : Int)] 55 := by rw [← e1]; exact Has.new w _ _
  have hb1 : Below w.heap.size w w1 := by rw [← e1]; exact (Below.refl _ _).alloc (Nat.le_refl _) _
  have c0 := hB.cell 0
  have c1 := hB.cell 1
  have HB : Aside (Below w.heap.size w w1) := hb1
  clear hB hb1
  generalize ((2 ^ h : Nat) : Int) = z at *
  generalize hk1 : ((k + 1 : Nat) : Int) = k1 at *
  clear hk1
  have hS : SPOT h k = .agg #[.int .u8 (h : Int), .int .u64 (k : Int)] := rfl
  rcases g with ⟨g1, rfl⟩ | ⟨g1, g2, rfl⟩ | ⟨g1, g2, g3, rfl⟩ | ⟨g1, g2, g3, rfl⟩
  all_goals
    go_enter Tryd.func47, Tryd.ntmps47
    rw [hS]
    go_wp2_with fail
    refine (cp _).mono ?_
    rintro e w' ⟨rfl, rfl⟩
    clear cp hm
    go_wp2_with fail
    go_ret
    exact ⟨by first | rfl | exact congrArg (fun b => Ending.returned (.bool b)) (decide_eq_false (by omega)) | exact congrArg (fun b => Ending.returned (.bool b)) (decide_eq_true (by omega)), HB.out⟩
set_option maxHeartbeats 2000000 in
theorem rwithin_ok (h k F T : Nat) (hN : Node h k) (w : World) : Calls Tryd.prog 48 #[SPOT h k, .int .u64 (F : Int), .int .u64 (T : Int)] w fun e w' => e = .returned (.bool (decide (WITHN F T h k))) ∧ Below w.heap.size w w' := by
  have cp := power_ok h (by have := hN.1; omega)
  have hm : wrap64 (h : Int) = (h : Int) := by have := hN.1; unfold wrap64; omega
  obtain ⟨n1, n2, n3⟩ := node_nums hN
  obtain ⟨r, hr⟩ : ∃ r, decide (WITHN F T h k) = r := ⟨_, rfl⟩
  unfold WITHN at hr
  rw [hr]
  generalize k * 2 ^ h = A at *
  generalize (k + 1) * 2 ^ h = B at *
  have g : (¬ (F : Int) ≤ (A : Int) ∧ r = false) ∨ ((F : Int) ≤ (A : Int) ∧ ¬ (B : Int) ≤ (T : Int) ∧ r = false) ∨ ((F : Int) ≤ (A : Int) ∧ (B : Int) ≤ (T : Int) ∧ r = true) := by
    by_cases h1 : F ≤ A
    · by_cases h2 : B ≤ T
      · exact .inr (.inr ⟨by omega, by omega, by rw [← hr]; exact decide_eq_true ⟨h1, h2⟩⟩)
      · exact .inr (.inl ⟨by omega, by omega, by rw [← hr]; exact decide_eq_false fun h => h2 h.2⟩)
    · exact .inl ⟨by omega, by rw [← hr]; exact decide_eq_false fun h => h1 h.1⟩
  clear hr hN
  obtain ⟨w1, e1⟩ : ∃ w1, w.alloc (.cells #[.int .u8 (h : Int), .int .u64 (k : Int)] 55) = w1 := ⟨_, rfl⟩
  have hB : Has w1 w.heap.size #[.int .u8 (h : Int), .int .u64 (k : Int)] 55 := by rw [← e1]; exact Has.new w _ _
  have hb1 : Below w.heap.size w w1 := by rw [← e1]; exact (Below.refl _ _).alloc (Nat.le_refl _) _
  have c0 := hB.cell 0
  have c1 := hB.cell 1
  have HB : Aside (Below w.heap.size w w1) := hb1
  clear hB hb1
  generalize ((2 ^ h : Nat) : Int) = z at *
  generalize hk1 : ((k + 1 : Nat) : Int) = k1 at *
  clear hk1
  have hS : SPOT h k = .agg #[.int .u8 (h : Int), .int .u64 (k : Int)] := rfl
  rcases g with ⟨g1, rfl⟩ | ⟨g1, g2, rfl⟩ | ⟨g1, g2, rfl⟩
  all_goals
    go_enter Tryd.func48, Tryd.ntmps48
    rw [hS]
    go_wp2_with fail
    refine (cp _).mono ?_
    rintro e w' ⟨rfl, rfl⟩
    clear cp hm
    go_wp2_with fail
    go_ret
    exact ⟨by first | rfl | exact congrArg (fun b => Ending.returned (.bool b)) (decide_eq_false (by omega)) | exact congrArg (fun b => Ending.returned (.bool b)) (decide_eq_true (by omega)), HB.out⟩
/-- what needs answers. -/
def NDED20 (w : World) (l : List (Nat × Nat)) (e : Ending) (w' : World) : Prop := ∃ a c, e = .returned (.slice a l.length c) ∧ w'.ownsRow w.heap.size 55 2 (.slice a l.length c) l.length (SCELLS l) ∧ Below w.heap.size w w'
set_option maxHeartbeats 2000000 in
theorem sneeds_apart (h k F T : Nat) (hN : Node h k) (e : APRT F T h k) (w : World) :
    Calls Tryd.prog 27 #[SPOT h k, .int .u64 (F : Int), .int .u64 (T : Int)] w (NDED20 w [(h, k)]) := by
  obtain ⟨w1, e1⟩ : ∃ w1, w.alloc (.cells #[.int .u8 (h : Int), .int .u64 (k : Int)] 55) = w1 := ⟨_, rfl⟩
  have hB : Has w1 w.heap.size #[.int .u8 (h : Int), .int .u64 (k : Int)] 55 := by rw [← e1]; exact Has.new w _ _
  have hb1 : Below w.heap.size w w1 := by rw [← e1]; exact (Below.refl _ _).alloc (Nat.le_refl _) _
  have cu := rmeets_ok h k F T hN w1
  rw [decide_eq_false (fun h => h e)] at cu
  have HA : Aside (Has w1 w.heap.size #[.int .u8 (h : Int), .int .u64 (k : Int)] 55 ∧ Below w.heap.size w w1) := ⟨hB, hb1⟩
  have x0 := hB.cell 0
  have x1 := hB.cell 1
  clear hN e hB hb1
  unfold SPOT at *
  go_enter Tryd.func27, Tryd.ntmps27
  go_wp2_with fail
  refine cu.mono ?_
  rintro e w2 ⟨rfl, hb2⟩
  have k2 := HA.out.1.keep hb2
  have x0 := k2.cell 0
  have x1 := k2.cell 1
  have FN : Aside (Below w.heap.size w w2) := HA.out.2.trans (hb2.mono HA.out.2.size)
  clear cu hb2 k2 HA e1
  go_wp2_with fail
  go_ret
  exact ⟨_, _, rfl, own_mono (own_aspot w2 h k) FN.out.size, FN.out.alloc FN.out.size _⟩
set_option maxHeartbeats 2000000 in
theorem sneeds_within (h k F T : Nat) (hN : Node h k) (e : WITHN F T h k) (w : World) :
    Calls Tryd.prog 27 #[SPOT h k, .int .u64 (F : Int), .int .u64 (T : Int)] w (NDED20 w []) := by
  obtain ⟨w1, e1⟩ : ∃ w1, w.alloc (.cells #[.int .u8 (h : Int), .int .u64 (k : Int)] 55) = w1 := ⟨_, rfl⟩
  have hB : Has w1 w.heap.size #[.int .u8 (h : Int), .int .u64 (k : Int)] 55 := by rw [← e1]; exact Has.new w _ _
  have hb1 : Below w.heap.size w w1 := by rw [← e1]; exact (Below.refl _ _).alloc (Nat.le_refl _) _
  have cu := rmeets_ok h k F T hN w1
  rw [decide_eq_true (within_not e)] at cu
  have cw := fun w => rwithin_ok h k F T hN w
  rw [decide_eq_true e] at cw
  have HA : Aside (Has w1 w.heap.size #[.int .u8 (h : Int), .int .u64 (k : Int)] 55 ∧ Below w.heap.size w w1) := ⟨hB, hb1⟩
  have x0 := hB.cell 0
  have x1 := hB.cell 1
  clear hN e hB hb1
  unfold SPOT at *
  go_enter Tryd.func27, Tryd.ntmps27
  go_wp2_with fail
  refine cu.mono ?_
  rintro e w2 ⟨rfl, hb2⟩
  have k2 := HA.out.1.keep hb2
  have x0 := k2.cell 0
  have x1 := k2.cell 1
  have FN : Aside (Below w.heap.size w w2) := HA.out.2.trans (hb2.mono HA.out.2.size)
  clear cu hb2 k2 HA e1
  go_wp2_with fail
  refine (cw w2).mono ?_
  rintro e w3 ⟨rfl, hb3⟩
  have F2 : Aside (Below w.heap.size w w3) := FN.out.trans (hb3.mono FN.out.size)
  clear cw hb3 FN x0 x1
  go_wp2_with fail
  go_ret
  exact ⟨none, 0, rfl, ⟨rfl, .inl ⟨rfl, rfl⟩⟩, F2.out⟩
set_option maxHeartbeats 4000000 in
theorem sneeds_kids (h k F T : Nat) (hN : Node (h + 1) k) (e : ¬ APRT F T (h + 1) k) (e' : ¬ WITHN F T (h + 1) k) (w : World)
    (ih : ∀ (k : Nat), Node h k → ∀ (w : World), Calls Tryd.prog 27 #[SPOT h k, .int .u64 (F : Int), .int .u64 (T : Int)] w (NDED20 w (NSP h k (SG F T h k)))) :
    Calls Tryd.prog 27 #[SPOT (h + 1) k, .int .u64 (F : Int), .int .u64 (T : Int)] w (NDED20 w (NSP (h + 1) k (SG F T (h + 1) k))) := by
  rw [nsp_kids e]
  obtain ⟨w1, e1⟩ : ∃ w1, w.alloc (.cells #[.int .u8 ((h + 1 : Nat) : Int), .int .u64 (k : Int)] 55) = w1 := ⟨_, rfl⟩
  have hB : Has w1 w.heap.size #[.int .u8 ((h + 1 : Nat) : Int), .int .u64 (k : Int)] 55 := by rw [← e1]; exact Has.new w _ _
  have hb1 : Below w.heap.size w w1 := by rw [← e1]; exact (Below.refl _ _).alloc (Nat.le_refl _) _
  have cu := rmeets_ok (h + 1) k F T hN w1
  rw [decide_eq_true e] at cu
  have cw := fun w => rwithin_ok (h + 1) k F T hN w
  rw [decide_eq_false e'] at cw
  obtain ⟨hNl, hNr⟩ := hN.kid
  have m1 := nsp_few F T h (2 * k)
  have m2 := nsp_few F T h (2 * k + 1)
  have q1 := cross_two F T h (2 * k)
  have q2 := cross_two F T h (2 * k + 1)
  have hh62 := hN.1
  have hk62 := hN.2
  have hp62 : 2 ^ (62 - (h + 1)) ≤ 2 ^ 62 := Nat.pow_le_pow_right (by decide) (by omega)
  have s1 : h * CROSS F T h (2 * k) ≤ 62 * 2 := Nat.mul_le_mul (by omega) q1
  have s2 : h * CROSS F T h (2 * k + 1) ≤ 62 * 2 := Nat.mul_le_mul (by omega) q2
  have IH1 : Aside (∀ W, Calls Tryd.prog 27 #[.agg #[.int .u8 (h : Int), .int .u64 ((2 * k : Nat) : Int)], .int .u64 (F : Int), .int .u64 (T : Int)] W (NDED20 W (NSP h (2 * k) (SG F T h (2 * k))))) := fun W => ih (2 * k) hNl W
  have IH2 : Aside (∀ W, Calls Tryd.prog 27 #[.agg #[.int .u8 (h : Int), .int .u64 ((2 * k + 1 : Nat) : Int)], .int .u64 (F : Int), .int .u64 (T : Int)] W (NDED20 W (NSP h (2 * k + 1) (SG F T h (2 * k + 1))))) := fun W => ih (2 * k + 1) hNr W
  generalize NSP h (2 * k) (SG F T h (2 * k)) = A at *
  generalize NSP h (2 * k + 1) (SG F T h (2 * k + 1)) = B at *
  have ew1 : IntKind.u8.wrap (((h + 1 : Nat) : Int) - 1) = (h : Int) := by
    show (((h + 1 : Nat) : Int) - 1) % 256 = (h : Int)
    omega
  have ew2 : IntKind.u64.wrap (2 * (k : Int)) = ((2 * k : Nat) : Int) := by rw [wrapU]; omega
  have ew3 : IntKind.u64.wrap (((2 * k : Nat) : Int) + 1) = ((2 * k + 1 : Nat) : Int) := by rw [wrapU]; omega
  have HA : Aside (Has w1 w.heap.size #[.int .u8 ((h + 1 : Nat) : Int), .int .u64 (k : Int)] 55 ∧ Below w.heap.size w w1 ∧ A.length + B.length ≤ 2 ^ 26) := ⟨hB, hb1, by omega⟩
  have EW : Aside (IntKind.u8.wrap (((h + 1 : Nat) : Int) - 1) = (h : Int) ∧ IntKind.u64.wrap (2 * (k : Int)) = ((2 * k : Nat) : Int) ∧ IntKind.u64.wrap (((2 * k : Nat) : Int) + 1) = ((2 * k + 1 : Nat) : Int)) := ⟨ew1, ew2, ew3⟩
  have hS : SPOT (h + 1) k = .agg #[.int .u8 ((h + 1 : Nat) : Int), .int .u64 (k : Int)] := rfl
  have x0 := hB.cell 0
  have x1 := hB.cell 1
  rw [hS] at *
  clear e e' hB hb1 hNl hNr m1 m2 q1 q2 hk62 hh62 hp62 s1 s2 ih hN ew3
  generalize h + 1 = H at *
  generalize 2 * k = k2 at *
  generalize k2 + 1 = k3 at *
  go_enter Tryd.func27, Tryd.ntmps27
  go_wp2_with fail
  refine cu.mono ?_
  rintro e w2 ⟨rfl, hb2⟩
  have k2h := HA.out.1.keep hb2
  have x0 := k2h.cell 0
  have x1 := k2h.cell 1
  have N2 : Aside (Has w2 w.heap.size #[.int .u8 (H : Int), .int .u64 (k : Int)] 55 ∧ Below w.heap.size w w2) := ⟨k2h, HA.out.2.1.trans (hb2.mono HA.out.2.1.size)⟩
  clear cu hb2 k2h e1
  go_wp2_with fail
  refine (cw w2).mono ?_
  rintro e w3 ⟨rfl, hb3⟩
  have k3h := N2.out.1.keep hb3
  have x0 := k3h.cell 0
  have x1 := k3h.cell 1
  have N3 : Aside (Has w3 w.heap.size #[.int .u8 (H : Int), .int .u64 (k : Int)] 55 ∧ Below w.heap.size w w3) := ⟨k3h, N2.out.2.trans (hb3.mono N2.out.2.size)⟩
  have c1 := IH1.out w3
  clear cw hb3 k3h N2 IH1
  go_wp2_with fail
  refine c1.mono ?_
  rintro e w4 ⟨a4, c4, rfl, hown4, hb4⟩
  have N4 : Aside (Has w4 w.heap.size #[.int .u8 (H : Int), .int .u64 (k : Int)] 55 ∧ Below w.heap.size w w4 ∧ w4.ownsRow w3.heap.size 55 2 (.slice a4 A.length c4) A.length (SCELLS A)) := ⟨N3.out.1.keep hb4, N3.out.2.trans (hb4.mono N3.out.2.size), hown4⟩
  clear c1 hown4 hb4 N3 x0 x1 ew1 ew2
  go_upto_region 6 with fail
  refine sneeds6 w4 w.heap.size H h k k2 k3 F T w3.heap.size a4 A.length c4 B.length A B N4.out.1.lt (N4.out.1.cell 0) (N4.out.1.cell 1) EW.out.1 EW.out.2.1 EW.out.2.2 N4.out.2.2 HA.out.2.2 (fun W hb => IH2.out W) (fun _ _ _ _ _ h => h) ?_
  intro z a5 q5 a6 q6 a7 q7 w5 ⟨hb5, hown5⟩
  have FN : Aside (NDED20 w (A ++ B) (.returned (.slice a7 (A.length + B.length) q7)) w5) := ⟨a7, q7, by rw [List.length_append], by rw [List.length_append]; exact own_mono hown5 N4.out.2.1.size, N4.out.2.1.trans (hb5.mono N4.out.2.1.size)⟩
  clear hb5 hown5 N4 IH2 EW HA
  dsimp only
  go_wp2_with fail
  go_ret
  exact FN.out
theorem sneeds_ok (F T : Nat) : ∀ (h k : Nat), Node h k → ∀ (w : World), Calls Tryd.prog 27 #[SPOT h k, .int .u64 (F : Int), .int .u64 (T : Int)] w (NDED20 w (NSP h k (SG F T h k))) := by
  intro h
  induction h with
  | zero =>
    intro k hN w
    by_cases e : APRT F T 0 k
    · rw [nsp_apart e]
      exact sneeds_apart 0 k F T hN e w
    · rw [nsp_within (apart_leaf e)]
      exact sneeds_within 0 k F T hN (apart_leaf e) w
  | succ h ih =>
    intro k hN w
    by_cases e : APRT F T (h + 1) k
    · rw [nsp_apart e]
      exact sneeds_apart (h + 1) k F T hN e w
    · by_cases e' : WITHN F T (h + 1) k
      · rw [nsp_within e']
        exact sneeds_within (h + 1) k F T hN e' w
      · exact sneeds_kids h k F T hN e e' w ih
end Go.Proofs.YtmkgldjocigffaaDoor

/- needUnder and need of package span, with the closure of Places. -/
namespace Go.Proofs.YtmkgldjocigffaaDoor
open Go.RowKit
set_option maxRecDepth 100000

theorem apart_eq {F T h k A B : Nat} {b : Bool} (hA : k * 2 ^ h = A) (hB : (k + 1) * 2 ^ h = B) (hb : b = decide (min T B ≤ max F A)) : b = decide (APRT F T h k) := by
  rw [hb]
  unfold APRT
  rw [hA, hB]
theorem apart_ok (h k F T : Nat) (hN : Node h k) (w : World) : Calls Tryd.prog 64 #[.int .u64 ((PLC h k : Nat) : Int), .int .u64 (F : Int), .int .u64 (T : Int)] w fun e w' => e = .returned (.bool (decide (APRT F T h k))) ∧ Below w.heap.size w w' := by
  have cu := under_ok h k hN w
  obtain ⟨A, hA⟩ : ∃ A, k * 2 ^ h = A := ⟨_, rfl⟩
  obtain ⟨B, hB⟩ : ∃ B, (k + 1) * 2 ^ h = B := ⟨_, rfl⟩
  obtain ⟨r, hr⟩ : ∃ r, decide (APRT F T h k) = r := ⟨_, rfl⟩
  rw [hA, hB] at cu
  have HD : Aside (∀ b, b = decide (min T B ≤ max F A) → b = r) := fun b hb => hr ▸ apart_eq hA hB hb
  rw [hr]
  clear hA hB hN hr
  go_enter Tryd.func64, Tryd.ntmps64
  go_wp2_with fail
  refine cu.mono ?_
  rintro e w1 ⟨rfl, hb⟩
  clear cu
  have HB : Aside (Below w.heap.size w w1) := hb
  clear hb
  go_wp2
  all_goals
    go_ret
    refine ⟨congrArg (fun b => Ending.returned (.bool b)) (HD.out _ ?_), HB.out⟩
    congr 1
    simp only [eq_iff_iff]
    omega
/-- what is told under a node. -/
def STOLD (w0 : World) (bp : Nat) (acc l : List Nat) (e : Ending) (w' : World) : Prop := e = .returned (.tuple #[]) ∧ TAKING w0 w' bp (acc ++ l)
set_option maxHeartbeats 1000000 in
theorem stake_ok {w0 w : World} {bp : Nat} {acc : List Nat} (hK : TAKING w0 w bp acc) (p : Nat) (hn : acc.length ≤ 2 ^ 30) : Calls Tryd.prog 30 #[.int .u64 (p : Int), .pointer (some ⟨bp, 0, none⟩)] w fun e w' => e = .returned (.tuple #[]) ∧ TAKING w0 w' bp (acc ++ [p]) := by
  obtain ⟨v, hv, hown⟩ := hK.row
  obtain ⟨a, c, rfl⟩ := own_sliced hown
  have c0 : w.cell? ⟨bp, 0, none⟩ = some (.slice a acc.length c) := hv.cell 0
  have HA : Aside (TAKING w0 w bp acc ∧ acc.length ≤ 2 ^ 30 ∧ Has w bp #[.slice a acc.length c] 23 ∧ w.ownsRow w0.heap.size 22 1 (.slice a acc.length c) acc.length (UCELLS acc)) := ⟨hK, hn, hv, hown⟩
  clear hK hn hv hown
  obtain ⟨n, hn⟩ : ∃ n, acc.length = n := ⟨_, rfl⟩
  rw [hn] at HA c0
  have HN : Aside (acc.length = n) := hn
  clear hn
  go_enter Tryd.func30, Tryd.ntmps30
  go_wp2_with (first
    | (at_builtin; refine app_num _ rfl (.tmp 3) (.tmp 5) rfl w0.heap.size (.slice a n c) n acc rfl (HA.out.2.2.2.alloc _) w.heap.size 1 p rfl ((Has.new _ _ _).cell 0) HA.out.2.1 (by have := HA.out.1.below.size; simp; omega) ?_; intro g1 c1 w1 hown1 hgrow1 hg1
       have hbp : Has w1 bp #[.slice a n c] 23 := by
         refine (hgrow1.block bp (by have := HA.out.2.2.1.lt; simp; omega) (fun e => ?_)).trans (HA.out.2.2.1.alloc _)
         have := (HA.out.2.2.2.lt bp e.symm).1
         have := HA.out.1.lt
         omega
       have x0 := hbp.cell 0
       have x1 := hbp.frozen 0
       have FN : Aside (TAKING w0 (w1.setCell ⟨bp, 0, none⟩ (.slice (some ⟨g1, 0, none⟩) (n + 1) c1)) bp (acc ++ [p])) := by
         have hlt := HA.out.1.lt
         have hsz := HA.out.1.below.size
         refine ⟨⟨.slice (some ⟨g1, 0, none⟩) (n + 1) c1, hbp.set 0 _, ?_⟩, fun b hb hne => ?_, hlt, ?_⟩
         · rw [List.length_append, HN.out]
           exact ownsRow_setCell_below hown1 (a := ⟨bp, 0, none⟩) hlt _
         · rw [Below.heap_setCell _ _ _ _ (by exact hne), hgrow1.block b (by simp; omega) (fun e => by have := (HA.out.2.2.2.lt b e.symm).1; omega), Below.heap_alloc _ _ _ (by omega)]
           exact HA.out.1.keep b hb hne
         · refine ((HA.out.1.below.alloc (by omega) _).grown hgrow1 (by simp; omega) (fun k e => ?_)).setCell (Nat.le_refl _) _
           have := (HA.out.2.2.2.lt k e).1
           omega
       clear hown1 hgrow1 hg1 hbp c0))
  exact bodyPost_end (v := .tuple #[]) (by simp [results, Tryd.f30]) rfl ⟨rfl, FN.out⟩
theorem TAKING.stays {w0 w w' : World} {bp : Nat} {acc : List Nat} (h : TAKING w0 w bp acc) (hb : Below w.heap.size w w') : TAKING w0 w' bp acc := by
  obtain ⟨v, h1, h2⟩ := h.row
  have hs := h.below.size
  have hlt := h.lt
  refine ⟨⟨v, h1.keep hb, ?_⟩, fun b hb0 hne => (hb.block b (by omega)).trans (h.keep b hb0 hne), hlt, h.below.trans (hb.mono (by omega))⟩
  refine ⟨h2.1, h2.2.imp id ?_⟩
  rintro ⟨g', c, cur, rfl, b, r, rest⟩
  exact ⟨g', c, cur, rfl, b, (hb.block g' (Array.getElem?_eq_some_iff.1 r).1).trans r, rest⟩
set_option maxHeartbeats 2000000 in
theorem sunder_apart (w0 : World) (CP F T h k : Nat) (hN : Node h k) (e : APRT F T h k) (acc : List Nat) (w : World) (hw : TAKING w0 w CP acc) (hlen : acc.length ≤ 2 ^ 30) :
    Calls Tryd.prog 51 #[.int .u64 ((PLC h k : Nat) : Int), .int .u64 (F : Int), .int .u64 (T : Int), .func (.func 30) #[] #[.pointer (some ⟨CP, 0, none⟩)]] w (STOLD w0 CP acc [PLC h k]) := by
  have ca := apart_ok h k F T hN w
  rw [decide_eq_true e] at ca
  have HS : Aside (TAKING w0 w CP acc ∧ acc.length ≤ 2 ^ 30) := ⟨hw, hlen⟩
  clear hN e hw hlen
  go_enter Tryd.func51, Tryd.ntmps51
  go_wp2_with fail
  refine ca.mono ?_
  rintro e w1 ⟨rfl, h1⟩
  clear ca
  have ct := stake_ok (HS.out.1.stays h1) (PLC h k) HS.out.2
  clear h1 HS
  go_wp2_with fail
  refine ct.mono ?_
  rintro e w2 ⟨rfl, h2⟩
  clear ct
  have FN : Aside (TAKING w0 w2 CP (acc ++ [PLC h k])) := h2
  clear h2
  go_wp2_with fail
  exact bodyPost_ret (v := .tuple #[]) (by simp [results, Tryd.f51]) rfl ⟨rfl, FN.out⟩
set_option maxHeartbeats 2000000 in
theorem sunder_within (w0 : World) (CP F T h k : Nat) (hN : Node h k) (e : WITHN F T h k) (acc : List Nat) (w : World) (hw : TAKING w0 w CP acc) :
    Calls Tryd.prog 51 #[.int .u64 ((PLC h k : Nat) : Int), .int .u64 (F : Int), .int .u64 (T : Int), .func (.func 30) #[] #[.pointer (some ⟨CP, 0, none⟩)]] w (STOLD w0 CP acc []) := by
  have ca := apart_ok h k F T hN w
  rw [decide_eq_false (within_not e)] at ca
  have cu := fun w => under_ok h k hN w
  have e1 : F ≤ k * 2 ^ h := e.1
  have e2 : (k + 1) * 2 ^ h ≤ T := e.2
  have HS : Aside (TAKING w0 w CP acc) := hw
  generalize k * 2 ^ h = A at *
  generalize (k + 1) * 2 ^ h = B at *
  have g1 : (F : Int) ≤ (A : Int) := by omega
  have g2 : (B : Int) ≤ (T : Int) := by omega
  clear hN e hw
  go_enter Tryd.func51, Tryd.ntmps51
  go_wp2_with fail
  refine ca.mono ?_
  rintro e w1 ⟨rfl, h1⟩
  clear ca
  have H1 : Aside (TAKING w0 w1 CP acc) := HS.out.stays h1
  clear h1 HS
  go_wp2_with fail
  refine (cu w1).mono ?_
  rintro e w2 ⟨rfl, h2⟩
  clear cu
  have FN : Aside (TAKING w0 w2 CP (acc ++ [])) := by rw [List.append_nil]; exact H1.out.stays h2
  clear h2 H1
  go_wp2_with fail
  exact bodyPost_ret (v := .tuple #[]) (by simp [results, Tryd.f51]) rfl ⟨rfl, FN.out⟩
set_option maxHeartbeats 2000000 in
theorem sunder_kids (w0 : World) (CP F T h k : Nat) (hN : Node (h + 1) k) (e : ¬ APRT F T (h + 1) k) (e' : ¬ WITHN F T (h + 1) k) (acc : List Nat) (w : World) (hw : TAKING w0 w CP acc) (hlen : acc.length + (NEED (h + 1) k (SG F T (h + 1) k)).length ≤ 2 ^ 30)
    (ih : ∀ (k : Nat), Node h k → ∀ (acc : List Nat) (w : World), TAKING w0 w CP acc → acc.length + (NEED h k (SG F T h k)).length ≤ 2 ^ 30 → Calls Tryd.prog 51 #[.int .u64 ((PLC h k : Nat) : Int), .int .u64 (F : Int), .int .u64 (T : Int), .func (.func 30) #[] #[.pointer (some ⟨CP, 0, none⟩)]] w (STOLD w0 CP acc (NEED h k (SG F T h k)))) :
    Calls Tryd.prog 51 #[.int .u64 ((PLC (h + 1) k : Nat) : Int), .int .u64 (F : Int), .int .u64 (T : Int), .func (.func 30) #[] #[.pointer (some ⟨CP, 0, none⟩)]] w (STOLD w0 CP acc (NEED (h + 1) k (SG F T (h + 1) k))) := by
  have ca := apart_ok (h + 1) k F T hN w
  rw [decide_eq_false e] at ca
  have cu := fun w => under_ok (h + 1) k hN w
  have ck := fun w => kids_ok h k hN w
  obtain ⟨hNl, hNr⟩ := hN.kid
  rw [need_kids e, List.length_append] at hlen
  rw [need_kids e]
  obtain ⟨LL, hLL⟩ : ∃ LL, NEED h (2 * k) (SG F T h (2 * k)) = LL := ⟨_, rfl⟩
  obtain ⟨LR, hLR⟩ : ∃ LR, NEED h (2 * k + 1) (SG F T h (2 * k + 1)) = LR := ⟨_, rfl⟩
  have il := fun acc w => ih (2 * k) hNl acc w
  have ir := fun acc w => ih (2 * k + 1) hNr acc w
  rw [hLL] at il hlen ⊢
  rw [hLR] at ir hlen ⊢
  have HS : Aside (TAKING w0 w CP acc) := hw
  have IH : Aside (_ ∧ _ ∧ acc.length + (LL.length + LR.length) ≤ 2 ^ 30) := ⟨il, ir, hlen⟩
  have hw' : ¬ (F ≤ k * 2 ^ (h + 1) ∧ (k + 1) * 2 ^ (h + 1) ≤ T) := e'
  generalize k * 2 ^ (h + 1) = A at *
  generalize (k + 1) * 2 ^ (h + 1) = B at *
  have g1 : ¬ (F : Int) ≤ (A : Int) ∨ ((F : Int) ≤ (A : Int) ∧ ¬ (B : Int) ≤ (T : Int)) := by
    by_cases h1 : F ≤ A
    · exact .inr ⟨by omega, fun h2 => hw' ⟨h1, by omega⟩⟩
    · exact .inl (by omega)
  clear hN e e' hw ih il ir hLL hLR hlen hNl hNr hw'
  rcases g1 with g1 | ⟨g1, g2⟩
  all_goals
    go_enter Tryd.func51, Tryd.ntmps51
    go_wp2_with fail
    refine ca.mono ?_
    rintro e w1 ⟨rfl, h1⟩
    clear ca
    have H1 : Aside (TAKING w0 w1 CP acc) := HS.out.stays h1
    clear h1 HS
    go_wp2_with fail
    refine (cu w1).mono ?_
    rintro e w2 ⟨rfl, h2⟩
    clear cu
    have H2 : Aside (TAKING w0 w2 CP acc) := H1.out.stays h2
    clear h2 H1
    go_wp2_with fail
    refine (ck w2).mono ?_
    rintro e w3 ⟨rfl, h3⟩
    clear ck
    have c1 := IH.out.1 acc w3 (H2.out.stays h3) (by have := IH.out.2.2; omega)
    clear h3 H2
    go_wp2_with fail
    refine c1.mono ?_
    rintro e w4 ⟨rfl, h4⟩
    clear c1
    have c2 := IH.out.2.1 (acc ++ LL) w4 h4 (by rw [List.length_append]; have := IH.out.2.2; omega)
    clear h4 IH
    go_wp2_with fail
    refine c2.mono ?_
    rintro e w5 ⟨rfl, h5⟩
    clear c2
    have FN : Aside (TAKING w0 w5 CP (acc ++ (LL ++ LR))) := by rw [List.append_assoc] at h5; exact h5
    clear h5
    go_wp2_with fail
    exact bodyPost_end (v := .tuple #[]) (by simp [results, Tryd.f51]) rfl ⟨rfl, FN.out⟩
theorem sunder_ok (w0 : World) (CP F T : Nat) : ∀ (h k : Nat), Node h k → ∀ (acc : List Nat) (w : World), TAKING w0 w CP acc → acc.length + (NEED h k (SG F T h k)).length ≤ 2 ^ 30 →
    Calls Tryd.prog 51 #[.int .u64 ((PLC h k : Nat) : Int), .int .u64 (F : Int), .int .u64 (T : Int), .func (.func 30) #[] #[.pointer (some ⟨CP, 0, none⟩)]] w (STOLD w0 CP acc (NEED h k (SG F T h k))) := by
  intro h
  induction h with
  | zero =>
    intro k hN acc w hw hlen
    by_cases e : APRT F T 0 k
    · rw [need_apart e] at hlen ⊢
      exact sunder_apart w0 CP F T 0 k hN e acc w hw (by omega)
    · rw [need_within (apart_leaf e)]
      exact sunder_within w0 CP F T 0 k hN (apart_leaf e) acc w hw
  | succ h ih =>
    intro k hN acc w hw hlen
    by_cases e : APRT F T (h + 1) k
    · rw [need_apart e] at hlen ⊢
      exact sunder_apart w0 CP F T (h + 1) k hN e acc w hw (by omega)
    · by_cases e' : WITHN F T (h + 1) k
      · rw [need_within e']
        exact sunder_within w0 CP F T (h + 1) k hN e' acc w hw
      · exact sunder_kids w0 CP F T h k hN e e' acc w hw hlen ih
end Go.Proofs.YtmkgldjocigffaaDoor
