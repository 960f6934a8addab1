/- Texts of SpanRound, one behind the other: SpanPlain, ManyTake, SpanNeed, SpanPlacesCall. -/
import Derived.Test.YtmkgldjocigffaaDoorSpanRoundP8
/- Which nodes a span needs, as what its leaves need: plain. -/
namespace Go.Proofs.YtmkgldjocigffaaDoor
set_option maxRecDepth 100000

/-- the leaves from a on and below b. -/
def SEG (a b : Nat) : List Nat := List.range' a (b - a)
theorem SEG_length (a b : Nat) : (SEG a b).length = b - a := List.length_range' ..
theorem SEG_nil {a b : Nat} (h : b ≤ a) : SEG a b = [] := by rw [SEG, show b - a = 0 by omega, List.range'_zero]
theorem SEG_ne {a b : Nat} (h : a < b) : SEG a b ≠ [] := fun e => by
  have := congrArg List.length e
  rw [SEG_length, List.length_nil] at this
  omega
theorem filter_low (m : Nat) : ∀ (n a : Nat), (List.range' a n).filter (fun y => decide (y < m)) = List.range' a (min n (m - a))
  | 0, a => by simp
  | n + 1, a => by
    rw [List.range'_succ, List.filter_cons, filter_low m n (a + 1)]
    by_cases h : a < m
    · rw [decide_eq_true h, if_pos rfl, show min (n + 1) (m - a) = min n (m - (a + 1)) + 1 by omega, List.range'_succ]
    · rw [decide_eq_false h, show min (n + 1) (m - a) = 0 by omega, show min n (m - (a + 1)) = 0 by omega]
      rfl
theorem filter_high (m : Nat) : ∀ (n a : Nat), (List.range' a n).filter (fun y => !decide (y < m)) = List.range' (max a m) (n - (m - a))
  | 0, a => by simp
  | n + 1, a => by
    rw [List.range'_succ, List.filter_cons, filter_high m n (a + 1)]
    by_cases h : a < m
    · rw [decide_eq_true h, if_neg (by simp), show max (a + 1) m = max a m by omega, show n + 1 - (m - a) = n - (m - (a + 1)) by omega]
    · rw [decide_eq_false h, if_pos (show (!false) = true from rfl), show n + 1 - (m - a) = n + 1 by omega, show n - (m - (a + 1)) = n by omega, show max (a + 1) m = a + 1 by omega, show max a m = a by omega, List.range'_succ]
theorem SEG_low (a b m : Nat) : (SEG a b).filter (fun y => decide (y < m)) = SEG a (min b m) := by
  rw [SEG, filter_low, SEG]
  congr 1
  omega
theorem SEG_high (a b m : Nat) : (SEG a b).filter (fun y => !decide (y < m)) = SEG (max a m) b := by
  rw [SEG, filter_high, SEG]
  congr 1
  omega
/-- the leaves of the span under a node. -/
def SG (F T h k : Nat) : List Nat := SEG (max F (k * 2 ^ h)) (min T ((k + 1) * 2 ^ h))
/-- none of the span's leaves is under the node; all the node's leaves are of the span. -/
abbrev APRT (F T h k : Nat) : Prop := min T ((k + 1) * 2 ^ h) ≤ max F (k * 2 ^ h)
abbrev WITHN (F T h k : Nat) : Prop := F ≤ k * 2 ^ h ∧ (k + 1) * 2 ^ h ≤ T
theorem need_apart {F T h k : Nat} (e : APRT F T h k) : NEED h k (SG F T h k) = [PLC h k] := by rw [SG, SEG_nil e, NEED_nil]
theorem mid_node (h k : Nat) : k * 2 ^ (h + 1) = 2 * k * 2 ^ h ∧ (k + 1) * 2 ^ (h + 1) = (2 * k + 1 + 1) * 2 ^ h ∧ 2 * k * 2 ^ h + 2 ^ h = (2 * k + 1) * 2 ^ h ∧ (2 * k + 1) * 2 ^ h + 2 ^ h = (2 * k + 1 + 1) * 2 ^ h := by
  obtain ⟨a, b⟩ := twice_pow h k
  refine ⟨a, b, ?_, ?_⟩
  · rw [Nat.add_mul (2 * k) 1, Nat.one_mul]
  · rw [Nat.add_mul (2 * k + 1) 1, Nat.one_mul]
theorem seg_kids (F T h k : Nat) : (SG F T (h + 1) k).filter (fun y => decide (y < (2 * k + 1) * 2 ^ h)) = SG F T h (2 * k) ∧ (SG F T (h + 1) k).filter (fun y => !decide (y < (2 * k + 1) * 2 ^ h)) = SG F T h (2 * k + 1) := by
  obtain ⟨t1, t2, t3, t4⟩ := mid_node h k
  have hp := Nat.two_pow_pos h
  unfold SG
  rw [t1, t2, SEG_low, SEG_high]
  generalize 2 * k * 2 ^ h = A at *
  generalize (2 * k + 1) * 2 ^ h = B at *
  generalize (2 * k + 1 + 1) * 2 ^ h = C at *
  generalize 2 ^ h = P at *
  constructor
  · congr 1
    omega
  · congr 1
    omega
theorem need_kids {F T h k : Nat} (e : ¬ APRT F T (h + 1) k) : NEED (h + 1) k (SG F T (h + 1) k) = NEED h (2 * k) (SG F T h (2 * k)) ++ NEED h (2 * k + 1) (SG F T h (2 * k + 1)) := by
  obtain ⟨s1, s2⟩ := seg_kids F T h k
  have hne : SG F T (h + 1) k ≠ [] := SEG_ne (Nat.lt_of_not_le e)
  cases hs : SG F T (h + 1) k with
  | nil => exact absurd hs hne
  | cons x l => rw [NEED_node, ← hs, s1, s2]
theorem apart_leaf {F T k : Nat} (e : ¬ APRT F T 0 k) : WITHN F T 0 k := by
  unfold APRT at e
  unfold WITHN
  rw [Nat.pow_zero] at *
  omega
theorem within_not {F T h k : Nat} (e : WITHN F T h k) : ¬ APRT F T h k := by
  unfold WITHN at e
  unfold APRT
  have h1 : k * 2 ^ h + 2 ^ h = (k + 1) * 2 ^ h := by rw [Nat.add_mul, Nat.one_mul]
  have hp := Nat.two_pow_pos h
  generalize 2 ^ h = P at *
  generalize k * P = A at *
  generalize (k + 1) * P = B at *
  omega
theorem within_kids {F T h k : Nat} (e : WITHN F T (h + 1) k) : WITHN F T h (2 * k) ∧ WITHN F T h (2 * k + 1) := by
  obtain ⟨t1, t2, t3, t4⟩ := mid_node h k
  unfold WITHN at *
  rw [t1, t2] at e
  generalize 2 * k * 2 ^ h = A at *
  generalize (2 * k + 1) * 2 ^ h = B at *
  generalize (2 * k + 1 + 1) * 2 ^ h = C at *
  generalize 2 ^ h = P at *
  omega
theorem need_within {F T : Nat} : ∀ {h k : Nat}, WITHN F T h k → NEED h k (SG F T h k) = []
  | 0, k, e => by
    have hne : SG F T 0 k ≠ [] := SEG_ne (Nat.lt_of_not_le (within_not e))
    cases hs : SG F T 0 k with
    | nil => exact absurd hs hne
    | cons x l => rfl
  | h + 1, k, e => by
    obtain ⟨a, b⟩ := within_kids e
    rw [need_kids (within_not e), need_within a, need_within b]
    rfl
/-- how many ends of the span lie within the node, not at its ends. -/
def CROSS (F T h k : Nat) : Nat := (if k * 2 ^ h < F ∧ F < (k + 1) * 2 ^ h then 1 else 0) + (if k * 2 ^ h < T ∧ T < (k + 1) * 2 ^ h then 1 else 0)
theorem cross_kids (F T h k : Nat) : CROSS F T h (2 * k) + CROSS F T h (2 * k + 1) ≤ CROSS F T (h + 1) k := by
  obtain ⟨t1, t2, t3, t4⟩ := mid_node h k
  unfold CROSS
  rw [t1, t2]
  have hp := Nat.two_pow_pos h
  generalize 2 * k * 2 ^ h = A at *
  generalize (2 * k + 1) * 2 ^ h = B at *
  generalize (2 * k + 1 + 1) * 2 ^ h = C at *
  generalize 2 ^ h = P at *
  (repeat' split) <;> omega
theorem cross_some {F T h k : Nat} (e : ¬ APRT F T h k) (e' : ¬ WITHN F T h k) : 1 ≤ CROSS F T h k := by
  unfold APRT at e
  unfold WITHN at e'
  unfold CROSS
  generalize k * 2 ^ h = A at *
  generalize (k + 1) * 2 ^ h = B at *
  (repeat' split) <;> omega
theorem need_few (F T : Nat) : ∀ (h k : Nat), (NEED h k (SG F T h k)).length ≤ 1 + h * CROSS F T h k
  | 0, k => by
    by_cases e : APRT F T 0 k
    · rw [need_apart e]; simp
    · rw [need_within (apart_leaf e)]; simp
  | h + 1, k => by
    by_cases e : APRT F T (h + 1) k
    · rw [need_apart e]; simp
    · by_cases e' : WITHN F T (h + 1) k
      · rw [need_within e']; simp
      · rw [need_kids e, List.length_append]
        have h1 := need_few F T h (2 * k)
        have h2 := need_few F T h (2 * k + 1)
        have h3 := cross_kids F T h k
        have h4 := cross_some e e'
        generalize CROSS F T h (2 * k) = c1 at *
        generalize CROSS F T h (2 * k + 1) = c2 at *
        generalize CROSS F T (h + 1) k = c at *
        have h5 : h * (c1 + c2) ≤ h * c := Nat.mul_le_mul_left h h3
        rw [Nat.mul_add] at h5
        rw [Nat.add_mul h 1, Nat.one_mul]
        generalize h * c1 = x at *
        generalize h * c2 = y at *
        generalize h * c = z at *
        omega
/-- what the peaks behind A need of a span. -/
theorem needs_seg (F T : Nat) : ∀ (ps : List (Nat × Nat)) (A B : Nat), Tile A ps B → T ≤ B → NEEDS ps (SEG (max F A) T) = (ps.map fun s => NEED s.1 s.2 (SG F T s.1 s.2)).flatten
  | [], _, _, _, _ => rfl
  | (h, k) :: ps, A, B, ht, hT => by
    obtain ⟨hN, hA, ht⟩ : Node h k ∧ k * 2 ^ h = A ∧ Tile ((k + 1) * 2 ^ h) ps B := ht
    have hp : A + 2 ^ h = (k + 1) * 2 ^ h := by rw [← hA, Nat.add_mul, Nat.one_mul]
    have h2 := Nat.two_pow_pos h
    rw [NEEDS, SEG_low, SEG_high, show max (max F A) ((k + 1) * 2 ^ h) = max F ((k + 1) * 2 ^ h) by omega, needs_seg F T ps _ B ht hT, List.map_cons, List.flatten_cons]
    unfold SG
    rw [hA]
theorem cross_sum (F T : Nat) : ∀ (ps : List (Nat × Nat)) (A B : Nat), Tile A ps B → (ps.map fun s => CROSS F T s.1 s.2).sum ≤ (if A < F ∧ F < B then 1 else 0) + (if A < T ∧ T < B then 1 else 0)
  | [], _, _, _ => by simp
  | (h, k) :: ps, A, B, ht => by
    obtain ⟨hN, hA, ht⟩ : Node h k ∧ k * 2 ^ h = A ∧ Tile ((k + 1) * 2 ^ h) ps B := ht
    have hp : A + 2 ^ h = (k + 1) * 2 ^ h := by rw [← hA, Nat.add_mul, Nat.one_mul]
    have h2 := Nat.two_pow_pos h
    have h3 := ht.bound.1
    have h4 := cross_sum F T ps _ B ht
    rw [List.map_cons, List.sum_cons]
    unfold CROSS at *
    simp only at *
    rw [hA]
    generalize (k + 1) * 2 ^ h = C at *
    generalize (ps.map fun s => (if s.2 * 2 ^ s.1 < F ∧ F < (s.2 + 1) * 2 ^ s.1 then 1 else 0) + (if s.2 * 2 ^ s.1 < T ∧ T < (s.2 + 1) * 2 ^ s.1 then 1 else 0)).sum = s at *
    repeat' split at h4
    all_goals (repeat' split) <;> omega
theorem flat_few (F T : Nat) : ∀ (ps : List (Nat × Nat)), (∀ p ∈ ps, p.1 ≤ 62) → ((ps.map fun s => NEED s.1 s.2 (SG F T s.1 s.2)).flatten).length ≤ ps.length + 62 * (ps.map fun s => CROSS F T s.1 s.2).sum
  | [], _ => by simp
  | (h, k) :: ps, hh => by
    have h1 := flat_few F T ps (fun p hp => hh p (List.mem_cons_of_mem _ hp))
    have h2 := need_few F T h k
    have h3 : h * CROSS F T h k ≤ 62 * CROSS F T h k := Nat.mul_le_mul_right _ (hh (h, k) (List.mem_cons_self ..))
    rw [List.map_cons, List.flatten_cons, List.length_append, List.map_cons, List.sum_cons, List.length_cons, Nat.mul_add]
    show (NEED h k (SG F T h k)).length + _ ≤ _ + (62 * CROSS F T h k + _)
    omega
/-- what a span of n leaves needs. -/
def SPP (F T N : Nat) : List Nat := NEEDS (TPS N) (SEG F T)
theorem SPP_flat {F T N : Nat} (hN : N ≤ 4611686018427387904) (hT : T ≤ N) : SPP F T N = ((TPS N).map fun s => NEED s.1 s.2 (SG F T s.1 s.2)).flatten := by
  have h := needs_seg F T (TPS N) 0 N (TPS_tile hN) hT
  rw [Nat.max_zero] at h
  exact h
theorem SPP_few {F T N : Nat} (hN : N ≤ 4611686018427387904) (hT : T ≤ N) : (SPP F T N).length ≤ 188 := by
  rw [SPP_flat hN hT]
  have h1 := flat_few F T (TPS N) (fun p hp => (TPS_span (n := N) (by omega) (h := p.1) (k := p.2) hp).1)
  have h2 := cross_sum F T (TPS N) 0 N (TPS_tile hN)
  have h3 := TPS_length (n := N) (by omega)
  have h4 : PC N ≤ 64 := PC_lt_pow 64 N (by omega)
  repeat' split at h2
  all_goals omega
/-- Places' error. -/
def SPE (F T N : Nat) : Int := if 4611686018427387904 < N then 30 else if T < F ∨ N < T then 32 else 0
end Go.Proofs.YtmkgldjocigffaaDoor

/- The places that are told are put behind one another: the closure of Places of package many. -/
namespace Go.Proofs.YtmkgldjocigffaaDoor
open Go.RowKit
set_option maxRecDepth 100000

/-- a number is appended. -/
theorem app_num {ops : Array Oper} {rest : List Oper} {o : Oper} {a : Act} {Q : Exit → Act → World → Prop} (w : World) (hgd : o.guard = none) (s x : Operand)
    (ho : o.op = .call { callee := .builtin .append, args := #[s, x], argTypes := #[23, 23] })
    (base : Nat) (v : Value) (n : Nat) (xs : List Nat) (hs : a.eval s = v) (hown : w.ownsRow base 22 1 v n (UCELLS xs))
    (b c : Nat) (y : Nat) (hx : a.eval x = .slice (some ⟨b, 0, none⟩) 1 c) (hc : w.cell? ⟨b, 0, none⟩ = some (.int .u64 (y : Int)))
    (hb : n ≤ 2 ^ 30) (hbase : base ≤ w.heap.size)
    (h : ∀ g cap w', w'.ownsRow base 22 1 (.slice (some ⟨g, 0, none⟩) (n + 1) cap) (n + 1) (UCELLS (xs ++ [y])) → w.grownBy w' v.ownBlock → g < w'.heap.size → wpList Tryd.prog ops Q rest (a.put o.dst (.slice (some ⟨g, 0, none⟩) (n + 1) cap)) w') : wpList Tryd.prog ops Q (o :: rest) a w := by
  obtain ⟨i, hi, hz, hs1, hby⟩ := info_parts info_u64
  refine wpList_append_lies w hgd s x 23 ho base 22 i (.int .u64 0) 1 8 Tryd.underlying23 hi hz hs1 hby rfl (by decide) v n (UCELLS xs) hs hown ⟨b, 0, none⟩ 1 c [.int .u64 (y : Int)] hx rfl ?_ (fun u hu => by simp at hu; subst hu; rfl) (by decide) (by simp only [maxLen]; omega) (by omega) hbase w.heap.size rfl ?_
  · intro j u hj
    cases j with
    | zero =>
      simp only [List.getElem?_cons_zero, Option.some.injEq] at hj
      subst hj
      exact hc
    | succ j => simp at hj
  · intro g cap w' h1 h2 _ h4
    rw [← UCELLS_snoc] at h1
    exact h g cap w' h1 h2 h4
/-- the list that lies in bp has been told acc since w0. -/
structure TAKING (w0 w : World) (bp : Nat) (acc : List Nat) : Prop where
  row : ∃ v, Has w bp #[v] 23 ∧ w.ownsRow w0.heap.size 22 1 v acc.length (UCELLS acc)
  keep : ∀ b, b < w0.heap.size → b ≠ bp → w.heap[b]? = w0.heap[b]?
  lt : bp < w0.heap.size
  below : Below bp w0 w
theorem own_sliced {w : World} {B s n : Nat} {t : TypeId} {v : Value} {xs : List Value} (h : w.ownsRow B t s v n xs) : ∃ a c, v = .slice a n c := by
  rcases h.2 with ⟨e, h0⟩ | ⟨g, cap, cur, e, _⟩
  · exact ⟨none, 0, by rw [e, h0]⟩
  · exact ⟨_, _, e⟩
end Go.Proofs.YtmkgldjocigffaaDoor

/- needUnder and need of package span, with the closure of Places. -/
namespace Go.Proofs.YtmkgldjocigffaaDoor
open Go.RowKit
set_option maxRecDepth 100000

theorem apart_eq {F T h k A B : Nat} {b : Bool} (hA : k * 2 ^ h = A) (hB : (k + 1) * 2 ^ h = B) (hb : b = decide (min T B ≤ max F A)) : b = decide (APRT F T h k) := by
  rw [hb]
  unfold APRT
  rw [hA, hB]
theorem apart_ok (h k F T : Nat) (hN : Node h k) (w : World) : Calls Tryd.prog 64 #[.int .u64 ((PLC h k : Nat) : Int), .int .u64 (F : Int), .int .u64 (T : Int)] w fun e w' => e = .returned (.bool (decide (APRT F T h k))) ∧ Below w.heap.size w w' := by
  have cu := under_ok h k hN w
  obtain ⟨A, hA⟩ : ∃ A, k * 2 ^ h = A := ⟨_, rfl⟩
  obtain ⟨B, hB⟩ : ∃ B, (k + 1) * 2 ^ h = B := ⟨_, rfl⟩
  obtain ⟨r, hr⟩ : ∃ r, decide (APRT F T h k) = r := ⟨_, rfl⟩
  rw [hA, hB] at cu
  have HD : Aside (∀ b, b = decide (min T B ≤ max F A) → b = r) := fun b hb => hr ▸ apart_eq hA hB hb
  rw [hr]
  clear hA hB hN hr
  go_enter Tryd.func64, Tryd.ntmps64
  go_wp2_with fail
  refine cu.mono ?_
  rintro e w1 ⟨rfl, hb⟩
  clear cu
  have HB : Aside (Below w.heap.size w w1) := hb
  clear hb
  go_wp2
  all_goals
    go_ret
    refine ⟨congrArg (fun b => Ending.returned (.bool b)) (HD.out _ ?_), HB.out⟩
    congr 1
    simp only [eq_iff_iff]
    omega
/-- what is told under a node. -/
def STOLD (w0 : World) (bp : Nat) (acc l : List Nat) (e : Ending) (w' : World) : Prop := e = .returned (.tuple #[]) ∧ TAKING w0 w' bp (acc ++ l)
set_option maxHeartbeats 1000000 in
theorem stake_ok {w0 w : World} {bp : Nat} {acc : List Nat} (hK : TAKING w0 w bp acc) (p : Nat) (hn : acc.length ≤ 2 ^ 30) : Calls Tryd.prog 30 #[.int .u64 (p : Int), .pointer (some ⟨bp, 0, none⟩)] w fun e w' => e = .returned (.tuple #[]) ∧ TAKING w0 w' bp (acc ++ [p]) := by
  obtain ⟨v, hv, hown⟩ := hK.row
  obtain ⟨a, c, rfl⟩ := own_sliced hown
  have c0 : w.cell? ⟨bp, 0, none⟩ = some (.slice a acc.length c) := hv.cell 0
  have HA : Aside (TAKING w0 w bp acc ∧ acc.length ≤ 2 ^ 30 ∧ Has w bp #[.slice a acc.length c] 23 ∧ w.ownsRow w0.heap.size 22 1 (.slice a acc.length c) acc.length (UCELLS acc)) := ⟨hK, hn, hv, hown⟩
  clear hK hn hv hown
  obtain ⟨n, hn⟩ : ∃ n, acc.length = n := ⟨_, rfl⟩
  rw [hn] at HA c0
  have HN : Aside (acc.length = n) := hn
  clear hn
  go_enter Tryd.func30, Tryd.ntmps30
  go_wp2_with (first
    | (at_builtin; refine app_num _ rfl (.tmp 3) (.tmp 5) rfl w0.heap.size (.slice a n c) n acc rfl (HA.out.2.2.2.alloc _) w.heap.size 1 p rfl ((Has.new _ _ _).cell 0) HA.out.2.1 (by have := HA.out.1.below.size; simp; omega) ?_; intro g1 c1 w1 hown1 hgrow1 hg1
       have hbp : Has w1 bp #[.slice a n c] 23 := by
         refine (hgrow1.block bp (by have := HA.out.2.2.1.lt; simp; omega) (fun e => ?_)).trans (HA.out.2.2.1.alloc _)
         have := (HA.out.2.2.2.lt bp e.symm).1
         have := HA.out.1.lt
         omega
       have x0 := hbp.cell 0
       have x1 := hbp.frozen 0
       have FN : Aside (TAKING w0 (w1.setCell ⟨bp, 0, none⟩ (.slice (some ⟨g1, 0, none⟩) (n + 1) c1)) bp (acc ++ [p])) := by
         have hlt := HA.out.1.lt
         have hsz := HA.out.1.below.size
         refine ⟨⟨.slice (some ⟨g1, 0, none⟩) (n + 1) c1, hbp.set 0 _, ?_⟩, fun b hb hne => ?_, hlt, ?_⟩
         · rw [List.length_append, HN.out]
           exact ownsRow_setCell_below hown1 (a := ⟨bp, 0, none⟩) hlt _
         · rw [Below.heap_setCell _ _ _ _ (by exact hne), hgrow1.block b (by simp; omega) (fun e => by have := (HA.out.2.2.2.lt b e.symm).1; omega), Below.heap_alloc _ _ _ (by omega)]
           exact HA.out.1.keep b hb hne
         · refine ((HA.out.1.below.alloc (by omega) _).grown hgrow1 (by simp; omega) (fun k e => ?_)).setCell (Nat.le_refl _) _
           have := (HA.out.2.2.2.lt k e).1
           omega
       clear hown1 hgrow1 hg1 hbp c0))
  exact bodyPost_end (v := .tuple #[]) (by simp [results, Tryd.f30]) rfl ⟨rfl, FN.out⟩
theorem TAKING.stays {w0 w w' : World} {bp : Nat} {acc : List Nat} (h : TAKING w0 w bp acc) (hb : Below w.heap.size w w') : TAKING w0 w' bp acc := by
  obtain ⟨v, h1, h2⟩ := h.row
  have hs := h.below.size
  have hlt := h.lt
  refine ⟨⟨v, h1.keep hb, ?_⟩, fun b hb0 hne => (hb.block b (by omega)).trans (h.keep b hb0 hne), hlt, h.below.trans (hb.mono (by omega))⟩
  refine ⟨h2.1, h2.2.imp id ?_⟩
  rintro ⟨g', c, cur, rfl, b, r, rest⟩
  exact ⟨g', c, cur, rfl, b, (hb.block g' (Array.getElem?_eq_some_iff.1 r).1).trans r, rest⟩
set_option maxHeartbeats 2000000 in
theorem sunder_apart (w0 : World) (CP F T h k : Nat) (hN : Node h k) (e : APRT F T h k) (acc : List Nat) (w : World) (hw : TAKING w0 w CP acc) (hlen : acc.length ≤ 2 ^ 30) :
    Calls Tryd.prog 51 #[.int .u64 ((PLC h k : Nat) : Int), .int .u64 (F : Int), .int .u64 (T : Int), .func (.func 30) #[] #[.pointer (some ⟨CP, 0, none⟩)]] w (STOLD w0 CP acc [PLC h k]) := by
  have ca := apart_ok h k F T hN w
  rw [decide_eq_true e] at ca
  have HS : Aside (TAKING w0 w CP acc ∧ acc.length ≤ 2 ^ 30) := ⟨hw, hlen⟩
  clear hN e hw hlen
  go_enter Tryd.func51, Tryd.ntmps51
  go_wp2_with fail
  refine ca.mono ?_
  rintro e w1 ⟨rfl, h1⟩
  clear ca
  have ct := stake_ok (HS.out.1.stays h1) (PLC h k) HS.out.2
  clear h1 HS
  go_wp2_with fail
  refine ct.mono ?_
  rintro e w2 ⟨rfl, h2⟩
  clear ct
  have FN : Aside (TAKING w0 w2 CP (acc ++ [PLC h k])) := h2
  clear h2
  go_wp2_with fail
  exact bodyPost_ret (v := .tuple #[]) (by simp [results, Tryd.f51]) rfl ⟨rfl, FN.out⟩
set_option maxHeartbeats 2000000 in
theorem sunder_within (w0 : World) (CP F T h k : Nat) (hN : Node h k) (e : WITHN F T h k) (acc : List Nat) (w : World) (hw : TAKING w0 w CP acc) :
    Calls Tryd.prog 51 #[.int .u64 ((PLC h k : Nat) : Int), .int .u64 (F : Int), .int .u64 (T : Int), .func (.func 30) #[] #[.pointer (some ⟨CP, 0, none⟩)]] w (STOLD w0 CP acc []) := by
  have ca := apart_ok h k F T hN w
  rw [decide_eq_false (within_not e)] at ca
  have cu := fun w => under_ok h k hN w
  have e1 : F ≤ k * 2 ^ h := e.1
  have e2 : (k + 1) * 2 ^ h ≤ T := e.2
  have HS : Aside (TAKING w0 w CP acc) := hw
  generalize k * 2 ^ h = A at *
  generalize (k + 1) * 2 ^ h = B at *
  have g1 : (F : Int) ≤ (A : Int) := by omega
  have g2 : (B : Int) ≤ (T : Int) := by omega
  clear hN e hw
  go_enter Tryd.func51, Tryd.ntmps51
  go_wp2_with fail
  refine ca.mono ?_
  rintro e w1 ⟨rfl, h1⟩
  clear ca
  have H1 : Aside (TAKING w0 w1 CP acc) := HS.out.stays h1
  clear h1 HS
  go_wp2_with fail
  refine (cu w1).mono ?_
  rintro e w2 ⟨rfl, h2⟩
  clear cu
  have FN : Aside (TAKING w0 w2 CP (acc ++ [])) := by rw [List.append_nil]; exact H1.out.stays h2
  clear h2 H1
  go_wp2_with fail
  exact bodyPost_ret (v := .tuple #[]) (by simp [results, Tryd.f51]) rfl ⟨rfl, FN.out⟩
set_option maxHeartbeats 2000000 in
theorem sunder_kids (w0 : World) (CP F T h k : Nat) (hN : Node (h + 1) k) (e : ¬ APRT F T (h + 1) k) (e' : ¬ WITHN F T (h + 1) k) (acc : List Nat) (w : World) (hw : TAKING w0 w CP acc) (hlen : acc.length + (NEED (h + 1) k (SG F T (h + 1) k)).length ≤ 2 ^ 30)
    (ih : ∀ (k : Nat), Node h k → ∀ (acc : List Nat) (w : World), TAKING w0 w CP acc → acc.length + (NEED h k (SG F T h k)).length ≤ 2 ^ 30 → Calls Tryd.prog 51 #[.int .u64 ((PLC h k : Nat) : Int), .int .u64 (F : Int), .int .u64 (T : Int), .func (.func 30) #[] #[.pointer (some ⟨CP, 0, none⟩)]] w (STOLD w0 CP acc (NEED h k (SG F T h k)))) :
    Calls Tryd.prog 51 #[.int .u64 ((PLC (h + 1) k : Nat) : Int), .int .u64 (F : Int), .int .u64 (T : Int), .func (.func 30) #[] #[.pointer (some ⟨CP, 0, none⟩)]] w (STOLD w0 CP acc (NEED (h + 1) k (SG F T (h + 1) k))) := by
  have ca := apart_ok (h + 1) k F T hN w
  rw [decide_eq_false e] at ca
  have cu := fun w => under_ok (h + 1) k hN w
  have ck := fun w => kids_ok h k hN w
  obtain ⟨hNl, hNr⟩ := hN.kid
  rw [need_kids e, List.length_append] at hlen
  rw [need_kids e]
  obtain ⟨LL, hLL⟩ : ∃ LL, NEED h (2 * k) (SG F T h (2 * k)) = LL := ⟨_, rfl⟩
  obtain ⟨LR, hLR⟩ : ∃ LR, NEED h (2 * k + 1) (SG F T h (2 * k + 1)) = LR := ⟨_, rfl⟩
  have il := fun acc w => ih (2 * k) hNl acc w
  have ir := fun acc w => ih (2 * k + 1) hNr acc w
  rw [hLL] at il hlen ⊢
  rw [hLR] at ir hlen ⊢
  have HS : Aside (TAKING w0 w CP acc) := hw
  have IH : Aside (_ ∧ _ ∧ acc.length + (LL.length + LR.length) ≤ 2 ^ 30) := ⟨il, ir, hlen⟩
  have hw' : ¬ (F ≤ k * 2 ^ (h + 1) ∧ (k + 1) * 2 ^ (h + 1) ≤ T) := e'
  generalize k * 2 ^ (h + 1) = A at *
  generalize (k + 1) * 2 ^ (h + 1) = B at *
  have g1 : ¬ (F : Int) ≤ (A : Int) ∨ ((F : Int) ≤ (A : Int) ∧ ¬ (B : Int) ≤ (T : Int)) := by
    by_cases h1 : F ≤ A
    · exact .inr ⟨by omega, fun h2 => hw' ⟨h1, by omega⟩⟩
    · exact .inl (by omega)
  clear hN e e' hw ih il ir hLL hLR hlen hNl hNr hw'
  rcases g1 with g1 | ⟨g1, g2⟩
  all_goals
    go_enter Tryd.func51, Tryd.ntmps51
    go_wp2_with fail
    refine ca.mono ?_
    rintro e w1 ⟨rfl, h1⟩
    clear ca
    have H1 : Aside (TAKING w0 w1 CP acc) := HS.out.stays h1
    clear h1 HS
    go_wp2_with fail
    refine (cu w1).mono ?_
    rintro e w2 ⟨rfl, h2⟩
    clear cu
    have H2 : Aside (TAKING w0 w2 CP acc) := H1.out.stays h2
    clear h2 H1
    go_wp2_with fail
    refine (ck w2).mono ?_
    rintro e w3 ⟨rfl, h3⟩
    clear ck
    have c1 := IH.out.1 acc w3 (H2.out.stays h3) (by have := IH.out.2.2; omega)
    clear h3 H2
    go_wp2_with fail
    refine c1.mono ?_
    rintro e w4 ⟨rfl, h4⟩
    clear c1
    have c2 := IH.out.2.1 (acc ++ LL) w4 h4 (by rw [List.length_append]; have := IH.out.2.2; omega)
    clear h4 IH
    go_wp2_with fail
    refine c2.mono ?_
    rintro e w5 ⟨rfl, h5⟩
    clear c2
    have FN : Aside (TAKING w0 w5 CP (acc ++ (LL ++ LR))) := by rw [List.append_assoc] at h5; exact h5
    clear h5
    go_wp2_with fail
    exact bodyPost_end (v := .tuple #[]) (by simp [results, Tryd.f51]) rfl ⟨rfl, FN.out⟩
theorem sunder_ok (w0 : World) (CP F T : Nat) : ∀ (h k : Nat), Node h k → ∀ (acc : List Nat) (w : World), TAKING w0 w CP acc → acc.length + (NEED h k (SG F T h k)).length ≤ 2 ^ 30 →
    Calls Tryd.prog 51 #[.int .u64 ((PLC h k : Nat) : Int), .int .u64 (F : Int), .int .u64 (T : Int), .func (.func 30) #[] #[.pointer (some ⟨CP, 0, none⟩)]] w (STOLD w0 CP acc (NEED h k (SG F T h k))) := by
  intro h
  induction h with
  | zero =>
    intro k hN acc w hw hlen
    by_cases e : APRT F T 0 k
    · rw [need_apart e] at hlen ⊢
      exact sunder_apart w0 CP F T 0 k hN e acc w hw (by omega)
    · rw [need_within (apart_leaf e)]
      exact sunder_within w0 CP F T 0 k hN (apart_leaf e) acc w hw
  | succ h ih =>
    intro k hN acc w hw hlen
    by_cases e : APRT F T (h + 1) k
    · rw [need_apart e] at hlen ⊢
      exact sunder_apart w0 CP F T (h + 1) k hN e acc w hw (by omega)
    · by_cases e' : WITHN F T (h + 1) k
      · rw [need_within e']
        exact sunder_within w0 CP F T (h + 1) k hN e' acc w hw
      · exact sunder_kids w0 CP F T h k hN e e' acc w hw hlen ih
end Go.Proofs.YtmkgldjocigffaaDoor

/- Places of package span. -/
namespace Go.Proofs.YtmkgldjocigffaaDoor
open Go.RowKit
set_option maxRecDepth 100000

/-- what the peaks from the j-th on need. -/
def FLT (F T N j : Nat) : List Nat := (((TPS N).drop j).map fun s => NEED s.1 s.2 (SG F T s.1 s.2)).flatten
theorem FLT_next {F T N j h k : Nat} (e : (TPS N)[j]? = some (h, k)) : FLT F T N j = NEED h k (SG F T h k) ++ FLT F T N (j + 1) := by
  unfold FLT
  rw [drop_at e, List.map_cons, List.flatten_cons]
theorem FLT_end {F T N j : Nat} (h : (TPS N).length ≤ j) : FLT F T N j = [] := by
  unfold FLT
  rw [List.drop_of_length_le h]
  rfl
theorem FLT_all {F T N : Nat} (hN : N ≤ 4611686018427387904) (hT : T ≤ N) : SPP F T N = FLT F T N 0 := SPP_flat hN hT
set_option maxHeartbeats 2000000 in
theorem sneed_ok (CP F T N : Nat) (hN : N ≤ 4611686018427387904) (hTN : T ≤ N) (w : World) (hCP : CP < w.heap.size) (hT : Tabled w) (hv : Has w CP #[.slice none 0 0] 23) :
    Calls Tryd.prog 29 #[.int .u64 (F : Int), .int .u64 (T : Int), .int .u64 (N : Int), .func (.func 30) #[] #[.pointer (some ⟨CP, 0, none⟩)]] w fun e w' => ∃ w1, Below w.heap.size w w1 ∧ STOLD w1 CP [] (SPP F T N) e w' := by
  have cp := peaks_ok N hN w hT (by omega)
  have hPC : PC N ≤ 64 := PC_lt_pow 64 N (by omega)
  have hlen := TPS_length (n := N) (by omega)
  have hmost := SPP_few (F := F) hN hTN
  have hall := FLT_all (F := F) hN hTN
  have HA : Aside (N ≤ 4611686018427387904 ∧ T ≤ N ∧ PC N ≤ 64 ∧ (TPS N).length = PC N ∧ (SPP F T N).length ≤ 188 ∧ SPP F T N = FLT F T N 0 ∧ CP < w.heap.size ∧ Has w CP #[.slice none 0 0] 23) := ⟨hN, hTN, hPC, hlen, hmost, hall, hCP, hv⟩
  clear hN hTN hPC hlen hmost hall hCP hT hv
  obtain ⟨P, hP⟩ : ∃ P, SPP F T N = P := ⟨_, rfl⟩
  rw [hP] at HA ⊢
  clear hP
  go_enter Tryd.func29, Tryd.ntmps29
  go_wp2_with fail
  refine cp.mono ?_
  rintro e w1 ⟨g, cg, rfl, hown, hb1⟩
  clear cp
  obtain ⟨m, hm⟩ : ∃ m, PC N = m := ⟨_, rfl⟩
  rw [hm] at hown HA ⊢
  have hg := hown.lt g rfl
  have R1 : Aside (w1.ownsRow w.heap.size 22 1 (.slice (some ⟨g, 0, none⟩) m cg) m (UCELLS (PEAKS N)) ∧ Below w.heap.size w w1 ∧ g ≠ CP ∧ g < w1.heap.size) := ⟨hown, hb1, by have := HA.out.2.2.2.2.2.2.1; omega, hg.2⟩
  have T0 : Aside (TAKING w1 w1 CP []) := by
    have hv1 : Has w1 CP #[.slice none 0 0] 23 := HA.out.2.2.2.2.2.2.2.keep hb1
    exact ⟨⟨.slice none 0 0, hv1, ⟨rfl, .inl ⟨rfl, rfl⟩⟩⟩, fun b _ _ => rfl, hv1.lt, Below.refl _ _⟩
  clear hown hb1 hm hg
  go_wp2_with fail
  go_loopg [13] m (fun q s13 wx => ∃ (j : Nat) (told : List Nat), s13 = .int .i64 (j : Int) ∧ Aside (j + q = m ∧ TAKING w1 wx CP told ∧ P = told ++ FLT F T N j))
  case atStart => exact ⟨0, [], rfl, by omega, T0.out, by rw [List.nil_append]; exact HA.out.2.2.2.2.2.1⟩
  case round =>
    obtain ⟨j, told, rfl, A⟩ := hrel
    clear T0
    cases gk with
    | zero =>
      obtain rfl : j = m := by have := A.out.1; omega
      have hlt : ¬ (j : Int) < (j : Int) := by omega
      have FN : Aside (∃ w1, Below w.heap.size w w1 ∧ STOLD w1 CP [] P (.returned (.tuple #[])) wr) := by
        obtain ⟨h1, h2, h3⟩ := A.out
        rw [FLT_end (by have := HA.out.2.2.2.1; omega), List.append_nil] at h3
        exact ⟨w1, R1.out.2.1, rfl, by rw [List.nil_append, h3]; exact h2⟩
      clear A R1 HA
      go_wp2_with fail
      exact bodyPost_end (v := .tuple #[]) (by simp [results, Tryd.f29]) rfl FN.out
    | succ q =>
      have hlt : (j : Int) < (m : Int) := by have := A.out.1; omega
      have hjm : j < (TPS N).length := by have := A.out.1; have := HA.out.2.2.2.1; omega
      obtain ⟨⟨h, k⟩, ehk⟩ : ∃ s, (TPS N)[j]? = some s := ⟨_, List.getElem?_eq_getElem hjm⟩
      have hsp := TPS_span (by have := HA.out.1; omega) (List.mem_of_getElem? ehk)
      have epk := TPS_peak ehk
      have hcell : wr.cell? ⟨g, j, none⟩ = some (.int .u64 ((PLC h k : Nat) : Int)) := by
        have h1 := R1.out.1.cellAt j (by have := A.out.1; omega)
        refine (World.cell?_of_block (w := w1) (by exact A.out.2.1.keep g R1.out.2.2.2 R1.out.2.2.1)).trans (h1.trans ?_)
        rw [UCELLS, List.getElem?_map, epk]
        rfl
      have hP : P = told ++ (NEED h k (SG F T h k) ++ FLT F T N (j + 1)) := by rw [← FLT_next ehk]; exact A.out.2.2
      have hle : told.length + (NEED h k (SG F T h k)).length ≤ 2 ^ 30 := by
        have h1 := HA.out.2.2.2.2.1
        rw [hP, List.length_append, List.length_append] at h1
        omega
      have cu := sunder_ok w1 CP F T h k hsp.2.2 told wr A.out.2.1 hle
      have ej : wrap64 ((j : Int) + 1) = ((j + 1 : Nat) : Int) := by have := A.out.1; have := HA.out.2.2.1; unfold wrap64; omega
      have EJ : Aside (wrap64 ((j : Int) + 1) = ((j + 1 : Nat) : Int) ∧ j + 1 + q = m ∧ P = (told ++ NEED h k (SG F T h k)) ++ FLT F T N (j + 1)) := ⟨ej, by have := A.out.1; omega, by rw [List.append_assoc]; exact hP⟩
      have bj : (j : Int) ≤ 64 := by have := A.out.1; have := HA.out.2.2.1; omega
      clear ehk hsp epk hjm hP hle A ej
      go_wp2_with fail
      refine cu.mono ?_
      rintro e w3 ⟨rfl, h3⟩
      clear cu
      have H3 : Aside (TAKING w1 w3 CP (told ++ NEED h k (SG F T h k))) := h3
      clear h3
      go_wp2_with fail
      go_roundg q
      case measure => exact Nat.lt_succ_self _
      case rel => exact ⟨j + 1, told ++ NEED h k (SG F T h k), by first | rfl | (rw [EJ.out.1]), EJ.out.2.1, H3.out, EJ.out.2.2⟩
/-- what Places answers. -/
def SPA (F T N : Nat) : List Nat := if SPE F T N = 0 then SPP F T N else []
/-- what is answered: an error and a list of numbers. -/
def ANSP20 (w : World) (E : Int) (l : List Nat) (e : Ending) (w' : World) : Prop := ∃ a c, e = .returned (.tuple #[.slice a l.length c, .int .i64 E]) ∧ w'.ownsRow w.heap.size 22 1 (.slice a l.length c) l.length (UCELLS l) ∧ Below w.heap.size w w'
theorem SPE_cases (F T N : Nat) : (SPE F T N = 30 ∧ SPA F T N = [] ∧ 4611686018427387904 < N) ∨ (SPE F T N = 32 ∧ SPA F T N = [] ∧ N ≤ 4611686018427387904 ∧ (T < F ∨ F ≤ T ∧ N < T)) ∨ (SPE F T N = 0 ∧ SPA F T N = SPP F T N ∧ N ≤ 4611686018427387904 ∧ F ≤ T ∧ T ≤ N) := by
  unfold SPA SPE
  by_cases h1 : 4611686018427387904 < N
  · rw [if_pos h1]
    exact .inl ⟨rfl, rfl, h1⟩
  · rw [if_neg h1]
    by_cases h2 : T < F ∨ N < T
    · rw [if_pos h2]
      exact .inr (.inl ⟨rfl, rfl, by omega, by omega⟩)
    · rw [if_neg h2, if_pos rfl]
      exact .inr (.inr ⟨rfl, rfl, by omega, by omega, by omega⟩)
theorem own_none20 (w : World) (B : Nat) : w.ownsRow B 22 1 (.slice none ([] : List Nat).length 0) ([] : List Nat).length (UCELLS []) := ⟨rfl, .inl ⟨rfl, rfl⟩⟩
set_option maxHeartbeats 2000000 in
theorem spanplaces_ok (F T N : Nat) (w : World) (hT : Tabled w) (h0 : 0 < w.heap.size) : Calls Tryd.prog 8 #[.int .u64 (F : Int), .int .u64 (T : Int), .int .u64 (N : Int)] w (ANSP20 w (SPE F T N) (SPA F T N)) := by
  rcases SPE_cases F T N with ⟨e1, e2, h⟩ | ⟨e1, e2, h, h'⟩ | ⟨e1, e2, hN, hF, hTN⟩
  · rw [e1, e2]
    have g1 : (4611686018427387904 : Int) < (N : Int) := by omega
    clear h hT h0 e1 e2
    go_enter Tryd.func8, Tryd.ntmps8
    go_wp2
    go_ret2
    exact ⟨none, 0, rfl, own_none20 _ _, Below.refl _ _⟩
  · rw [e1, e2]
    have g1 : ¬ (4611686018427387904 : Int) < (N : Int) := by omega
    have g2 : (T : Int) < (F : Int) ∨ (¬ (T : Int) < (F : Int) ∧ (N : Int) < (T : Int)) := by omega
    clear h h' hT h0 e1 e2
    rcases g2 with g2 | ⟨g2, g3⟩
    all_goals
      go_enter Tryd.func8, Tryd.ntmps8
      go_wp2
      go_ret2
      exact ⟨none, 0, rfl, own_none20 _ _, Below.refl _ _⟩
  · rw [e1, e2]
    have g1 : ¬ (4611686018427387904 : Int) < (N : Int) := by omega
    have g2 : ¬ (T : Int) < (F : Int) := by omega
    have g3 : ¬ (N : Int) < (T : Int) := by omega
    have hmf : ∀ (fn : Fn) (first cap : Array Value) (w : World), (Instr.makeFunc fn first cap).run Tryd.prog w = .ok (.func fn first cap) w := fun _ _ _ _ => rfl
    obtain ⟨w1, ew1⟩ : ∃ w1, w.alloc (.cells #[.slice none 0 0] 23) = w1 := ⟨_, rfl⟩
    have hb1 : Below w.heap.size w w1 := by rw [← ew1]; exact (Below.refl _ _).alloc (Nat.le_refl _) _
    have hv : Has w1 w.heap.size #[.slice none 0 0] 23 := by rw [← ew1]; exact Has.new w _ _
    have cn := sneed_ok w.heap.size F T N hN hTN w1 hv.lt (hT.below h0 hb1) hv
    have HB : Aside (Below w.heap.size w w1) := hb1
    generalize SPP F T N = P at *
    clear hN hF hTN hT h0 e1 e2 hb1 hv
    go_enter Tryd.func8, Tryd.ntmps8
    go_wp2_with fail
    refine cn.mono ?_
    rintro e w2 ⟨wa, hba, rfl, ht⟩
    rw [List.nil_append] at ht
    obtain ⟨v, hv, hown⟩ := ht.row
    obtain ⟨a, c, rfl⟩ := own_sliced hown
    have c0 := hv.cell 0
    have FN : Aside (w2.ownsRow w.heap.size 22 1 (.slice a P.length c) P.length (UCELLS P) ∧ Below w.heap.size w w2) := ⟨own_mono hown (by have := hba.size; have := HB.out.size; omega), (HB.out.trans (hba.mono HB.out.size)).trans (ht.below.mono (by have := hba.size; have := HB.out.size; omega))⟩
    clear cn ht hv hown hba HB
    go_wp2_with fail
    go_ret2
    exact ⟨a, c, rfl, FN.out.1, FN.out.2⟩
end Go.Proofs.YtmkgldjocigffaaDoor
