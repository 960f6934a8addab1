/- What the document's Mask, Field and Lay give. -/
import Derived.Test.YtlklnljgmkagoaaNumRefShifts
namespace Go.Proofs.Ytlklnljgmkagoaa
open Go.RowKit

theorem mix_put {F r f : Nat → Int} {i : Nat} {v : Int} (A : ∀ j, f j = if j < i then F j else r j) (hv : v = F i) : ∀ j, (if j = i then v else f j) = if j < i + 1 then F j else r j := fun j => by
  by_cases e : j = i
  · subst e
    simp [hv]
  · rw [if_neg e, A j]
    by_cases e2 : j < i
    · rw [if_pos e2, if_pos (by omega)]
    · rw [if_neg e2, if_neg (by omega)]
theorem mix_keep {F r f : Nat → Int} {i : Nat} (A : ∀ j, f j = if j < i then F j else r j) (hv : F i = r i) : ∀ j, f j = if j < i + 1 then F j else r j := fun j => by
  rw [A j]
  by_cases e : j = i
  · subst e
    simp [hv]
  · by_cases e2 : j < i
    · rw [if_pos e2, if_pos (by omega)]
    · rw [if_neg e2, if_neg (by omega)]
theorem Fine.drew {w w' : World} (h : Fine w w') : Fine w w'.drew := ⟨h.1.drew, h.2.drew⟩
theorem setRow_two' (w : World) (c c' : Array Value) (t : TypeId) (o : Obj) : ((w.alloc o).alloc (.cells c t)).setRow (w.heap.size + 1) c' = (w.alloc o).alloc (.cells c' t) := by
  have := World.setRow_alloc_new (w.alloc o) c c' t
  simpa using this
theorem heap_old (w : World) (o : Obj) (i : Nat) (x : Obj) (h : w.heap[i]? = some x) : (w.alloc o).heap[i]? = some x := by
  rw [Below.heap_alloc _ _ _ (Array.getElem?_eq_some_iff.1 h).1]
  exact h
theorem heap3_0 (w : World) (a b c : Obj) : (((w.alloc a).alloc b).alloc c).heap[w.heap.size]? = some a := heap_old _ _ _ _ (heap_two w a b)
theorem heap3_1 (w : World) (a b c : Obj) : (((w.alloc a).alloc b).alloc c).heap[w.heap.size + 1]? = some b := heap_old _ _ _ _ (heap_two' w a b)
theorem heap3_2 (w : World) (a b c : Obj) : (((w.alloc a).alloc b).alloc c).heap[w.heap.size + 2]? = some c := by
  have := heap_two' (w.alloc a) b c
  simpa using this
theorem setRow3_0 (w : World) (x x' : Array Value) (t : TypeId) (b c : Obj) : (((w.alloc (.cells x t)).alloc b).alloc c).setRow w.heap.size x' = ((w.alloc (.cells x' t)).alloc b).alloc c := by
  rw [setRow_past _ _ _ _ (by simp; omega), setRow_two]
theorem setRow3_1 (w : World) (x x' : Array Value) (t : TypeId) (a c : Obj) : (((w.alloc a).alloc (.cells x t)).alloc c).setRow (w.heap.size + 1) x' = ((w.alloc a).alloc (.cells x' t)).alloc c := by
  rw [setRow_past _ _ _ _ (by simp), setRow_two']
theorem setRow3_2 (w : World) (x x' : Array Value) (t : TypeId) (a b : Obj) : (((w.alloc a).alloc b).alloc (.cells x t)).setRow (w.heap.size + 2) x' = ((w.alloc a).alloc b).alloc (.cells x' t) := by
  have := setRow_two' (w.alloc a) x x' t b
  simpa using this

theorem heap3_2' (w : World) (a b c : Obj) : (((w.alloc a).alloc b).alloc c).heap[w.heap.size + 1 + 1]? = some c := heap3_2 w a b c
theorem setRow3_2' (w : World) (x x' : Array Value) (t : TypeId) (a b : Obj) : (((w.alloc a).alloc b).alloc (.cells x t)).setRow (w.heap.size + 1 + 1) x' = ((w.alloc a).alloc b).alloc (.cells x' t) := setRow3_2 w x x' t a b

def MASKF (n : Int) : Nat → Int := fun i => if (i : Int) < n then 1 else 0
theorem MASKF_01 (n : Int) : Bit01 (MASKF n) := fun i _ => by unfold MASKF; split <;> simp
theorem NUM_MASKF (n : Int) : NUM (MASKF n) = MASK n := by
  refine eq_of_bits (NUM_lt (MASKF_01 n)) (MASK_lt n) fun i hi => ?_
  rw [bit_NUM (MASKF_01 n) hi, bit_MASK]
  unfold MASKF
  by_cases h : (i : Int) < n <;> simp [h, hi]
theorem refmask_ok (n : Int) (w : World) : Calls Try.prog 20 #[.int .i64 n] w fun e w' => e = .returned (.int .u64 ((MASK n : Nat) : Int)) ∧ Fine w w' := by
  have hz := ARR_zero
  have hN := number_ok (MASKF n) (MASKF_01 n)
  rw [NUM_MASKF] at hN
  generalize MASK n = v at hN
  go_enter Try.func20, Try.ntmps20
  go_wp2
  go_loopg [4] 64 (fun g s4 wx => ∃ (i : Nat) (f : Nat → Int), i + g = 64 ∧ Aside ((i = 0 ∨ (i : Int) ≤ n) ∧ ∀ j, f j = if j < i then 1 else 0) ∧ s4 = .int .i64 i ∧ wx = w.alloc (.cells (ARR f) 49))
  case atStart => exact ⟨0, fun _ => 0, by omega, ⟨Or.inl rfl, fun j => by simp⟩, rfl, rfl⟩
  case round =>
    obtain ⟨i, f, hig, A, rfl, rfl⟩ := hrel
    by_cases hgo : (i : Int) < 64 ∧ (i : Int) < n
    · obtain ⟨hi, hin⟩ := hgo
      have hc : (ARR f)[i]? = some (.int .i64 (f i)) := ARR_get f i (by omega)
      have hs : ∀ v, (ARR f).setIfInBounds i (.int .i64 v) = ARR (fun j => if j = i then v else f j) := fun v => ARR_set f i v
      go_wp2
      go_roundg (gk - 1)
      case measure => omega
      case rel =>
        refine ⟨i + 1, _, by omega, ⟨Or.inr (by omega), fun j => ?_⟩, by go_num, rfl⟩
        by_cases e : j = i
        · rw [if_pos e, if_pos (by omega)]
        · rw [if_neg e, A.out.2 j]
          by_cases e2 : j < i
          · rw [if_pos e2, if_pos (by omega)]
          · rw [if_neg e2, if_neg (by omega)]
    · have hf : ARR f = ARR (MASKF n) := ARR_ext fun j hj => by
        have := A.out.1
        rw [A.out.2 j]
        unfold MASKF
        by_cases e : j < i
        · rw [if_pos e, if_pos (by omega)]
        · rw [if_neg e, if_neg (by omega)]
      rw [hf]
      clear hf A
      by_cases hi : (i : Int) < 64
      · have hin : ¬ (i : Int) < n := fun h => hgo ⟨hi, h⟩
        clear hgo
        go_wp2_with (refine wpList_load_row rfl 49 _ rfl _ rfl _ _ (0, 0) _ (heap_one w _) Try.underlying49 rfl (info_ARR _) ?_)
        refine (hN _).mono ?_
        rintro e w3 ⟨rfl, hF3⟩
        go_wp2
        go_ret
        exact ⟨rfl, ((Fine.refl _).alloc _ _).trans hF3⟩
      · clear hgo
        go_wp2_with (refine wpList_load_row rfl 49 _ rfl _ rfl _ _ (0, 0) _ (heap_one w _) Try.underlying49 rfl (info_ARR _) ?_)
        refine (hN _).mono ?_
        rintro e w3 ⟨rfl, hF3⟩
        go_wp2
        go_ret
        exact ⟨rfl, ((Fine.refl _).alloc _ _).trans hF3⟩

theorem reffield_raw (x at' n : Int) (s k v : Nat) (r m : Nat → Int) (w : World)
    (c1 : ∀ w, Calls Try.prog 11 #[.int .u64 x, .int .i64 at'] w fun e w' => e = .returned (.int .u64 (s : Int)) ∧ Fine w w')
    (c2 : ∀ w, Calls Try.prog 41 #[.int .u64 (s : Int)] w fun e w' => e = .returned (.agg (ARR r)) ∧ Fine w w')
    (c3 : ∀ w, Calls Try.prog 20 #[.int .i64 n] w fun e w' => e = .returned (.int .u64 (k : Int)) ∧ Fine w w')
    (c4 : ∀ w, Calls Try.prog 41 #[.int .u64 (k : Int)] w fun e w' => e = .returned (.agg (ARR m)) ∧ Fine w w')
    (hb : Aside (Bit01 r ∧ Bit01 m))
    (hN : ∀ w, Calls Try.prog 43 #[.agg (ARR fun j => r j * m j)] w fun e w' => e = .returned (.int .u64 (v : Int)) ∧ Fine w w') :
    Calls Try.prog 22 #[.int .u64 x, .int .i64 at', .int .i64 n] w fun e w' => e = .returned (.int .u64 (v : Int)) ∧ Fine w w' := by
  have hz := ARR_zero
  go_enter Try.func22, Try.ntmps22
  go_wp2_with fail
  refine (c1 _).mono ?_
  rintro e w1 ⟨rfl, hF1⟩
  have HF1 : Aside (Fine w w1) := hF1
  clear hF1
  go_wp2_with fail
  refine (c2 _).mono ?_
  rintro e w2 ⟨rfl, hF2⟩
  have HF2 : Aside (Fine w1 w2) := hF2
  clear hF2
  go_wp2_with fail
  refine (c3 _).mono ?_
  rintro e w3 ⟨rfl, hF3⟩
  have HF3 : Aside (Fine w2 w3) := hF3
  clear hF3
  go_wp2_with fail
  refine (c4 _).mono ?_
  rintro e w4 ⟨rfl, hF4⟩
  have HF4 : Aside (Fine w3 w4) := hF4
  clear hF4
  go_wp2_with (first | (refine wpList_store_row rfl 49 _ _ rfl _ _ rfl rfl _ _ (heap_two w4 _ _) (info_ARR _) (by rw [ARR_size, ARR_size]) (ARR_one _) ?_; rw [setRow_two]) | (refine wpList_store_row rfl 49 _ _ rfl _ _ rfl rfl _ _ (heap_two' w4 _ _) (info_ARR _) (by rw [ARR_size, ARR_size]) (ARR_one _) ?_; rw [setRow_two']))
  have HF : Aside (Fine w w4) := HF1.out.trans (HF2.out.trans (HF3.out.trans HF4.out))
  clear HF1 HF2 HF3 HF4
  go_loopg [9] 64 (fun g s9 wx => ∃ (i : Nat) (f : Nat → Int) (w5 : World), i + g = 64 ∧ Aside ((∀ j, f j = if j < i then r j * m j else r j) ∧ Fine w w5) ∧ w5.heap.size = w4.heap.size ∧ s9 = .int .i64 i ∧
    wx = (w5.alloc (.cells (ARR f) 49)).alloc (.cells (ARR m) 49))
  case atStart => exact ⟨0, r, w4, by omega, ⟨fun j => by simp, HF.out⟩, rfl, rfl, rfl⟩
  case round =>
    obtain ⟨i, f, w5, hig, A, hsz, rfl, rfl⟩ := hrel
    cases gk with
    | zero =>
      obtain rfl : i = 64 := by omega
      have hf : ARR f = ARR (fun j => r j * m j) := ARR_ext fun j hj => by rw [A.out.1 j, if_pos hj]
      rw [hf]
      have hh := heap_two w5 (.cells (ARR fun j => r j * m j) 49) (.cells (ARR m) 49)
      rw [hsz] at hh
      clear hf
      go_wp2_with (refine wpList_load_row rfl 49 _ rfl _ rfl _ _ (0, 0) _ (hh) Try.underlying49 rfl (info_ARR _) ?_)
      refine (hN _).mono ?_
      rintro e w6 ⟨rfl, hF6⟩
      go_wp2
      go_ret
      exact ⟨rfl, A.out.2.trans ((((Fine.refl _).alloc _ _).alloc _ _).trans hF6)⟩
    | succ g =>
      have hi : (i : Int) < 64 := by omega
      have hc : (ARR f)[i]? = some (.int .i64 (f i)) := ARR_get f i (by omega)
      have hcm : (ARR m)[i]? = some (.int .i64 (m i)) := ARR_get m i (by omega)
      have hs : ∀ v, (ARR f).setIfInBounds i (.int .i64 v) = ARR (fun j => if j = i then v else f j) := fun v => ARR_set f i v
      go_wp2
      go_region
      go_wp2
      go_roundg g
      case measure => omega
      case rel =>
        refine ⟨i + 1, _, w5.drew, by omega, ⟨fun j => ?_, A.out.2.drew⟩, hsz, by go_num, rfl⟩
        by_cases e : j = i
        · subst e
          have h1 := hb.out.1 j (by omega)
          have h2 := hb.out.2 j (by omega)
          have h3 := A.out.1 j
          rw [if_neg (by omega)] at h3
          rw [if_pos rfl, if_pos (by omega), h3]
          rcases h1 with h1 | h1 <;> rcases h2 with h2 | h2 <;> rw [h1, h2] <;> unfold wrap64 <;> omega
        · rw [if_neg e, A.out.1 j]
          by_cases e2 : j < i
          · rw [if_pos e2, if_pos (by omega)]
          · rw [if_neg e2, if_neg (by omega)]

set_option maxHeartbeats 1000000 in
theorem reflay_raw (x at' n y : Int) (k t s v : Nat) (r m b : Nat → Int) (w : World)
    (c1 : ∀ w, Calls Try.prog 41 #[.int .u64 x] w fun e w' => e = .returned (.agg (ARR r)) ∧ Fine w w')
    (c2 : ∀ w, Calls Try.prog 20 #[.int .i64 n] w fun e w' => e = .returned (.int .u64 (k : Int)) ∧ Fine w w')
    (c3 : ∀ w, Calls Try.prog 9 #[.int .u64 (k : Int), .int .i64 at'] w fun e w' => e = .returned (.int .u64 (t : Int)) ∧ Fine w w')
    (c4 : ∀ w, Calls Try.prog 41 #[.int .u64 (t : Int)] w fun e w' => e = .returned (.agg (ARR m)) ∧ Fine w w')
    (c5 : ∀ w, Calls Try.prog 9 #[.int .u64 y, .int .i64 at'] w fun e w' => e = .returned (.int .u64 (s : Int)) ∧ Fine w w')
    (c6 : ∀ w, Calls Try.prog 41 #[.int .u64 (s : Int)] w fun e w' => e = .returned (.agg (ARR b)) ∧ Fine w w')
    (hN : ∀ w, Calls Try.prog 43 #[.agg (ARR fun j => if m j = 1 then b j else r j)] w fun e w' => e = .returned (.int .u64 (v : Int)) ∧ Fine w w') :
    Calls Try.prog 24 #[.int .u64 x, .int .i64 at', .int .i64 n, .int .u64 y] w fun e w' => e = .returned (.int .u64 (v : Int)) ∧ Fine w w' := by
  have hz := ARR_zero
  go_enter Try.func24, Try.ntmps24
  go_wp2_with fail
  refine (c1 _).mono ?_
  rintro e w1 ⟨rfl, hF1⟩
  have HF1 : Aside (Fine w w1) := hF1
  clear hF1
  go_wp2_with fail
  refine (c2 _).mono ?_
  rintro e w2 ⟨rfl, hF2⟩
  have HF2 : Aside (Fine w1 w2) := hF2
  clear hF2
  go_wp2_with fail
  refine (c3 _).mono ?_
  rintro e w3 ⟨rfl, hF3⟩
  have HF3 : Aside (Fine w2 w3) := hF3
  clear hF3
  go_wp2_with fail
  refine (c4 _).mono ?_
  rintro e w4 ⟨rfl, hF4⟩
  have HF4 : Aside (Fine w3 w4) := hF4
  clear hF4
  go_wp2_with fail
  refine (c5 _).mono ?_
  rintro e w5 ⟨rfl, hF5⟩
  have HF5 : Aside (Fine w4 w5) := hF5
  clear hF5
  go_wp2_with fail
  refine (c6 _).mono ?_
  rintro e w6 ⟨rfl, hF6⟩
  have HF6 : Aside (Fine w5 w6) := hF6
  clear hF6
  go_wp2_with (first | (refine wpList_store_row rfl 49 _ _ rfl w6.heap.size (ARR r) rfl rfl 49 (ARR fun _ => 0) (heap3_0 w6 _ _ _) (info_ARR _) (by rw [ARR_size, ARR_size]) (ARR_one _) ?_; rw [setRow3_0]) | (refine wpList_store_row rfl 49 _ _ rfl (w6.heap.size + 1) (ARR m) rfl rfl 49 (ARR fun _ => 0) (heap3_1 w6 _ _ _) (info_ARR _) (by rw [ARR_size, ARR_size]) (ARR_one _) ?_; rw [setRow3_1]) | (refine wpList_store_row rfl 49 _ _ rfl (w6.heap.size + 1 + 1) (ARR b) rfl rfl 49 (ARR fun _ => 0) (heap3_2' w6 _ _ _) (info_ARR _) (by rw [ARR_size, ARR_size]) (ARR_one _) ?_; rw [setRow3_2']))
  have HF : Aside (Fine w w6) := HF1.out.trans (HF2.out.trans (HF3.out.trans (HF4.out.trans (HF5.out.trans HF6.out))))
  clear HF1 HF2 HF3 HF4 HF5 HF6
  go_loopg [12] 64 (fun g s12 wx => ∃ (i : Nat) (f : Nat → Int), i + g = 64 ∧ Aside (∀ j, f j = if j < i then (if m j = 1 then b j else r j) else r j) ∧ s12 = .int .i64 i ∧
    wx = ((w6.alloc (.cells (ARR f) 49)).alloc (.cells (ARR m) 49)).alloc (.cells (ARR b) 49))
  case atStart => exact ⟨0, r, by omega, fun j => by simp, rfl, rfl⟩
  case round =>
    obtain ⟨i, f, hig, A, rfl, rfl⟩ := hrel
    cases gk with
    | zero =>
      obtain rfl : i = 64 := by omega
      have hf : ARR f = ARR (fun j => if m j = 1 then b j else r j) := ARR_ext fun j hj => by rw [A.out j, if_pos hj]
      rw [hf]
      clear hf A
      go_wp2_with (refine wpList_load_row rfl 49 _ rfl _ rfl _ _ (0, 0) _ (heap3_0 w6 _ _ _) Try.underlying49 rfl (info_ARR _) ?_)
      refine (hN _).mono ?_
      rintro e w7 ⟨rfl, hF7⟩
      go_wp2
      go_ret
      exact ⟨rfl, HF.out.trans (((((Fine.refl _).alloc _ _).alloc _ _).alloc _ _).trans hF7)⟩
    | succ g =>
      have hi : (i : Int) < 64 := by omega
      have hc : (ARR f)[i]? = some (.int .i64 (f i)) := ARR_get f i (by omega)
      have hcm : (ARR m)[i]? = some (.int .i64 (m i)) := ARR_get m i (by omega)
      have hcb : (ARR b)[i]? = some (.int .i64 (b i)) := ARR_get b i (by omega)
      have hs : ∀ v, (ARR f).setIfInBounds i (.int .i64 v) = ARR (fun j => if j = i then v else f j) := fun v => ARR_set f i v
      by_cases h : m i = 1
      · have h' : (m i == 1) = true := by simp [h]
        have H : Aside (m i = 1) := h
        clear h
        go_wp2
        go_roundg g
        case measure => omega
        case rel =>
          exact ⟨i + 1, _, by omega, mix_put (F := fun j => if m j = 1 then b j else r j) A.out (if_pos H.out).symm, by go_num, rfl⟩
      · have h' : (m i == 1) = false := by simp [h]
        have H : Aside (¬ m i = 1) := h
        clear h
        go_wp2
        go_roundg g
        case measure => omega
        case rel =>
          exact ⟨i + 1, f, by omega, mix_keep (F := fun j => if m j = 1 then b j else r j) A.out (if_neg H.out), by go_num, rfl⟩

theorem and_01 {A B : Nat} : Bit01 (fun j => BITS A j * BITS B j) := fun i hi => by
  rcases BITS_01 A i hi with h | h <;> rcases BITS_01 B i hi with k | k <;> simp [h, k]
theorem NUM_and {A B : Nat} (hA : A < 2 ^ 64) : NUM (fun j => BITS A j * BITS B j) = A &&& B := by
  refine eq_of_bits (NUM_lt and_01) (Nat.lt_of_le_of_lt Nat.and_le_left hA) fun i hi => ?_
  rw [bit_NUM and_01 hi, Nat.testBit_and, ← bit_BITS A i, ← bit_BITS B i]
  rcases BITS_01 A i hi with h | h <;> rcases BITS_01 B i hi with k | k <;> simp [h, k]
theorem lay_01 {X T S : Nat} : Bit01 (fun j => if BITS T j = 1 then BITS S j else BITS X j) := fun i hi => by
  show (if BITS T i = 1 then BITS S i else BITS X i) = 0 ∨ (if BITS T i = 1 then BITS S i else BITS X i) = 1
  split
  · exact BITS_01 S i hi
  · exact BITS_01 X i hi
theorem NUM_lay {X T S : Nat} (hX : X < 2 ^ 64) (hT : T < 2 ^ 64) (hS : S < 2 ^ 64) : NUM (fun j => if BITS T j = 1 then BITS S j else BITS X j) = ANDNOT X T ||| (S &&& T) := by
  refine eq_of_bits (NUM_lt lay_01) (Nat.or_lt_two_pow (ANDNOT_lt hX _) (Nat.lt_of_le_of_lt Nat.and_le_left hS)) fun i hi => ?_
  rw [bit_NUM lay_01 hi, Nat.testBit_or, Nat.testBit_and, bit_ANDNOT' hX hT, ← bit_BITS X i, ← bit_BITS S i, ← bit_BITS T i]
  by_cases h : BITS T i = 1
  · simp [h]
  · simp [h]
theorem reffield_eq (X : Nat) (at' n : Int) (hX : X < 2 ^ 64) (w : World) : Calls Try.prog 22 #[.int .u64 (X : Int), .int .i64 at', .int .i64 n] w fun e w' => e = .returned (.int .u64 ((FIELD X at' n : Nat) : Int)) ∧ Fine w w' := by
  refine reffield_raw X at' n (SHR X at') (MASK n) (FIELD X at' n) (BITS (SHR X at')) (BITS (MASK n)) w (fun w => refshr_eq X at' hX w) (fun w => row_ok _ (SHR_lt hX _) w) (fun w => refmask_ok n w) (fun w => row_ok _ (MASK_lt _) w) ⟨BITS_01 _, BITS_01 _⟩ (fun w => ?_)
  have k := number_ok _ (and_01 (A := SHR X at') (B := MASK n)) w
  rw [NUM_and (SHR_lt hX _)] at k
  exact k
theorem reflay_eq (X : Nat) (at' n : Int) (Y : Nat) (hX : X < 2 ^ 64) (hY : Y < 2 ^ 64) (w : World) : Calls Try.prog 24 #[.int .u64 (X : Int), .int .i64 at', .int .i64 n, .int .u64 (Y : Int)] w fun e w' => e = .returned (.int .u64 ((LAY X at' n Y : Nat) : Int)) ∧ Fine w w' := by
  refine reflay_raw X at' n Y (MASK n) (SHL (MASK n) at') (SHL Y at') (LAY X at' n Y) (BITS X) (BITS (SHL (MASK n) at')) (BITS (SHL Y at')) w (fun w => row_ok X hX w) (fun w => refmask_ok n w) (fun w => refshl_eq _ at' (MASK_lt _) w) (fun w => row_ok _ (SHL_lt (MASK_lt _) _) w)
    (fun w => refshl_eq Y at' hY w) (fun w => row_ok _ (SHL_lt hY _) w) (fun w => ?_)
  have k := number_ok _ (lay_01 (X := X) (T := SHL (MASK n) at') (S := SHL Y at')) w
  rw [NUM_lay hX (SHL_lt (MASK_lt _) _) (SHL_lt hY _)] at k
  exact k
end Go.Proofs.Ytlklnljgmkagoaa
