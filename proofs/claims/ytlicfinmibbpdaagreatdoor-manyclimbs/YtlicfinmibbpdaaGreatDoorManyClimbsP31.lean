/- Texts of ManyClimbs, one behind the other: ManyRefClimb, ManyStays2, ManyTexts. -/
import Derived.Test.YtlicfinmibbpdaaGreatDoorManyClimbsP27
import Derived.Test.YtlicfinmibbpdaaGreatDoorManyClimbsP30
/- The document's Climb of package many. -/
namespace Go.Proofs.YtlicfinmibbpdaaGreatDoor
open Go.RowKit
set_option maxRecDepth 100000

/-- peak by peak, each with the leaves under it. -/
def MUPR (d : Int) : List (Nat × Nat) → List Nat → List Int → List Int → List Int
  | [], _, _, _ => []
  | (h, k) :: ps, L, lv, nd => (MUP d h k (UND h k L) lv nd).1 ++ MUPR d ps L (MUP d h k (UND h k L) lv nd).2.1 (MUP d h k (UND h k L) lv nd).2.2
theorem MUPR_congr {d : Int} : ∀ {ps : List (Nat × Nat)} {L M : List Nat} {lv nd : List Int}, (∀ s ∈ ps, UND s.1 s.2 L = UND s.1 s.2 M) → MUPR d ps L lv nd = MUPR d ps M lv nd
  | [], _, _, _, _, _ => rfl
  | (h, k) :: ps, L, M, lv, nd, hp => by
    have e := hp (h, k) (List.mem_cons_self ..)
    dsimp only at e
    rw [MUPR, MUPR, e]
    exact congrArg _ (MUPR_congr fun t ht => hp t (List.mem_cons_of_mem _ ht))
theorem und_rest {k h B : Nat} {ps : List (Nat × Nat)} {L : List Nat} (ht : Tile ((k + 1) * 2 ^ h) ps B) : ∀ s ∈ ps, UND s.1 s.2 L = UND s.1 s.2 (L.filter fun y => !decide (y < (k + 1) * 2 ^ h)) := fun s hs => by
  have h1 := (ht.within s hs).1
  unfold UND
  rw [List.filter_filter]
  refine List.filter_congr fun y hy => ?_
  by_cases e : y / 2 ^ s.1 = s.2
  · have h2 : s.2 * 2 ^ s.1 ≤ y := by rw [← e]; exact Nat.div_mul_le_self _ _
    have h3 : ¬ y < (k + 1) * 2 ^ h := by omega
    simp [e, h3]
  · simp [e]
theorem und_first {A k h N : Nat} {L : List Nat} (hA : k * 2 ^ h = A) (hm : AMID A N L) : UND h k L = L.filter fun y => decide (y < (k + 1) * 2 ^ h) := List.filter_congr fun y hy => decide_eq_decide.2 (by
  have h1 := Nat.div_lt_iff_lt_mul (Nat.two_pow_pos h) (x := y) (y := k + 1)
  have h2 := Nat.le_div_iff_mul_le (Nat.two_pow_pos h) (x := k) (y := y)
  have h3 := (hm y hy).1
  rw [← h1]
  rw [hA] at h2
  generalize y / 2 ^ h = q at *
  omega)
theorem MUPR_MUPS {d : Int} : ∀ (ps : List (Nat × Nat)) (A B : Nat) (L : List Nat) (lv nd : List Int), Tile A ps B → AMID A B L → MUPR d ps L lv nd = MUPS d ps L lv nd
  | [], _, _, _, _, _, _, _ => rfl
  | (h, k) :: ps, A, B, L, lv, nd, ht, hm => by
    obtain ⟨hN, hA, ht⟩ : Node h k ∧ k * 2 ^ h = A ∧ Tile ((k + 1) * 2 ^ h) ps B := ht
    have e1 := und_first hA hm
    rw [MUPR, MUPS, MUPR_congr (und_rest (L := L) ht), e1, MUPR_MUPS ps ((k + 1) * 2 ^ h) B _ _ _ ht (fun y hy => by
      obtain ⟨a, b⟩ := List.mem_filter.1 hy
      have b : ¬ y < (k + 1) * 2 ^ h := by simpa using b
      exact ⟨by omega, (hm y a).2⟩)]
/-- how many nodes are needed, and how many leaves are taken, by the peaks from one on. -/
theorem und_counts : ∀ (ps : List (Nat × Nat)) (A B : Nat) (L : List Nat), Tile A ps B → AMID A B L → ps.foldr (fun s x => (UND s.1 s.2 L).length + x) 0 = L.length ∧ ps.foldr (fun s x => (NEED s.1 s.2 (UND s.1 s.2 L)).length + x) 0 = (NEEDS ps L).length
  | [], A, B, L, ht, hm => by
    have e : A = B := ht
    cases L with
    | nil => exact ⟨rfl, rfl⟩
    | cons x l => have := hm x (by simp); omega
  | (h, k) :: ps, A, B, L, ht, hm => by
    obtain ⟨hN, hA, ht⟩ : Node h k ∧ k * 2 ^ h = A ∧ Tile ((k + 1) * 2 ^ h) ps B := ht
    have e1 := und_first hA hm
    have ih := und_counts ps ((k + 1) * 2 ^ h) B (L.filter fun y => !decide (y < (k + 1) * 2 ^ h)) ht (fun y hy => by
      obtain ⟨a, b⟩ := List.mem_filter.1 hy
      have b : ¬ y < (k + 1) * 2 ^ h := by simpa using b
      exact ⟨by omega, (hm y a).2⟩)
    have hc : ∀ (f : Nat × Nat → List Nat → Nat) , ps.foldr (fun s x => f s (UND s.1 s.2 L) + x) 0 = ps.foldr (fun s x => f s (UND s.1 s.2 (L.filter fun y => !decide (y < (k + 1) * 2 ^ h))) + x) 0 := fun f => by
      have hr := und_rest (L := L) ht
      clear ih e1 ht
      induction ps with
      | nil => rfl
      | cons s ps ihh =>
        rw [List.foldr_cons, List.foldr_cons, ihh (fun t ht => hr t (List.mem_cons_of_mem _ ht)), hr s (List.mem_cons_self ..)]
    refine ⟨?_, ?_⟩
    · rw [List.foldr_cons, hc (fun _ l => l.length), ih.1, e1]
      exact filter_both _ _
    · rw [List.foldr_cons, hc (fun s l => (NEED s.1 s.2 l).length), ih.2, NEEDS, List.length_append, e1]

/-- leaves and nodes that the peaks from one on take. -/
def TKL (ps : List (Nat × Nat)) (L : List Nat) : Nat := ps.foldr (fun s x => (UND s.1 s.2 L).length + x) 0
def TKN (ps : List (Nat × Nat)) (L : List Nat) : Nat := ps.foldr (fun s x => (NEED s.1 s.2 (UND s.1 s.2 L)).length + x) 0
/-- behind i peaks. -/
structure RCJ (d : Int) (N : Nat) (L : List Nat) (lv nd : List Int) (w w4 wx : World) (b11 i : Nat) (pv : Value) (out lvj ndj : List Int) (ya xa : Option Addr) (yc xc : Nat) : Prop where
  row : Has wx b11 #[.slice ya (TKL ((TPS N).drop i) L) yc, .slice xa (TKN ((TPS N).drop i) L) xc] 61
  l : LFT w ya (TKL ((TPS N).drop i) L) yc lvj
  n : LFT w xa (TKN ((TPS N).drop i) L) xc ndj
  own : wx.ownsRow w4.heap.size 38 32 pv i (CELLS out)
  but : BUT b11 w4 wx
  all : MUPR d (TPS N) L lv nd = out ++ MUPR d ((TPS N).drop i) L lvj ndj
set_option maxHeartbeats 8000000 in
theorem refclimb10_err (d : Int) (L : List Nat) (N : Nat) (hN : N < 2 ^ 64) (a : Option Addr) (m c : Nat) (an : Option Addr) (K cn : Nat) (al : Option Addr) (nl cl : Nat) (lv nd : List Int) (w : World) (hl : L.length = m) (hm : m ≤ 200) (hx : ∀ x ∈ L, x < 2 ^ 64) (hK : K ≤ 200) (hL : NUML w a L) (hFn : Flat w an K nd) (hE : MCE L N K nl ≠ 0) :
    Calls Tryz.prog 8 #[.int .i64 d, .slice al nl cl, .agg #[.int .u64 (N : Int), .slice a m c, .slice an K cn]] w (ANSC w (MCL d L N K nl lv nd)) := by
  have hP : MCL d L N K nl lv nd = (MCE L N K nl, 0, []) := if_neg hE
  rw [hP]
  obtain ⟨w1, e1⟩ : ∃ w1, w.alloc (.cells #[.int .u64 (N : Int), .slice a m c, .slice an K cn] 26) = w1 := ⟨_, rfl⟩
  have hb1 : Below w.heap.size w w1 := by rw [← e1]; exact (Below.refl _ _).alloc (Nat.le_refl _) _
  have hB1 : Has w1 w.heap.size #[.int .u64 (N : Int), .slice a m c, .slice an K cn] 26 := by rw [← e1]; exact Has.new _ _ _
  have x0 := hB1.cell 0
  have x1 := hB1.cell 1
  have x2 := hB1.cell 2
  have ce := refencode10_ok L N hN a m c an K cn nd w1 hl hm hx hK (hL.keep hb1) (hFn.below hb1)
  have HB : Aside (Below w.heap.size w w1 ∧ Has w1 w.heap.size #[.int .u64 (N : Int), .slice a m c, .slice an K cn] 26 ∧ L.length = m) := ⟨hb1, hB1, hl⟩
  clear hl hm hx hK hL hFn hb1 hB1 hP hN
  by_cases hW : MWA L N K = 0
  · have hnl : nl ≠ L.length := fun e => hE (MCE_ok hW e)
    have hne : ((nl : Int) == (m : Int)) = false := beq_eq_false_iff_ne.2 (by have := HB.out.2.2; omega)
    rw [MCE_count hW hnl]
    have hME : MENC L N K nd = (0, MWRT L N nd) := if_pos hW
    rw [hME] at ce
    clear hW hE hnl hME
    go_enter Tryz.func8, Tryz.ntmps8
    go_wp2_with fail
    refine ce.mono ?_
    rintro e w2 ⟨ae, qe, rfl, _, hb2⟩
    clear ce x0 x1 x2 e1
    have k2 := HB.out.2.1.keep hb2
    have x1 := k2.cell 1
    have FN : Aside (Below w.heap.size w w2) := HB.out.1.trans (hb2.mono HB.out.1.size)
    clear hb2 k2 HB
    go_wp2_with fail
    go_ret2
    exact ⟨none, 0, rfl, ⟨rfl, .inl ⟨rfl, rfl⟩⟩, FN.out⟩
  · have hME : MENC L N K nd = (MWA L N K, []) := if_neg hW
    rw [MCE_whole hW]
    rw [hME] at ce
    have hw0 : (MWA L N K == 0) = false := beq_eq_false_iff_ne.2 hW
    clear hME hE
    generalize MWA L N K = E at *
    go_enter Tryz.func8, Tryz.ntmps8
    go_wp2_with fail
    refine ce.mono ?_
    rintro e w2 ⟨ae, qe, rfl, _, hb2⟩
    clear ce x0 x1 x2 e1
    have FN : Aside (Below w.heap.size w w2) := HB.out.1.trans (hb2.mono HB.out.1.size)
    clear hb2 HB
    go_wp2_with fail
    go_ret2
    exact ⟨none, 0, rfl, ⟨rfl, .inl ⟨rfl, rfl⟩⟩, FN.out⟩

theorem TKL_cons {N i h k : Nat} {L : List Nat} (e : (TPS N)[i]? = some (h, k)) : TKL ((TPS N).drop i) L = (UND h k L).length + TKL ((TPS N).drop (i + 1)) L ∧ TKN ((TPS N).drop i) L = (NEED h k (UND h k L)).length + TKN ((TPS N).drop (i + 1)) L := by
  rw [drop_cons e]
  exact ⟨rfl, rfl⟩
theorem MUPR_cons {d : Int} {N i h k : Nat} {L : List Nat} {lv nd : List Int} (e : (TPS N)[i]? = some (h, k)) : MUPR d ((TPS N).drop i) L lv nd = (MUP d h k (UND h k L) lv nd).1 ++ MUPR d ((TPS N).drop (i + 1)) L (MUP d h k (UND h k L) lv nd).2.1 (MUP d h k (UND h k L) lv nd).2.2 := by
  rw [drop_cons e]
  rfl
theorem tops_new (n : Nat) (hn : n ≤ 4611686018427387904) (w : World) : Calls Tryz.prog 29 #[.int .u64 (n : Int)] w fun e w' =>
    ∃ a cap, e = .returned (.slice a (PC n) cap) ∧ Spots w' a (TPS n) ∧ (∀ x, a = some x → w.heap.size ≤ x.block) ∧ Below w.heap.size w w' := by
  refine (tops_ok n hn w).mono ?_
  rintro e w' ⟨v, rfl, hown, hb⟩
  have hl := TOPS_length (n := n) (by omega) 0 (by omega)
  rw [Nat.pow_zero, Nat.div_one] at hl
  obtain ⟨a, cap, rfl, hs⟩ := spots_own hl hown
  refine ⟨a, cap, rfl, hs, fun x hx => ?_, hb⟩
  subst hx
  exact (hown.lt x.block rfl).1
set_option maxHeartbeats 16000000 in
theorem refclimb10_ok (d : Int) (L : List Nat) (N : Nat) (hN : N < 2 ^ 64) (a : Option Addr) (m c : Nat) (an : Option Addr) (K cn : Nat) (al : Option Addr) (nl cl : Nat) (lv nd : List Int) (w : World) (hl : L.length = m) (hm : m ≤ 200) (hx : ∀ x ∈ L, x < 2 ^ 64) (hK : K ≤ 200) (hL : NUML w a L) (hFn : Flat w an K nd) (hcn : K ≤ cn) (hFl : Flat w al nl lv) (hcl : nl ≤ cl) :
    Calls Tryz.prog 8 #[.int .i64 d, .slice al nl cl, .agg #[.int .u64 (N : Int), .slice a m c, .slice an K cn]] w (ANSC w (MCL d L N K nl lv nd)) := by
  by_cases hE : MCE L N K nl = 0
  case neg => exact refclimb10_err d L N hN a m c an K cn al nl cl lv nd w hl hm hx hK hL hFn hE
  have hP : MCL d L N K nl lv nd = (0, PC N, MUPS d (TPS N) L lv nd) := if_pos hE
  rw [hP]
  have hW : MWA L N K = 0 := by
    by_cases h : MWA L N K = 0
    · exact h
    · rw [MCE_whole h] at hE; exact hE
  have hnl : nl = m := by
    by_cases h : nl = L.length
    · rw [h, hl]
    · rw [MCE_count hW h] at hE; cases hE
  subst hnl
  obtain ⟨q1, q2⟩ := MWA_ok hW
  obtain ⟨r1, r2, r3⟩ := RISEA_ok q1
  have hME : MENC L N K nd = (0, MWRT L N nd) := if_pos hW
  have htile := TPS_tile r1
  have ham : AMID 0 N L := fun x hx => ⟨Nat.zero_le _, r3 x hx⟩
  have hcount := und_counts (TPS N) 0 N L htile ham
  have hall := MUPR_MUPS (d := d) (TPS N) 0 N L lv nd htile ham
  have hPC : PC N ≤ 64 := PC_lt_pow 64 N (by omega)
  have hlen := TPS_length (n := N) (by omega)
  obtain ⟨w1, e1⟩ : ∃ w1, w.alloc (.cells #[.int .u64 (N : Int), .slice a nl c, .slice an K cn] 26) = w1 := ⟨_, rfl⟩
  obtain ⟨b5, hb5⟩ : ∃ b5, w.heap.size = b5 := ⟨_, rfl⟩
  have hb1 : Below w.heap.size w w1 := by rw [← e1]; exact (Below.refl _ _).alloc (Nat.le_refl _) _
  have hB1 : Has w1 b5 #[.int .u64 (N : Int), .slice a nl c, .slice an K cn] 26 := by rw [← e1, ← hb5]; exact Has.new _ _ _
  have x0 := hB1.cell 0
  have x1 := hB1.cell 1
  have x2 := hB1.cell 2
  have ce := refencode10_ok L N hN a nl c an K cn nd w1 hl hm hx hK (hL.keep hb1) (hFn.below hb1)
  rw [hME] at ce
  have CT : Aside (∀ w, Calls Tryz.prog 29 #[.int .u64 (N : Int)] w fun e w' => ∃ a cap, e = .returned (.slice a (PC N) cap) ∧ Spots w' a (TPS N) ∧ (∀ x, a = some x → w.heap.size ≤ x.block) ∧ Below w.heap.size w w') := tops_new N r1
  have HB : Aside (Below w.heap.size w w1 ∧ Has w1 b5 #[.int .u64 (N : Int), .slice a nl c, .slice an K cn] 26 ∧ L.length = nl ∧ w.heap.size = b5) := ⟨hb1, hB1, hl, hb5⟩
  have HA : Aside (nl ≤ 200 ∧ N ≤ 2 ^ 62 ∧ PC N ≤ 64 ∧ (TPS N).length = PC N ∧ RISES L ∧ (∀ x ∈ L, x < 2 ^ 64) ∧ NUML w a L ∧ LFT w al nl cl lv ∧ LFT w an K cn nd ∧ nl = TKL (TPS N) L ∧ K = TKN (TPS N) L ∧ MUPR d (TPS N) L lv nd = MUPS d (TPS N) L lv nd) := ⟨hm, by omega, hPC, hlen, r2, hx, hL, ⟨hFl, hcl⟩, ⟨hFn, hcn⟩, by rw [← hl]; exact hcount.1.symm, by rw [q2]; exact hcount.2.symm, hall⟩
  clear hl hm hx hK hL hFn hb1 hB1 hP hN hE hW q1 q2 r1 r2 r3 hME htile ham hcount hall hPC hlen hFl hcl hcn
  go_enter Tryz.func8, Tryz.ntmps8
  go_wp2_with fail
  refine ce.mono ?_
  rintro e w2 ⟨ae, qe, rfl, _, hb2⟩
  clear ce x0 x1 x2 e1 hb5
  have k2 := HB.out.2.1.keep hb2
  have x1 := k2.cell 1
  have x2 := k2.cell 2
  go_upto_region 8 with fail
  obtain ⟨w3, hw3⟩ : ∃ w3, w2.alloc (.cells #[.slice al nl cl, .slice an K cn] 61) = w3 := ⟨_, rfl⟩
  have hb3 : Below w2.heap.size w2 w3 := by rw [← hw3]; exact (Below.refl _ _).alloc (Nat.le_refl _) _
  have hR3 : Has w3 w2.heap.size #[.slice al nl cl, .slice an K cn] 61 := by rw [← hw3]; exact Has.new _ _ _
  rw [hw3]
  have k3 := k2.keep hb3
  have W3 : Aside (Below w.heap.size w w3 ∧ Has w3 b5 #[.int .u64 (N : Int), .slice a nl c, .slice an K cn] 26 ∧ Has w3 w2.heap.size #[.slice al nl cl, .slice an K cn] 61 ∧ w.heap.size = b5 ∧ b5 < w2.heap.size) := ⟨(HB.out.1.trans (hb2.mono HB.out.1.size)).trans (hb3.mono (HB.out.1.trans (hb2.mono HB.out.1.size)).size), k3, hR3, HB.out.2.2.2, k2.lt⟩
  have x0 := k3.cell 0
  have ct := CT.out w3
  generalize w2.heap.size = b11 at *
  clear hw3 hb3 hR3 k2 k3 x1 x2 hb2 CT
  go_wp2_with fail
  refine ct.mono ?_
  rintro e w4 ⟨ag, cg, rfl, hsp, hnew, hb4⟩
  clear ct x0
  obtain ⟨M, hM⟩ : ∃ M, PC N = M := ⟨_, rfl⟩
  rw [hM]
  have W4 : Aside (Below w.heap.size w w4 ∧ Has w4 b5 #[.int .u64 (N : Int), .slice a nl c, .slice an K cn] 26 ∧ w.heap.size = b5 ∧ b5 < b11 ∧ b11 < w4.heap.size ∧ Spots w4 ag (TPS N) ∧ PC N = M ∧ (∀ x, ag = some x → x.block ≠ b11)) := by
    refine ⟨W3.out.1.trans (hb4.mono W3.out.1.size), W3.out.2.1.keep hb4, W3.out.2.2.2.1, W3.out.2.2.2.2, (W3.out.2.2.1.keep hb4).lt, hsp, hM, fun x hx => ?_⟩
    have h1 := hnew x hx
    have h2 := W3.out.2.2.1.lt
    omega
  have S0 : Aside (RCJ d N L lv nd w w4 w4 b11 0 (.slice none 0 0) [] lv nd al an cl cn) := by
    have h := HA.out
    refine ⟨?_, ?_, ?_, ⟨rfl, .inl ⟨rfl, rfl⟩⟩, BUT.refl _ _, by simp⟩
    · rw [List.drop_zero, ← h.2.2.2.2.2.2.2.2.2.1, ← h.2.2.2.2.2.2.2.2.2.2.1]; exact W3.out.2.2.1.keep hb4
    · rw [List.drop_zero, ← h.2.2.2.2.2.2.2.2.2.1]; exact h.2.2.2.2.2.2.2.1
    · rw [List.drop_zero, ← h.2.2.2.2.2.2.2.2.2.2.1]; exact h.2.2.2.2.2.2.2.2.1
  clear hsp hb4 W3 hM hnew
  go_wp2_with fail
  go_loopg [10, 13] M (fun q s10 s13 wx => ∃ (i : Nat) (out lvj ndj : List Int) (ya xa : Option Addr) (yc xc : Nat), s13 = .int .i64 (i : Int) ∧ Aside (i + q = M ∧ RCJ d N L lv nd w w4 wx b11 i s10 out lvj ndj ya xa yc xc))
  case atStart => exact ⟨0, [], lv, nd, al, an, cl, cn, rfl, by omega, S0.out⟩
  case round =>
    obtain ⟨i, out, lvj, ndj, ya, xa, yc, xc, rfl, A⟩ := hrel
    clear S0
    cases gk with
    | zero =>
      obtain rfl : i = M := by have := A.out.1; omega
      have hlt : ¬ (i : Int) < (i : Int) := by omega
      have FN : Aside (∃ ap cp, u10 = .slice ap (PC N) cp ∧ wr.ownsRow w.heap.size 38 32 (.slice ap (PC N) cp) (PC N) (CELLS (MUPS d (TPS N) L lv nd)) ∧ Below w.heap.size w wr) := by
        show ∃ ap cp, u10 = .slice ap (PC N) cp ∧ wr.ownsRow w.heap.size 38 32 (.slice ap (PC N) cp) (PC N) (CELLS (MUPS d (TPS N) L lv nd)) ∧ Below w.heap.size w wr
        have h := A.out.2
        have e := h.all
        rw [List.drop_of_length_le (by have := W4.out.2.2.2.2.2.2.1; have := HA.out.2.2.2.1; omega), MUPR, List.append_nil, HA.out.2.2.2.2.2.2.2.2.2.2.2] at e
        have ho := h.own
        rw [← e] at ho
        rw [W4.out.2.2.2.2.2.2.1]
        obtain ⟨ap, cp, rfl⟩ := own_cutm ho
        exact ⟨ap, cp, rfl, own_mono ho W4.out.1.size, W4.out.1.trans (h.but.2.mono (by have := W4.out; omega))⟩
      clear A HA W4
      go_wp2_with fail
      obtain ⟨ap, cp, rfl, h1, h2⟩ := FN.out
      go_ret2
      exact ⟨ap, cp, rfl, h1, h2⟩
    | succ q =>
      have hiM : i < M := by have := A.out.1; omega
      have hlt : (i : Int) < (M : Int) := by omega
      obtain ⟨⟨h, k⟩, ehk⟩ : ∃ s, (TPS N)[i]? = some s := ⟨_, List.getElem?_eq_getElem (by have := W4.out.2.2.2.2.2.2.1; have := HA.out.2.2.2.1; omega)⟩
      obtain ⟨g, rfl, hg, hc⟩ := W4.out.2.2.2.2.2.1 (by have := W4.out.2.2.2.2.2.2.1; have := HA.out.2.2.2.1; omega)
      have hgb : g ≠ b11 := W4.out.2.2.2.2.2.2.2 _ rfl
      have hnd := TPS_span HA.out.2.1 (List.mem_of_getElem? ehk)
      obtain ⟨t1, t2⟩ := TKL_cons (L := L) ehk
      have t3 := MUPR_cons (d := d) (L := L) (lv := lvj) (nd := ndj) ehk
      have ei : wrap64 ((i : Int) + 1) = ((i + 1 : Nat) : Int) := by have := HA.out.2.2.1; have := W4.out.2.2.2.2.2.2.1; unfold wrap64; omega
      have hbw : Below w.heap.size w wr := W4.out.1.trans (A.out.2.but.2.mono (by have := W4.out; omega))
      have hsz : w4.heap.size ≤ wr.heap.size := A.out.2.but.2.size
      obtain ⟨w6, hw6⟩ : ∃ w6, wr.alloc (.cells ZARR 38) = w6 := ⟨_, rfl⟩
      obtain ⟨b14, hb14⟩ : ∃ b14, wr.heap.size = b14 := ⟨_, rfl⟩
      have hb6 : Below wr.heap.size wr w6 := by rw [← hw6]; exact (Below.refl _ _).alloc (Nat.le_refl _) _
      have hz6 : Has w6 b14 (CELLS ZND).toArray 38 := by rw [← hw6, ← hb14, ZARR_eq]; exact Has.new _ _ _
      have hbw6 : Below w.heap.size w w6 := hbw.trans (hb6.mono hbw.size)
      have sL := MUP_spec d h k (UND h k L) lvj ndj (TKL ((TPS N).drop i) L) (TKN ((TPS N).drop i) L) (und_unr HA.out.2.2.2.2.1 h k) ⟨A.out.2.l.1.1, A.out.2.l.1.2.2⟩ ⟨A.out.2.n.1.1, A.out.2.n.1.2.2⟩ (by omega) (by omega)
      have co : ∀ W, Below w6.heap.size w6 W → Calls Tryz.prog 30 #[.int .i64 d, SPOT h k, .slice a nl c, .agg #[.slice ya (TKL ((TPS N).drop i) L) yc, .slice xa (TKN ((TPS N).drop i) L) xc]] W (OVR w W (MUP d h k (UND h k L) lvj ndj).1 (MUP d h k (UND h k L) lvj ndj).2.1 (MUP d h k (UND h k L) lvj ndj).2.2 (TKL ((TPS N).drop (i + 1)) L) (TKN ((TPS N).drop (i + 1)) L)) := fun W hW => by
        have hbW : Below w.heap.size w W := hbw6.trans (hW.mono hbw6.size)
        have := rover_ok d w h k hnd.2.2 L a nl c lvj ndj ya xa (TKL ((TPS N).drop i) L) (TKN ((TPS N).drop i) L) yc xc W HB.out.2.2.1 (by have := HA.out.1; clear ei; omega) HA.out.2.2.2.2.2.1 HA.out.2.2.2.2.1 (HA.out.2.2.2.2.2.2.1.keep hbW) hbW A.out.2.l A.out.2.n (by clear ei; omega) (by clear ei; omega)
        rw [show TKL ((TPS N).drop i) L - (UND h k L).length = TKL ((TPS N).drop (i + 1)) L by clear ei; omega, show TKN ((TPS N).drop i) L - (NEED h k (UND h k L)).length = TKN ((TPS N).drop (i + 1)) L by clear ei; omega] at this
        exact this
      have hcell : ∀ W, Below w6.heap.size w6 W → W.cell? ⟨g, i * 2, none⟩ = some (.int .u8 (h : Int)) ∧ W.cell? ⟨g, i * 2 + 1, none⟩ = some (.int .u64 (k : Int)) ∧ W.cell? ⟨b5, 1, none⟩ = some (.slice a nl c) := fun W hW => by
        have kb : ∀ q, q < w4.heap.size → q ≠ b11 → W.heap[q]? = w4.heap[q]? := fun q hq hne => (hW.block q (by have := hb6.size; clear ei; omega)).trans ((hb6.block q (by clear ei; omega)).trans (A.out.2.but.1 q hq hne))
        exact ⟨(World.cell?_of_block (w := w4) (by exact kb g hg hgb)).trans (hc i h k ehk).1, (World.cell?_of_block (w := w4) (by exact kb g hg hgb)).trans (hc i h k ehk).2, (World.cell?_of_block (w := w4) (by exact kb b5 W4.out.2.1.lt (by have := W4.out; clear ei; omega))).trans (W4.out.2.1.cell 1)⟩
      have hrow6 : Has w6 b11 #[.slice ya (TKL ((TPS N).drop i) L) yc, .slice xa (TKN ((TPS N).drop i) L) xc] 61 := A.out.2.row.keep hb6
      have R : Aside (i + 1 + q = M ∧ Has w6 b14 (CELLS ZND).toArray 38 ∧ Has w6 b11 #[.slice ya (TKL ((TPS N).drop i) L) yc, .slice xa (TKN ((TPS N).drop i) L) xc] 61 ∧ w6.ownsRow w4.heap.size 38 32 u10 i (CELLS out) ∧ BUT b11 w4 w6 ∧ MUPR d (TPS N) L lv nd = out ++ (MUP d h k (UND h k L) lvj ndj).1 ++ MUPR d ((TPS N).drop (i + 1)) L (MUP d h k (UND h k L) lvj ndj).2.1 (MUP d h k (UND h k L) lvj ndj).2.2 ∧ b11 < w4.heap.size ∧ w4.heap.size ≤ b14 ∧ i ≤ 64 ∧ g < w4.heap.size ∧ g ≠ b11 ∧ b5 < b11 ∧ (∀ k, u10.ownBlock = some k → k < b14)) := by
        refine ⟨by have := A.out.1; clear ei; omega, hz6, hrow6, own_hold A.out.2.own fun k e => hb6.block k (A.out.2.own.lt k e).2, A.out.2.but.trans (BUT.of_below hb6 (by have := W4.out; clear ei; omega)), by rw [A.out.2.all, t3, List.append_assoc], W4.out.2.2.2.2.1, by clear ei; omega, by have := HA.out.2.2.1; have := W4.out.2.2.2.2.2.2.1; clear ei; omega, hg, hgb, W4.out.2.2.2.1, fun k e => by have := (A.out.2.own.lt k e).2; clear ei; omega⟩
      have CO : Aside _ := co
      have HC : Aside _ := hcell
      have lY := sL.1.1
      clear A hnd t1 t2 t3 hbw hsz hb6 hz6 hbw6 sL co hcell hrow6 ehk hc hg hgb hiM
      generalize (MUP d h k (UND h k L) lvj ndj).1 = Y at *
      generalize (MUP d h k (UND h k L) lvj ndj).2.1 = lv2 at *
      generalize (MUP d h k (UND h k L) lvj ndj).2.2 = nd2 at *
      generalize TKL ((TPS N).drop i) L = tl at *
      generalize TKN ((TPS N).drop i) L = tn at *
      go_upto_region 13 with fail
      clear hw6 hb14
      refine mclimb13 w6 d b5 b11 b14 g M cg i h k nl c tl yc tn xc (TKL ((TPS N).drop (i + 1)) L) (TKN ((TPS N).drop (i + 1)) L) a ya xa Y lY hlt (fun W => W = w6.drew) (fun p1 p2 p3 p4 W => LFT w p1 (TKL ((TPS N).drop (i + 1)) L) p2 lv2 ∧ LFT w p3 (TKN ((TPS N).drop (i + 1)) L) p4 nd2 ∧ Below w6.heap.size w6 W) (fun p1 p2 p3 p4 W => ∃ W1, LFT w p1 (TKL ((TPS N).drop (i + 1)) L) p2 lv2 ∧ LFT w p3 (TKN ((TPS N).drop (i + 1)) L) p4 nd2 ∧ Below w6.heap.size w6 W1 ∧ W = W1.setRow b14 (CELLS Y).toArray) (fun p1 p2 p3 p4 W => ∃ W1, LFT w p1 (TKL ((TPS N).drop (i + 1)) L) p2 lv2 ∧ LFT w p3 (TKN ((TPS N).drop (i + 1)) L) p4 nd2 ∧ Below w6.heap.size w6 W1 ∧ W = (W1.setRow b14 (CELLS Y).toArray).setRow b11 #[.slice p1 (TKL ((TPS N).drop (i + 1)) L) p2, .slice p3 (TKN ((TPS N).drop (i + 1)) L) p4]) rfl ?_ ?_ ?_ ?_ ?_ ?_ ?_ ?_ ?_ ?_ (fun _ _ _ _ _ h => h) ?_
      · rintro _ rfl
        exact HC.out w6.drew (Below.refl _ w6).drew
      · rintro _ _ _ _ W ⟨_, _, hW⟩
        exact HC.out W hW
      · rintro _ _ _ _ _ ⟨W1, _, _, hW, rfl⟩
        obtain ⟨_, _, _, _, _, _, r7, r8, _, r10, r11, r12, _⟩ := R.out
        have h1 := HC.out W1 hW
        exact ⟨(World.cell?_of_block (w := W1) (by exact setRow_other _ b14 g _ (by clear ei; omega))).trans h1.1, (World.cell?_of_block (w := W1) (by exact setRow_other _ b14 g _ (by clear ei; omega))).trans h1.2.1, (World.cell?_of_block (w := W1) (by exact setRow_other _ b14 b5 _ (by clear ei; omega))).trans h1.2.2⟩
      · rintro _ _ _ _ _ ⟨W1, _, _, hW, rfl⟩
        obtain ⟨_, _, _, _, _, _, r7, r8, _, r10, r11, r12, _⟩ := R.out
        have h1 := HC.out W1 hW
        exact ⟨(World.cell?_of_block (w := W1) (by exact (setRow_other _ b11 g _ (by clear ei; omega)).trans (setRow_other _ b14 g _ (by clear ei; omega)))).trans h1.1, (World.cell?_of_block (w := W1) (by exact (setRow_other _ b11 g _ (by clear ei; omega)).trans (setRow_other _ b14 g _ (by clear ei; omega)))).trans h1.2.1, (World.cell?_of_block (w := W1) (by exact (setRow_other _ b11 b5 _ (by clear ei; omega)).trans (setRow_other _ b14 b5 _ (by clear ei; omega)))).trans h1.2.2⟩
      · rintro _ rfl
        exact R.out.2.2.1
      · rintro _ rfl
        refine (CO.out w6.drew (Below.refl _ w6).drew).mono ?_
        rintro e w' ⟨p1, p2, p3, p4, rfl, z1, z2, z3⟩
        exact ⟨p1, p2, p3, p4, rfl, z1, z2, (Below.refl _ w6).drew.trans z3⟩
      · rintro _ _ _ _ W ⟨_, _, hW⟩
        exact R.out.2.1.keep hW
      · rintro _ _ _ _ W ⟨z1, z2, hW⟩
        exact ⟨W, z1, z2, hW, rfl⟩
      · rintro _ _ _ _ _ ⟨W1, _, _, hW, rfl⟩
        exact (R.out.2.2.1.keep hW).row_other (by have := R.out; clear ei; omega) _
      · rintro _ _ _ _ _ ⟨W1, z1, z2, hW, rfl⟩
        exact ⟨W1, z1, z2, hW, rfl⟩
      · rintro ya2 yc2 xa2 xc2 w7 ⟨W1, z1, z2, hW, rfl⟩
        dsimp only
        have R7 : Aside (Has ((W1.setRow b14 (CELLS Y).toArray).setRow b11 #[.slice ya2 (TKL ((TPS N).drop (i + 1)) L) yc2, .slice xa2 (TKN ((TPS N).drop (i + 1)) L) xc2]) b14 (CELLS Y).toArray 38 ∧ Has ((W1.setRow b14 (CELLS Y).toArray).setRow b11 #[.slice ya2 (TKL ((TPS N).drop (i + 1)) L) yc2, .slice xa2 (TKN ((TPS N).drop (i + 1)) L) xc2]) b11 #[.slice ya2 (TKL ((TPS N).drop (i + 1)) L) yc2, .slice xa2 (TKN ((TPS N).drop (i + 1)) L) xc2] 61 ∧ ((W1.setRow b14 (CELLS Y).toArray).setRow b11 #[.slice ya2 (TKL ((TPS N).drop (i + 1)) L) yc2, .slice xa2 (TKN ((TPS N).drop (i + 1)) L) xc2]).ownsRow w4.heap.size 38 32 u10 i (CELLS out) ∧ BUT b11 w4 ((W1.setRow b14 (CELLS Y).toArray).setRow b11 #[.slice ya2 (TKL ((TPS N).drop (i + 1)) L) yc2, .slice xa2 (TKN ((TPS N).drop (i + 1)) L) xc2]) ∧ LFT w ya2 (TKL ((TPS N).drop (i + 1)) L) yc2 lv2 ∧ LFT w xa2 (TKN ((TPS N).drop (i + 1)) L) xc2 nd2) := by
          obtain ⟨r1, r2, r3, r4, r5, r6, r7, r8, r9, r10, r11, r12, r13⟩ := R.out
          refine ⟨((r2.keep hW).row _).row_other (by clear ei; omega) _, ((r3.keep hW).row_other (by clear ei; omega) _).row _, own_hold r4 fun k e => ?_, ⟨fun q hq hne => ?_, ?_⟩, z1, z2⟩
          · have h1 := (r4.lt k e)
            have h2 := r13 k e
            rw [setRow_other _ b11 k _ (by clear ei; omega), setRow_other _ b14 k _ (by clear ei; omega)]
            exact hW.block k h1.2
          · rw [setRow_other _ b11 q _ hne, setRow_other _ b14 q _ (by clear ei; omega), hW.block q (by have := r5.2.size; clear ei; omega)]
            exact r5.1 q hq hne
          · exact below_row (below_row (r5.2.trans (hW.mono (by have := r5.2.size; clear ei; omega))) (by clear ei; omega) _) (Nat.le_refl _) _
        clear z1 z2 hW CO HC
        generalize (W1.setRow b14 (CELLS Y).toArray).setRow b11 #[.slice ya2 (TKL ((TPS N).drop (i + 1)) L) yc2, .slice xa2 (TKN ((TPS N).drop (i + 1)) L) xc2] = w7 at *
        have hrow := R7.out.1
        go_wp2_with (first
          | (refine wpList_load_row rfl 38 (.tmp 14) rfl b14 rfl 38 (CELLS Y).toArray (0, 0) _ hrow Tryz.underlying38 rfl (info_arr lY) ?_)
          | (refine build_one _ rfl 22 38 (.tmp 55) rfl (CELLS Y).toArray rfl 32 _ _ Tryz.underlying22 info_hashv (by simp [CELLS, lY]) rfl (by decide) (by decide) ?_)
          | (at_builtin; refine app_hash _ rfl (.tmp 54) (.tmp 56) rfl w4.heap.size u10 i _ rfl (R7.out.2.2.1.alloc _) _ 1 Y lY rfl (Has.new _ _ _) (by have := R.out; clear ei; omega) (by have := R7.out.2.2.2.1.2.size; simp; clear ei; omega) ?_; intro g8 c8 w8 hown hgrow hat hg8))
        have Z : Aside (i + 1 + q = M ∧ RCJ d N L lv nd w w4 w8 b11 (i + 1) (.slice (some ⟨g8, 0, none⟩) (i + 1) c8) (out ++ Y) lv2 nd2 ya2 xa2 yc2 xc2) := by
          obtain ⟨r1, r2, r3, r4, r5, r6, r7, r8, r9, r10, r11, r12, r13⟩ := R.out
          obtain ⟨s1, s2, s3, s4, s5, s6⟩ := R7.out
          have hbb : ∀ q, q < w7.heap.size → u10.ownBlock ≠ some q → w8.heap[q]? = w7.heap[q]? := fun q hq hne => (hgrow.block q (by simp; clear ei; omega) fun e => hne e.symm).trans (Below.heap_alloc w7 _ q hq)
          have hn11 : u10.ownBlock ≠ some b11 := fun e => by have := (s3.lt b11 e).1; clear ei; omega
          refine ⟨r1, (hbb b11 s2.lt hn11).trans s2, s5, s6, by rw [CELLS_append]; exact hown, ⟨fun q hq hne => (hbb q (by have := s4.2.size; clear ei; omega) (fun e => by have := (s3.lt q e).1; clear ei; omega)).trans (s4.1 q hq hne), ?_⟩, r6⟩
          refine (s4.2.alloc (by have := s4.2.size; clear ei; omega) _).grown hgrow (by have := s4.2.size; simp; clear ei; omega) (fun k e => ?_)
          have := (s3.lt k e).1
          clear ei
          omega
        clear hown hgrow hat hg8 R R7 hrow lY
        go_wp2
        go_roundg q
        case measure => exact Nat.lt_succ_self _
        case rel => exact ⟨i + 1, out ++ Y, lv2, nd2, ya2, xa2, yc2, xc2, by first | rfl | (rw [ei]), Z.out⟩
end Go.Proofs.YtlicfinmibbpdaaGreatDoor

/- Two lists of numbers that are alike, wherever they lie. -/
namespace Go.Proofs.YtlicfinmibbpdaaGreatDoor
open Go.RowKit
set_option maxRecDepth 100000

set_option maxHeartbeats 1000000 in
theorem samenuml_ok (a b : Option Addr) (n ca cb : Nat) (L : List Nat) (hl : L.length = n) (hn : n ≤ 2 ^ 24) (w : World) (hA : NUML w a L) (hB : NUML w b L) :
    Calls Tryz.prog 36 #[.slice a n ca, .slice b n cb] w fun e w' => e = .returned (.bool true) ∧ Below w.heap.size w w' := by
  rcases Nat.eq_zero_or_pos n with h | h
  · subst h
    clear hA hB hl
    go_enter Tryz.func36, Tryz.ntmps36
    go_wp2
    refine wp_loop_rounds 1 ?_
    rw [rounds_succ]
    go_wp2
    go_ret
    exact ⟨rfl, Below.refl _ _⟩
  · obtain ⟨ga, oa, rfl, la, hca⟩ := hA (by omega)
    obtain ⟨gb, ob, rfl, lb, hcb⟩ := hB (by omega)
    have HC : Aside ((∀ (i x : Nat), L[i]? = some x → w.cell? ⟨ga, oa + i, none⟩ = some (.int .u64 (x : Int))) ∧ (∀ (i x : Nat), L[i]? = some x → w.cell? ⟨gb, ob + i, none⟩ = some (.int .u64 (x : Int))) ∧ ga < w.heap.size ∧ gb < w.heap.size ∧ L.length = n ∧ n ≤ 2 ^ 24) := ⟨hca, hcb, la, lb, hl, hn⟩
    clear hA hB hca hcb la lb hl hn
    go_enter Tryz.func36, Tryz.ntmps36
    go_wp2
    go_loopg [5] n (fun g s5 wx => ∃ k : Nat, k + g = n ∧ s5 = .int .i64 k ∧ Aside (Below w.heap.size w wx))
    case atStart => exact ⟨0, by omega, rfl, Below.refl _ _⟩
    case round =>
      obtain ⟨k, hkg, rfl, A⟩ := hrel
      cases gk with
      | zero =>
        obtain rfl : k = n := by omega
        go_wp2
        go_ret
        exact ⟨rfl, A.out⟩
      | succ g =>
        have hlt : (k : Int) < (n : Int) := by omega
        obtain ⟨x, ex⟩ : ∃ x, L[k]? = some x := ⟨_, List.getElem?_eq_getElem (by have := HC.out.2.2.2.2.1; omega)⟩
        have h1 : wr.cell? ⟨ga, oa + k, none⟩ = some (.int .u64 (x : Int)) := (A.out.cell (by exact HC.out.2.2.1)).trans (HC.out.1 k x ex)
        have h2 : wr.cell? ⟨gb, ob + k, none⟩ = some (.int .u64 (x : Int)) := (A.out.cell (by exact HC.out.2.2.2.1)).trans (HC.out.2.1 k x ex)
        have hk24 : k < 2 ^ 24 := by have := HC.out.2.2.2.2.2; omega
        clear ex
        go_wp2
        go_quiet (fail)
        go_wp2
        go_roundg g
        case measure => omega
        case rel => exact ⟨k + 1, by omega, by go_num, below_drewN A.out _⟩
end Go.Proofs.YtlicfinmibbpdaaGreatDoor

/- row, text of the laws of layer 10; are these two proofs alike? -/
namespace Go.Proofs.YtlicfinmibbpdaaGreatDoor
open Go.RowKit
set_option maxRecDepth 100000

set_option maxHeartbeats 1000000 in
theorem row10_ok (a : Option Addr) (n c : Nat) (hn : n ≤ 1000) (hc : a = none → c = 0) (l : List Int) (w : World) (hF : Flat w a n l) : Calls Tryz.prog 7 #[.slice a n c] w (ROWED w n l) := by
  have HA : Aside (n ≤ 1000 ∧ (a = none → c = 0) ∧ Flat w a n l) := ⟨hn, hc, hF⟩
  clear hn hc hF
  go_enter Tryz.func7, Tryz.ntmps7
  go_wp2_with (first
    | (at_builtin; refine app_hashes _ rfl (.tmp 3) (.tmp 4) rfl w.heap.size (.slice (some ⟨w.heap.size, 0, none⟩) 0 0) 0 [] rfl (own_empty32 w) a n c l rfl (HA.out.2.2.below ((Below.refl _ _).alloc (Nat.le_refl _) _)) HA.out.2.1 (by have := HA.out.1; omega) (by simp) ?_; rw [Nat.zero_add, List.nil_append]; intro a1 c1 w1 hown1 hgrow1
       have R1 : Aside (w1.ownsRow w.heap.size 38 32 (.slice a1 n c1) n (CELLS l) ∧ Below w.heap.size w w1) := ⟨hown1, ((Below.refl _ w).alloc (Nat.le_refl _) _).grown hgrow1 (by simp) (fun k e => by cases e; exact Nat.le_refl _)⟩
       clear hown1 hgrow1)
    | (rw [← MRK_arr]; refine build_one _ rfl 22 38 (.tmp 6) rfl (CELLS MRK).toArray rfl 32 _ _ Tryz.underlying22 info_hashv (by rfl) rfl (by decide) (by decide) ?_)
    | (at_builtin; refine app_hash _ rfl (.tmp 5) (.tmp 7) rfl w.heap.size (.slice a1 n c1) n (CELLS l) rfl (R1.out.1.alloc _) w1.heap.size 1 MRK rfl rfl (Has.new _ _ _) (by have := HA.out.1; omega) (by have := R1.out.2.size; simp; omega) ?_; intro g2 c2 w2 hown2 hgrow2 hat2 hg2
       obtain ⟨f1, f2, f3, f4⟩ := own_front32 hown2 HA.out.2.2.1 rfl
       have hcap : (n : Int) ≤ (c2 : Int) := by omega
       have R2 : Aside (w2.ownsRow w.heap.size 38 32 (.slice (some ⟨g2, 0, none⟩) n c2) n (CELLS l) ∧ n + 1 ≤ c2 ∧ w2.rangeAt g2 (n * 32) (CELLS MRK) ∧ g2 < w2.heap.size ∧ Below w.heap.size w w2) := ⟨f1, f2, f3, f4, (R1.out.2.alloc R1.out.2.size _).grown hgrow2 (by have := R1.out.2.size; simp; omega) (fun k e => (R1.out.1.lt k e).1)⟩
       clear hown2 hgrow2 hat2 hg2 f1 f2 f3 f4))
  go_ret
  exact ⟨_, _, rfl, R2.out⟩
end Go.Proofs.YtlicfinmibbpdaaGreatDoor
