/- Texts of ManySets, one behind the other: ManySetsWalk. -/
import Derived.Test.YtadpfcpipklmbabDoorManySetsP7
import Derived.Test.YtadpfcpipklmbabDoorManySetsP13
/- The law ManySets returns true. -/
namespace Go.Proofs.YtadpfcpipklmbabDoor
open Go.RowKit
set_option maxRecDepth 100000

/-- what is known of the j-th node. -/
structure SETAT (L : List Nat) (N j : Nat) (sp : List (Nat × Nat)) (h k : Nat) : Prop where
  spot : sp[j]? = some (h, k)
  node : Node h k
  up : Node (h + 1) (k / 2)
  low : h ≤ 40
  lt : PLC h k < NODES N
  toe : (k + 1) * 2 ^ h ≤ N
  off : ∀ x ∈ L, ¬ (k * 2 ^ h ≤ x ∧ x < (k + 1) * 2 ^ h)
  met : NODES N ≤ PLC (h + 1) (k / 2) ∨ ∃ x ∈ L, k / 2 * 2 ^ (h + 1) ≤ x ∧ x < (k / 2 + 1) * 2 ^ (h + 1)
theorem set_at {L : List Nat} {N : Nat} (hr : RISEA L N = 0) (hN : N ≤ 2 ^ 40) : COVER 0 N L (NSPS (TPS N) L) ∧ ∀ j h k, (NSPS (TPS N) L)[j]? = some (h, k) → SETAT L N j (NSPS (TPS N) L) h k := by
  obtain ⟨r1, r2, r3⟩ := RISEA_ok hr
  have hm : ∀ x ∈ L, 0 ≤ x ∧ x < N := fun x hx => ⟨Nat.zero_le _, r3 x hx⟩
  have hc := nsps_cover (TPS N) 0 N L (TPS_tile r1) r2.pairwise hm
  refine ⟨hc, fun j h k e => ?_⟩
  have hs := List.mem_of_getElem? e
  have ht : (k + 1) * 2 ^ h ≤ N := (hc.within _ hs).2
  have hp := Nat.two_pow_pos h
  have h1 : 1 * 2 ^ h ≤ (k + 1) * 2 ^ h := Nat.mul_le_mul_right _ (by omega)
  have hl : h ≤ 40 := by
    rcases Nat.lt_or_ge 40 h with h2 | h2
    · have : 2 ^ 41 ≤ 2 ^ h := Nat.pow_le_pow_right (by decide) h2
      omega
    · exact h2
  have hup : (k / 2 + 1) * 2 ^ (h + 1) ≤ 2 ^ 62 := by
    have h3 : (k / 2 + 1) * 2 ^ (h + 1) ≤ (k + 1 + 1) * 2 ^ h := by
      rw [Nat.pow_succ, Nat.mul_comm (2 ^ h) 2, ← Nat.mul_assoc]
      exact Nat.mul_le_mul_right _ (by omega)
    have h4 : (k + 1 + 1) * 2 ^ h = (k + 1) * 2 ^ h + 2 ^ h := by rw [Nat.add_mul (k + 1) 1, Nat.one_mul]
    omega
  refine ⟨e, node_of_span (by omega) (by omega), node_of_span (by omega) hup, hl, plc_under ht, ht, fun x hx => hc.off _ hs x hx, ?_⟩
  rcases nsps_met (TPS N) 0 N L (TPS_tile r1) hm _ hs with h5 | h5
  · left
    apply plc_ge
    unfold TPS at h5
    obtain ⟨y, _, hy⟩ := List.mem_map.1 h5
    simp only [Prod.mk.injEq] at hy
    obtain ⟨rfl, rfl⟩ := hy
    rw [show 2 * (N / 2 ^ (y + 1)) / 2 = N / 2 ^ (y + 1) by omega]
    have := Nat.lt_mul_div_succ N (Nat.two_pow_pos (y + 1))
    rw [Nat.mul_comm] at this
    exact this
  · exact .inr h5
/-- the sum of the first j. -/
def SUMJ (sp : List (Nat × Nat)) (j : Nat) : Nat := ((sp.take j).map fun s => 2 ^ s.1).sum
theorem SUMJ_next {sp : List (Nat × Nat)} {j h k : Nat} (e : sp[j]? = some (h, k)) : SUMJ sp (j + 1) = SUMJ sp j + 2 ^ h := by
  unfold SUMJ
  rw [List.take_add_one, e]
  simp
theorem SUMJ_le (sp : List (Nat × Nat)) (j : Nat) : SUMJ sp j ≤ (sp.map fun s => 2 ^ s.1).sum := by
  unfold SUMJ
  have h : (sp.map fun s => 2 ^ s.1).sum = ((sp.take j).map fun s => 2 ^ s.1).sum + ((sp.drop j).map fun s => 2 ^ s.1).sum := by
    rw [← List.sum_append, ← List.map_append, List.take_append_drop]
  omega
theorem SUMJ_all {sp : List (Nat × Nat)} {j : Nat} (hj : sp.length ≤ j) : SUMJ sp j = (sp.map fun s => 2 ^ s.1).sum := by
  unfold SUMJ
  rw [List.take_of_length_le hj]
/-- has one of the first i been met? -/
def METB (b0 : Bool) (L : List Nat) (a b i : Nat) : Bool := b0 || (L.take i).any fun x => decide (a ≤ x) && decide (x < b)
theorem METB_next {b0 : Bool} {L : List Nat} {a b i x : Nat} (e : L[i]? = some x) : METB b0 L a b (i + 1) = (METB b0 L a b i || (decide (a ≤ x) && decide (x < b))) := by
  unfold METB
  rw [List.take_add_one, e]
  simp [Bool.or_assoc]
theorem sets_long (a : Option Addr) (n c : Nat) (N : Int) (w : World) (h : (200 : Int) < (n : Int) ∨ (1099511627776 : Int) < N) : Calls Tryd.prog 3 #[.slice a n c, .int .u64 N] w fun e w' => e = .returned (.bool true) ∧ Below w.heap.size w w' := by
  by_cases h1 : (200 : Int) < (n : Int)
  · clear h
    go_enter Tryd.func3, Tryd.ntmps3
    go_wp2
    go_ret
    exact ⟨rfl, Below.refl _ _⟩
  · have h2 := h.resolve_left h1
    clear h
    go_enter Tryd.func3, Tryd.ntmps3
    go_wp2
    go_ret
    exact ⟨rfl, Below.refl _ _⟩
set_option maxHeartbeats 4000000 in
theorem sets_some (L : List Nat) (N bb oo n c : Nat) (w : World) (hl : L.length = n) (hn : n ≤ 200) (hN : N ≤ 2 ^ 40) (hL : NUML w (some ⟨bb, oo, none⟩) L) (hT : Tabled w) (h0 : 0 < w.heap.size) : Calls Tryd.prog 3 #[.slice (some ⟨bb, oo, none⟩) n c, .int .u64 (N : Int)] w fun e w' => e = .returned (.bool true) ∧ Below w.heap.size w w' := by
  have hlong : ¬ (200 : Int) < (n : Int) := by omega
  have hlong' : ¬ (1099511627776 : Int) < (N : Int) := by omega
  have cn := numbers10_ok (some ⟨bb, oo, none⟩) n c L hl (by omega) (fun h => by cases h) w hL
  have HA : Aside (L.length = n ∧ n ≤ 200 ∧ N ≤ 2 ^ 40) := ⟨hl, hn, hN⟩
  have HL : Aside (∀ (i x : Nat), L[i]? = some x → bb < w.heap.size ∧ w.cell? ⟨bb, oo + i, none⟩ = some (.int .u64 (x : Int))) := fun i x e => by
    obtain ⟨b', o', e', h1, h2⟩ := hL (by have := (List.getElem?_eq_some_iff.1 e).1; omega)
    simp only [Option.some.injEq, Addr.mk.injEq] at e'
    rw [e'.1, e'.2.1]
    exact ⟨h1, h2 i x e⟩
  have tab : Aside (∀ W, Below w.heap.size w W → Tabled W ∧ 0 < W.heap.size) := fun W hb => ⟨hT.below h0 hb, by have := hb.size; omega⟩
  clear hl hn hN hL hT h0
  go_enter Tryd.func3, Tryd.ntmps3
  go_wp2_with fail
  refine cn.mono ?_
  rintro e w1 ⟨g, cg, rfl, hnm⟩
  clear cn
  have B1 : Aside (Below w.heap.size w w1) := hnm.below
  have cp := manyplaces_ok L N (some ⟨g, 0, none⟩) n cg w1 HA.out.1 (by have := HA.out.2.1; omega) (by have := hnm.room; omega) (fun h => by cases h) (fun x e => by cases e; exact ⟨hnm.lt, rfl⟩) (hnm.lies HA.out.1) (tab.out w1 hnm.below).1 (tab.out w1 hnm.below).2
  clear hnm
  by_cases hr : RISEA L N = 0
  · obtain ⟨hcov, hat⟩ := set_at hr HA.out.2.2
    have hP : PLCA L N = (NSPS (TPS N) L).map SPL := by unfold PLCA; rw [if_pos hr, NEEDS_NSPS]
    generalize NSPS (TPS N) L = sp at *
    obtain ⟨PL, hPL⟩ : ∃ PL, PLCA L N = PL := ⟨_, rfl⟩
    obtain ⟨M, hM⟩ : ∃ M, PL.length = M := ⟨_, rfl⟩
    have CV : Aside (COVER 0 N L sp ∧ (∀ j h k, sp[j]? = some (h, k) → SETAT L N j sp h k) ∧ PL = sp.map SPL ∧ PL.length = M ∧ sp.length = M) := ⟨hcov, hat, by rw [← hPL, hP], hM, by rw [← hM, ← hPL, hP, List.length_map]⟩
    rw [hr, hPL] at cp
    have hM20 : M < 2 ^ 41 := by
      have h1 := CV.out.1.sum
      have h2 : M ≤ (sp.map fun s => 2 ^ s.1).sum := by
        rw [← CV.out.2.2.2.2]
        clear hat hcov hP cp CV h1
        induction sp with
        | nil => simp
        | cons s t ih => simp; have := Nat.two_pow_pos s.1; omega
      have h3 := HA.out.2.2
      omega
    have hNod := nodes_ok N (by have := HA.out.2.2; omega)
    have hnb : NODES N < 2 ^ 42 := NODES_bound (h := 41) (by have := HA.out.2.2; omega)
    clear hr hcov hat hP hPL hM
    go_wp2_with fail
    refine cp.mono ?_
    rintro e w2 ⟨a2, c2, rfl, hown2, hb2⟩
    clear cp
    rw [CV.out.2.2.2.1] at hown2 ⊢
    have R2 : Aside (w2.ownsRow w1.heap.size 23 1 (.slice a2 M c2) M (UCELLS PL) ∧ Below w.heap.size w w2 ∧ M < 2 ^ 41 ∧ NODES N < 2 ^ 42) := ⟨hown2, B1.out.trans (hb2.mono B1.out.size), hM20, hnb⟩
    clear hown2 hb2 B1 hM20 hnb
    have eul := u64_len (x := n) (by have := HA.out.2.1; omega)
    go_wp2_with fail
    refine (hNod _).mono ?_
    rintro e w3 ⟨rfl, rfl⟩
    clear hNod
    obtain ⟨NN, hNN⟩ : ∃ NN, NODES N = NN := ⟨_, rfl⟩
    rw [hNN]
    have HN : Aside (NODES N = NN) := hNN
    clear hNN
    go_wp2_with fail
    go_loopg [9, 10] M (fun q s9 s10 wx => ∃ (j S : Nat), s9 = .int .u64 (S : Int) ∧ s10 = .int .i64 (j : Int) ∧ Aside (j + q = M ∧ S = n + SUMJ sp j ∧ Below w2.heap.size w2 wx))
    case atStart => exact ⟨0, n, rfl, rfl, by omega, by simp [SUMJ], Below.refl _ _⟩
    case round =>
      obtain ⟨j, S, rfl, rfl, A⟩ := hrel
      cases gk with
      | zero =>
        obtain rfl : j = M := by have := A.out.1; omega
        have hlt : ¬ (j : Int) < (j : Int) := by omega
        have hS : S = N := by
          have h1 := A.out.2.1
          rw [SUMJ_all (by rw [CV.out.2.2.2.2]; exact Nat.le_refl _)] at h1
          have h2 := CV.out.1.sum
          have h3 := HA.out.1
          omega
        subst hS
        have hbw : Below w.heap.size w wr := R2.out.2.1.trans (A.out.2.2.mono R2.out.2.1.size)
        have ca := awake10_ok wr (tab.out wr hbw).1 (tab.out wr hbw).2
        have FN : Aside (Below w.heap.size w wr) := hbw
        clear hbw A HN
        go_wp2_with fail
        refine ca.mono ?_
        rintro e w4 ⟨rfl, hb4⟩
        clear ca
        have F2 : Aside (Below w.heap.size w w4) := FN.out.trans (hb4.mono FN.out.size)
        clear hb4 FN
        go_wp2_with fail
        go_ret
        exact ⟨rfl, F2.out⟩
      | succ q =>
        have hjM : j < M := by have := A.out.1; omega
        have hlt : (j : Int) < (M : Int) := by omega
        obtain ⟨⟨h, k⟩, ehk⟩ : ∃ x, sp[j]? = some x := ⟨_, List.getElem?_eq_getElem (by rw [CV.out.2.2.2.2]; exact hjM)⟩
        have hs := CV.out.2.1 j h k ehk
        obtain ⟨g2, hg2⟩ := own_some R2.out.1 (by omega)
        subst hg2
        have hrow : ∀ (i h k : Nat), sp[i]? = some (h, k) → ∀ W, Below w2.heap.size w2 W → W.cell? ⟨g2, i, none⟩ = some (.int .u64 ((PLC h k : Nat) : Int)) := fun i h k e W hb => by
          have h1 := (R2.out.1.lt g2 rfl).2
          have hi : i < M := by rw [← CV.out.2.2.2.2]; exact (List.getElem?_eq_some_iff.1 e).1
          refine (hb.cell (p := ⟨g2, i, none⟩) h1).trans ((R2.out.1.cellAt i (by omega)).trans ?_)
          rw [CV.out.2.2.1, UCELLS, List.getElem?_map, List.getElem?_map, e]
          rfl
        have x0 := hrow j h k ehk wr A.out.2.2
        have cu := under_ok h k hs.node wr
        have cpa := parent_ok h k hs.node (by have := hs.low; omega)
        have cup := under_ok (h + 1) (k / 2) hs.up
        have hft : k * 2 ^ h + 2 ^ h = (k + 1) * 2 ^ h := FRM_lt (h, k)
        have hlow := hs.low
        have hpw : 2 ^ h ≤ 2 ^ 40 := Nat.pow_le_pow_right (by decide) hlow
        have hSn := SUMJ_next ehk
        have hSle := SUMJ_le sp (j + 1)
        have hcs := CV.out.1.sum
        have ORD : Aside (∀ i h' k', i < j → sp[i]? = some (h', k') → (k' + 1) * 2 ^ h' ≤ k * 2 ^ h) := fun i h' k' hij e => by
          have h1 := CV.out.1.order
          rw [List.pairwise_iff_getElem] at h1
          have hi := (List.getElem?_eq_some_iff.1 e)
          have hj := (List.getElem?_eq_some_iff.1 ehk)
          have h2 := h1 i j hi.1 hj.1 hij
          rw [hi.2, hj.2] at h2
          exact h2
        obtain ⟨f, hf⟩ : ∃ f, k * 2 ^ h = f := ⟨_, rfl⟩
        obtain ⟨t, ht⟩ : ∃ t, (k + 1) * 2 ^ h = t := ⟨_, rfl⟩
        obtain ⟨P2, hP2⟩ : ∃ P2, 2 ^ h = P2 := ⟨_, rfl⟩
        obtain ⟨pp, hpp⟩ : ∃ pp, PLC h k = pp := ⟨_, rfl⟩
        obtain ⟨up, hup⟩ : ∃ up, PLC (h + 1) (k / 2) = up := ⟨_, rfl⟩
        obtain ⟨fa, hfa⟩ : ∃ fa, k / 2 * 2 ^ (h + 1) = fa := ⟨_, rfl⟩
        obtain ⟨tb, htb⟩ : ∃ tb, (k / 2 + 1) * 2 ^ (h + 1) = tb := ⟨_, rfl⟩
        have z1 := hs.lt
        have z2 := hs.toe
        have z3 := hs.off
        have z4 := hs.met
        rw [hf, ht, hpp] at cu
        rw [hpp, hup] at cpa
        rw [hup, hfa, htb] at cup
        rw [hpp] at x0 z1
        rw [ht] at z2
        rw [hf, ht] at z3
        rw [hup, hfa, htb] at z4
        rw [hf, ht, hP2] at hft
        rw [hP2] at hSn hpw
        have e1 := u64_gap (x := t) (k := f) (by omega) (by have := HA.out.2.2; omega)
        rw [show t - f = P2 by omega] at e1
        have hS2 : S + P2 ≤ N := by have := A.out.2.1; have := HA.out.1; omega
        have e2 : IntKind.u64.wrap ((S : Int) + (P2 : Int)) = ((S + P2 : Nat) : Int) := by rw [wrapU]; have := HA.out.2.2; omega
        have ej : wrap64 ((j : Int) + 1) = ((j + 1 : Nat) : Int) := by have := R2.out.2.2.1; unfold wrap64; omega
        have d1 : decide ((NN : Int) ≤ (pp : Int)) = false := decide_eq_false (by have := HN.out; omega)
        have d1' : ¬ (NN : Int) ≤ (pp : Int) := of_decide_eq_false d1
        have d1'' : pp < NN := by clear e1 e2 ej; omega
        have d1n : ¬ NN ≤ pp := by clear e1 e2 ej; omega
        have K : Aside (t ≤ N ∧ (∀ x ∈ L, ¬ (f ≤ x ∧ x < t)) ∧ (NODES N ≤ up ∨ ∃ x ∈ L, fa ≤ x ∧ x < tb) ∧ f + P2 = t ∧ S + P2 = n + SUMJ sp (j + 1) ∧ j + 1 + q = M ∧ Below w2.heap.size w2 wr ∧ PLC h k = pp ∧ k * 2 ^ h = f ∧ f < t) := ⟨z2, z3, z4, hft, by have := A.out.2.1; clear e1 e2 ej; omega, by have := A.out.1; clear e1 e2 ej; omega, A.out.2.2, hpp, hf, by clear e1 e2 ej; have := Nat.two_pow_pos h; omega⟩
        have RW : Aside (∀ (i h k : Nat), sp[i]? = some (h, k) → ∀ W, Below w2.heap.size w2 W → W.cell? ⟨g2, i, none⟩ = some (.int .u64 ((PLC h k : Nat) : Int))) := hrow
        have XJ : Aside (∀ W, Below w2.heap.size w2 W → W.cell? ⟨g2, j, none⟩ = some (.int .u64 (pp : Int))) := fun W hb => by rw [← hpp]; exact hrow j h k ehk W hb
        have CPA : Aside (∀ w, Calls Tryd.prog 11 #[.int .u64 (pp : Int)] w fun e w' => e = .returned (.tuple #[.int .u64 (up : Int), .bool true]) ∧ Below w.heap.size w w') := cpa
        have CUP : Aside (∀ w, Calls Tryd.prog 10 #[.int .u64 (up : Int)] w fun e w' => e = .returned (.tuple #[.int .u64 (fa : Int), .int .u64 (tb : Int), .bool true]) ∧ Below w.heap.size w w') := cup
        clear hs z1 z2 z3 z4 hft hSn hSle hcs hpw hlow hf ht hP2 hpp hup hfa htb hrow cpa cup hS2 A hjM ehk
        go_wp2_with fail
        refine cu.mono ?_
        rintro e w3 ⟨rfl, hb3⟩
        clear cu x0
        have hb3' : Below w2.heap.size w2 w3 := K.out.2.2.2.2.2.2.1.trans (hb3.mono K.out.2.2.2.2.2.2.1.size)
        have x0 := XJ.out w3 hb3'
        have B3 : Aside (Below w2.heap.size w2 w3) := hb3'
        clear hb3 hb3'
        rcases Nat.eq_zero_or_pos j with hj0 | hj0
        · have d2 : decide ((0 : Int) < (j : Int)) = false := decide_eq_false (by clear e1 e2 ej; omega)
          have d2' : ¬ (0 : Int) < (j : Int) := by clear e1 e2 ej; omega
          have d2n : ¬ 0 < j := by clear e1 e2 ej; omega
          clear hj0 RW ORD
          go_upto_region 12 with fail
          go_big_quiet (fail)
          have B4 : Aside (Below w2.heap.size w2 (w3.drewN nq)) := below_drewN B3.out _
          generalize w3.drewN nq = w4 at *
          clear x0 B3
          have x0 := XJ.out w4 B4.out
          go_wp2_with fail
          refine (CPA.out _).mono ?_
          rintro e w5 ⟨rfl, hb5⟩
          have EA : Aside _ := And.intro e1 (And.intro e2 ej)
          clear e1 e2 ej
          clear x0
          have B5 : Aside (Below w2.heap.size w2 w5) := B4.out.trans (hb5.mono B4.out.size)
          clear hb5 B4
          go_wp2_with fail
          refine (CUP.out _).mono ?_
          rintro e w6 ⟨rfl, hb6⟩
          have B6 : Aside (Below w2.heap.size w2 w6) := B5.out.trans (hb6.mono B5.out.size)
          clear hb6 B5 CPA CUP
          obtain ⟨b0, hb0⟩ : ∃ b0, decide (NN ≤ up) = b0 := ⟨_, rfl⟩
          have HB : Aside (decide (NN ≤ up) = b0) := hb0
          clear hb0
          go_wp2_with fail
          go_loopg [19, 20] n (fun r s19 s20 wx => ∃ (i : Nat) (b : Bool), s19 = .bool b ∧ s20 = .int .i64 (i : Int) ∧ Aside (i + r = n ∧ b = METB b0 L fa tb i ∧ Below w2.heap.size w2 wx))
          case atStart => exact ⟨0, b0, by first | rfl | exact congrArg Value.bool HB.out, rfl, by omega, by simp [METB], B6.out⟩
          case round =>
            obtain ⟨i, b, rfl, rfl, C⟩ := hrel
            cases gk with
            | zero =>
              obtain rfl : i = n := by have := C.out.1; omega
              have hlt2 : ¬ (i : Int) < (i : Int) := by omega
              have hb1 : b = true := by
                rw [C.out.2.1]
                unfold METB
                rw [List.take_of_length_le (by have := HA.out.1; omega)]
                rcases K.out.2.2.1 with h1 | ⟨x, hx, h1, h2⟩
                · rw [← HB.out, decide_eq_true (by have := HN.out; omega)]
                  rfl
                · rw [List.any_eq_true.2 ⟨x, hx, by simp [h1, h2]⟩, Bool.or_true]
              subst hb1
              have B7 : Aside (Below w2.heap.size w2 wr) := C.out.2.2
              clear C
              have Z : Aside (j + 1 + q = M ∧ S + P2 = i + SUMJ sp (j + 1) ∧ Below w2.heap.size w2 wr) := ⟨K.out.2.2.2.2.2.1, K.out.2.2.2.2.1, B7.out⟩
              clear B7
              have ej := EA.out.2.2
              go_wp2_with fail
              go_roundg q
              case measure => exact Nat.lt_succ_self _
              case rel => exact ⟨j + 1, S + P2, by first | rfl | exact congrArg (Value.int IntKind.u64) EA.out.2.1, by first | rfl | (rw [ej]), Z.out⟩
            | succ r =>
              have hin : i < n := by have := C.out.1; omega
              have hlt2 : (i : Int) < (n : Int) := by omega
              obtain ⟨x, ex⟩ : ∃ x, L[i]? = some x := ⟨_, List.getElem?_eq_getElem (by have := HA.out.1; omega)⟩
              obtain ⟨hbb, hcc⟩ := HL.out i x ex
              have x0 : wr.cell? ⟨bb, oo + i, none⟩ = some (.int .u64 (x : Int)) := ((R2.out.2.1.trans (C.out.2.2.mono R2.out.2.1.size)).cell (p := ⟨bb, oo + i, none⟩) hbb).trans hcc
              have hoff := K.out.2.1 x (List.mem_of_getElem? ex)
              have Z : Aside (∀ b', b' = (b || (decide (fa ≤ x) && decide (x < tb))) → i + 1 + r = n ∧ b' = METB b0 L fa tb (i + 1) ∧ Below w2.heap.size w2 wr) := fun b' hb' => ⟨by have := C.out.1; omega, by rw [METB_next ex, ← C.out.2.1]; exact hb', C.out.2.2⟩
              clear C hcc ex hin
              by_cases hq : f ≤ x
              · have q1 : (f : Int) ≤ (x : Int) := by omega
                have q2 : ¬ (x : Int) < (t : Int) := by omega
                have q2n : ¬ x < t := by omega
                clear hoff
                cases b with
                | true =>
                  go_wp2_with fail
                  go_roundg r
                  case measure => exact Nat.lt_succ_self _
                  case rel => exact ⟨i + 1, true, rfl, by first | rfl | simp, Z.out true (by simp)⟩
                | false =>
                  by_cases g1 : fa ≤ x
                  · have g1' : (fa : Int) ≤ (x : Int) := by omega
                    by_cases g2' : x < tb
                    · have g3 : (x : Int) < (tb : Int) := by omega
                      have Z2 := Z.out true (by simp [g1, g2'])
                      have Z3 : Aside _ := Z2
                      clear Z Z2
                      go_wp2_with fail
                      go_roundg r
                      case measure => exact Nat.lt_succ_self _
                      case rel => exact ⟨i + 1, true, rfl, by first | rfl | simp, Z3.out⟩
                    · have g3 : ¬ (x : Int) < (tb : Int) := by omega
                      have Z2 := Z.out false (by simp [g1, g2'])
                      have Z3 : Aside _ := Z2
                      clear Z Z2
                      go_wp2_with fail
                      go_roundg r
                      case measure => exact Nat.lt_succ_self _
                      case rel => exact ⟨i + 1, false, rfl, by first | rfl | simp, Z3.out⟩
                  · have g1' : ¬ (fa : Int) ≤ (x : Int) := by omega
                    have Z2 := Z.out false (by simp [g1])
                    have Z3 : Aside _ := Z2
                    clear Z Z2
                    go_wp2_with fail
                    go_roundg r
                    case measure => exact Nat.lt_succ_self _
                    case rel => exact ⟨i + 1, false, rfl, by first | rfl | simp, Z3.out⟩
              · have q1 : ¬ (f : Int) ≤ (x : Int) := by omega
                clear hoff
                cases b with
                | true =>
                  go_wp2_with fail
                  go_roundg r
                  case measure => exact Nat.lt_succ_self _
                  case rel => exact ⟨i + 1, true, rfl, by first | rfl | simp, Z.out true (by simp)⟩
                | false =>
                  by_cases g1 : fa ≤ x
                  · have g1' : (fa : Int) ≤ (x : Int) := by omega
                    by_cases g2' : x < tb
                    · have g3 : (x : Int) < (tb : Int) := by omega
                      have Z2 := Z.out true (by simp [g1, g2'])
                      have Z3 : Aside _ := Z2
                      clear Z Z2
                      go_wp2_with fail
                      go_roundg r
                      case measure => exact Nat.lt_succ_self _
                      case rel => exact ⟨i + 1, true, rfl, by first | rfl | simp, Z3.out⟩
                    · have g3 : ¬ (x : Int) < (tb : Int) := by omega
                      have Z2 := Z.out false (by simp [g1, g2'])
                      have Z3 : Aside _ := Z2
                      clear Z Z2
                      go_wp2_with fail
                      go_roundg r
                      case measure => exact Nat.lt_succ_self _
                      case rel => exact ⟨i + 1, false, rfl, by first | rfl | simp, Z3.out⟩
                  · have g1' : ¬ (fa : Int) ≤ (x : Int) := by omega
                    have Z2 := Z.out false (by simp [g1])
                    have Z3 : Aside _ := Z2
                    clear Z Z2
                    go_wp2_with fail
                    go_roundg r
                    case measure => exact Nat.lt_succ_self _
                    case rel => exact ⟨i + 1, false, rfl, by first | rfl | simp, Z3.out⟩
        · obtain ⟨i, hi⟩ : ∃ i, j = i + 1 := ⟨j - 1, by clear e1 e2 ej; omega⟩
          obtain ⟨⟨h', k'⟩, eh'⟩ : ∃ x, sp[i]? = some x := ⟨_, List.getElem?_eq_getElem (by rw [CV.out.2.2.2.2]; have := K.out.2.2.2.2.2.1; clear e1 e2 ej; omega)⟩
          have hs' := CV.out.2.1 i h' k' eh'
          have hor := ORD.out i h' k' (by clear e1 e2 ej; omega) eh'
          have hfr' : k' * 2 ^ h' + 2 ^ h' = (k' + 1) * 2 ^ h' := FRM_lt (h', k')
          have hpo := Nat.two_pow_pos h'
          have hpl : PLC h' k' < pp := by rw [← K.out.2.2.2.2.2.2.2.1]; exact PLC_before hor
          rw [K.out.2.2.2.2.2.2.2.2.1] at hor
          have y0 := RW.out i h' k' eh' w3 B3.out
          have cu' := under_ok h' k' hs'.node
          obtain ⟨p', hp'⟩ : ∃ x, PLC h' k' = x := ⟨_, rfl⟩
          obtain ⟨f', hf'⟩ : ∃ x, k' * 2 ^ h' = x := ⟨_, rfl⟩
          obtain ⟨t', ht'⟩ : ∃ x, (k' + 1) * 2 ^ h' = x := ⟨_, rfl⟩
          have YJ : Aside (∀ W, Below w2.heap.size w2 W → W.cell? ⟨g2, i, none⟩ = some (.int .u64 (p' : Int))) := fun W hb => by rw [← hp']; exact RW.out i h' k' eh' W hb
          rw [hp', hf', ht'] at cu'
          rw [hp'] at y0 hpl
          rw [hf', ht'] at hfr'
          rw [ht'] at hor
          have CU' : Aside (∀ w, Calls Tryd.prog 10 #[.int .u64 (p' : Int)] w fun e w' => e = .returned (.tuple #[.int .u64 (f' : Int), .int .u64 (t' : Int), .bool true]) ∧ Below w.heap.size w w') := cu'
          have K' : Aside (t' ≤ f ∧ f' < t') := ⟨hor, by clear e1 e2 ej; omega⟩
          have d2 : decide ((0 : Int) < (j : Int)) = true := decide_eq_true (by clear e1 e2 ej; omega)
          have d2' : (0 : Int) < (j : Int) := by clear e1 e2 ej; omega
          have d3 : decide ((pp : Int) ≤ (p' : Int)) = false := decide_eq_false (by clear e1 e2 ej; omega)
          have ei : wrap64 ((j : Int) - 1) = (i : Int) := by have := K.out.2.2.2.2.2.1; have := R2.out.2.2.1; unfold wrap64; clear e1 e2 ej; omega
          have hiM : (i : Int) < (M : Int) := by clear e1 e2 ej ei; omega
          have d3' : ¬ (pp : Int) ≤ (p' : Int) := of_decide_eq_false d3
          have d3n : ¬ pp ≤ p' := by clear e1 e2 ej; omega
          have hiM' : i < M := by clear e1 e2 ej ei; omega
          clear hs' hor cu' hfr' hpo hp' hf' ht' eh' hi RW ORD
          go_upto_region 12 with fail
          go_big_quiet (fail)
          have B4 : Aside (Below w2.heap.size w2 (w3.drewN nq)) := below_drewN B3.out _
          generalize w3.drewN nq = w4 at *
          clear x0 y0 B3
          have x0 := XJ.out w4 B4.out
          go_wp2_with fail
          refine (CPA.out _).mono ?_
          rintro e w5 ⟨rfl, hb5⟩
          have EA : Aside _ := And.intro e1 (And.intro e2 (And.intro ej ei))
          clear e1 e2 ej ei
          clear x0
          have B5 : Aside (Below w2.heap.size w2 w5) := B4.out.trans (hb5.mono B4.out.size)
          clear hb5 B4
          go_wp2_with fail
          refine (CUP.out _).mono ?_
          rintro e w6 ⟨rfl, hb6⟩
          have B6 : Aside (Below w2.heap.size w2 w6) := B5.out.trans (hb6.mono B5.out.size)
          clear hb6 B5 CPA CUP
          obtain ⟨b0, hb0⟩ : ∃ b0, decide (NN ≤ up) = b0 := ⟨_, rfl⟩
          have HB : Aside (decide (NN ≤ up) = b0) := hb0
          clear hb0
          go_wp2_with fail
          go_loopg [19, 20] n (fun r s19 s20 wx => ∃ (i : Nat) (b : Bool), s19 = .bool b ∧ s20 = .int .i64 (i : Int) ∧ Aside (i + r = n ∧ b = METB b0 L fa tb i ∧ Below w2.heap.size w2 wx))
          case atStart => exact ⟨0, b0, by first | rfl | exact congrArg Value.bool HB.out, rfl, by omega, by simp [METB], B6.out⟩
          case round =>
            obtain ⟨i, b, rfl, rfl, C⟩ := hrel
            cases gk with
            | zero =>
              obtain rfl : i = n := by have := C.out.1; omega
              have hlt2 : ¬ (i : Int) < (i : Int) := by omega
              have hb1 : b = true := by
                rw [C.out.2.1]
                unfold METB
                rw [List.take_of_length_le (by have := HA.out.1; omega)]
                rcases K.out.2.2.1 with h1 | ⟨x, hx, h1, h2⟩
                · rw [← HB.out, decide_eq_true (by have := HN.out; omega)]
                  rfl
                · rw [List.any_eq_true.2 ⟨x, hx, by simp [h1, h2]⟩, Bool.or_true]
              subst hb1
              have B7 : Aside (Below w2.heap.size w2 wr) := C.out.2.2
              clear C
              have y0 := YJ.out wr B7.out
              have ej := EA.out.2.2.1
              have ei := EA.out.2.2.2
              go_wp2_with fail
              refine (CU'.out _).mono ?_
              rintro e w7 ⟨rfl, hb7⟩
              have B8 : Aside (Below w2.heap.size w2 w7) := B7.out.trans (hb7.mono B7.out.size)
              have q1 : (f' : Int) < (t : Int) := by have := K'.out; have := K.out.2.2.2.2.2.2.2.2.2; omega
              have q2 : ¬ (f : Int) < (t' : Int) := by have := K'.out; omega
              have Z : Aside (j + 1 + q = M ∧ S + P2 = i + SUMJ sp (j + 1) ∧ Below w2.heap.size w2 w7) := ⟨K.out.2.2.2.2.2.1, K.out.2.2.2.2.1, B8.out⟩
              clear hb7 B7 y0 B8
              go_wp2_with fail
              go_roundg q
              case measure => exact Nat.lt_succ_self _
              case rel => exact ⟨j + 1, S + P2, by first | rfl | exact congrArg (Value.int IntKind.u64) EA.out.2.1, by first | rfl | (rw [ej]), Z.out⟩
            | succ r =>
              have hin : i < n := by have := C.out.1; omega
              have hlt2 : (i : Int) < (n : Int) := by omega
              obtain ⟨x, ex⟩ : ∃ x, L[i]? = some x := ⟨_, List.getElem?_eq_getElem (by have := HA.out.1; omega)⟩
              obtain ⟨hbb, hcc⟩ := HL.out i x ex
              have x0 : wr.cell? ⟨bb, oo + i, none⟩ = some (.int .u64 (x : Int)) := ((R2.out.2.1.trans (C.out.2.2.mono R2.out.2.1.size)).cell (p := ⟨bb, oo + i, none⟩) hbb).trans hcc
              have hoff := K.out.2.1 x (List.mem_of_getElem? ex)
              have Z : Aside (∀ b', b' = (b || (decide (fa ≤ x) && decide (x < tb))) → i + 1 + r = n ∧ b' = METB b0 L fa tb (i + 1) ∧ Below w2.heap.size w2 wr) := fun b' hb' => ⟨by have := C.out.1; omega, by rw [METB_next ex, ← C.out.2.1]; exact hb', C.out.2.2⟩
              clear C hcc ex hin
              by_cases hq : f ≤ x
              · have q1 : (f : Int) ≤ (x : Int) := by omega
                have q2 : ¬ (x : Int) < (t : Int) := by omega
                have q2n : ¬ x < t := by omega
                clear hoff
                cases b with
                | true =>
                  go_wp2_with fail
                  go_roundg r
                  case measure => exact Nat.lt_succ_self _
                  case rel => exact ⟨i + 1, true, rfl, by first | rfl | simp, Z.out true (by simp)⟩
                | false =>
                  by_cases g1 : fa ≤ x
                  · have g1' : (fa : Int) ≤ (x : Int) := by omega
                    by_cases g2' : x < tb
                    · have g3 : (x : Int) < (tb : Int) := by omega
                      have Z2 := Z.out true (by simp [g1, g2'])
                      have Z3 : Aside _ := Z2
                      clear Z Z2
                      go_wp2_with fail
                      go_roundg r
                      case measure => exact Nat.lt_succ_self _
                      case rel => exact ⟨i + 1, true, rfl, by first | rfl | simp, Z3.out⟩
                    · have g3 : ¬ (x : Int) < (tb : Int) := by omega
                      have Z2 := Z.out false (by simp [g1, g2'])
                      have Z3 : Aside _ := Z2
                      clear Z Z2
                      go_wp2_with fail
                      go_roundg r
                      case measure => exact Nat.lt_succ_self _
                      case rel => exact ⟨i + 1, false, rfl, by first | rfl | simp, Z3.out⟩
                  · have g1' : ¬ (fa : Int) ≤ (x : Int) := by omega
                    have Z2 := Z.out false (by simp [g1])
                    have Z3 : Aside _ := Z2
                    clear Z Z2
                    go_wp2_with fail
                    go_roundg r
                    case measure => exact Nat.lt_succ_self _
                    case rel => exact ⟨i + 1, false, rfl, by first | rfl | simp, Z3.out⟩
              · have q1 : ¬ (f : Int) ≤ (x : Int) := by omega
                clear hoff
                cases b with
                | true =>
                  go_wp2_with fail
                  go_roundg r
                  case measure => exact Nat.lt_succ_self _
                  case rel => exact ⟨i + 1, true, rfl, by first | rfl | simp, Z.out true (by simp)⟩
                | false =>
                  by_cases g1 : fa ≤ x
                  · have g1' : (fa : Int) ≤ (x : Int) := by omega
                    by_cases g2' : x < tb
                    · have g3 : (x : Int) < (tb : Int) := by omega
                      have Z2 := Z.out true (by simp [g1, g2'])
                      have Z3 : Aside _ := Z2
                      clear Z Z2
                      go_wp2_with fail
                      go_roundg r
                      case measure => exact Nat.lt_succ_self _
                      case rel => exact ⟨i + 1, true, rfl, by first | rfl | simp, Z3.out⟩
                    · have g3 : ¬ (x : Int) < (tb : Int) := by omega
                      have Z2 := Z.out false (by simp [g1, g2'])
                      have Z3 : Aside _ := Z2
                      clear Z Z2
                      go_wp2_with fail
                      go_roundg r
                      case measure => exact Nat.lt_succ_self _
                      case rel => exact ⟨i + 1, false, rfl, by first | rfl | simp, Z3.out⟩
                  · have g1' : ¬ (fa : Int) ≤ (x : Int) := by omega
                    have Z2 := Z.out false (by simp [g1])
                    have Z3 : Aside _ := Z2
                    clear Z Z2
                    go_wp2_with fail
                    go_roundg r
                    case measure => exact Nat.lt_succ_self _
                    case rel => exact ⟨i + 1, false, rfl, by first | rfl | simp, Z3.out⟩
  · have hP : PLCA L N = [] := if_neg hr
    rw [hP] at cp
    have hr' : ¬ RISEA L N = 0 := hr
    generalize RISEA L N = E at *
    go_wp2_with fail
    refine cp.mono ?_
    rintro e w2 ⟨a2, c2, rfl, hown2, hb2⟩
    clear cp
    have hbw : Below w.heap.size w w2 := B1.out.trans (hb2.mono B1.out.size)
    have ca := awake10_ok w2 (tab.out w2 hbw).1 (tab.out w2 hbw).2
    have FN : Aside (Below w.heap.size w w2) := hbw
    clear hbw hown2 hb2
    go_wp2_with fail
    refine ca.mono ?_
    rintro e w4 ⟨rfl, hb4⟩
    clear ca
    have F2 : Aside (Below w.heap.size w w4) := FN.out.trans (hb4.mono FN.out.size)
    clear hb4 FN
    go_wp2_with fail
    go_ret
    exact ⟨rfl, F2.out⟩
set_option maxHeartbeats 4000000 in
theorem sets_none (L : List Nat) (N n c : Nat) (a : Option Addr) (w : World) (hl : L.length = n) (hn : n = 0) (hN : N ≤ 2 ^ 40) (hc : a = none → c = 0) (hL : NUML w a L) (hT : Tabled w) (h0 : 0 < w.heap.size) : Calls Tryd.prog 3 #[.slice a n c, .int .u64 (N : Int)] w fun e w' => e = .returned (.bool true) ∧ Below w.heap.size w w' := by
  have hlong : ¬ (200 : Int) < (n : Int) := by omega
  have hlong' : ¬ (1099511627776 : Int) < (N : Int) := by omega
  have cn := numbers10_ok a n c L hl (by omega) hc w hL
  have HA : Aside (L.length = n ∧ n ≤ 200 ∧ N ≤ 2 ^ 40 ∧ n = 0) := ⟨hl, by omega, hN, hn⟩
  have tab : Aside (∀ W, Below w.heap.size w W → Tabled W ∧ 0 < W.heap.size) := fun W hb => ⟨hT.below h0 hb, by have := hb.size; omega⟩
  clear hl hn hN hc hL hT h0
  go_enter Tryd.func3, Tryd.ntmps3
  go_wp2_with fail
  refine cn.mono ?_
  rintro e w1 ⟨g, cg, rfl, hnm⟩
  clear cn
  have B1 : Aside (Below w.heap.size w w1) := hnm.below
  have cp := manyplaces_ok L N (some ⟨g, 0, none⟩) n cg w1 HA.out.1 (by have := HA.out.2.1; omega) (by have := hnm.room; omega) (fun h => by cases h) (fun x e => by cases e; exact ⟨hnm.lt, rfl⟩) (hnm.lies HA.out.1) (tab.out w1 hnm.below).1 (tab.out w1 hnm.below).2
  clear hnm
  by_cases hr : RISEA L N = 0
  · obtain ⟨hcov, hat⟩ := set_at hr HA.out.2.2.1
    have hP : PLCA L N = (NSPS (TPS N) L).map SPL := by unfold PLCA; rw [if_pos hr, NEEDS_NSPS]
    generalize NSPS (TPS N) L = sp at *
    obtain ⟨PL, hPL⟩ : ∃ PL, PLCA L N = PL := ⟨_, rfl⟩
    obtain ⟨M, hM⟩ : ∃ M, PL.length = M := ⟨_, rfl⟩
    have CV : Aside (COVER 0 N L sp ∧ (∀ j h k, sp[j]? = some (h, k) → SETAT L N j sp h k) ∧ PL = sp.map SPL ∧ PL.length = M ∧ sp.length = M) := ⟨hcov, hat, by rw [← hPL, hP], hM, by rw [← hM, ← hPL, hP, List.length_map]⟩
    rw [hr, hPL] at cp
    have hM20 : M < 2 ^ 41 := by
      have h1 := CV.out.1.sum
      have h2 : M ≤ (sp.map fun s => 2 ^ s.1).sum := by
        rw [← CV.out.2.2.2.2]
        clear hat hcov hP cp CV h1
        induction sp with
        | nil => simp
        | cons s t ih => simp; have := Nat.two_pow_pos s.1; omega
      have h3 := HA.out.2.2.1
      omega
    have hNod := nodes_ok N (by have := HA.out.2.2.1; omega)
    have hnb : NODES N < 2 ^ 42 := NODES_bound (h := 41) (by have := HA.out.2.2.1; omega)
    clear hr hcov hat hP hPL hM
    go_wp2_with fail
    refine cp.mono ?_
    rintro e w2 ⟨a2, c2, rfl, hown2, hb2⟩
    clear cp
    rw [CV.out.2.2.2.1] at hown2 ⊢
    have R2 : Aside (w2.ownsRow w1.heap.size 23 1 (.slice a2 M c2) M (UCELLS PL) ∧ Below w.heap.size w w2 ∧ M < 2 ^ 41 ∧ NODES N < 2 ^ 42) := ⟨hown2, B1.out.trans (hb2.mono B1.out.size), hM20, hnb⟩
    clear hown2 hb2 B1 hM20 hnb
    have eul := u64_len (x := n) (by have := HA.out.2.1; omega)
    go_wp2_with fail
    refine (hNod _).mono ?_
    rintro e w3 ⟨rfl, rfl⟩
    clear hNod
    obtain ⟨NN, hNN⟩ : ∃ NN, NODES N = NN := ⟨_, rfl⟩
    rw [hNN]
    have HN : Aside (NODES N = NN) := hNN
    clear hNN
    go_wp2_with fail
    go_loopg [9, 10] M (fun q s9 s10 wx => ∃ (j S : Nat), s9 = .int .u64 (S : Int) ∧ s10 = .int .i64 (j : Int) ∧ Aside (j + q = M ∧ S = n + SUMJ sp j ∧ Below w2.heap.size w2 wx))
    case atStart => exact ⟨0, n, rfl, rfl, by omega, by simp [SUMJ], Below.refl _ _⟩
    case round =>
      obtain ⟨j, S, rfl, rfl, A⟩ := hrel
      cases gk with
      | zero =>
        obtain rfl : j = M := by have := A.out.1; omega
        have hlt : ¬ (j : Int) < (j : Int) := by omega
        have hS : S = N := by
          have h1 := A.out.2.1
          rw [SUMJ_all (by rw [CV.out.2.2.2.2]; exact Nat.le_refl _)] at h1
          have h2 := CV.out.1.sum
          have h3 := HA.out.1
          omega
        subst hS
        have hbw : Below w.heap.size w wr := R2.out.2.1.trans (A.out.2.2.mono R2.out.2.1.size)
        have ca := awake10_ok wr (tab.out wr hbw).1 (tab.out wr hbw).2
        have FN : Aside (Below w.heap.size w wr) := hbw
        clear hbw A HN
        go_wp2_with fail
        refine ca.mono ?_
        rintro e w4 ⟨rfl, hb4⟩
        clear ca
        have F2 : Aside (Below w.heap.size w w4) := FN.out.trans (hb4.mono FN.out.size)
        clear hb4 FN
        go_wp2_with fail
        go_ret
        exact ⟨rfl, F2.out⟩
      | succ q =>
        have hjM : j < M := by have := A.out.1; omega
        have hlt : (j : Int) < (M : Int) := by omega
        obtain ⟨⟨h, k⟩, ehk⟩ : ∃ x, sp[j]? = some x := ⟨_, List.getElem?_eq_getElem (by rw [CV.out.2.2.2.2]; exact hjM)⟩
        have hs := CV.out.2.1 j h k ehk
        obtain ⟨g2, hg2⟩ := own_some R2.out.1 (by omega)
        subst hg2
        have hrow : ∀ (i h k : Nat), sp[i]? = some (h, k) → ∀ W, Below w2.heap.size w2 W → W.cell? ⟨g2, i, none⟩ = some (.int .u64 ((PLC h k : Nat) : Int)) := fun i h k e W hb => by
          have h1 := (R2.out.1.lt g2 rfl).2
          have hi : i < M := by rw [← CV.out.2.2.2.2]; exact (List.getElem?_eq_some_iff.1 e).1
          refine (hb.cell (p := ⟨g2, i, none⟩) h1).trans ((R2.out.1.cellAt i (by omega)).trans ?_)
          rw [CV.out.2.2.1, UCELLS, List.getElem?_map, List.getElem?_map, e]
          rfl
        have x0 := hrow j h k ehk wr A.out.2.2
        have cu := under_ok h k hs.node wr
        have cpa := parent_ok h k hs.node (by have := hs.low; omega)
        have cup := under_ok (h + 1) (k / 2) hs.up
        have hft : k * 2 ^ h + 2 ^ h = (k + 1) * 2 ^ h := FRM_lt (h, k)
        have hlow := hs.low
        have hpw : 2 ^ h ≤ 2 ^ 40 := Nat.pow_le_pow_right (by decide) hlow
        have hSn := SUMJ_next ehk
        have hSle := SUMJ_le sp (j + 1)
        have hcs := CV.out.1.sum
        have ORD : Aside (∀ i h' k', i < j → sp[i]? = some (h', k') → (k' + 1) * 2 ^ h' ≤ k * 2 ^ h) := fun i h' k' hij e => by
          have h1 := CV.out.1.order
          rw [List.pairwise_iff_getElem] at h1
          have hi := (List.getElem?_eq_some_iff.1 e)
          have hj := (List.getElem?_eq_some_iff.1 ehk)
          have h2 := h1 i j hi.1 hj.1 hij
          rw [hi.2, hj.2] at h2
          exact h2
        obtain ⟨f, hf⟩ : ∃ f, k * 2 ^ h = f := ⟨_, rfl⟩
        obtain ⟨t, ht⟩ : ∃ t, (k + 1) * 2 ^ h = t := ⟨_, rfl⟩
        obtain ⟨P2, hP2⟩ : ∃ P2, 2 ^ h = P2 := ⟨_, rfl⟩
        obtain ⟨pp, hpp⟩ : ∃ pp, PLC h k = pp := ⟨_, rfl⟩
        obtain ⟨up, hup⟩ : ∃ up, PLC (h + 1) (k / 2) = up := ⟨_, rfl⟩
        obtain ⟨fa, hfa⟩ : ∃ fa, k / 2 * 2 ^ (h + 1) = fa := ⟨_, rfl⟩
        obtain ⟨tb, htb⟩ : ∃ tb, (k / 2 + 1) * 2 ^ (h + 1) = tb := ⟨_, rfl⟩
        have z1 := hs.lt
        have z2 := hs.toe
        have z3 := hs.off
        have z4 := hs.met
        rw [hf, ht, hpp] at cu
        rw [hpp, hup] at cpa
        rw [hup, hfa, htb] at cup
        rw [hpp] at x0 z1
        rw [ht] at z2
        rw [hf, ht] at z3
        rw [hup, hfa, htb] at z4
        rw [hf, ht, hP2] at hft
        rw [hP2] at hSn hpw
        have e1 := u64_gap (x := t) (k := f) (by omega) (by have := HA.out.2.2.1; omega)
        rw [show t - f = P2 by omega] at e1
        have hS2 : S + P2 ≤ N := by have := A.out.2.1; have := HA.out.1; omega
        have e2 : IntKind.u64.wrap ((S : Int) + (P2 : Int)) = ((S + P2 : Nat) : Int) := by rw [wrapU]; have := HA.out.2.2.1; omega
        have ej : wrap64 ((j : Int) + 1) = ((j + 1 : Nat) : Int) := by have := R2.out.2.2.1; unfold wrap64; omega
        have d1 : decide ((NN : Int) ≤ (pp : Int)) = false := decide_eq_false (by have := HN.out; omega)
        have d1' : ¬ (NN : Int) ≤ (pp : Int) := of_decide_eq_false d1
        have d1'' : pp < NN := by clear e1 e2 ej; omega
        have d1n : ¬ NN ≤ pp := by clear e1 e2 ej; omega
        have K : Aside (t ≤ N ∧ (∀ x ∈ L, ¬ (f ≤ x ∧ x < t)) ∧ (NODES N ≤ up ∨ ∃ x ∈ L, fa ≤ x ∧ x < tb) ∧ f + P2 = t ∧ S + P2 = n + SUMJ sp (j + 1) ∧ j + 1 + q = M ∧ Below w2.heap.size w2 wr ∧ PLC h k = pp ∧ k * 2 ^ h = f ∧ f < t) := ⟨z2, z3, z4, hft, by have := A.out.2.1; clear e1 e2 ej; omega, by have := A.out.1; clear e1 e2 ej; omega, A.out.2.2, hpp, hf, by clear e1 e2 ej; have := Nat.two_pow_pos h; omega⟩
        have RW : Aside (∀ (i h k : Nat), sp[i]? = some (h, k) → ∀ W, Below w2.heap.size w2 W → W.cell? ⟨g2, i, none⟩ = some (.int .u64 ((PLC h k : Nat) : Int))) := hrow
        have XJ : Aside (∀ W, Below w2.heap.size w2 W → W.cell? ⟨g2, j, none⟩ = some (.int .u64 (pp : Int))) := fun W hb => by rw [← hpp]; exact hrow j h k ehk W hb
        have CPA : Aside (∀ w, Calls Tryd.prog 11 #[.int .u64 (pp : Int)] w fun e w' => e = .returned (.tuple #[.int .u64 (up : Int), .bool true]) ∧ Below w.heap.size w w') := cpa
        have CUP : Aside (∀ w, Calls Tryd.prog 10 #[.int .u64 (up : Int)] w fun e w' => e = .returned (.tuple #[.int .u64 (fa : Int), .int .u64 (tb : Int), .bool true]) ∧ Below w.heap.size w w') := cup
        clear hs z1 z2 z3 z4 hft hSn hSle hcs hpw hlow hf ht hP2 hpp hup hfa htb hrow cpa cup hS2 A hjM ehk
        go_wp2_with fail
        refine cu.mono ?_
        rintro e w3 ⟨rfl, hb3⟩
        clear cu x0
        have hb3' : Below w2.heap.size w2 w3 := K.out.2.2.2.2.2.2.1.trans (hb3.mono K.out.2.2.2.2.2.2.1.size)
        have x0 := XJ.out w3 hb3'
        have B3 : Aside (Below w2.heap.size w2 w3) := hb3'
        clear hb3 hb3'
        rcases Nat.eq_zero_or_pos j with hj0 | hj0
        · have d2 : decide ((0 : Int) < (j : Int)) = false := decide_eq_false (by clear e1 e2 ej; omega)
          have d2' : ¬ (0 : Int) < (j : Int) := by clear e1 e2 ej; omega
          have d2n : ¬ 0 < j := by clear e1 e2 ej; omega
          clear hj0 RW ORD
          go_upto_region 12 with fail
          go_big_quiet (fail)
          have B4 : Aside (Below w2.heap.size w2 (w3.drewN nq)) := below_drewN B3.out _
          generalize w3.drewN nq = w4 at *
          clear x0 B3
          have x0 := XJ.out w4 B4.out
          go_wp2_with fail
          refine (CPA.out _).mono ?_
          rintro e w5 ⟨rfl, hb5⟩
          have EA : Aside _ := And.intro e1 (And.intro e2 ej)
          clear e1 e2 ej
          clear x0
          have B5 : Aside (Below w2.heap.size w2 w5) := B4.out.trans (hb5.mono B4.out.size)
          clear hb5 B4
          go_wp2_with fail
          refine (CUP.out _).mono ?_
          rintro e w6 ⟨rfl, hb6⟩
          have B6 : Aside (Below w2.heap.size w2 w6) := B5.out.trans (hb6.mono B5.out.size)
          clear hb6 B5 CPA CUP
          obtain ⟨b0, hb0⟩ : ∃ b0, decide (NN ≤ up) = b0 := ⟨_, rfl⟩
          have HB : Aside (decide (NN ≤ up) = b0) := hb0
          clear hb0
          go_wp2_with fail
          go_loopg [19, 20] n (fun r s19 s20 wx => ∃ (i : Nat) (b : Bool), s19 = .bool b ∧ s20 = .int .i64 (i : Int) ∧ Aside (i + r = n ∧ b = METB b0 L fa tb i ∧ Below w2.heap.size w2 wx))
          case atStart => exact ⟨0, b0, by first | rfl | exact congrArg Value.bool HB.out, rfl, by omega, by simp [METB], B6.out⟩
          case round =>
            obtain ⟨i, b, rfl, rfl, C⟩ := hrel
            cases gk with
            | zero =>
              obtain rfl : i = n := by have := C.out.1; omega
              have hlt2 : ¬ (i : Int) < (i : Int) := by omega
              have hb1 : b = true := by
                rw [C.out.2.1]
                unfold METB
                rw [List.take_of_length_le (by have := HA.out.1; omega)]
                rcases K.out.2.2.1 with h1 | ⟨x, hx, h1, h2⟩
                · rw [← HB.out, decide_eq_true (by have := HN.out; omega)]
                  rfl
                · rw [List.any_eq_true.2 ⟨x, hx, by simp [h1, h2]⟩, Bool.or_true]
              subst hb1
              have B7 : Aside (Below w2.heap.size w2 wr) := C.out.2.2
              clear C
              have Z : Aside (j + 1 + q = M ∧ S + P2 = i + SUMJ sp (j + 1) ∧ Below w2.heap.size w2 wr) := ⟨K.out.2.2.2.2.2.1, K.out.2.2.2.2.1, B7.out⟩
              clear B7
              have ej := EA.out.2.2
              go_wp2_with fail
              go_roundg q
              case measure => exact Nat.lt_succ_self _
              case rel => exact ⟨j + 1, S + P2, by first | rfl | exact congrArg (Value.int IntKind.u64) EA.out.2.1, by first | rfl | (rw [ej]), Z.out⟩
            | succ r =>
              exfalso
              have h1 := C.out.1
              have h2 := HA.out.2.2.2
              omega
        · obtain ⟨i, hi⟩ : ∃ i, j = i + 1 := ⟨j - 1, by clear e1 e2 ej; omega⟩
          obtain ⟨⟨h', k'⟩, eh'⟩ : ∃ x, sp[i]? = some x := ⟨_, List.getElem?_eq_getElem (by rw [CV.out.2.2.2.2]; have := K.out.2.2.2.2.2.1; clear e1 e2 ej; omega)⟩
          have hs' := CV.out.2.1 i h' k' eh'
          have hor := ORD.out i h' k' (by clear e1 e2 ej; omega) eh'
          have hfr' : k' * 2 ^ h' + 2 ^ h' = (k' + 1) * 2 ^ h' := FRM_lt (h', k')
          have hpo := Nat.two_pow_pos h'
          have hpl : PLC h' k' < pp := by rw [← K.out.2.2.2.2.2.2.2.1]; exact PLC_before hor
          rw [K.out.2.2.2.2.2.2.2.2.1] at hor
          have y0 := RW.out i h' k' eh' w3 B3.out
          have cu' := under_ok h' k' hs'.node
          obtain ⟨p', hp'⟩ : ∃ x, PLC h' k' = x := ⟨_, rfl⟩
          obtain ⟨f', hf'⟩ : ∃ x, k' * 2 ^ h' = x := ⟨_, rfl⟩
          obtain ⟨t', ht'⟩ : ∃ x, (k' + 1) * 2 ^ h' = x := ⟨_, rfl⟩
          have YJ : Aside (∀ W, Below w2.heap.size w2 W → W.cell? ⟨g2, i, none⟩ = some (.int .u64 (p' : Int))) := fun W hb => by rw [← hp']; exact RW.out i h' k' eh' W hb
          rw [hp', hf', ht'] at cu'
          rw [hp'] at y0 hpl
          rw [hf', ht'] at hfr'
          rw [ht'] at hor
          have CU' : Aside (∀ w, Calls Tryd.prog 10 #[.int .u64 (p' : Int)] w fun e w' => e = .returned (.tuple #[.int .u64 (f' : Int), .int .u64 (t' : Int), .bool true]) ∧ Below w.heap.size w w') := cu'
          have K' : Aside (t' ≤ f ∧ f' < t') := ⟨hor, by clear e1 e2 ej; omega⟩
          have d2 : decide ((0 : Int) < (j : Int)) = true := decide_eq_true (by clear e1 e2 ej; omega)
          have d2' : (0 : Int) < (j : Int) := by clear e1 e2 ej; omega
          have d3 : decide ((pp : Int) ≤ (p' : Int)) = false := decide_eq_false (by clear e1 e2 ej; omega)
          have ei : wrap64 ((j : Int) - 1) = (i : Int) := by have := K.out.2.2.2.2.2.1; have := R2.out.2.2.1; unfold wrap64; clear e1 e2 ej; omega
          have hiM : (i : Int) < (M : Int) := by clear e1 e2 ej ei; omega
          have d3' : ¬ (pp : Int) ≤ (p' : Int) := of_decide_eq_false d3
          have d3n : ¬ pp ≤ p' := by clear e1 e2 ej; omega
          have hiM' : i < M := by clear e1 e2 ej ei; omega
          clear hs' hor cu' hfr' hpo hp' hf' ht' eh' hi RW ORD
          go_upto_region 12 with fail
          go_big_quiet (fail)
          have B4 : Aside (Below w2.heap.size w2 (w3.drewN nq)) := below_drewN B3.out _
          generalize w3.drewN nq = w4 at *
          clear x0 y0 B3
          have x0 := XJ.out w4 B4.out
          go_wp2_with fail
          refine (CPA.out _).mono ?_
          rintro e w5 ⟨rfl, hb5⟩
          have EA : Aside _ := And.intro e1 (And.intro e2 (And.intro ej ei))
          clear e1 e2 ej ei
          clear x0
          have B5 : Aside (Below w2.heap.size w2 w5) := B4.out.trans (hb5.mono B4.out.size)
          clear hb5 B4
          go_wp2_with fail
          refine (CUP.out _).mono ?_
          rintro e w6 ⟨rfl, hb6⟩
          have B6 : Aside (Below w2.heap.size w2 w6) := B5.out.trans (hb6.mono B5.out.size)
          clear hb6 B5 CPA CUP
          obtain ⟨b0, hb0⟩ : ∃ b0, decide (NN ≤ up) = b0 := ⟨_, rfl⟩
          have HB : Aside (decide (NN ≤ up) = b0) := hb0
          clear hb0
          go_wp2_with fail
          go_loopg [19, 20] n (fun r s19 s20 wx => ∃ (i : Nat) (b : Bool), s19 = .bool b ∧ s20 = .int .i64 (i : Int) ∧ Aside (i + r = n ∧ b = METB b0 L fa tb i ∧ Below w2.heap.size w2 wx))
          case atStart => exact ⟨0, b0, by first | rfl | exact congrArg Value.bool HB.out, rfl, by omega, by simp [METB], B6.out⟩
          case round =>
            obtain ⟨i, b, rfl, rfl, C⟩ := hrel
            cases gk with
            | zero =>
              obtain rfl : i = n := by have := C.out.1; omega
              have hlt2 : ¬ (i : Int) < (i : Int) := by omega
              have hb1 : b = true := by
                rw [C.out.2.1]
                unfold METB
                rw [List.take_of_length_le (by have := HA.out.1; omega)]
                rcases K.out.2.2.1 with h1 | ⟨x, hx, h1, h2⟩
                · rw [← HB.out, decide_eq_true (by have := HN.out; omega)]
                  rfl
                · rw [List.any_eq_true.2 ⟨x, hx, by simp [h1, h2]⟩, Bool.or_true]
              subst hb1
              have B7 : Aside (Below w2.heap.size w2 wr) := C.out.2.2
              clear C
              have y0 := YJ.out wr B7.out
              have ej := EA.out.2.2.1
              have ei := EA.out.2.2.2
              go_wp2_with fail
              refine (CU'.out _).mono ?_
              rintro e w7 ⟨rfl, hb7⟩
              have B8 : Aside (Below w2.heap.size w2 w7) := B7.out.trans (hb7.mono B7.out.size)
              have q1 : (f' : Int) < (t : Int) := by have := K'.out; have := K.out.2.2.2.2.2.2.2.2.2; omega
              have q2 : ¬ (f : Int) < (t' : Int) := by have := K'.out; omega
              have Z : Aside (j + 1 + q = M ∧ S + P2 = i + SUMJ sp (j + 1) ∧ Below w2.heap.size w2 w7) := ⟨K.out.2.2.2.2.2.1, K.out.2.2.2.2.1, B8.out⟩
              clear hb7 B7 y0 B8
              go_wp2_with fail
              go_roundg q
              case measure => exact Nat.lt_succ_self _
              case rel => exact ⟨j + 1, S + P2, by first | rfl | exact congrArg (Value.int IntKind.u64) EA.out.2.1, by first | rfl | (rw [ej]), Z.out⟩
            | succ r =>
              exfalso
              have h1 := C.out.1
              have h2 := HA.out.2.2.2
              omega
  · have hP : PLCA L N = [] := if_neg hr
    rw [hP] at cp
    have hr' : ¬ RISEA L N = 0 := hr
    generalize RISEA L N = E at *
    go_wp2_with fail
    refine cp.mono ?_
    rintro e w2 ⟨a2, c2, rfl, hown2, hb2⟩
    clear cp
    have hbw : Below w.heap.size w w2 := B1.out.trans (hb2.mono B1.out.size)
    have ca := awake10_ok w2 (tab.out w2 hbw).1 (tab.out w2 hbw).2
    have FN : Aside (Below w.heap.size w w2) := hbw
    clear hbw hown2 hb2
    go_wp2_with fail
    refine ca.mono ?_
    rintro e w4 ⟨rfl, hb4⟩
    clear ca
    have F2 : Aside (Below w.heap.size w w4) := FN.out.trans (hb4.mono FN.out.size)
    clear hb4 FN
    go_wp2_with fail
    go_ret
    exact ⟨rfl, F2.out⟩
theorem manySets_walk (L : List Nat) (N : Int) (a : Option Addr) (n c : Nat) (w : World) (hN : (Lit.int IntKind.u64 N).wf = true) (hl : L.length = n) (hc : a = none → c = 0) (hL : NUML w a L) (hT : Tabled w) (h0 : 0 < w.heap.size) : Calls Tryd.prog 3 #[.slice a n c, .int .u64 N] w fun e w' => e = .returned (.bool true) ∧ Below w.heap.size w w' := by
  have hb := wf_u64 hN
  by_cases h : n ≤ 200 ∧ N ≤ 1099511627776
  · obtain ⟨m, rfl⟩ : ∃ m : Nat, N = (m : Int) := ⟨N.toNat, by omega⟩
    rcases Nat.eq_zero_or_pos n with h1 | h1
    · exact sets_none L m n c a w hl h1 (by omega) hc hL hT h0
    · obtain ⟨bb, oo, rfl, _⟩ := hL (by omega)
      exact sets_some L m bb oo n c w hl h.1 (by omega) hL hT h0
  · exact sets_long a n c N w (by omega)
end Go.Proofs.YtadpfcpipklmbabDoor
