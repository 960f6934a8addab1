/- The walk of ProofSpans. -/
import Derived.Test.YtddmfpiflnjmjabDoorProofEncode
import Derived.Test.YtddmfpiflnjmjabDoorPosSpot
import Derived.Test.YtddmfpiflnjmjabDoorCutMerge
import Derived.Deep.QuietTactic
import Derived.BigQuiet
namespace Go.Proofs.YtddmfpiflnjmjabDoor
open Go.RowKit
set_option maxRecDepth 100000

/-- Merge of any list that lies over the leaves from A to B - 1, none or some. -/
theorem mergeall_ok (n cap : Nat) (a : Option Addr) (l : List (Nat × Nat)) (A B : Nat) (hl : l.length = n) (hn2 : n ≤ 1000) (w : World) (hL : Lie w a l) (hT : Tile A l B) : Calls Tryd.prog 13 #[.slice a n cap] w fun e w' =>
    ∃ v, e = .returned (.tuple #[v, .bool true]) ∧ w'.ownsRow w.heap.size 36 2 v (SPAN A B).length (SCELLS (SPAN A B)) ∧ Below w.heap.size w w' := by
  rcases Nat.eq_zero_or_pos n with h | h
  · subst h
    have hl0 := List.length_eq_zero_iff.1 hl
    subst hl0
    have e : A = B := hT
    subst e
    refine (merge_none cap a w).mono ?_
    rintro e w' ⟨rfl, rfl⟩
    refine ⟨_, rfl, ?_, Below.refl _ _⟩
    rw [SPAN_end (Nat.le_refl _)]
    exact World.ownsRow_nil _ _ _ _
  · exact merge_ok n cap a l A B hl h hn2 w hL hT
/-- where the first j spots end. -/
theorem Tile.at_take {l : List (Nat × Nat)} {a b : Nat} (h : Tile a l b) (j : Nat) : ∃ c, Tile a (l.take j) c ∧ Tile c (l.drop j) b := by
  have := h
  rw [← List.take_append_drop j l] at this
  exact this.split
theorem Tile.only {l : List (Nat × Nat)} : ∀ {a b b' : Nat}, Tile a l b → Tile a l b' → b = b' := by
  induction l with
  | nil => intro a b b' h h'; exact Eq.trans (Eq.symm h) h'
  | cons s l ih => intro a b b' h h'; exact ih h.2.2 h'.2.2
theorem spans_not (m n : Nat) (h : 4611686018427387904 < n ∨ n < m) (w : World) (hT : Tabled w) (h0 : 0 < w.heap.size) : Calls Tryd.prog 4 #[.int .u64 (m : Int), .int .u64 (n : Int)] w fun e w' => e = .returned (.bool true) ∧ Below w.heap.size w w' := by
  have c1 := prefixplaces_not m n (by omega)
  have ca := proofawake_ok w hT h0
  have hh : (4611686018427387904 : Int) < (n : Int) ∨ ¬ (4611686018427387904 : Int) < (n : Int) ∧ (n : Int) < (m : Int) := by omega
  clear hT h0 h
  go_enter Tryd.func4, Tryd.ntmps4
  go_wp2_with fail
  refine (c1 _).mono ?_
  rintro e w1 ⟨rfl, rfl⟩
  clear c1
  rcases hh with hh | ⟨hh, hh2⟩
  all_goals
    go_wp2_with fail
    refine ca.mono ?_
    rintro e w1 ⟨rfl, hb⟩
    clear ca
    go_wp2
    go_ret
    exact ⟨rfl, hb⟩
set_option maxHeartbeats 4000000 in
theorem spans_ok (m n : Nat) (hmn : m ≤ n) (hn : n ≤ 4611686018427387904) (w : World) (hT : Tabled w) (h0 : 0 < w.heap.size) : Calls Tryd.prog 4 #[.int .u64 (m : Int), .int .u64 (n : Int)] w fun e w' => e = .returned (.bool true) ∧ Below w.heap.size w w' := by
  have c1 := prefixplaces_ok m n hmn hn w hT h0
  have ht := PXS_tile hmn hn
  have hlf := PXS_length hmn hn
  have CS : Aside (∀ W, Below w.heap.size w W → Calls Tryd.prog 14 #[.int .u64 0, .int .u64 (n : Int)] W fun e w' => ∃ v, e = .returned v ∧ w'.ownsRow W.heap.size 36 2 v (SPAN 0 n).length (SCELLS (SPAN 0 n)) ∧ Below W.heap.size W w') :=
    fun W h => span_ok 0 n (by omega) hn W (hT.below h0 h) (Nat.lt_of_lt_of_le h0 h.size)
  have CA : Aside (∀ W, Below w.heap.size w W → Calls Tryd.prog 6 #[] W fun e w' => e = .returned (.bool true) ∧ Below W.heap.size W w') :=
    fun W h => proofawake_ok W (hT.below h0 h) (Nat.lt_of_lt_of_le h0 h.size)
  have hmid : ∃ P, P ≤ (PXS m n).length ∧ Tile 0 ((PXS m n).take P) m := by
    refine ⟨(SPAN 0 m).length, by unfold PXS; rw [List.length_append]; omega, ?_⟩
    unfold PXS
    rw [List.take_left]
    exact tile_span (by omega) (Nat.zero_le _)
  obtain ⟨P, hP, htP⟩ := hmid
  have hq := SPAN_length (a := 0) hn
  have hd : ¬ (4611686018427387904 : Int) < (n : Int) := by omega
  have hd2 : ¬ (n : Int) < (m : Int) := by omega
  have hd3 : decide (n < m) = false := by simp; omega
  have hd4 : decide ((4611686018427387904 : Int) < (n : Int)) = false := by simp; omega
  rw [PLCS_length] at c1
  generalize PXS m n = S at *
  generalize hQ : SPAN 0 n = Q at *
  obtain ⟨L, hL⟩ : ∃ L, S.length = L := ⟨_, rfl⟩
  obtain ⟨N, hN⟩ : ∃ N, Q.length = N := ⟨_, rfl⟩
  rw [hL] at c1 hlf hP
  rw [hN] at hq CS
  have HA : Aside (S.length = L ∧ L ≤ 188 ∧ Tile 0 S n ∧ n ≤ 4611686018427387904 ∧ P ≤ L ∧ Tile 0 (S.take P) m) := ⟨hL, hlf, ht, hn, hP, htP⟩
  have HB : Aside (SPAN 0 n = Q ∧ Q.length = N ∧ N ≤ 124) := ⟨hQ, hN, hq⟩
  clear hT h0 ht hlf hP htP hq hL hN hQ hmn hn
  go_enter Tryd.func4, Tryd.ntmps4
  go_wp2_with fail
  refine c1.mono ?_
  rintro e w1 ⟨v, rfl, hrow, hb⟩
  clear c1
  have hNu : Nums w1 v (PLCS S) := nums_own (by rw [PLCS_length, HA.out.1]; exact hrow)
  obtain ⟨a, c, hv, hcell⟩ := hNu
  rw [PLCS_length, HA.out.1] at hv hcell
  subst hv
  have R1 : Aside (Below w.heap.size w w1 ∧ (0 < L → ∃ g, a = some ⟨g, 0, none⟩ ∧ g < w1.heap.size ∧ ∀ (j : Nat), j < L → w1.cell? ⟨g, j, none⟩ = some (.int .u64 (((PLCS S).getD j 0 : Nat) : Int)))) := ⟨hb, hcell⟩
  clear hrow hb hcell
  go_wp2
  go_loopg [7, 8, 9, 10] L (fun q s7 s8 s9 s10 wx => ∃ (j z : Nat) (b : Bool), s10 = .int .i64 (j : Int) ∧ s8 = .int .u64 (z : Int) ∧ s9 = .bool b ∧ Aside (j + q = L ∧ Tile 0 (S.take j) z ∧ Tile z (S.drop j) n ∧ ((m = 0 ∨ 0 < P ∧ P ≤ j) → b = true) ∧ wx.ownsRow w1.heap.size 36 2 s7 (S.take j).length (SCELLS (S.take j)) ∧ Below w1.heap.size w1 wx))
  case atStart =>
    refine ⟨0, 0, decide ((m : Int) = 0), rfl, rfl, ?_, by omega, rfl, by simpa using HA.out.2.2.1, fun h => ?_, World.ownsRow_nil _ _ _ _, Below.refl _ _⟩
    · first | rfl | simp
    · rcases h with h | h
      · simp [h]
      · omega
  case round =>
    obtain ⟨j, z, b, rfl, rfl, rfl, A⟩ := hrel
    obtain ⟨hj, hz1, hz2, hb, hown, hbel⟩ := A.out
    cases gk with
    | zero =>
      obtain rfl : j = L := by omega
      have hlt : ¬ (j : Int) < (j : Int) := by omega
      rw [List.take_of_length_le (by have := HA.out.1; omega)] at hz1 hown
      have hzn : z = n := hz1.only HA.out.2.2.1
      subst hzn
      have hbt : b = true := by
        rcases Nat.eq_zero_or_pos m with h | h
        · exact hb (.inl h)
        · refine hb (.inr ⟨?_, HA.out.2.2.2.2.1⟩)
          rcases Nat.eq_zero_or_pos P with h2 | h2
          · have := HA.out.2.2.2.2.2
            rw [h2, List.take_zero] at this
            have : 0 = m := this
            omega
          · exact h2
      subst hbt
      obtain ⟨ad, cp, hv, hL⟩ := lie_own HA.out.1 (by rw [HA.out.1] at hown; exact hown)
      subst hv
      have R2 : Aside (Below w.heap.size w wr) := R1.out.1.trans (hbel.mono R1.out.1.size)
      have cm := mergeall_ok j cp ad S 0 z HA.out.1 (by have := HA.out.2.1; omega) wr hL HA.out.2.2.1
      rw [HB.out.1, HB.out.2.1] at cm
      clear hj hz1 hz2 hb hown hbel hL A HA R1
      go_wp2_with fail
      refine cm.mono ?_
      rintro e w3 ⟨v, rfl, hrow, hb3⟩
      clear cm
      obtain ⟨a3, c3, rfl, hL3⟩ := lie_own HB.out.2.1 hrow
      have R3 : Aside (Below w.heap.size w w3 ∧ Lie w3 a3 Q) := ⟨R2.out.trans (hb3.mono R2.out.size), hL3⟩
      clear hrow hb3 hL3 R2
      go_wp2_with fail
      refine (CS.out _ R3.out.1).mono ?_
      rintro e w4 ⟨v, rfl, hrow, hb4⟩
      clear CS
      obtain ⟨a4, c4, rfl, hL4⟩ := lie_own HB.out.2.1 hrow
      have R4 : Aside (Below w.heap.size w w4 ∧ Lie w4 a3 Q ∧ Lie w4 a4 Q) := ⟨R3.out.1.trans (hb4.mono R3.out.1.size), R3.out.2.below hb4, hL4⟩
      clear hrow hb4 hL4 R3
      go_wp2
      go_loopg [19] N (fun q s19 wx => ∃ i : Nat, s19 = .int .i64 (i : Int) ∧ Aside (i + q = N ∧ Below w4.heap.size w4 wx))
      case atStart => exact ⟨0, rfl, by omega, Below.refl _ _⟩
      case round =>
        obtain ⟨i, rfl, B⟩ := hrel
        obtain ⟨hi, hbi⟩ := B.out
        cases gk with
        | zero =>
          obtain rfl : i = N := by omega
          have hii : ¬ (i : Int) < (i : Int) := by omega
          have R5 : Aside (Below w.heap.size w wr) := R4.out.1.trans (hbi.mono R4.out.1.size)
          clear hi hbi B R4 HB
          go_wp2_with fail
          refine (CA.out _ R5.out).mono ?_
          rintro e w5 ⟨rfl, hb5⟩
          have R6 : Aside (Below w.heap.size w w5) := R5.out.trans (hb5.mono R5.out.size)
          clear hb5 R5 CA
          go_wp2
          go_ret
          exact ⟨rfl, R6.out⟩
        | succ q =>
          have hlt : (i : Int) < (N : Int) := by omega
          obtain ⟨x, y, eh⟩ := at_lt (l := Q) (i := i) (by have := HB.out.2.1; omega)
          obtain ⟨ga, oa, rfl, la, hca⟩ := R4.out.2.1 (by have := HB.out.2.1; omega)
          obtain ⟨gb, ob, rfl, lb, hcb⟩ := R4.out.2.2 (by have := HB.out.2.1; omega)
          have h1 : wr.cell? ⟨ga, oa + i * 2, none⟩ = some (.int .u8 (x : Int)) := (hbi.cell (by exact la)).trans (hca i x y eh).1
          have h2 : wr.cell? ⟨ga, oa + i * 2 + 1, none⟩ = some (.int .u64 (y : Int)) := (hbi.cell (by exact la)).trans (hca i x y eh).2
          have h3 : wr.cell? ⟨gb, ob + i * 2, none⟩ = some (.int .u8 (x : Int)) := (hbi.cell (by exact lb)).trans (hcb i x y eh).1
          have h4 : wr.cell? ⟨gb, ob + i * 2 + 1, none⟩ = some (.int .u64 (y : Int)) := (hbi.cell (by exact lb)).trans (hcb i x y eh).2
          have R5 : Aside (i + 1 + q = N ∧ Below w4.heap.size w4 wr) := ⟨by omega, hbi⟩
          have hi1 : wrap64 ((i : Int) + 1) = ((i + 1 : Nat) : Int) := by have := HB.out.2.2; unfold wrap64; omega
          clear hi hbi B eh la lb hca hcb
          go_wp2
          go_quiet (fail)
          go_wp2
          go_roundg q
          case measure => exact Nat.lt_succ_self _
          case rel => exact ⟨i + 1, by first | rfl | (rw [hi1]), R5.out.1, below_drewN R5.out.2 _⟩
    | succ q =>
      have hlt : (j : Int) < (L : Int) := by omega
      have HL1 := HA.out.1
      obtain ⟨h, k, eh⟩ := at_lt (l := S) (i := j) (by omega)
      obtain ⟨g, rfl, hg, hcs⟩ := R1.out.2 (by omega)
      have hdr : S.drop j = (h, k) :: S.drop (j + 1) := by
        obtain ⟨hi, e2⟩ := List.getElem?_eq_some_iff.1 eh
        rw [← e2, List.getElem_cons_drop]
      rw [hdr] at hz2
      obtain ⟨hN, hlo, hz3⟩ := hz2
      dsimp only at hN hlo hz3
      have hc : wr.cell? ⟨g, j, none⟩ = some (.int .u64 ((PLC h k : Nat) : Int)) := by
        rw [← PLCS_at eh]
        exact (hbel.cell (p := ⟨g, j, none⟩) hg).trans (hcs j (by omega))
      have cu := under_ok h k hN
      have cs := spot_ok h k hN
      have htk := (take_at eh).2
      have hz4 : Tile 0 (S.take (j + 1)) ((k + 1) * 2 ^ h) := by
        rw [htk]
        exact hz1.append ⟨hN, hlo, rfl⟩
      have hup : P = j + 1 → (k + 1) * 2 ^ h = m := fun e => by
        have := HA.out.2.2.2.2.2
        rw [e] at this
        exact hz4.only this
      have E1 : Aside (wrap64 ((j : Int) + 1) = ((j + 1 : Nat) : Int)) := by have := HA.out.2.1; show wrap64 ((j : Int) + 1) = ((j + 1 : Nat) : Int); unfold wrap64; omega
      rw [hlo] at cu
      have hlen : (S.take j).length = j := by rw [List.length_take]; omega
      generalize hU : (k + 1) * 2 ^ h = up at *
      generalize hPL : PLC h k = p at *
      have R2 : Aside (j + 1 + q = L ∧ Tile 0 (S.take (j + 1)) up ∧ Tile up (S.drop (j + 1)) n ∧ ((m = 0 ∨ 0 < P ∧ P ≤ j) → b = true) ∧ (P = j + 1 → up = m) ∧ wr.ownsRow w1.heap.size 36 2 u7 j (SCELLS (S.take j)) ∧ Below w1.heap.size w1 wr ∧ S.take (j + 1) = S.take j ++ [(h, k)] ∧ j ≤ 188 ∧ (S.take (j + 1)).length = j + 1 ∧ g < wr.heap.size) := ⟨by omega, hz4, hz3, hb, hup, by rw [hlen] at hown; exact hown, hbel, htk, by have := HA.out.2.1; omega, by rw [List.length_take]; omega, by have := hbel.size; omega⟩
      clear hj hz1 hb hown hbel hcs hg hdr hN hlo hz3 hz4 hup htk hlen eh A HL1 hU hPL HA
      go_wp2_with fail
      refine (cu _).mono ?_
      rintro e w3 ⟨rfl, hb3⟩
      clear cu
      have hc3 : w3.cell? ⟨g, j, none⟩ = some (.int .u64 (p : Int)) := (hb3.cell (p := ⟨g, j, none⟩) R2.out.2.2.2.2.2.2.2.2.2.2).trans hc
      have R3 : Aside (Below wr.heap.size wr w3) := hb3
      clear hb3 hc
      go_wp2_with fail
      refine (cs _).mono ?_
      rintro e w4 ⟨rfl, hb4⟩
      clear cs hc3
      have R4 : Aside (w4.ownsRow w1.heap.size 36 2 u7 j (SCELLS (S.take j)) ∧ Below w1.heap.size w1 w4) := by
        obtain ⟨r1, r2, r3, r4, r5, r6, r7, _⟩ := R2.out
        have hbb := R3.out.trans (hb4.mono R3.out.size)
        exact ⟨own_below r6 hbb, r7.trans (hbb.mono r7.size)⟩
      clear hb4 R3
      have hcase : b = true ∨ b = false ∧ up = m ∨ b = false ∧ ¬ up = m := by cases b <;> simp <;> omega
      have R5 : Aside (j + 1 + q = L ∧ Tile 0 (S.take (j + 1)) up ∧ Tile up (S.drop (j + 1)) n ∧ ((m = 0 ∨ 0 < P ∧ P ≤ j) → b = true) ∧ (P = j + 1 → up = m) ∧ S.take (j + 1) = S.take j ++ [(h, k)] ∧ j ≤ 188 ∧ (S.take (j + 1)).length = j + 1) := by
        obtain ⟨r1, r2, r3, r4, r5, r6, r7, r8, r9, r10, _⟩ := R2.out
        exact ⟨r1, r2, r3, r4, r5, r8, r9, r10⟩
      clear R2
      rcases hcase with rfl | ⟨rfl, rfl⟩ | ⟨rfl, hne⟩
      all_goals
        go_wp2_with (at_builtin; refine app_spot _ rfl (.tmp 82) (.tmp 84) rfl w1.heap.size u7 j (S.take j) rfl ((R4.out.1.alloc _).alloc _) (w4.heap.size + 1) 1 h k rfl ((Has.at _ _ _ (by simp)).cell 0) ((Has.at _ _ _ (by simp)).cell 1) (by have := R5.out.2.2.2.2.2.2.1; omega) (by have := R4.out.2.size; simp; omega) ?_; intro g' cap w5 hown hgrow hg)
        have R6 : Aside (w5.ownsRow w1.heap.size 36 2 (.slice (some ⟨g', 0, none⟩) (j + 1) cap) (S.take (j + 1)).length (SCELLS (S.take (j + 1))) ∧ Below w1.heap.size w1 w5) := by
          obtain ⟨r1, r2⟩ := R4.out
          rw [R5.out.2.2.2.2.2.2.2, R5.out.2.2.2.2.2.1]
          exact ⟨hown, ((r2.alloc r2.size _).alloc (by have := r2.size; simp; omega) _).grown hgrow (by have := r2.size; simp; omega) (fun k e => (r1.lt k e).1)⟩
        clear hown hgrow hg R4
        have e1 := E1.out
        go_wp2
        go_roundg q
        case measure => exact Nat.lt_succ_self _
        case rel =>
          obtain ⟨r1, r2, r3, r4, r5, r6, r7⟩ := R5.out
          clear e1
          refine ⟨j + 1, _, _, by first | rfl | (rw [E1.out]), rfl, by first | rfl | simp, r1, r2, r3, fun hh => ?_, R6.out⟩
          first
            | rfl
            | (exfalso; rcases hh with hh | ⟨hh1, hh2⟩
               · exact absurd (r4 (.inl hh)) (by decide)
               · rcases (show P ≤ j ∨ P = j + 1 by omega) with h5 | h5
                 · exact absurd (r4 (.inr ⟨hh1, h5⟩)) (by decide)
                 · exact hne (r5 h5))
theorem proofSpans_walk (a0 a1 : Int) (w0 : (Lit.int .u64 a0).wf = true) (w1 : (Lit.int .u64 a1).wf = true) (w : World) (hT : Tabled w) (h0 : 0 < w.heap.size) :
    Calls Tryd.prog 4 #[.int .u64 a0, .int .u64 a1] w fun e w' => e = .returned (.bool true) ∧ Below w.heap.size w w' := by
  have b0 := wf_u64 w0
  have b1 := wf_u64 w1
  obtain ⟨m, rfl⟩ : ∃ X : Nat, a0 = (X : Int) := ⟨a0.toNat, by omega⟩
  obtain ⟨n, rfl⟩ : ∃ X : Nat, a1 = (X : Int) := ⟨a1.toNat, by omega⟩
  by_cases hn : 4611686018427387904 < n ∨ n < m
  · exact spans_not m n hn w hT h0
  · exact spans_ok m n (by omega) (by omega) w hT h0
end Go.Proofs.YtddmfpiflnjmjabDoor
