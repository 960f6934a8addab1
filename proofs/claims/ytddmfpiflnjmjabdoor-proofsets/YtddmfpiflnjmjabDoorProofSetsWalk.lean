/- The walk of ProofSets. -/
import Derived.Test.YtddmfpiflnjmjabDoorProofEncode
import Derived.Test.YtddmfpiflnjmjabDoorPosSpot
namespace Go.Proofs.YtddmfpiflnjmjabDoor
open Go.RowKit
set_option maxRecDepth 100000

theorem SIZE_next {l : List (Nat × Nat)} {j h k : Nat} (e : l[j]? = some (h, k)) : SIZE (l.take (j + 1)) = SIZE (l.take j) + 2 ^ h := by
  rw [(take_at e).2, SIZE_snoc]
theorem SIZE_take (l : List (Nat × Nat)) (j : Nat) : SIZE (l.take j) ≤ SIZE l := by
  have := SIZE_append (l.take j) (l.drop j)
  rw [List.take_append_drop] at this
  omega
theorem sets_size (i n : Nat) (hn : 4611686018427387904 < n) (w : World) (hT : Tabled w) (h0 : 0 < w.heap.size) : Calls Tryd.prog 3 #[.int .u64 (i : Int), .int .u64 (n : Int)] w fun e w' => e = .returned (.bool true) ∧ Below w.heap.size w w' := by
  have c1 := places_size i n (by omega)
  have ca := proofawake_ok w hT h0
  have hd : (4611686018427387904 : Int) < (n : Int) := by omega
  clear hT h0 hn
  go_enter Tryd.func3, Tryd.ntmps3
  go_wp2_with fail
  refine (c1 _).mono ?_
  rintro e w1 ⟨rfl, rfl⟩
  clear c1
  go_wp2_with fail
  refine ca.mono ?_
  rintro e w1 ⟨rfl, hb⟩
  clear ca
  go_wp2
  go_ret
  exact ⟨rfl, hb⟩
theorem sets_index (i n : Nat) (hn : ¬ 4611686018427387904 < n) (hi : n ≤ i) (w : World) (hT : Tabled w) (h0 : 0 < w.heap.size) : Calls Tryd.prog 3 #[.int .u64 (i : Int), .int .u64 (n : Int)] w fun e w' => e = .returned (.bool true) ∧ Below w.heap.size w w' := by
  have c1 := places_index i n (by omega) (by omega)
  have ca := proofawake_ok w hT h0
  have hd : ¬ (4611686018427387904 : Int) < (n : Int) := by omega
  have hd2 : (n : Int) ≤ (i : Int) := by omega
  clear hT h0 hn hi
  go_enter Tryd.func3, Tryd.ntmps3
  go_wp2_with fail
  refine (c1 _).mono ?_
  rintro e w1 ⟨rfl, rfl⟩
  clear c1
  go_wp2_with fail
  refine ca.mono ?_
  rintro e w1 ⟨rfl, hb⟩
  clear ca
  go_wp2
  go_ret
  exact ⟨rfl, hb⟩
set_option maxHeartbeats 4000000 in
theorem sets_ok (i n : Nat) (hi : i < n) (hn : n ≤ 4611686018427387904) (w : World) (hT : Tabled w) (h0 : 0 < w.heap.size) : Calls Tryd.prog 3 #[.int .u64 (i : Int), .int .u64 (n : Int)] w fun e w' => e = .returned (.bool true) ∧ Below w.heap.size w w' := by
  have c1 := places_ok i n hi hn w hT h0
  have cn := nodes_ok n hn
  obtain ⟨hs1, hs2, hs3⟩ := PSP_spec hi hn
  have hsl := PSP_length hi hn
  have hsf := PSP_few hi hn
  have hk := (KTH_spot hi hn).2
  have hkl := KTH_lt hi hn
  have hpl := PEAKS_length (n := n) (by omega)
  have hr62 := (RISE_spec hi hn).2.1
  have hNp : Node (RISE i n) (i / 2 ^ RISE i n) := Node.over (by omega) _ hr62
  have cp := peak_ok i n hi hn
  have csp := spot_ok _ _ hNp
  have CP : Aside (∀ W, Below w.heap.size w W → Calls Tryd.prog 10 #[.int .u64 (n : Int)] W fun e w' => ∃ g cap, e = .returned (.slice (some ⟨g, 0, none⟩) (PC n) cap) ∧ w'.ownsRow W.heap.size 22 1 (.slice (some ⟨g, 0, none⟩) (PC n) cap) (PC n) (UCELLS (PEAKS n)) ∧ Below W.heap.size W w') :=
    fun W h => peaks_ok n hn W (hT.below h0 h) (Nat.lt_of_lt_of_le h0 h.size)
  have CA : Aside (∀ W, Below w.heap.size w W → Calls Tryd.prog 6 #[] W fun e w' => e = .returned (.bool true) ∧ Below W.heap.size W w') :=
    fun W h => proofawake_ok W (hT.below h0 h) (Nat.lt_of_lt_of_le h0 h.size)
  have hd : ¬ (4611686018427387904 : Int) < (n : Int) := by omega
  have hd2 : ¬ (n : Int) ≤ (i : Int) := by omega
  rw [PLCS_length] at c1
  generalize PSP i n = S at *
  generalize RISE i n = R at *
  generalize i / 2 ^ R = kk at *
  generalize PLC R kk = pk at *
  generalize KTH i n = K at *
  generalize PEAKS n = PK at *
  generalize PC n = P at *
  generalize NODES n = M at *
  obtain ⟨L, hL⟩ : ∃ L, S.length = L := ⟨_, rfl⟩
  rw [hL] at c1 hsl hsf
  have HA : Aside (S.length = L ∧ n ≤ 4611686018427387904 ∧ (∀ s ∈ S, Node s.1 s.2 ∧ PLC s.1 s.2 < M ∧ ¬ (s.2 * 2 ^ s.1 ≤ i ∧ i < (s.2 + 1) * 2 ^ s.1)) ∧ S.Pairwise Off ∧ SIZE S + 1 = n) := ⟨hL, hn, hs1, hs2, hs3⟩
  have HB : Aside (L + 1 = R + P ∧ PK.getD K 0 = pk ∧ K < P ∧ PK.length = P ∧ R ≤ 62) := ⟨hsl, hk, hkl, hpl, hr62⟩
  have HL : Aside (L ≤ 126) := hsf
  clear hT h0 hs1 hs2 hs3 hsl hsf hk hkl hpl hr62 hNp hL hi hn
  go_enter Tryd.func3, Tryd.ntmps3
  go_wp2_with fail
  refine c1.mono ?_
  rintro e w1 ⟨v, rfl, hrow, hb⟩
  clear c1
  have hNu : Nums w1 v (PLCS S) := nums_own (by rw [PLCS_length, HA.out.1]; exact hrow)
  obtain ⟨a, c, hv, hcell⟩ := hNu
  rw [PLCS_length, HA.out.1] at hv hcell
  subst hv
  have R1 : Aside (Below w.heap.size w w1 ∧ (0 < L → ∃ g, a = some ⟨g, 0, none⟩ ∧ g < w1.heap.size ∧ ∀ (j : Nat), j < L → w1.cell? ⟨g, j, none⟩ = some (.int .u64 (((PLCS S).getD j 0 : Nat) : Int)))) := ⟨hb, hcell⟩
  clear hrow hb hcell
  go_wp2_with fail
  refine (cn _).mono ?_
  rintro e w2 ⟨rfl, rfl⟩
  clear cn
  go_wp2
  go_loopg [9, 10] L (fun q s9 s10 wx => ∃ (j z : Nat), s10 = .int .i64 (j : Int) ∧ s9 = .int .u64 (z : Int) ∧ Aside (j + q = L ∧ z = SIZE (S.take j) + 1 ∧ Below w1.heap.size w1 wx))
  case atStart => exact ⟨0, 1, rfl, rfl, by omega, by simp [SIZE], Below.refl _ _⟩
  case round =>
    obtain ⟨j, z, rfl, rfl, A⟩ := hrel
    obtain ⟨hj, hz, hbel⟩ := A.out
    cases gk with
    | zero =>
      obtain rfl : j = L := by omega
      have hlt : ¬ (j : Int) < (j : Int) := by omega
      have hzn : z = n := by
        rw [List.take_of_length_le (by have := HA.out.1; omega)] at hz
        have := HA.out.2.2.2.2
        omega
      subst hzn
      have R2 : Aside (Below w.heap.size w wr) := R1.out.1.trans (hbel.mono R1.out.1.size)
      clear hj hz hbel A HA R1
      go_wp2_with fail
      refine (cp _).mono ?_
      rintro e w3 ⟨rfl, rfl⟩
      clear cp
      go_wp2_with fail
      refine (CP.out _ R2.out).mono ?_
      rintro e w3 ⟨g, cap, rfl, hrow, hb⟩
      have R3 : Aside (Below w.heap.size w w3) := R2.out.trans (hb.mono R2.out.size)
      have hKP : ¬ (P : Int) ≤ (K : Int) := by have := HB.out.2.2.1; omega
      have hK0 : ¬ (K : Int) < 0 := by omega
      have hKl : (K : Int) < (P : Int) := by omega
      have hc : w3.cell? ⟨g, K, none⟩ = some (.int .u64 (pk : Int)) := by
        have hrow' := hrow
        rw [← HB.out.2.2.2.1] at hrow'
        have := row_at hrow' K (by rw [HB.out.2.2.2.1]; exact HB.out.2.2.1)
        rw [HB.out.2.1] at this
        exact this
      clear hrow hb R2 CP
      go_wp2_with fail
      refine (csp _).mono ?_
      rintro e w4 ⟨rfl, hb⟩
      have R4 : Aside (Below w.heap.size w w4) := R3.out.trans (hb.mono R3.out.size)
      clear hb R3 csp hc
      have eR : (((R : Nat) : Int)) % 256 = ((R : Nat) : Int) := by have := HB.out.2.2.2.2; omega
      have e1 : wrap64 ((R : Int) + (P : Int)) = (R : Int) + (P : Int) := by have := HB.out; have := HL.out; unfold wrap64; omega
      have e2 : wrap64 ((R : Int) + (P : Int) - 1) = (j : Int) := by have := HB.out; have := HL.out; unfold wrap64; omega
      go_wp2_with fail
      refine (CA.out _ (R4.out.alloc R4.out.size _)).mono ?_
      rintro e w5 ⟨rfl, hb⟩
      have R5 : Aside (Below w.heap.size w w5) := (R4.out.alloc R4.out.size _).trans (hb.mono (by have := R4.out.size; simp; omega))
      clear hb R4 CA
      go_wp2
      go_ret
      exact ⟨rfl, R5.out⟩
    | succ q =>
      have hlt : (j : Int) < (L : Int) := by omega
      obtain ⟨h, k, eh⟩ := at_lt (l := S) (i := j) (by have := HA.out.1; omega)
      obtain ⟨g, rfl, hg, hcs⟩ := R1.out.2 (by omega)
      have hN := HA.out.2.2.1 _ (List.mem_of_getElem? eh)
      dsimp only at hN
      obtain ⟨hN, hpM, hoff⟩ := hN
      have hc : wr.cell? ⟨g, j, none⟩ = some (.int .u64 ((PLC h k : Nat) : Int)) := by
        rw [← PLCS_at eh]
        exact (hbel.cell (p := ⟨g, j, none⟩) hg).trans (hcs j (by omega))
      have cu := under_ok h k hN
      have hsz := SIZE_next eh
      have hle := SIZE_take S (j + 1)
      have hall := HA.out.2.2.2.2
      have hsp := succ_pow k h
      have hspan := hN.span
      have hpos := Nat.two_pow_pos h
      have hM : ¬ (M : Int) ≤ ((PLC h k : Nat) : Int) := by omega
      have hM2 : decide (M ≤ PLC h k) = false := by simp; omega
      have E1 : Aside (wrap64 ((j : Int) + 1) = ((j + 1 : Nat) : Int)) := by have := HL.out; show wrap64 ((j : Int) + 1) = ((j + 1 : Nat) : Int); unfold wrap64; omega
      have E2 : Aside (IntKind.u64.wrap ((((k + 1) * 2 ^ h : Nat) : Int) - ((k * 2 ^ h : Nat) : Int)) = ((2 ^ h : Nat) : Int)) := by
        show IntKind.u64.wrap ((((k + 1) * 2 ^ h : Nat) : Int) - ((k * 2 ^ h : Nat) : Int)) = ((2 ^ h : Nat) : Int)
        rw [wrapU]
        have := HA.out.2.1
        omega
      have E3 : Aside (IntKind.u64.wrap ((z : Int) + ((2 ^ h : Nat) : Int)) = ((z + 2 ^ h : Nat) : Int)) := by
        show IntKind.u64.wrap ((z : Int) + ((2 ^ h : Nat) : Int)) = ((z + 2 ^ h : Nat) : Int)
        rw [wrapU]
        have := HA.out.2.1
        omega
      have R2 : Aside (j + 1 + q = L ∧ z + 2 ^ h = SIZE (S.take (j + 1)) + 1 ∧ Below w1.heap.size w1 wr ∧ S[j]? = some (h, k) ∧ k * 2 ^ h < (k + 1) * 2 ^ h ∧ g < w1.heap.size ∧ g < wr.heap.size ∧ (∀ (j : Nat), j < L → w1.cell? ⟨g, j, none⟩ = some (.int .u64 (((PLCS S).getD j 0 : Nat) : Int)))) := ⟨by omega, by omega, hbel, eh, by omega, hg, by have := hbel.size; omega, hcs⟩
      have HOFF : Aside (∀ m h' k', m < j → S[m]? = some (h', k') → (k' + 1) * 2 ^ h' ≤ k * 2 ^ h ∨ (k + 1) * 2 ^ h ≤ k' * 2 ^ h') := fun m h' k' hmj em => Pairwise.at_lt HA.out.2.2.2.1 hmj em eh
      have hcase : ¬ ((k * 2 ^ h : Nat) : Int) ≤ (i : Int) ∨ ((k * 2 ^ h : Nat) : Int) ≤ (i : Int) ∧ ¬ (i : Int) < (((k + 1) * 2 ^ h : Nat) : Int) ∧ decide (i < (k + 1) * 2 ^ h) = false ∧ decide (k * 2 ^ h ≤ i) = true := by
        rcases Nat.lt_or_ge i (k * 2 ^ h) with h1 | h1
        · exact .inl (by omega)
        · exact .inr ⟨by omega, by omega, by simp; omega, by simpa using h1⟩
      clear eh hj hz hbel A hN hpM hoff hcs hsz hle hall hsp hspan hpos
      generalize PLC h k = p at *
      generalize 2 ^ h = hh at *
      generalize k * hh = lo at *
      generalize (k + 1) * hh = up at *
      go_wp2_with fail
      refine (cu _).mono ?_
      rintro e w3 ⟨rfl, hb3⟩
      clear cu
      have hc3 : w3.cell? ⟨g, j, none⟩ = some (.int .u64 (p : Int)) := (hb3.cell (p := ⟨g, j, none⟩) R2.out.2.2.2.2.2.2.1).trans hc
      have R3 : Aside (Below w1.heap.size w1 w3) := R2.out.2.2.1.trans (hb3.mono R2.out.2.2.1.size)
      clear hb3 hc
      rcases hcase with hcase | ⟨hcase, hcase2, hcase3, hcase4⟩
      all_goals
        have e2 := E2.out
        have e3 := E3.out
        go_wp2
        clear e2 e3
        go_loopg [14, 15, 16, 17] j (fun qq s14 s15 s16 s17 wx => ∃ m : Nat, s14 = .int .i64 (m : Int) ∧ Aside (m + qq = j ∧ Below w1.heap.size w1 wx))
        case atStart => exact ⟨0, rfl, by omega, R3.out⟩
        case round =>
          obtain ⟨m, rfl, B⟩ := hrel
          obtain ⟨hm, hbm⟩ := B.out
          cases gk with
          | zero =>
            obtain rfl : m = j := by omega
            have hmm : ¬ (m : Int) < (m : Int) := by omega
            have R4 : Aside (m + 1 + q = L ∧ z + hh = SIZE (S.take (m + 1)) + 1 ∧ Below w1.heap.size w1 wr) := ⟨R2.out.1, R2.out.2.1, hbm⟩
            clear hm hbm B R2 R3 HA hc3
            have e1 := E1.out
            go_wp2
            go_roundg q
            case measure => exact Nat.lt_succ_self _
            case rel => exact ⟨m + 1, z + hh, by first | rfl | (rw [e1]), by first | rfl | (rw [E3.out]) | (rw [E2.out, E3.out]), R4.out⟩
          | succ qq =>
            have hmj : (m : Int) < (j : Int) := by omega
            have HL1 := HA.out.1
            obtain ⟨r1, r2, r3, r4, r5, r6, r7, r8⟩ := R2.out
            obtain ⟨h', k', em⟩ := at_lt (l := S) (i := m) (by omega)
            have hN' := (HA.out.2.2.1 _ (List.mem_of_getElem? em)).1
            dsimp only at hN'
            have hcm : wr.cell? ⟨g, m, none⟩ = some (.int .u64 ((PLC h' k' : Nat) : Int)) := by
              rw [← PLCS_at em]
              exact (hbm.cell (p := ⟨g, m, none⟩) r6).trans (r8 m (by omega))
            have cu := under_ok h' k' hN'
            have hof := HOFF.out m h' k' (by omega) em
            have EM : Aside (wrap64 ((m : Int) + 1) = ((m + 1 : Nat) : Int)) := by have := HL.out; show wrap64 ((m : Int) + 1) = ((m + 1 : Nat) : Int); unfold wrap64; omega
            have hml : (m : Int) < (L : Int) := Int.lt_trans hmj hlt
            have hsm := succ_pow k' h'
            have hpm := Nat.two_pow_pos h'
            have hof2 : ¬ ((k' * 2 ^ h' : Nat) : Int) < (up : Int) ∨ ((k' * 2 ^ h' : Nat) : Int) < (up : Int) ∧ ¬ (lo : Int) < (((k' + 1) * 2 ^ h' : Nat) : Int) := by omega
            have R5 : Aside (m + 1 + qq = j ∧ Below w1.heap.size w1 wr) := ⟨by omega, hbm⟩
            clear hm hbm B hof HL1 r1 r2 r3 r5 r6 r7 r8 hN' r4 em hsm hpm R2 R3 HA hc3
            generalize PLC h' k' = p' at *
            generalize k' * 2 ^ h' = lo' at *
            generalize (k' + 1) * 2 ^ h' = up' at *
            go_wp2_with fail
            refine (cu _).mono ?_
            rintro e w4 ⟨rfl, hb4⟩
            have R6 : Aside (m + 1 + qq = j ∧ Below w1.heap.size w1 w4) := ⟨R5.out.1, R5.out.2.trans (hb4.mono R5.out.2.size)⟩
            clear cu hcm hb4 R5
            rcases hof2 with hof2 | ⟨hof2, hof3⟩
            all_goals
              have em1 := EM.out
              go_wp2
              go_roundg qq
              case measure => exact Nat.lt_succ_self _
              case rel => exact ⟨m + 1, by first | rfl | (rw [em1]), R6.out⟩
theorem proofSets_walk (a0 a1 : Int) (w0 : (Lit.int .u64 a0).wf = true) (w1 : (Lit.int .u64 a1).wf = true) (w : World) (hT : Tabled w) (h0 : 0 < w.heap.size) :
    Calls Tryd.prog 3 #[.int .u64 a0, .int .u64 a1] w fun e w' => e = .returned (.bool true) ∧ Below w.heap.size w w' := by
  have b0 := wf_u64 w0
  have b1 := wf_u64 w1
  obtain ⟨i, rfl⟩ : ∃ X : Nat, a0 = (X : Int) := ⟨a0.toNat, by omega⟩
  obtain ⟨n, rfl⟩ : ∃ X : Nat, a1 = (X : Int) := ⟨a1.toNat, by omega⟩
  by_cases hn : 4611686018427387904 < n
  · exact sets_size i n hn w hT h0
  · by_cases hi : i < n
    · exact sets_ok i n hi (by omega) w hT h0
    · exact sets_index i n hn (by omega) w hT h0
end Go.Proofs.YtddmfpiflnjmjabDoor
