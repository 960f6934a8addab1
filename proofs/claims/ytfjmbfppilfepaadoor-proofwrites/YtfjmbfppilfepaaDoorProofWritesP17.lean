/- Texts of ProofWrites, one behind the other: ProofRefPlaces, ProofLists, RegionSteps. -/
import Derived.Test.YtfjmbfppilfepaaDoorProg
import Derived.WalkKit
import Derived.WalkLawsBesides
import Derived.Deep.RegionHeld3
import Derived.Deep.CutRange
import Derived.Deep.MidRow
import Derived.Test.YtfjmbfppilfepaaDoorProofWritesP15
import Derived.Test.YtfjmbfppilfepaaDoorProofWritesP16
/- What the document's Places and PrefixPlaces answer; two lists of numbers that read the same or not. -/
namespace Go.Proofs.YtfjmbfppilfepaaDoor
open Go.RowKit
set_option maxRecDepth 100000

theorem refplaces_size (i n : Int) (hn : 4611686018427387904 < n) (w : World) : Calls Tryd.prog 64 #[.int .u64 i, .int .u64 n] w fun e w' => e = .returned (.tuple #[.slice none 0 0, .int .i64 30]) ∧ w = w' := by
  go_enter Tryd.func64, Tryd.ntmps64
  go_wp2
  go_ret2
  exact ⟨rfl, rfl⟩
theorem refplaces_index (i n : Int) (hn : ¬ 4611686018427387904 < n) (hi : n ≤ i) (w : World) : Calls Tryd.prog 64 #[.int .u64 i, .int .u64 n] w fun e w' => e = .returned (.tuple #[.slice none 0 0, .int .i64 32]) ∧ w = w' := by
  go_enter Tryd.func64, Tryd.ntmps64
  go_wp2
  go_ret2
  exact ⟨rfl, rfl⟩
set_option maxHeartbeats 1000000 in
theorem refplaces_ok (i n : Nat) (hi : i < n) (hn : n ≤ 4611686018427387904) (w : World) : Calls Tryd.prog 64 #[.int .u64 (i : Int), .int .u64 (n : Int)] w fun e w' =>
    ∃ v, e = .returned (.tuple #[v, .int .i64 0]) ∧ w'.ownsRow w.heap.size 22 1 v (PLCS (PSP i n)).length (UCELLS (PLCS (PSP i n))) ∧ Below w.heap.size w w' := by
  have c1 := refpath_ok i n hi hn w
  have c2 := refpeak_ok i n hi hn
  have c3 := refpeaks_ok n hn
  have hd : ¬ (4611686018427387904 : Int) < (n : Int) := by omega
  have hd2 : ¬ (n : Int) ≤ (i : Int) := by omega
  have hP := PEAKS_length (n := n) (by omega)
  have hP6 := PC_lt_pow 64 n (by omega)
  have hR6 := (RISE_spec hi hn).2.1
  have hKl := KTH_lt hi hn
  rw [PSP_places hn]
  have hWl := WAY_length i (RISE i n)
  generalize WAY i (RISE i n) = A at *
  generalize PEAKS n = PK at *
  generalize RISE i n = R at *
  generalize KTH i n = K at *
  generalize PC n = P at *
  obtain ⟨X, hX⟩ : ∃ X, A ++ PK.eraseIdx K = X := ⟨_, rfl⟩
  rw [hX]
  obtain ⟨N, hN⟩ : ∃ N, X.length = N := ⟨_, rfl⟩
  rw [hN]
  have HA : Aside (PK.length = P ∧ P ≤ 64 ∧ R ≤ 62 ∧ K < P ∧ A.length = R) := ⟨hP, hP6, hR6, hKl, hWl⟩
  have HX : Aside (SOFAR A PK K P = X ∧ X.length = N) := ⟨by rw [← hX, ← hP]; exact SOFAR_all _ _ _, hN⟩
  clear hX hN
  clear hP hP6 hR6 hKl hWl hi hn
  go_enter Tryd.func64, Tryd.ntmps64
  go_wp2_with fail
  refine c1.mono ?_
  rintro e w1 ⟨v, rfl, hown, hb⟩
  clear c1
  have R1 : Aside (w1.ownsRow w.heap.size 22 1 v R (UCELLS A) ∧ Below w.heap.size w w1) := ⟨hown, hb⟩
  clear hown hb
  go_wp2_with fail
  refine (c2 _).mono ?_
  rintro e w2 ⟨rfl, hb⟩
  replace R1 : Aside (w2.ownsRow w.heap.size 22 1 v R (UCELLS A) ∧ Below w.heap.size w w2) := ⟨own_below R1.out.1 hb, R1.out.2.trans (hb.mono R1.out.2.size)⟩
  clear c2 hb
  go_wp2_with fail
  refine (c3 _).mono ?_
  rintro e w3 ⟨vp, rfl, hrow, hb2⟩
  clear c3
  have R2 : Aside (w3.ownsRow w.heap.size 22 1 v (SOFAR A PK K 0).length (UCELLS (SOFAR A PK K 0)) ∧ Below w.heap.size w w3 ∧ (∀ k, vp.ownBlock = some k → v.ownBlock ≠ some k) ∧ w3.ownsRow w2.heap.size 22 1 vp P (UCELLS PK)) := by
    obtain ⟨a1, a2⟩ := R1.out
    refine ⟨?_, a2.trans (hb2.mono a2.size), fun k hk e => ?_, hrow⟩
    · rw [SOFAR_zero, HA.out.2.2.2.2]
      exact own_below a1 hb2
    · have := (a1.lt k e).2
      have := (hrow.lt k hk).1
      omega
  obtain ⟨ap, capp, rfl, hap⟩ := own_slice hrow
  clear R1 hrow hb2 hap
  go_wp2
  go_loopg [6, 11] P (fun q s6 s11 wx => ∃ j : Nat, s11 = .int .i64 (j : Int) ∧ Aside (j + q = P ∧ wx.ownsRow w.heap.size 22 1 s6 (SOFAR A PK K j).length (UCELLS (SOFAR A PK K j)) ∧ Below w.heap.size w wx ∧ (∀ k, (Value.slice ap P capp).ownBlock = some k → s6.ownBlock ≠ some k) ∧ wx.ownsRow w2.heap.size 22 1 (.slice ap P capp) P (UCELLS PK)))
  case atStart => exact ⟨0, rfl, by omega, R2.out⟩
  case round =>
    obtain ⟨j, rfl, A1⟩ := hrel
    clear R2
    cases gk with
    | zero =>
      obtain ⟨hj, hown, hbel, hne, hrow⟩ := A1.out
      obtain rfl : j = P := by omega
      have hlt : ¬ (j : Int) < (j : Int) := by omega
      have R : Aside (wr.ownsRow w.heap.size 22 1 u6 N (UCELLS X) ∧ Below w.heap.size w wr) := by
        rw [HX.out.1, HX.out.2] at hown
        exact ⟨hown, hbel⟩
      clear hj hown hbel hne hrow A1 HA
      go_wp2
      go_ret2
      exact ⟨_, rfl, R.out.1, R.out.2⟩
    | succ q =>
      obtain ⟨hj, hown, hbel, hne, hrow⟩ := A1.out
      obtain ⟨a1, a2, a3, a4, a5⟩ := HA.out
      have hlt : (j : Int) < (P : Int) := by omega
      obtain ⟨ap', cap2, ee, hap⟩ := own_slice hrow
      cases ee
      obtain ⟨gp, rfl, hgp, _⟩ := hap (by omega)
      have hc : wr.cell? ⟨gp, j, none⟩ = some (.int .u64 ((PK.getD j 0 : Nat) : Int)) := by
        have hrow' := hrow
        rw [← a1] at hrow'
        exact row_at hrow' j (by omega)
      have hne' := hne gp rfl
      have E1 : Aside (wrap64 ((j : Int) + 1) = ((j + 1 : Nat) : Int)) := by show wrap64 ((j : Int) + 1) = ((j + 1 : Nat) : Int); unfold wrap64; omega
      by_cases hk : j = K
      · subst hk
        have R : Aside (j + 1 + q = P ∧ wr.ownsRow w.heap.size 22 1 u6 (SOFAR A PK j (j + 1)).length (UCELLS (SOFAR A PK j (j + 1))) ∧ Below w.heap.size w wr ∧ (∀ k, (Value.slice (some ⟨gp, 0, none⟩) P capp).ownBlock = some k → u6.ownBlock ≠ some k) ∧ wr.ownsRow w2.heap.size 22 1 (.slice (some ⟨gp, 0, none⟩) P capp) P (UCELLS PK)) := ⟨by omega, by rw [SOFAR_skip _ _ _ (by omega)]; exact hown, hbel, hne, hrow⟩
        clear hj hown hbel hne hrow a1 a2 a3 a4 a5 A1 hap hne'
        generalize PK.getD j 0 = y at hc
        have e1 := E1.out
        go_wp2
        go_roundg q
        case measure => exact Nat.lt_succ_self _
        case rel => exact ⟨j + 1, by first | rfl | (rw [E1.out]), R.out⟩
      · have hk' : ((j : Int) != (K : Int)) = true := by simp; omega
        have hnx := SOFAR_next A PK K j (by omega) hk
        have hll := SOFAR_length A PK K j
        generalize PK.getD j 0 = y at *
        have R : Aside (j + 1 + q = P ∧ wr.ownsRow w.heap.size 22 1 u6 (SOFAR A PK K j).length (UCELLS (SOFAR A PK K j)) ∧ Below w.heap.size w wr ∧ u6.ownBlock ≠ some gp ∧ wr.ownsRow w2.heap.size 22 1 (.slice (some ⟨gp, 0, none⟩) P capp) P (UCELLS PK) ∧ SOFAR A PK K (j + 1) = SOFAR A PK K j ++ [y] ∧ (SOFAR A PK K j).length ≤ 1000) := ⟨by omega, hown, hbel, hne', hrow, hnx, by omega⟩
        clear hj hown hbel hne hrow a1 a2 a3 a4 a5 A1 hnx hll hap hne'
        go_wp2_with (at_builtin; refine app_more _ rfl (.tmp 40) (.tmp 45) rfl w.heap.size u6 _ (UCELLS (SOFAR A PK K j)) rfl (R.out.2.1.alloc _) wr.heap.size 1 (y : Int) rfl (by rw [World.cell?_alloc_at _ _ _ _ rfl]; rfl) R.out.2.2.2.2.2.2 (by have := R.out.2.2.1.size; simp; omega) ?_; intro g' cap' w4 hown hgrow hat hg)
        have R3 : Aside (j + 1 + q = P ∧ w4.ownsRow w.heap.size 22 1 (.slice (some ⟨g', 0, none⟩) ((SOFAR A PK K j).length + 1) cap') (SOFAR A PK K (j + 1)).length (UCELLS (SOFAR A PK K (j + 1))) ∧ Below w.heap.size w w4 ∧ (∀ k, (Value.slice (some ⟨gp, 0, none⟩) P capp).ownBlock = some k → some g' ≠ some k) ∧ w4.ownsRow w2.heap.size 22 1 (.slice (some ⟨gp, 0, none⟩) P capp) P (UCELLS PK)) := by
          obtain ⟨r1, r2, r3, r4, r5, r6, r7⟩ := R.out
          have hgp := r5.lt gp rfl
          refine ⟨r1, ?_, (r3.alloc r3.size _).grown hgrow (by have := r3.size; simp; omega) (fun k e => (r2.lt k e).1), fun k hk => ?_, (r5.alloc _).kept hgrow (.inr fun e => r4 e.symm)⟩
          · rw [r6, UCELLS_snoc, List.length_append]
            exact hown
          · cases hk
            exact app_apart r4 (by simp; omega) hat
        clear R hown hgrow hat hg hc
        have e1 := E1.out
        go_wp2
        go_roundg q
        case measure => exact Nat.lt_succ_self _
        case rel => exact ⟨j + 1, by first | rfl | (rw [E1.out]), R3.out⟩
theorem refpla_ok (i n : Nat) (w : World) : Calls Tryd.prog 64 #[.int .u64 (i : Int), .int .u64 (n : Int)] w fun e w' =>
    ∃ v, e = .returned (.tuple #[v, .int .i64 (PLA i n).1]) ∧ w'.ownsRow w.heap.size 22 1 v (PLA i n).2.length (UCELLS (PLA i n).2) ∧ Below w.heap.size w w' := by
  unfold PLA
  split
  · refine (refplaces_size _ _ (by omega) w).mono ?_
    rintro e w' ⟨rfl, rfl⟩
    exact ⟨_, rfl, nil_row w, Below.refl _ _⟩
  · split
    · refine (refplaces_index _ _ (by omega) (by omega) w).mono ?_
      rintro e w' ⟨rfl, rfl⟩
      exact ⟨_, rfl, nil_row w, Below.refl _ _⟩
    · exact refplaces_ok i n (by omega) (by omega) w

theorem refprefix_not (m n : Int) (h : 4611686018427387904 < n ∨ n < m) (w : World) : Calls Tryd.prog 65 #[.int .u64 m, .int .u64 n] w fun e w' => e = .returned (.tuple #[.slice none 0 0, .int .i64 30]) ∧ w = w' := by
  by_cases hd : 4611686018427387904 < n
  · clear h
    go_enter Tryd.func65, Tryd.ntmps65
    go_wp2
    go_ret2
    exact ⟨rfl, rfl⟩
  · have hm : n < m := by omega
    clear h
    go_enter Tryd.func65, Tryd.ntmps65
    go_wp2
    go_ret2
    exact ⟨rfl, rfl⟩
theorem refspan_all (a b : Nat) (hb : b ≤ 4611686018427387904) (w : World) : Calls Tryd.prog 91 #[.int .u64 (a : Int), .int .u64 (b : Int)] w fun e w' =>
    ∃ v, e = .returned v ∧ w'.ownsRow w.heap.size 99 2 v (SPAN a b).length (SCELLS (SPAN a b)) ∧ Below w.heap.size w w' := by
  rcases Nat.lt_or_ge a b with h | h
  · exact refspan_ok a b h hb w
  · refine (refspan_none a b (.inl h) w).mono ?_
    rintro e w' ⟨rfl, rfl⟩
    refine ⟨_, rfl, ?_, Below.refl _ _⟩
    rw [SPAN_end h]
    exact World.ownsRow_nil _ _ _ _
set_option maxHeartbeats 1000000 in
theorem refprefix_ok (m n : Nat) (hmn : m ≤ n) (hn : n ≤ 4611686018427387904) (w : World) : Calls Tryd.prog 65 #[.int .u64 (m : Int), .int .u64 (n : Int)] w fun e w' =>
    ∃ v, e = .returned (.tuple #[v, .int .i64 0]) ∧ w'.ownsRow w.heap.size 22 1 v (PLCS (PXS m n)).length (UCELLS (PLCS (PXS m n))) ∧ Below w.heap.size w w' := by
  have c1 := refpeaks_ok m (by omega) w
  have hd : ¬ (4611686018427387904 : Int) < (n : Int) := by omega
  have hd2 : ¬ (n : Int) < (m : Int) := by omega
  have hd3 : decide (n < m) = false := by simp; omega
  have hd4 : decide ((4611686018427387904 : Int) < (n : Int)) = false := by simp; omega
  have c3 := refspan_all m n hn
  have hP := PEAKS_length (n := m) (by omega)
  have hP6 := PC_lt_pow 64 m (by omega)
  have hS := SPAN_length (a := m) hn
  have hnode : ∀ j h k, (SPAN m n)[j]? = some (h, k) → Node h k := fun j h k e => (tile_span hn hmn).node e
  rw [PXS_places hmn hn]
  generalize PEAKS m = PK at *
  generalize PC m = P at *
  generalize SPAN m n = S at *
  obtain ⟨L, hL⟩ : ∃ L, S.length = L := ⟨_, rfl⟩
  rw [hL] at c3
  obtain ⟨X, hX⟩ : ∃ X, PK ++ PLCS S = X := ⟨_, rfl⟩
  rw [hX]
  obtain ⟨N, hN⟩ : ∃ N, X.length = N := ⟨_, rfl⟩
  rw [hN]
  have HX : Aside (SOFARP PK S L = X ∧ X.length = N) := ⟨by rw [← hX, ← hL]; simp [SOFARP], hN⟩
  clear hX hN
  have HA : Aside (PK.length = P ∧ P ≤ 64 ∧ S.length = L ∧ L ≤ 124 ∧ ∀ j h k, S[j]? = some (h, k) → Node h k) := ⟨hP, hP6, hL, by omega, hnode⟩
  clear hP hP6 hS hL hnode hmn hn
  go_enter Tryd.func65, Tryd.ntmps65
  go_wp2_with fail
  refine c1.mono ?_
  rintro e w1 ⟨v, rfl, hown, hb⟩
  clear c1
  have R1 : Aside (w1.ownsRow w.heap.size 22 1 v P (UCELLS PK) ∧ Below w.heap.size w w1) := ⟨hown, hb⟩
  clear hown hb
  go_wp2_with fail
  refine (c3 _).mono ?_
  rintro e w2 ⟨vs, rfl, hrow, hb2⟩
  clear c3
  obtain ⟨ga, capp, rfl, hsp⟩ := spots_own HA.out.2.2.1 hrow
  have R2 : Aside (w2.ownsRow w.heap.size 22 1 v (SOFARP PK S 0).length (UCELLS (SOFARP PK S 0)) ∧ Below w.heap.size w w2 ∧ (∀ k, (Value.slice ga L capp).ownBlock = some k → v.ownBlock ≠ some k) ∧ w2.ownsRow w1.heap.size 99 2 (.slice ga L capp) L (SCELLS S)) := by
    obtain ⟨a1, a2⟩ := R1.out
    refine ⟨?_, a2.trans (hb2.mono a2.size), fun k hk e => ?_, hrow⟩
    · have : (SOFARP PK S 0) = PK := by simp [SOFARP, PLCS]
      rw [this, HA.out.1]
      exact own_below a1 hb2
    · have := (hrow.lt k hk).1
      have := (a1.lt k e).2
      omega
  clear R1 hrow hb2 hsp
  go_wp2
  go_loopg [6, 8] L (fun q s6 s8 wx => ∃ j : Nat, s8 = .int .i64 (j : Int) ∧ Aside (j + q = L ∧ wx.ownsRow w.heap.size 22 1 s6 (SOFARP PK S j).length (UCELLS (SOFARP PK S j)) ∧ Below w.heap.size w wx ∧ (∀ k, (Value.slice ga L capp).ownBlock = some k → s6.ownBlock ≠ some k) ∧ wx.ownsRow w1.heap.size 99 2 (.slice ga L capp) L (SCELLS S)))
  case atStart => exact ⟨0, rfl, by omega, R2.out⟩
  case round =>
    obtain ⟨j, rfl, A1⟩ := hrel
    clear R2
    cases gk with
    | zero =>
      obtain ⟨hj, hown, hbel, hne, hrow⟩ := A1.out
      obtain rfl : j = L := by omega
      have hlt : ¬ (j : Int) < (j : Int) := by omega
      have R : Aside (wr.ownsRow w.heap.size 22 1 u6 N (UCELLS X) ∧ Below w.heap.size w wr) := by
        rw [HX.out.1, HX.out.2] at hown
        exact ⟨hown, hbel⟩
      clear hj hown hbel hne hrow A1 HA
      go_wp2
      go_ret2
      exact ⟨_, rfl, R.out.1, R.out.2⟩
    | succ q =>
      obtain ⟨hj, hown, hbel, hne, hrow⟩ := A1.out
      obtain ⟨a1, a2, a3, a4, a5⟩ := HA.out
      have hlt : (j : Int) < (L : Int) := by omega
      obtain ⟨ga', cap2, ee, hsp⟩ := spots_own a3 hrow
      cases ee
      obtain ⟨gs, rfl, hgs, hcs⟩ := hsp (by omega)
      obtain ⟨h, k, eh⟩ := at_lt (l := S) (i := j) (by omega)
      obtain ⟨hy0, hy1⟩ := hcs j h k eh
      have hN := a5 j h k eh
      have cp := fun w => refplace_ok h k hN w
      have hnx : SOFARP PK S (j + 1) = SOFARP PK S j ++ [PLC h k] := by
        unfold SOFARP
        rw [PLCS_next eh, List.append_assoc]
      have hll : (SOFARP PK S j).length ≤ 188 := by
        unfold SOFARP
        rw [List.length_append, PLCS_length, List.length_take]
        omega
      generalize PLC h k = y at *
      have hne' := hne gs rfl
      have R : Aside (j + 1 + q = L ∧ wr.ownsRow w.heap.size 22 1 u6 (SOFARP PK S j).length (UCELLS (SOFARP PK S j)) ∧ Below w.heap.size w wr ∧ u6.ownBlock ≠ some gs ∧ wr.ownsRow w1.heap.size 99 2 (.slice (some ⟨gs, 0, none⟩) L capp) L (SCELLS S) ∧ SOFARP PK S (j + 1) = SOFARP PK S j ++ [y] ∧ (SOFARP PK S j).length ≤ 1000) := ⟨by omega, hown, hbel, hne', hrow, hnx, by omega⟩
      have E1 : Aside (wrap64 ((j : Int) + 1) = ((j + 1 : Nat) : Int)) := by show wrap64 ((j : Int) + 1) = ((j + 1 : Nat) : Int); unfold wrap64; omega
      clear hj hown hbel hne hrow a1 a2 a3 a4 a5 A1 hnx hll hne' hN eh hcs hgs hsp
      go_wp2_with fail
      refine (cp _).mono ?_
      rintro e w3 ⟨rfl, hb3⟩
      clear cp hy0 hy1
      have R2 : Aside (w3.ownsRow w.heap.size 22 1 u6 (SOFARP PK S j).length (UCELLS (SOFARP PK S j)) ∧ Below w.heap.size w w3 ∧ w3.ownsRow w1.heap.size 99 2 (.slice (some ⟨gs, 0, none⟩) L capp) L (SCELLS S)) := by
        obtain ⟨r1, r2, r3, r4, r5, r6, r7⟩ := R.out
        exact ⟨own_below r2 hb3, r3.trans (hb3.mono r3.size), own_below r5 hb3⟩
      clear hb3
      go_wp2_with (at_builtin; refine app_more _ rfl (.tmp 37) (.tmp 39) rfl w.heap.size u6 _ (UCELLS (SOFARP PK S j)) rfl (R2.out.1.alloc _) w3.heap.size 1 (y : Int) rfl (by rw [World.cell?_alloc_at _ _ _ _ rfl]; rfl) R.out.2.2.2.2.2.2 (by have := R2.out.2.1.size; simp; omega) ?_; intro g' cap' w4 hown hgrow hat hg)
      have R3 : Aside (j + 1 + q = L ∧ w4.ownsRow w.heap.size 22 1 (.slice (some ⟨g', 0, none⟩) ((SOFARP PK S j).length + 1) cap') (SOFARP PK S (j + 1)).length (UCELLS (SOFARP PK S (j + 1))) ∧ Below w.heap.size w w4 ∧ (∀ k, (Value.slice (some ⟨gs, 0, none⟩) L capp).ownBlock = some k → some g' ≠ some k) ∧ w4.ownsRow w1.heap.size 99 2 (.slice (some ⟨gs, 0, none⟩) L capp) L (SCELLS S)) := by
        obtain ⟨r1, _, _, r4, _, r6, r7⟩ := R.out
        obtain ⟨r2, r3, r5⟩ := R2.out
        have hgp := r5.lt gs rfl
        refine ⟨r1, ?_, (r3.alloc r3.size _).grown hgrow (by have := r3.size; simp; omega) (fun k e => (r2.lt k e).1), fun k hk => ?_, (r5.alloc _).kept hgrow (.inr fun e => r4 e.symm)⟩
        · rw [r6, UCELLS_snoc, List.length_append]
          exact hown
        · cases hk
          exact app_apart r4 (by simp; omega) hat
      clear R R2 hown hgrow hat hg
      have e1 := E1.out
      go_wp2
      go_roundg q
      case measure => exact Nat.lt_succ_self _
      case rel => exact ⟨j + 1, by first | rfl | (rw [E1.out]), R3.out⟩
theorem refppa_ok (m n : Nat) (w : World) : Calls Tryd.prog 65 #[.int .u64 (m : Int), .int .u64 (n : Int)] w fun e w' =>
    ∃ v, e = .returned (.tuple #[v, .int .i64 (PPA m n).1]) ∧ w'.ownsRow w.heap.size 22 1 v (PPA m n).2.length (UCELLS (PPA m n).2) ∧ Below w.heap.size w w' := by
  unfold PPA
  split
  · refine (refprefix_not _ _ (by omega) w).mono ?_
    rintro e w' ⟨rfl, rfl⟩
    exact ⟨_, rfl, nil_row w, Below.refl _ _⟩
  · exact refprefix_ok m n (by omega) (by omega) w
end Go.Proofs.YtfjmbfppilfepaaDoor

/- Two lists of numbers that read the same; a list written over and grown; does it have the mark alone? -/
namespace Go.Proofs.YtfjmbfppilfepaaDoor
open Go.RowKit
set_option maxRecDepth 100000

theorem grown_trans {w w1 w2 : World} {r r' : Option Nat} (h : w.grownBy w1 r) (h' : w1.grownBy w2 r') (hr : r' = r ∨ ∀ g, r' = some g → w.heap.size ≤ g) : w.grownBy w2 r := by
  obtain ⟨a1, a2, a3, a4, a5⟩ := h
  obtain ⟨b1, b2, b3, b4, b5⟩ := h'
  refine ⟨by rw [b1, a1], by rw [b2, a2], by rw [b3, a3], Nat.le_trans a4 b4, fun k hk hne => ?_⟩
  rw [b5 k (by omega) (fun e => ?_), a5 k hk hne]
  rcases hr with hr | hr
  · exact hne (by rw [e, hr])
  · have := hr k e.symm
    omega
theorem grown_size {w w' : World} {r : Option Nat} (h : w.grownBy w' r) : w.heap.size ≤ w'.heap.size := by
  obtain ⟨_, _, _, hs, _⟩ := h
  exact hs
theorem grown_alloc (w : World) (o : Obj) (r : Option Nat) : w.grownBy (w.alloc o) r := ⟨rfl, rfl, rfl, by simp, fun k hk _ => heap_alloc_old w o hk⟩
theorem own_form {w : World} {B n g m c : Nat} {xs : List Value} (h : w.ownsRow B 22 1 (.slice (some ⟨g, 0, none⟩) m c) n xs) : m = n := by
  rcases h.2 with ⟨e, _⟩ | ⟨_, _, _, e, _⟩
  · simp at e
  · simp at e
    omega
/-- the first j cells are the mark. -/
def OVER (xs : List Value) (u : Value) (j : Nat) : List Value := List.replicate j u ++ xs.drop j
theorem OVER_zero (xs : List Value) (u : Value) : OVER xs u 0 = xs := by simp [OVER]
theorem OVER_all (xs : List Value) (u : Value) : OVER xs u xs.length = List.replicate xs.length u := by simp [OVER]
theorem OVER_next {xs : List Value} {u : Value} {j : Nat} (hj : j < xs.length) : (OVER xs u j).set j u = OVER xs u (j + 1) := by
  unfold OVER
  rw [List.set_append_right _ _ (by simp)]
  simp only [List.length_replicate, Nat.sub_self]
  rw [List.drop_eq_getElem_cons hj, List.set_cons_zero, List.replicate_succ']
  simp
end Go.Proofs.YtfjmbfppilfepaaDoor

/- Steps of a region that draws its order, one operation at a time. -/
namespace Go.Proofs.YtfjmbfppilfepaaDoor
open Go.RowKit
set_option maxRecDepth 100000

theorem step_val {ops : Array Oper} {o : Oper} {a : Act} {w w' : World} {K : Act → World → Prop} {Q : Exit → Act → World → Prop} {E : Prop} {v : Value} (hg : o.guard = none)
    (hrun : (execOp a.eval o).run Tryd.prog w = .ok (.value v) w') (h : K (a.put o.dst v) w') : if Region.wanted o (yielded ops a.tmps) = true then Oper.wp Tryd.prog o a w K Q else E := by
  have hw : Region.wanted o (yielded ops a.tmps) = true := by simp [Region.wanted, hg]
  rw [if_pos hw]
  unfold Oper.wp
  rw [hrun]
  exact h
theorem step_skip {ops : Array Oper} {o : Oper} {a : Act} {w w' : World} {K : Act → World → Prop} {Q : Exit → Act → World → Prop} {E : Prop} (hg : o.guard = none)
    (hrun : (execOp a.eval o).run Tryd.prog w = .ok .skip w') (h : K (a.put o.dst undef) w') : if Region.wanted o (yielded ops a.tmps) = true then Oper.wp Tryd.prog o a w K Q else E := by
  have hw : Region.wanted o (yielded ops a.tmps) = true := by simp [Region.wanted, hg]
  rw [if_pos hw]
  unfold Oper.wp
  rw [hrun]
  exact h
theorem run_skip {s : Sem Unit} {w w' : World} (h : s.run Tryd.prog w = .ok () w') : (do s; pure Next.skip : Sem Next).run Tryd.prog w = .ok .skip w' := by
  simp [h]
theorem anyHone {ops : Array Oper} {Q : Exit → Act → World → Prop} {md : Region.Mode} {S : World → Prop} {fuel : Nat} {listed : Array Bool} {a : Act} {w : World} {o : Oper} (i : Nat) (hr : Region.ready md ops listed = [i]) (ho : ops[i]? = some o)
    (h : ∀ K' : Act → World → Prop, Shut (∀ a w, S w → (S w → wpAnyH Tryd.prog md ops Q S fuel (listed.setIfInBounds i true) a w) → K' a w) → if Region.wanted o (yielded ops a.tmps) = true then Oper.wp Tryd.prog o a w K' Q else K' (a.put o.dst undef) w) : wpAnyH Tryd.prog md ops Q S (fuel + 1) listed a w :=
  wpAnyH_ready hr (by simp) (AllReadyH.cons ho h AllReadyH.nil)
theorem run_value {s : Sem Value} {w w' : World} {v : Value} (h : s.run Tryd.prog w = .ok v w') : (do pure (Next.value (← s)) : Sem Next).run Tryd.prog w = .ok (.value v) w' := by
  simp [h, Result.andThen]
theorem store_hashes {w : World} {b o n c : Nat} {y : Value} {a : Option Addr} (h : w.cell? ⟨b, o, none⟩ = some y) (hf : w.frozen? ⟨b, o, none⟩ = false) : (Instr.storeAt 23 (.pointer (some ⟨b, o, none⟩)) (.slice a n c)).run Tryd.prog w = .ok () (w.setCell ⟨b, o, none⟩ (.slice a n c)) := by go_simp
end Go.Proofs.YtfjmbfppilfepaaDoor
