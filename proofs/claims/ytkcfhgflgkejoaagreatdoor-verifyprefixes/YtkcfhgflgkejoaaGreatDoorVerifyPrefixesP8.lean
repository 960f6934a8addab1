/- Texts of VerifyPrefixes, one behind the other: ProofPlaces, ProofBytes, ProofEncode, CutRefSpan. -/
import Derived.Deep.MidRow
import Derived.Test.YtkcfhgflgkejoaaGreatDoorVerifyPrefixesP5
import Derived.Test.YtkcfhgflgkejoaaGreatDoorVerifyPrefixesP6
import Derived.Test.YtkcfhgflgkejoaaGreatDoorVerifyPrefixesP7
/- What Places and PrefixPlaces of package proof answer. -/
namespace Go.Proofs.YtkcfhgflgkejoaaGreatDoor
open Go.RowKit

/-- the places so far: the earlier peaks, and of the spots behind them the first j. -/
def SOFARP (PK : List Nat) (S : List (Nat × Nat)) (j : Nat) : List Nat := PK ++ PLCS (S.take j)
theorem places_size (i n : Int) (hn : 4611686018427387904 < n) (w : World) : Calls Tryz.prog 54 #[.int .u64 i,.int .u64 n] w fun e w' => e = .returned (.tuple #[.slice none 0 0,.int .i64 30]) ∧ w = w' := by
  go_enter Tryz.func54,Tryz.ntmps54
  go_wp2
  go_ret2
  exact ⟨rfl,rfl⟩
theorem places_index (i n : Int) (hn : ¬ 4611686018427387904 < n) (hi : ¬ i < n) (w : World) : Calls Tryz.prog 54 #[.int .u64 i,.int .u64 n] w fun e w' => e = .returned (.tuple #[.slice none 0 0,.int .i64 32]) ∧ w = w' := by
  have c := path_not i n (by omega)
  clear hi
  go_enter Tryz.func54,Tryz.ntmps54
  go_wp2_with fail
  refine (c _).mono ?_
  rintro e w' ⟨rfl,rfl⟩
  clear c
  go_wp2
  go_ret2
  exact ⟨rfl,rfl⟩
theorem app_apart {w : World} {v : Value} {g gp : Nat} (hne : v.ownBlock ≠ some gp) (hgp : gp < w.heap.size) (hat : v.ownBlock = some g ∨ g = w.heap.size) : some g ≠ some gp := by
  intro e
  have e : g = gp := by simpa using e
  subst e
  rcases hat with h | h
  · exact hne h
  · omega
/-- the places so far: the way, and of the peaks the first j but the one over the leaf. -/
def SOFAR (A P : List Nat) (K j : Nat) : List Nat := A ++ (P.take j).eraseIdx K
theorem SOFAR_zero (A P : List Nat) (K : Nat) : SOFAR A P K 0 = A := by simp [SOFAR]
theorem SOFAR_all (A P : List Nat) (K : Nat) : SOFAR A P K P.length = A ++ P.eraseIdx K := by simp [SOFAR]
theorem take_getD {P : List Nat} {j : Nat} (hj : j < P.length) : P.take (j + 1) = P.take j ++ [P.getD j 0] := by
  rw [List.take_add_one,List.getD,List.getElem?_eq_getElem hj]
  rfl
theorem SOFAR_skip (A P : List Nat) (K : Nat) (hK : K < P.length) : SOFAR A P K (K + 1) = SOFAR A P K K := by
  unfold SOFAR
  rw [take_getD hK,erase_snoc,if_pos (by rw [List.length_take]; omega)]
theorem SOFAR_next (A P : List Nat) (K j : Nat) (hj : j < P.length) (hK : j ≠ K) : SOFAR A P K (j + 1) = SOFAR A P K j ++ [P.getD j 0] := by
  unfold SOFAR
  rw [take_getD hj,erase_snoc,if_neg (by rw [List.length_take]; omega),List.append_assoc]
theorem SOFAR_length (A P : List Nat) (K j : Nat) : (SOFAR A P K j).length ≤ A.length + P.length := by
  unfold SOFAR
  rw [List.length_append]
  have h1 := List.length_eraseIdx_le (P.take j) K
  have h2 := List.length_take_le' j P
  omega
set_option maxHeartbeats 1000000 in
theorem places_ok (i n : Nat) (hi : i < n) (hn : n ≤ 4611686018427387904) (w : World) (hT : Tabled w) (h0 : 0 < w.heap.size) : Calls Tryz.prog 54 #[.int .u64 (i : Int),.int .u64 (n : Int)] w fun e w' =>
    ∃ v,e = .returned (.tuple #[v,.int .i64 0]) ∧ w'.ownsRow w.heap.size 24 1 v (PLCS (PSP i n)).length (UCELLS (PLCS (PSP i n))) ∧ Below w.heap.size w w' := by
  have c1 := path_ok i n hi hn w
  have c2 := peak_ok i n hi hn
  have hd : ¬ (4611686018427387904 : Int) < (n : Int) := by omega
  have C3 : Aside (∀ W,Below w.heap.size w W → Calls Tryz.prog 65 #[.int .u64 (n : Int)] W fun e w' => ∃ g cap,e = .returned (.slice (some ⟨g,0,none⟩) (PC n) cap) ∧ w'.ownsRow W.heap.size 24 1 (.slice (some ⟨g,0,none⟩) (PC n) cap) (PC n) (UCELLS (PEAKS n)) ∧ Below W.heap.size W w') :=
    fun W h => peaks_ok n hn W (hT.below h0 h) (Nat.lt_of_lt_of_le h0 h.size)
  have hP := PEAKS_length (n := n) (by omega)
  have hP6 := PC_lt_pow 64 n (by omega)
  have hR6 := (RISE_spec hi hn).2.1
  have hKl := KTH_lt hi hn
  rw [PSP_places hn]
  have hWl := WAY_length i (RISE i n)
  generalize WAY i (RISE i n) = A at *
  generalize PEAKS n = PK at *
  generalize RISE i n = R at *
  generalize KTH i n = K at *
  generalize PC n = P at *
  obtain ⟨X,hX⟩ : ∃ X,A ++ PK.eraseIdx K = X := ⟨_,rfl⟩
  rw [hX]
  obtain ⟨N,hN⟩ : ∃ N,X.length = N := ⟨_,rfl⟩
  rw [hN]
  have HA : Aside (PK.length = P ∧ P ≤ 64 ∧ R ≤ 62 ∧ K < P ∧ A.length = R) := ⟨hP,hP6,hR6,hKl,hWl⟩
  have HX : Aside (SOFAR A PK K P = X ∧ X.length = N) := ⟨by rw [← hX, ← hP]; exact SOFAR_all _ _ _,hN⟩
  clear hX hN
  clear hP hP6 hR6 hKl hWl hT h0 hi hn
  go_enter Tryz.func54,Tryz.ntmps54
  go_wp2_with fail
  refine c1.mono ?_
  rintro e w1 ⟨g,cap,rfl,hown,hg,hb⟩
  clear c1
  have R1 : Aside (w1.ownsRow w.heap.size 24 1 (.slice (some ⟨g,0,none⟩) R cap) R (UCELLS A) ∧ Below w.heap.size w w1 ∧ g < w1.heap.size) := ⟨hown,hb,hg⟩
  clear hown hg hb
  go_wp2_with fail
  refine (c2 _).mono ?_
  rintro e w' ⟨rfl,rfl⟩
  clear c2
  go_wp2_with fail
  refine (C3.out _ R1.out.2.1).mono ?_
  rintro e w2 ⟨gp,capp,rfl,hrow,hb2⟩
  have R2 : Aside (w2.ownsRow w.heap.size 24 1 (.slice (some ⟨g,0,none⟩) R cap) (SOFAR A PK K 0).length (UCELLS (SOFAR A PK K 0)) ∧ Below w.heap.size w w2 ∧ some g ≠ some gp ∧ w2.ownsRow w1.heap.size 24 1 (.slice (some ⟨gp,0,none⟩) P capp) P (UCELLS PK)) := by
    obtain ⟨a1,a2,a3⟩ := R1.out
    have hgp := hrow.lt gp rfl
    refine ⟨?_,a2.trans (hb2.mono a2.size),fun e => ?_,hrow⟩
    · rw [SOFAR_zero,HA.out.2.2.2.2]
      exact own_below a1 hb2
    · have e : g = gp := by simpa using e
      omega
  clear R1 hrow hb2 C3
  go_wp2
  go_loopg [6,31] P (fun q s6 s31 wx => ∃ j : Nat,s31 = .int .i64 (j : Int) ∧ Aside (j + q = P ∧ wx.ownsRow w.heap.size 24 1 s6 (SOFAR A PK K j).length (UCELLS (SOFAR A PK K j)) ∧ Below w.heap.size w wx ∧ s6.ownBlock ≠ some gp ∧ wx.ownsRow w1.heap.size 24 1 (.slice (some ⟨gp,0,none⟩) P capp) P (UCELLS PK)))
  case atStart => exact ⟨0,rfl,by omega,R2.out.1,R2.out.2.1,R2.out.2.2.1,R2.out.2.2.2⟩
  case round =>
    obtain ⟨j,rfl,A1⟩ := hrel
    clear R2
    cases gk with
    | zero =>
      obtain ⟨hj,hown,hbel,hne,hrow⟩ := A1.out
      obtain rfl : j = P := by omega
      have hlt : ¬ (j : Int) < (j : Int) := by omega
      have R : Aside (wr.ownsRow w.heap.size 24 1 u6 N (UCELLS X) ∧ Below w.heap.size w wr) := by
        rw [HX.out.1,HX.out.2] at hown
        exact ⟨hown,hbel⟩
      clear hj hown hbel hne hrow A1 HA
      go_wp2
      go_ret2
      exact ⟨_,rfl,R.out.1,R.out.2⟩
    | succ q =>
      obtain ⟨hj,hown,hbel,hne,hrow⟩ := A1.out
      obtain ⟨a1,a2,a3,a4,a5⟩ := HA.out
      have hlt : (j : Int) < (P : Int) := by omega
      have hc : wr.cell? ⟨gp,j,none⟩ = some (.int .u64 ((PK.getD j 0 : Nat) : Int)) := by
        have hrow' := hrow
        rw [← a1] at hrow'
        exact row_at hrow' j (by omega)
      have e1 : wrap64 ((j : Int) + 1) = ((j + 1 : Nat) : Int) := by unfold wrap64; omega
      by_cases hk : j = K
      · subst hk
        have R : Aside (j + 1 + q = P ∧ wr.ownsRow w.heap.size 24 1 u6 (SOFAR A PK j (j + 1)).length (UCELLS (SOFAR A PK j (j + 1))) ∧ Below w.heap.size w wr ∧ u6.ownBlock ≠ some gp ∧ wr.ownsRow w1.heap.size 24 1 (.slice (some ⟨gp,0,none⟩) P capp) P (UCELLS PK)) := ⟨by omega,by rw [SOFAR_skip _ _ _ (by omega)]; exact hown,hbel,hne,hrow⟩
        clear hj hown hbel hne hrow a1 a2 a3 a4 a5 A1
        generalize PK.getD j 0 = y at hc
        go_wp2
        go_roundg q
        case measure => omega
        case rel => exact ⟨j + 1,by first | rfl | (rw [e1]),R.out⟩
      · have hk' : ((j : Int) != (K : Int)) = true := by simp; omega
        have hnx := SOFAR_next A PK K j (by omega) hk
        have hll := SOFAR_length A PK K j
        generalize PK.getD j 0 = y at *
        have R : Aside (j + 1 + q = P ∧ wr.ownsRow w.heap.size 24 1 u6 (SOFAR A PK K j).length (UCELLS (SOFAR A PK K j)) ∧ Below w.heap.size w wr ∧ u6.ownBlock ≠ some gp ∧ wr.ownsRow w1.heap.size 24 1 (.slice (some ⟨gp,0,none⟩) P capp) P (UCELLS PK) ∧ SOFAR A PK K (j + 1) = SOFAR A PK K j ++ [y] ∧ (SOFAR A PK K j).length ≤ 1000) := ⟨by omega,hown,hbel,hne,hrow,hnx,by omega⟩
        clear hj hown hbel hne hrow a1 a2 a3 a4 a5 A1 hnx hll
        go_wp2_with (at_builtin; refine app_more _ rfl (.tmp 39) (.tmp 41) rfl w.heap.size u6 _ (UCELLS (SOFAR A PK K j)) rfl (R.out.2.1.alloc _) wr.heap.size 1 (y : Int) rfl (by rw [World.cell?_alloc_at _ _ _ _ rfl]; rfl) R.out.2.2.2.2.2.2 (by have := R.out.2.2.1.size; simp; omega) ?_; intro g' cap' w3 hown hgrow hat hg)
        have R3 : Aside (j + 1 + q = P ∧ w3.ownsRow w.heap.size 24 1 (.slice (some ⟨g',0,none⟩) ((SOFAR A PK K j).length + 1) cap') (SOFAR A PK K (j + 1)).length (UCELLS (SOFAR A PK K (j + 1))) ∧ Below w.heap.size w w3 ∧ some g' ≠ some gp ∧ w3.ownsRow w1.heap.size 24 1 (.slice (some ⟨gp,0,none⟩) P capp) P (UCELLS PK)) := by
          obtain ⟨r1,r2,r3,r4,r5,r6,r7⟩ := R.out
          have hgp := r5.lt gp rfl
          refine ⟨r1, ?_,(r3.alloc r3.size _).grown hgrow (by have := r3.size; simp; omega) (fun k e => (r2.lt k e).1),app_apart r4 (by simp; omega) hat,(r5.alloc _).kept hgrow (.inr fun e => r4 e.symm)⟩
          rw [r6,UCELLS_snoc,List.length_append]
          exact hown
        clear R hown hgrow hat hg hc
        go_wp2
        go_roundg q
        case measure => omega
        case rel => exact ⟨j + 1,by first | rfl | (rw [e1]),R3.out⟩

theorem prefixplaces_not (m n : Int) (h : 4611686018427387904 < n ∨ n < m) (w : World) : Calls Tryz.prog 34 #[.int .u64 m,.int .u64 n] w fun e w' => e = .returned (.tuple #[.slice none 0 0,.int .i64 30]) ∧ w = w' := by
  by_cases hd : 4611686018427387904 < n
  · clear h
    go_enter Tryz.func34,Tryz.ntmps34
    go_wp2
    go_ret2
    exact ⟨rfl,rfl⟩
  · have hm : n < m := by omega
    clear h
    go_enter Tryz.func34,Tryz.ntmps34
    go_wp2
    go_ret2
    exact ⟨rfl,rfl⟩
theorem PLCS_next {l : List (Nat × Nat)} {j h k : Nat} (e : l[j]? = some (h,k)) : PLCS (l.take (j + 1)) = PLCS (l.take j) ++ [PLC h k] := by
  rw [(take_at e).2,PLCS_append]
  rfl
set_option maxHeartbeats 1000000 in
theorem prefixplaces_ok (m n : Nat) (hmn : m ≤ n) (hn : n ≤ 4611686018427387904) (w : World) (hT : Tabled w) (h0 : 0 < w.heap.size) : Calls Tryz.prog 34 #[.int .u64 (m : Int),.int .u64 (n : Int)] w fun e w' =>
    ∃ v,e = .returned (.tuple #[v,.int .i64 0]) ∧ w'.ownsRow w.heap.size 24 1 v (PLCS (PXS m n)).length (UCELLS (PLCS (PXS m n))) ∧ Below w.heap.size w w' := by
  have c1 := peaks_ok m (by omega) w hT h0
  have hd : ¬ (4611686018427387904 : Int) < (n : Int) := by omega
  have hd2 : ¬ (n : Int) < (m : Int) := by omega
  have C3 : Aside (∀ W,Below w.heap.size w W → Calls Tryz.prog 66 #[.int .u64 (m : Int),.int .u64 (n : Int)] W fun e w' => ∃ v,e = .returned v ∧ w'.ownsRow W.heap.size 64 2 v (SPAN m n).length (SCELLS (SPAN m n)) ∧ Below W.heap.size W w') :=
    fun W h => span_ok m n (by omega) hn W (hT.below h0 h) (Nat.lt_of_lt_of_le h0 h.size)
  have hP := PEAKS_length (n := m) (by omega)
  have hP6 := PC_lt_pow 64 m (by omega)
  have hS := SPAN_length (a := m) hn
  have hnode : ∀ j h k,(SPAN m n)[j]? = some (h,k) → Node h k := fun j h k e => (tile_span hn hmn).node e
  rw [PXS_places hmn hn]
  generalize PEAKS m = PK at *
  generalize PC m = P at *
  generalize SPAN m n = S at *
  obtain ⟨L,hL⟩ : ∃ L,S.length = L := ⟨_,rfl⟩
  rw [hL] at C3
  obtain ⟨X,hX⟩ : ∃ X,PK ++ PLCS S = X := ⟨_,rfl⟩
  rw [hX]
  obtain ⟨N,hN⟩ : ∃ N,X.length = N := ⟨_,rfl⟩
  rw [hN]
  have HX : Aside (SOFARP PK S L = X ∧ X.length = N) := ⟨by rw [← hX, ← hL]; simp [SOFARP],hN⟩
  clear hX hN
  have HA : Aside (PK.length = P ∧ P ≤ 64 ∧ S.length = L ∧ L ≤ 124 ∧ ∀ j h k,S[j]? = some (h,k) → Node h k) := ⟨hP,hP6,hL,by omega,hnode⟩
  clear hP hP6 hS hL hnode hT h0 hmn hn
  go_enter Tryz.func34,Tryz.ntmps34
  go_wp2_with fail
  refine c1.mono ?_
  rintro e w1 ⟨g,cap,rfl,hown,hb⟩
  clear c1
  have R1 : Aside (w1.ownsRow w.heap.size 24 1 (.slice (some ⟨g,0,none⟩) P cap) P (UCELLS PK) ∧ Below w.heap.size w w1 ∧ g < w1.heap.size) := ⟨hown,hb,(hown.lt g rfl).2⟩
  clear hown hb
  go_wp2_with fail
  refine (C3.out _ R1.out.2.1).mono ?_
  rintro e w2 ⟨v,rfl,hrow,hb2⟩
  obtain ⟨ga,capp,rfl,hsp⟩ := spots_own HA.out.2.2.1 hrow
  have R2 : Aside (w2.ownsRow w.heap.size 24 1 (.slice (some ⟨g,0,none⟩) P cap) (SOFARP PK S 0).length (UCELLS (SOFARP PK S 0)) ∧ Below w.heap.size w w2 ∧ (∀ k,(Value.slice ga L capp).ownBlock = some k → some g ≠ some k) ∧ w2.ownsRow w1.heap.size 64 2 (.slice ga L capp) L (SCELLS S)) := by
    obtain ⟨a1,a2,a3⟩ := R1.out
    refine ⟨?_,a2.trans (hb2.mono a2.size),fun k hk e => ?_,hrow⟩
    · have : (SOFARP PK S 0) = PK := by simp [SOFARP,PLCS]
      rw [this,HA.out.1]
      exact own_below a1 hb2
    · have e : g = k := by simpa using e
      have := (hrow.lt k hk).1
      omega
  clear R1 hrow hb2 C3 hsp
  go_wp2
  go_loopg [6,24] L (fun q s6 s24 wx => ∃ j : Nat,s24 = .int .i64 (j : Int) ∧ Aside (j + q = L ∧ wx.ownsRow w.heap.size 24 1 s6 (SOFARP PK S j).length (UCELLS (SOFARP PK S j)) ∧ Below w.heap.size w wx ∧ (∀ k,(Value.slice ga L capp).ownBlock = some k → s6.ownBlock ≠ some k) ∧ wx.ownsRow w1.heap.size 64 2 (.slice ga L capp) L (SCELLS S)))
  case atStart => exact ⟨0,rfl,by omega,R2.out⟩
  case round =>
    obtain ⟨j,rfl,A1⟩ := hrel
    clear R2
    cases gk with
    | zero =>
      obtain ⟨hj,hown,hbel,hne,hrow⟩ := A1.out
      obtain rfl : j = L := by omega
      have hlt : ¬ (j : Int) < (j : Int) := by omega
      have R : Aside (wr.ownsRow w.heap.size 24 1 u6 N (UCELLS X) ∧ Below w.heap.size w wr) := by
        rw [HX.out.1,HX.out.2] at hown
        exact ⟨hown,hbel⟩
      clear hj hown hbel hne hrow A1 HA
      go_wp2
      go_ret2
      exact ⟨_,rfl,R.out.1,R.out.2⟩
    | succ q =>
      obtain ⟨hj,hown,hbel,hne,hrow⟩ := A1.out
      obtain ⟨a1,a2,a3,a4,a5⟩ := HA.out
      have hlt : (j : Int) < (L : Int) := by omega
      obtain ⟨ga',cap2,ee,hsp⟩ := spots_own a3 hrow
      cases ee
      obtain ⟨gs,rfl,hgs,hcs⟩ := hsp (by omega)
      obtain ⟨h,k,eh⟩ := at_lt (l := S) (i := j) (by omega)
      obtain ⟨hy0,hy1⟩ := hcs j h k eh
      have hN := a5 j h k eh
      have cp := fun w => place_ok h k hN w
      have hnx : SOFARP PK S (j + 1) = SOFARP PK S j ++ [PLC h k] := by
        unfold SOFARP
        rw [PLCS_next eh,List.append_assoc]
      have hll : (SOFARP PK S j).length ≤ 188 := by
        unfold SOFARP
        rw [List.length_append,PLCS_length,List.length_take]
        omega
      generalize PLC h k = y at *
      have e1 : wrap64 ((j : Int) + 1) = ((j + 1 : Nat) : Int) := by unfold wrap64; omega
      have hne' := hne gs rfl
      have R : Aside (j + 1 + q = L ∧ wr.ownsRow w.heap.size 24 1 u6 (SOFARP PK S j).length (UCELLS (SOFARP PK S j)) ∧ Below w.heap.size w wr ∧ u6.ownBlock ≠ some gs ∧ wr.ownsRow w1.heap.size 64 2 (.slice (some ⟨gs,0,none⟩) L capp) L (SCELLS S) ∧ SOFARP PK S (j + 1) = SOFARP PK S j ++ [y] ∧ (SOFARP PK S j).length ≤ 1000) := ⟨by omega,hown,hbel,hne',hrow,hnx,by omega⟩
      clear hj hown hbel hne hrow a1 a2 a3 a4 a5 A1 hnx hll hne' hN eh hcs hgs hsp
      go_wp2_with fail
      refine (cp _).mono ?_
      rintro e w3 ⟨rfl,hb3⟩
      clear cp hy0 hy1
      have R2 : Aside (w3.ownsRow w.heap.size 24 1 u6 (SOFARP PK S j).length (UCELLS (SOFARP PK S j)) ∧ Below w.heap.size w w3 ∧ w3.ownsRow w1.heap.size 64 2 (.slice (some ⟨gs,0,none⟩) L capp) L (SCELLS S)) := by
        obtain ⟨r1,r2,r3,r4,r5,r6,r7⟩ := R.out
        exact ⟨own_below (r2.alloc _) hb3,(r3.alloc r3.size _).trans (hb3.mono (by have := r3.size; simp; omega)),own_below (r5.alloc _) hb3⟩
      clear hb3
      go_wp2_with (at_builtin; refine app_more _ rfl (.tmp 33) (.tmp 35) rfl w.heap.size u6 _ (UCELLS (SOFARP PK S j)) rfl (R2.out.1.alloc _) w3.heap.size 1 (y : Int) rfl (by rw [World.cell?_alloc_at _ _ _ _ rfl]; rfl) R.out.2.2.2.2.2.2 (by have := R2.out.2.1.size; simp; omega) ?_; intro g' cap' w4 hown hgrow hat hg)
      have R3 : Aside (j + 1 + q = L ∧ w4.ownsRow w.heap.size 24 1 (.slice (some ⟨g',0,none⟩) ((SOFARP PK S j).length + 1) cap') (SOFARP PK S (j + 1)).length (UCELLS (SOFARP PK S (j + 1))) ∧ Below w.heap.size w w4 ∧ (∀ k,(Value.slice (some ⟨gs,0,none⟩) L capp).ownBlock = some k → some g' ≠ some k) ∧ w4.ownsRow w1.heap.size 64 2 (.slice (some ⟨gs,0,none⟩) L capp) L (SCELLS S)) := by
        obtain ⟨r1,_,_,r4,_,r6,r7⟩ := R.out
        obtain ⟨r2,r3,r5⟩ := R2.out
        have hgp := r5.lt gs rfl
        refine ⟨r1, ?_,(r3.alloc r3.size _).grown hgrow (by have := r3.size; simp; omega) (fun k e => (r2.lt k e).1),fun k hk => ?_,(r5.alloc _).kept hgrow (.inr fun e => r4 e.symm)⟩
        · rw [r6,UCELLS_snoc,List.length_append]
          exact hown
        · cases hk
          exact app_apart r4 (by simp; omega) hat
      clear R R2 hown hgrow hat hg
      go_wp2
      go_roundg q
      case measure => omega
      case rel => exact ⟨j + 1,by first | rfl | (rw [e1]),R3.out⟩
end Go.Proofs.YtkcfhgflgkejoaaGreatDoor

/- What written, Encode and EncodePrefix of package proof answer. -/
namespace Go.Proofs.YtkcfhgflgkejoaaGreatDoor
open Go.RowKit
set_option maxRecDepth 100000

/-- so many hashes lie there, told as their bytes, one behind the other. -/
def Flat (w : World) (a : Option Addr) (n : Nat) (l : List Int) : Prop :=
  l.length = 32 * n ∧ (0 < n → ∃ b o,a = some ⟨b,o,none⟩ ∧ b < w.heap.size ∧ ∀ j,j < 32 * n → w.cell? ⟨b,o + j,none⟩ = some (.int .u8 (l.getD j 0))) ∧ ∀ x ∈ l,0 ≤ x ∧ x ≤ 255
theorem Flat.below {w w' : World} {a : Option Addr} {n : Nat} {l : List Int} (h : Flat w a n l) (hb : Below w.heap.size w w') : Flat w' a n l :=
  ⟨h.1,fun hn => by
    obtain ⟨b,o,e,hl,hc⟩ := h.2.1 hn
    exact ⟨b,o,e,Nat.lt_of_lt_of_le hl hb.size,fun i hi => (hb.cell (by exact hl)).trans (hc i hi)⟩,h.2.2⟩
/-- the bytes of the i-th hash. -/
def HSH (l : List Int) (i : Nat) : List Int := (l.drop (32 * i)).take 32
theorem HSH_length {l : List Int} {n i : Nat} (hl : l.length = 32 * n) (hi : i < n) : (HSH l i).length = 32 := by
  unfold HSH
  rw [List.length_take,List.length_drop]
  omega
theorem HSH_at {l : List Int} {i j : Nat} (hj : j < 32) : (HSH l i).getD j 0 = l.getD (32 * i + j) 0 := by
  unfold HSH
  rw [List.getD_eq_getElem?_getD,List.getElem?_take,if_pos hj,List.getElem?_drop,List.getD_eq_getElem?_getD]
theorem HSH_mem {l : List Int} {i : Nat} {x : Int} (h : x ∈ HSH l i) : x ∈ l := List.mem_of_mem_drop (List.mem_of_mem_take h)
theorem HSH_next (l : List Int) (i : Nat) : l.take (32 * (i + 1)) = l.take (32 * i) ++ HSH l i := by
  unfold HSH
  rw [show 32 * (i + 1) = 32 * i + 32 by omega,List.take_add]
theorem info_hash32 : (Tryz.prog.info? 23).map (·.size) = some 32 := by kernel_rfl
theorem info_cells {h : List Int} (hl : h.length = 32) : (Tryz.prog.info? 23).map (·.size) = some (CELLS h).length := by
  rw [info_hash32,show (CELLS h).length = 32 by simp [CELLS,hl]]
theorem info_arr {h : List Int} (hl : h.length = 32) : (Tryz.prog.info? 23).map (·.size) = some (CELLS h).toArray.size := by
  rw [info_hash32,show (CELLS h).toArray.size = 32 by simp [CELLS,hl]]
theorem cells_one (h : List Int) : (CELLS h).toArray.all (·.oneCell') = true := by
  rw [Array.all_eq_true_iff_forall_mem]
  intro v hv
  exact CELLS_one h v (by simpa using hv)
theorem Flat.at {w : World} {b o n : Nat} {l : List Int} {i : Nat} (h : Flat w (some ⟨b,o,none⟩) n l) (hi : i < n) : w.rangeAt b (o + i * 32) (CELLS (HSH l i)) := by
  intro j v hv
  obtain ⟨b',o',e,_,hc⟩ := h.2.1 (by omega)
  simp only [Option.some.injEq,Addr.mk.injEq] at e
  obtain ⟨rfl,rfl,_⟩ := e
  have hj : j < 32 := by
    have := (List.getElem?_eq_some_iff.1 hv).1
    rw [show (CELLS (HSH l i)).length = 32 by simp [CELLS,HSH_length h.1 hi]] at this
    exact this
  rw [CELLS_get _ _ (by rw [HSH_length h.1 hi]; exact hj),HSH_at hj] at hv
  rw [show o + i * 32 + j = o + (32 * i + j) by omega,hc _ (by omega)]
  exact hv
theorem own_one (w : World) (x : Int) : (w.alloc (.cells #[.int .u8 x] 5)).ownsRow w.heap.size 5 1 (.slice (some ⟨w.heap.size,0,none⟩) 1 1) 1 (CELLS [x]) :=
  World.ownsRow_lit w #[.int .u8 x] 1 (Nat.le_refl _) (by simp [maxLen]) rfl
end Go.Proofs.YtkcfhgflgkejoaaGreatDoor

/- What Encode and EncodePrefix answer, of any proof; the law's awake. -/
namespace Go.Proofs.YtkcfhgflgkejoaaGreatDoor
open Go.RowKit
set_option maxRecDepth 100000

/-- what Places answers: the error, the places. -/
def PLA (i n : Nat) : Int × List Nat := if 4611686018427387904 < n then (30, []) else if n ≤ i then (32, []) else (0,PLCS (PSP i n))
/-- what PrefixPlaces answers. -/
def PPA (m n : Nat) : Int × List Nat := if 4611686018427387904 < n ∨ n < m then (30, []) else (0,PLCS (PXS m n))
theorem PLA_few (i n : Nat) : (PLA i n).2.length ≤ 188 := by
  unfold PLA
  split
  · simp
  · split
    · simp
    · have := PSP_few (i := i) (n := n) (by omega) (by omega)
      simp only [PLCS_length]
      omega
theorem PPA_few (m n : Nat) : (PPA m n).2.length ≤ 188 := by
  unfold PPA
  split
  · simp
  · have := PXS_length (m := m) (n := n) (by omega) (by omega)
    simp only [PLCS_length]
    omega
theorem nil_row (w : World) : w.ownsRow w.heap.size 24 1 (.slice none 0 0) ([] : List Nat).length (UCELLS []) := World.ownsRow_nil _ _ _ _
theorem pla_ok (i n : Nat) (w : World) (hT : Tabled w) (h0 : 0 < w.heap.size) : Calls Tryz.prog 54 #[.int .u64 (i : Int),.int .u64 (n : Int)] w fun e w' =>
    ∃ v,e = .returned (.tuple #[v,.int .i64 (PLA i n).1]) ∧ w'.ownsRow w.heap.size 24 1 v (PLA i n).2.length (UCELLS (PLA i n).2) ∧ Below w.heap.size w w' := by
  unfold PLA
  split
  · refine (places_size _ _ (by omega) w).mono ?_
    rintro e w' ⟨rfl,rfl⟩
    exact ⟨_,rfl,nil_row w,Below.refl _ _⟩
  · split
    · refine (places_index _ _ (by omega) (by omega) w).mono ?_
      rintro e w' ⟨rfl,rfl⟩
      exact ⟨_,rfl,nil_row w,Below.refl _ _⟩
    · exact places_ok i n (by omega) (by omega) w hT h0
theorem ppa_ok (m n : Nat) (w : World) (hT : Tabled w) (h0 : 0 < w.heap.size) : Calls Tryz.prog 34 #[.int .u64 (m : Int),.int .u64 (n : Int)] w fun e w' =>
    ∃ v,e = .returned (.tuple #[v,.int .i64 (PPA m n).1]) ∧ w'.ownsRow w.heap.size 24 1 v (PPA m n).2.length (UCELLS (PPA m n).2) ∧ Below w.heap.size w w' := by
  unfold PPA
  split
  · refine (prefixplaces_not _ _ (by omega) w).mono ?_
    rintro e w' ⟨rfl,rfl⟩
    exact ⟨_,rfl,nil_row w,Below.refl _ _⟩
  · exact prefixplaces_ok m n (by omega) (by omega) w hT h0
/-- the bytes of a proof that needs P nodes (or none, by the error E) and has n, or what is wrong. -/
def ENCB (k E : Int) (P n X Y : Nat) (l : List Int) : Int × List Int := if E ≠ 0 then (E, []) else if n ≠ P then (70, []) else (0,k :: (SHORT X ++ SHORT Y ++ l))
/-- what EncodePrefix answers. -/
def ENX (F S n : Nat) (l : List Int) : Int × List Int := ENCB 80 (PPA F S).1 (PPA F S).2.length n F S l
theorem nil_bytes' (w : World) (b : Nat) : w.ownsRow b 5 1 (.slice none 0 0) ([] : List Int).length (CELLS []) := World.ownsRow_nil _ _ _ _
/-- an error and bytes of one's own are answered. -/
def ANSB (w : World) (A : Int × List Int) (e : Ending) (w' : World) : Prop := ∃ v,e = .returned (.tuple #[v,.int .i64 A.1]) ∧ w'.ownsRow w.heap.size 5 1 v A.2.length (CELLS A.2) ∧ Below w.heap.size w w'
/-! the law's awake -/
end Go.Proofs.YtkcfhgflgkejoaaGreatDoor

/- What the document's Span answers. -/
namespace Go.Proofs.YtkcfhgflgkejoaaGreatDoor
open Go.RowKit

theorem refspan_none (a b : Nat) (h : b ≤ a ∨ 4611686018427387904 < b) (w : World) : Calls Tryz.prog 32 #[.int .u64 (a : Int),.int .u64 (b : Int)] w fun e w' => e = .returned (.slice none 0 0) ∧ w = w' := by
  have hg1 : b ≤ a ∨ (¬ b ≤ a ∧ (4611686018427387904 : Int) < (b : Int)) := by
    by_cases c : b ≤ a
    · exact .inl c
    · exact .inr ⟨c,by omega⟩
  clear h
  rcases hg1 with hg1 | ⟨hg1,hg2⟩
  all_goals
    go_enter Tryz.func32,Tryz.ntmps32
    go_wp2
    go_ret
    exact ⟨rfl,rfl⟩
theorem wrap_near' (h : Nat) (hh : h < 62) : wrap64 ((h + 1 : Nat) : Int) = ((h + 1 : Nat) : Int) := by unfold wrap64; omega
theorem wrap_pow (h : Nat) (hh : h ≤ 62) : wrap64 ((h : Int) + 1) = ((h + 1 : Nat) : Int) := by unfold wrap64; omega
set_option maxHeartbeats 1000000 in
theorem refspan_ok (a b : Nat) (hab : a < b) (hb : b ≤ 4611686018427387904) (w : World) : Calls Tryz.prog 32 #[.int .u64 (a : Int),.int .u64 (b : Int)] w fun e w' =>
    ∃ v,e = .returned v ∧ w'.ownsRow w.heap.size 64 2 v (SPAN a b).length (SCELLS (SPAN a b)) ∧ Below w.heap.size w w' := by
  have HB : Aside (b ≤ 4611686018427387904) := hb
  have hg1 : ¬ b ≤ a := by omega
  have hg2 : ¬ (4611686018427387904 : Int) < (b : Int) := by omega
  go_enter Tryz.func32,Tryz.ntmps32
  go_wp2
  clear hg1 hg2
  go_loopg [0,5] (b - a) (fun g s0 s5 wx => ∃ (c : Nat) (pre : List (Nat × Nat)),s0 = .int .u64 (c : Int) ∧ Aside (g = b - c ∧ c ≤ b ∧ pre ++ SPAN c b = SPAN a b ∧ wx.ownsRow w.heap.size 64 2 s5 pre.length (SCELLS pre) ∧ Below w.heap.size w wx))
  case atStart => exact ⟨a, [],rfl,rfl,Nat.le_of_lt hab,rfl,World.ownsRow_nil _ _ _ _,Below.refl _ _⟩
  case round =>
    obtain ⟨c,pre,rfl,A⟩ := hrel
    obtain ⟨hg,hc,hp,hown,hbel⟩ := A.out
    by_cases hlt : c < b
    · have hlt' : (c : Int) < (b : Int) := by omega
      obtain ⟨s1,s2,s3⟩ := HT_spec hlt hb
      have hsp := SPAN_step hlt
      have hpos := Nat.two_pow_pos (HT c b)
      have hpl : pre.length ≤ 1000 := by
        have := congrArg List.length hp
        have := SPAN_length (a := a) hb
        rw [List.length_append] at *
        omega
      obtain ⟨HH,hHH⟩ : ∃ HH,HT c b = HH := ⟨_,rfl⟩
      rw [hHH] at s1 s2 s3 hsp hpos
      have R : Aside (gk = b - c ∧ c ≤ b ∧ pre ++ SPAN c b = SPAN a b ∧ wr.ownsRow w.heap.size 64 2 u5 pre.length (SCELLS pre) ∧ Below w.heap.size w wr ∧ HH ≤ 62 ∧ Fit c HH b ∧ ¬ Fit c (HH + 1) b ∧ 0 < 2 ^ HH ∧ pre.length ≤ 1000 ∧ SPAN c b = (HH,c / 2 ^ HH) :: SPAN (c + 2 ^ HH) b) := ⟨hg,hc,hp,hown,hbel,s1,s2,s3,hpos,hpl,hsp⟩
      clear s1 s2 s3 hsp hpos hpl hg hc hp hown hbel A hHH hlt
      go_wp2
      go_loopg [6] HH (fun g s6 wx => ∃ h : Nat,s6 = .int .i64 (h : Int) ∧ h + g = HH ∧ wx = wr)
      case atStart => exact ⟨0,rfl,by omega,rfl⟩
      case round =>
        obtain ⟨h,rfl,hh,rfl⟩ := hrel
        obtain ⟨q1,q2,q3,q4,q5,q6,q7,q8,q9,q10,q11⟩ := R.out
        obtain ⟨d,hd⟩ : ∃ d,b - c = d := ⟨_,rfl⟩
        have HES : Aside (IntKind.u64.wrap ((b : Int) - (c : Int)) = (d : Int)) := by
          show IntKind.u64.wrap ((b : Int) - (c : Int)) = (d : Int)
          rw [wrapU]
          omega
        have hz0 : (0 : Int) ≤ (h : Int) := Int.natCast_nonneg h
        have cp0 := power_ok h (by omega)
        obtain ⟨P0,hP0⟩ : ∃ P0,2 ^ h = P0 := ⟨_,rfl⟩
        rw [hP0] at cp0
        cases gk with
        | zero =>
          obtain rfl : h = HH := by omega
          have hP0p : 0 < P0 := by rw [← hP0]; exact q9
          have hP0n : ¬ P0 = 0 := Nat.ne_of_gt hP0p
          have hP0i : ¬ (P0 : Int) = 0 := fun e => hP0n (Int.ofNat.inj e)
          have hP0' : ((P0 : Int) == 0) = false := by simp; exact hP0n
          obtain ⟨K,hK⟩ : ∃ K,c / P0 = K := ⟨_,rfl⟩
          have hq1 : (c : Int) / (P0 : Int) = (K : Int) := by rw [← Int.natCast_ediv,hK]
          have hq2 : (c : Int).tdiv (P0 : Int) = (K : Int) := by rw [Int.tdiv_eq_ediv_of_nonneg (Int.natCast_nonneg c)]; exact hq1
          have hKc : K ≤ c := by rw [← hK]; exact Nat.div_le_self _ _
          have hb62 := HB.out
          have hf2 := q7.2
          rw [hP0] at hf2 q11 q9
          rw [hK] at q11
          obtain ⟨c',hc'⟩ : ∃ c',c + P0 = c' := ⟨_,rfl⟩
          rw [hc'] at q11 hf2
          have hc2 : c' < 2 ^ 64 := by omega
          have e8 : (h : Int) % 256 = (h : Int) := by omega
          have HQ : Aside (IntKind.u64.wrap (K : Int) = (K : Int) ∧ IntKind.u64.wrap ((c : Int) + (P0 : Int)) = (c' : Int)) := ⟨by rw [wrapU]; omega,by rw [wrapU]; omega⟩
          have U : Aside (gk = b - c ∧ c' ≤ b ∧ b - c' < gk ∧ (pre ++ [(h,K)]) ++ SPAN c' b = SPAN a b) := ⟨q1,hf2,by omega,by rw [← q3,q11]; simp⟩
          have hcase : (¬ (h : Int) < 62) ∨ ((h : Int) < 62 ∧ ∃ (h1 P1 r : Nat),(h : Int) + 1 = (h1 : Int) ∧ Aside (wrap64 (h1 : Int) = (h1 : Int)) ∧ ¬ P1 = 0 ∧ ¬ (P1 : Int) = 0 ∧ ((P1 : Int) == 0) = false ∧ (∀ w,Calls Tryz.prog 64 #[.int .i64 (h1 : Int)] w fun e w' => e = .returned (.int .u64 (P1 : Int)) ∧ w = w') ∧ (c : Int) % (P1 : Int) = (r : Int) ∧ (c : Int).tmod (P1 : Int) = (r : Int) ∧ (((r : Int) == 0) = false ∧ ¬ r = 0 ∨ r = 0 ∧ ¬ P1 ≤ d ∧ ¬ (P1 : Int) ≤ (d : Int) ∧ ¬ (P1 : Int) ≤ (b : Int) - (c : Int))) := by
            by_cases h62 : (h : Int) < 62
            · right
              have hpp := Nat.two_pow_pos (h + 1)
              have e1 : (c : Int) % ((2 ^ (h + 1) : Nat) : Int) = ((c % 2 ^ (h + 1) : Nat) : Int) := (Int.natCast_emod _ _).symm
              refine ⟨h62,h + 1,2 ^ (h + 1),c % 2 ^ (h + 1),rfl,wrap_near' h (by omega),Nat.ne_of_gt hpp,fun e => Nat.ne_of_gt hpp (Int.ofNat.inj e), ?_,power_ok (h + 1) (by omega),e1,by rw [Int.tmod_eq_emod_of_nonneg (Int.natCast_nonneg c)]; exact e1, ?_⟩
              · rw [beq_eq_false_iff_ne]
                exact fun e => Nat.ne_of_gt hpp (Int.ofNat.inj e)
              · by_cases hm : c % 2 ^ (h + 1) = 0
                · right
                  have hn : ¬ 2 ^ (h + 1) ≤ d := fun hle => q8 ⟨hm,by omega⟩
                  exact ⟨hm,hn,fun e => hn (Int.ofNat_le.1 e),by omega⟩
                · left
                  refine ⟨?_,hm⟩
                  rw [beq_eq_false_iff_ne]
                  exact fun e => hm (Int.ofNat.inj e)
            · exact .inl h62
          clear q1 q2 q3 q6 q7 q8 q9 q11 hP0p hK hKc hb62 hf2 hc2 hd hh hP0 hc'
          rcases hcase with h62 | ⟨h62,h1,P1,r,hh1',HH2,hp1,hp2,hp3,cp1,hr1,hr2,hh3⟩
          · clear q4 q5 q10
            have hq3 := HQ.out.1
            have hq4 := HQ.out.2
            go_wp2_with fail
            refine (cp0 _).mono ?_
            rintro e w' ⟨rfl,rfl⟩
            go_wp2_with (at_builtin; refine app_spot _ rfl (.tmp 39) (.tmp 47) rfl w.heap.size u5 pre.length pre rfl (R.out.2.2.2.1.alloc _) _ 1 h K rfl ((Has.at _ _ _ (by simp)).cell 0) ((Has.at _ _ _ (by simp)).cell 1) R.out.2.2.2.2.2.2.2.2.2.1 (Nat.le_trans R.out.2.2.2.2.1.size (by simp)) ?_; intro g' cap w1 hown hgrow hg)
            refine (cp0 _).mono ?_
            rintro e w' ⟨rfl,rfl⟩
            clear hq3
            go_wp2
            go_roundg (b - c')
            case measure => exact U.out.2.2.1
            case rel =>
              obtain ⟨u1,u2,u3,u4⟩ := U.out
              have r5 := R.out.2.2.2.2.1
              exact ⟨c',pre ++ [(h,K)],rfl,rfl,u2,u4,by rw [List.length_append]; exact hown,(r5.alloc r5.size _).grown hgrow (Nat.le_trans r5.size (by simp)) (fun k e => (R.out.2.2.2.1.lt k e).1)⟩
          · have hh2' := HH2.out
            clear q4 q5 q10
            rcases hh3 with ⟨hr3,hr4⟩ | ⟨rfl,hd1,hd2,hd3⟩
            · have hr5 : ¬ (c : Int).tmod (P1 : Int) = 0 := fun e => hr4 (Int.ofNat.inj (hr2.symm.trans e))
              have hr6 : ¬ (c : Int) % (P1 : Int) = 0 := fun e => hr4 (Int.ofNat.inj (hr1.symm.trans e))
              clear hr1 hr2 hr3 hr4
              go_wp2_with fail
              refine (cp1 _).mono ?_
              rintro e w' ⟨rfl,rfl⟩
              clear hh2' hh1'
              have hq3 := HQ.out.1
              have hq4 := HQ.out.2
              go_wp2_with fail
              refine (cp0 _).mono ?_
              rintro e w' ⟨rfl,rfl⟩
              go_wp2_with (at_builtin; refine app_spot _ rfl (.tmp 39) (.tmp 47) rfl w.heap.size u5 pre.length pre rfl (R.out.2.2.2.1.alloc _) _ 1 h K rfl ((Has.at _ _ _ (by simp)).cell 0) ((Has.at _ _ _ (by simp)).cell 1) R.out.2.2.2.2.2.2.2.2.2.1 (Nat.le_trans R.out.2.2.2.2.1.size (by simp)) ?_; intro g' cap w1 hown hgrow hg)
              refine (cp0 _).mono ?_
              rintro e w' ⟨rfl,rfl⟩
              clear hq3
              go_wp2
              go_roundg (b - c')
              case measure => exact U.out.2.2.1
              case rel =>
                obtain ⟨u1,u2,u3,u4⟩ := U.out
                have r5 := R.out.2.2.2.2.1
                exact ⟨c',pre ++ [(h,K)],rfl,rfl,u2,u4,by rw [List.length_append]; exact hown,(r5.alloc r5.size _).grown hgrow (Nat.le_trans r5.size (by simp)) (fun k e => (R.out.2.2.2.1.lt k e).1)⟩
            · have hes := HES.out
              go_wp2_with fail
              refine (cp1 _).mono ?_
              rintro e w' ⟨rfl,rfl⟩
              go_wp2_with fail
              refine (cp1 _).mono ?_
              rintro e w' ⟨rfl,rfl⟩
              clear hh2' hh1' hes
              have hq3 := HQ.out.1
              have hq4 := HQ.out.2
              go_wp2_with fail
              refine (cp0 _).mono ?_
              rintro e w' ⟨rfl,rfl⟩
              go_wp2_with (at_builtin; refine app_spot _ rfl (.tmp 39) (.tmp 47) rfl w.heap.size u5 pre.length pre rfl (R.out.2.2.2.1.alloc _) _ 1 h K rfl ((Has.at _ _ _ (by simp)).cell 0) ((Has.at _ _ _ (by simp)).cell 1) R.out.2.2.2.2.2.2.2.2.2.1 (Nat.le_trans R.out.2.2.2.2.1.size (by simp)) ?_; intro g' cap w1 hown hgrow hg)
              refine (cp0 _).mono ?_
              rintro e w' ⟨rfl,rfl⟩
              clear hq3
              go_wp2
              go_roundg (b - c')
              case measure => exact U.out.2.2.1
              case rel =>
                obtain ⟨u1,u2,u3,u4⟩ := U.out
                have r5 := R.out.2.2.2.2.1
                exact ⟨c',pre ++ [(h,K)],rfl,rfl,u2,u4,by rw [List.length_append]; exact hown,(r5.alloc r5.size _).grown hgrow (Nat.le_trans r5.size (by simp)) (fun k e => (R.out.2.2.2.1.lt k e).1)⟩
        | succ g =>
          have h62 : (h : Int) < 62 := by omega
          have hf := q7.le (h + 1) (by omega)
          have cp1 := power_ok (h + 1) (by omega)
          have HW : Aside (wrap64 ((h : Int) + 1) = ((h + 1 : Nat) : Int)) := wrap_pow h (by omega)
          obtain ⟨P1,hP1⟩ : ∃ P1,2 ^ (h + 1) = P1 := ⟨_,rfl⟩
          obtain ⟨h1,hh1⟩ : ∃ h1,h + 1 = h1 := ⟨_,rfl⟩
          have hf1 := hf.1
          have hf2 := hf.2
          rw [hP1] at hf1 hf2 cp1
          rw [hh1] at cp1 HW
          have hP1p : 0 < P1 := by rw [← hP1]; exact Nat.two_pow_pos _
          have hr1 : (c : Int) % (P1 : Int) = 0 := by rw [← Int.natCast_emod,hf1]; rfl
          clear hf1
          have hr2 : (c : Int).tmod (P1 : Int) = 0 := by rw [Int.tmod_eq_emod_of_nonneg (Int.natCast_nonneg c)]; exact hr1
          have hP0n : ¬ P1 = 0 := Nat.ne_of_gt hP1p
          have hP0i : ¬ (P1 : Int) = 0 := fun e => hP0n (Int.ofNat.inj e)
          have hP0' : ((P1 : Int) == 0) = false := by simp; exact hP0n
          have hle : P1 ≤ d := Nat.le_of_add_le_add_left (a := c) (by rw [← hd,Nat.add_sub_cancel' q2]; exact hf2)
          have hle' : (P1 : Int) ≤ (d : Int) := Int.ofNat_le.2 hle
          have hh1' : (h : Int) + 1 = (h1 : Int) := by rw [← hh1]; rfl
          have hh2' : wrap64 (h1 : Int) = (h1 : Int) := by have := HW.out; rw [hh1'] at this; exact this
          have V : Aside (h1 + g = HH) := by rw [← hh, ← hh1,Nat.add_assoc,Nat.add_comm 1 g]; rfl
          clear q1 q2 q3 q4 q5 q6 q7 q8 q9 q10 q11 hf hf2 hP1 hh1 hP1p hd hh hP0 cp0
          have hes := HES.out
          go_wp2_with fail
          refine (cp1 _).mono ?_
          rintro e w' ⟨rfl,rfl⟩
          go_wp2_with fail
          refine (cp1 _).mono ?_
          rintro e w' ⟨rfl,rfl⟩
          go_wp2
          go_roundg g
          case measure => exact Nat.lt_succ_self _
          case rel => exact ⟨h1,rfl,V.out,rfl⟩
    · have hlt' : ¬ (c : Int) < (b : Int) := by omega
      rw [SPAN_end (a := c) (by omega),List.append_nil] at hp
      have R : Aside (wr.ownsRow w.heap.size 64 2 u5 (SPAN a b).length (SCELLS (SPAN a b)) ∧ Below w.heap.size w wr) := ⟨by rw [← hp]; exact hown,hbel⟩
      clear hg hc hp hown hbel A
      go_wp2
      go_ret
      exact ⟨u5,rfl,R.out.1,R.out.2⟩
end Go.Proofs.YtkcfhgflgkejoaaGreatDoor
