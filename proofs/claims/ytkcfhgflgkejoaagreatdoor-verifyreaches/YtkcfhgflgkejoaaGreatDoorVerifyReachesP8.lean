/- Texts of VerifyReaches, one behind the other: CutSpan, CutOver, ProofPlaces, ProofBytes, ProofEncode. -/
import Derived.Deep.MidRow
import Derived.Test.YtkcfhgflgkejoaaGreatDoorVerifyReachesP5
import Derived.Test.YtkcfhgflgkejoaaGreatDoorVerifyReachesP6
import Derived.Test.YtkcfhgflgkejoaaGreatDoorVerifyReachesP7
/- What Span answers. -/
namespace Go.Proofs.YtkcfhgflgkejoaaGreatDoor
open Go.RowKit

set_option maxHeartbeats 1000000 in
theorem span_ok (a b : Nat) (ha : a < 2 ^ 64) (hb : b ≤ 4611686018427387904) (w : World) (hT : Tabled w) (h0 : 0 < w.heap.size) : Calls Tryz.prog 66 #[.int .u64 (a : Int), .int .u64 (b : Int)] w fun e w' =>
    ∃ v, e = .returned v ∧ w'.ownsRow w.heap.size 64 2 v (SPAN a b).length (SCELLS (SPAN a b)) ∧ Below w.heap.size w w' := by
  have HA : Aside (b ≤ 4611686018427387904 ∧ Tabled w ∧ 0 < w.heap.size) := ⟨hb, hT, h0⟩
  have hd : ¬ (4611686018427387904 : Int) < (b : Int) := by omega
  clear hT h0
  go_enter Tryz.func66, Tryz.ntmps66
  go_wp2
  go_loopg [0, 5] (b - a) (fun g s0 s5 wx => ∃ (c : Nat) (pre : List (Nat × Nat)), s0 = .int .u64 (c : Int) ∧ Aside (g = b - c ∧ c < 2 ^ 64 ∧ pre ++ SPAN c b = SPAN a b ∧ wx.ownsRow w.heap.size 64 2 s5 pre.length (SCELLS pre) ∧ Below w.heap.size w wx))
  case atStart => exact ⟨a, [], rfl, rfl, ha, rfl, World.ownsRow_nil _ _ _ _, Below.refl _ _⟩
  case round =>
    obtain ⟨c, pre, rfl, A⟩ := hrel
    obtain ⟨hg, hc, hp, hown, hbel⟩ := A.out
    by_cases hlt : c < b
    · have hlt' : (c : Int) < (b : Int) := by omega
      obtain ⟨t, ht, _, hd2, cl⟩ := low_nat c hc
      have hm := HT_min hlt hb ht hd2
      have ch := high_ok (b - c) (by omega)
      obtain ⟨s1, s2, s3⟩ := HT_spec hlt hb
      obtain ⟨n1, n2, n3⟩ := s2.node s1 hb
      have es : IntKind.u64.wrap ((b : Int) - (c : Int)) = ((b - c : Nat) : Int) := by rw [wrapU]; omega
      replace cl := cl wr (HA.out.2.1.below HA.out.2.2 hbel)
      have ce := fun w => end_ok (HT c b) (c / 2 ^ HT c b) n1 w
      rw [n3] at ce
      have hsp := SPAN_step hlt
      have e8 : ((HT c b : Nat) : Int) % 256 = ((HT c b : Nat) : Int) := by omega
      have e9 : (c : Int) / 2 ^ min (HT c b) 64 = ((c / 2 ^ HT c b : Nat) : Int) := by rw [show min (HT c b) 64 = HT c b by omega, div_cast]
      have hpos := Nat.two_pow_pos (HT c b)
      have R : Aside (gk = b - c ∧ c < 2 ^ 64 ∧ pre ++ SPAN c b = SPAN a b ∧ wr.ownsRow w.heap.size 64 2 u5 pre.length (SCELLS pre) ∧ Below w.heap.size w wr ∧ c + 2 ^ HT c b ≤ b ∧ 0 < 2 ^ HT c b ∧ pre.length ≤ 1000 ∧ SPAN c b = (HT c b, c / 2 ^ HT c b) :: SPAN (c + 2 ^ HT c b) b) := ⟨hg, hc, hp, hown, hbel, s2.2, hpos, by have := congrArg List.length hp; have := SPAN_length (a := a) hb; rw [List.length_append] at *; omega, hsp⟩
      have h0 : ¬ ((HT c b : Nat) : Int) < 0 := by omega
      obtain ⟨u, hu⟩ : ∃ u : Int, ((LEN (b - c) : Nat) : Int) - 1 = u := ⟨_, rfl⟩
      rw [hu] at hm ch
      obtain ⟨H, hH⟩ : ∃ H, HT c b = H := ⟨_, rfl⟩
      obtain ⟨K, hK⟩ : ∃ K, c / 2 ^ H = K := ⟨_, rfl⟩
      obtain ⟨c', hc'⟩ : ∃ c', c + 2 ^ H = c' := ⟨_, rfl⟩
      rw [hH] at hm ce e8 e9 R h0
      rw [hK] at ce e9 R
      rw [hc'] at ce R
      have hcase : (H = t ∧ (H : Int) ≤ u) ∨ (u = (H : Int) ∧ ¬ (t : Int) ≤ (H : Int)) := by
        rcases Int.le_total (t : Int) u with h | h
        · rw [Int.min_eq_left h] at hm
          exact .inl ⟨by omega, by omega⟩
        · rw [Int.min_eq_right h] at hm
          by_cases h2 : (t : Int) = u
          · exact .inl ⟨by omega, by omega⟩
          · exact .inr ⟨by omega, by omega⟩
      have R2 : Aside (c + 2 ^ H = c') := hc'
      clear hd2 ht s1 s2 s3 n1 n2 n3 hg hc hp hown hbel hm hu hH hK hc' hsp hpos A hlt
      rcases hcase with ⟨rfl, hle⟩ | ⟨rfl, hle⟩
      all_goals
        go_wp2_with fail
        refine cl.mono ?_
        rintro e w' ⟨rfl, rfl⟩
        clear cl
        go_wp2_with fail
        refine (ch _).mono ?_
        rintro e w' ⟨rfl, rfl⟩
        clear ch
        go_wp2_with (at_builtin; refine app_spot _ rfl (.tmp 26) (.tmp 28) rfl w.heap.size u5 pre.length pre rfl ((R.out.2.2.2.1.alloc _).alloc _) (wr.heap.size + 1) 1 H K rfl ((Has.at _ _ _ (by simp)).cell 0) ((Has.at _ _ _ (by simp)).cell 1) R.out.2.2.2.2.2.2.2.1 (by have := R.out.2.2.2.2.1.size; simp; omega) ?_; intro g' cap w1 hown hgrow hg; have hH1 := kept_new R.out.2.2.2.1 hgrow; have hx0 : w1.cell? ⟨wr.heap.size, 0, none⟩ = some (.int .u8 (H : Int)) := hH1.cell 0; have hx1 : w1.cell? ⟨wr.heap.size, 1, none⟩ = some (.int .u64 (K : Int)) := hH1.cell 1)
        obtain ⟨r1, r2, r3, r4, r5, r6, r7, r8, r9⟩ := R.out
        have hr2 := R2.out
        have R3 : Aside (c' < 2 ^ 64 ∧ b - c' < gk ∧ (pre ++ [(H, K)]) ++ SPAN c' b = SPAN a b ∧ w1.ownsRow w.heap.size 64 2 (.slice (some ⟨g', 0, none⟩) (pre.length + 1) cap) (pre.length + 1) (SCELLS (pre ++ [(H, K)])) ∧ Below w.heap.size w w1) := ⟨by have := HA.out.1; omega, by omega, by rw [← r3, r9]; simp, hown, ((r5.alloc r5.size _).alloc (by have := r5.size; simp; omega) _).grown hgrow (by have := r5.size; simp; omega) (fun k e => (r4.lt k e).1)⟩
        clear r1 r2 r3 r4 r5 r6 r7 r8 r9 hr2 hown R R2 hgrow hg
        refine (ce _).mono ?_
        rintro e w2 ⟨rfl, hb2⟩
        clear ce hx0 hx1 hH1
        go_wp2
        go_roundg (b - c')
        case measure => exact R3.out.2.1
        case rel =>
          obtain ⟨r1, r2, r3, r4, r5⟩ := R3.out
          exact ⟨c', pre ++ [(H, K)], rfl, rfl, r1, r3, by rw [List.length_append]; exact own_below r4 hb2, r5.trans (hb2.mono r5.size)⟩
    · have hlt' : ¬ (c : Int) < (b : Int) := by omega
      rw [SPAN_end (a := c) (by omega), List.append_nil] at hp
      have R : Aside (wr.ownsRow w.heap.size 64 2 u5 (SPAN a b).length (SCELLS (SPAN a b)) ∧ Below w.heap.size w wr) := ⟨by rw [← hp]; exact hown, hbel⟩
      clear hg hc hp hown hbel A HA
      go_wp2
      go_ret
      exact ⟨u5, rfl, R.out.1, R.out.2⟩
end Go.Proofs.YtkcfhgflgkejoaaGreatDoor

/- What Over answers, of any list of spots. -/
namespace Go.Proofs.YtkcfhgflgkejoaaGreatDoor
open Go.RowKit

/-- a list of spots lies there. -/
def Lie (w : World) (a : Option Addr) (l : List (Nat × Nat)) : Prop := 0 < l.length → ∃ g o, a = some ⟨g, o, none⟩ ∧ g < w.heap.size ∧ ∀ (j h k : Nat), l[j]? = some (h, k) → w.cell? ⟨g, o + j * 2, none⟩ = some (.int .u8 (h : Int)) ∧ w.cell? ⟨g, o + j * 2 + 1, none⟩ = some (.int .u64 (k : Int))
theorem Lie.below {w w' : World} {a : Option Addr} {l : List (Nat × Nat)} (h : Lie w a l) (hb : Below w.heap.size w w') : Lie w' a l := fun h0 => by
  obtain ⟨g, o, e, hg, hc⟩ := h h0
  exact ⟨g, o, e, Nat.lt_of_lt_of_le hg hb.size, fun j x y he => ⟨(hb.cell (p := ⟨g, o + j * 2, none⟩) hg).trans (hc j x y he).1, (hb.cell (p := ⟨g, o + j * 2 + 1, none⟩) hg).trans (hc j x y he).2⟩⟩
theorem Lie.of {w : World} {a : Option Addr} {l : List (Nat × Nat)} (h : Spots w a l) : Lie w a l := fun h0 => by
  obtain ⟨g, e, hg, hc⟩ := h h0
  refine ⟨g, 0, e, hg, fun j x y he => ?_⟩
  rw [Nat.zero_add]
  exact hc j x y he
theorem lie_own {w : World} {base n : Nat} {v : Value} {l : List (Nat × Nat)} (hl : l.length = n) (h : w.ownsRow base 64 2 v n (SCELLS l)) : ∃ a cap, v = .slice a n cap ∧ Lie w a l := by
  obtain ⟨a, cap, e, hs⟩ := spots_own hl h
  exact ⟨a, cap, e, Lie.of hs⟩
theorem take_at {l : List (Nat × Nat)} {i h k : Nat} (e : l[i]? = some (h, k)) : l = l.take i ++ (h, k) :: l.drop (i + 1) ∧ l.take (i + 1) = l.take i ++ [(h, k)] := by
  obtain ⟨hi, e2⟩ := List.getElem?_eq_some_iff.1 e
  refine ⟨?_, ?_⟩
  · rw [← e2, List.getElem_cons_drop, List.take_append_drop]
  · rw [List.take_add_one, e]
    rfl
theorem at_lt {l : List (Nat × Nat)} {i : Nat} (h : i < l.length) : ∃ x y, l[i]? = some (x, y) := ⟨_, _, List.getElem?_eq_getElem h⟩
end Go.Proofs.YtkcfhgflgkejoaaGreatDoor

/- What Places and PrefixPlaces of package proof answer. -/
namespace Go.Proofs.YtkcfhgflgkejoaaGreatDoor
open Go.RowKit

/-- the places so far: the earlier peaks, and of the spots behind them the first j. -/
def SOFARP (PK : List Nat) (S : List (Nat × Nat)) (j : Nat) : List Nat := PK ++ PLCS (S.take j)
theorem places_size (i n : Int) (hn : 4611686018427387904 < n) (w : World) : Calls Tryz.prog 54 #[.int .u64 i, .int .u64 n] w fun e w' => e = .returned (.tuple #[.slice none 0 0, .int .i64 30]) ∧ w = w' := by
  go_enter Tryz.func54, Tryz.ntmps54
  go_wp2
  go_ret2
  exact ⟨rfl, rfl⟩
theorem places_index (i n : Int) (hn : ¬ 4611686018427387904 < n) (hi : ¬ i < n) (w : World) : Calls Tryz.prog 54 #[.int .u64 i, .int .u64 n] w fun e w' => e = .returned (.tuple #[.slice none 0 0, .int .i64 32]) ∧ w = w' := by
  have c := path_not i n (by omega)
  clear hi
  go_enter Tryz.func54, Tryz.ntmps54
  go_wp2_with fail
  refine (c _).mono ?_
  rintro e w' ⟨rfl, rfl⟩
  clear c
  go_wp2
  go_ret2
  exact ⟨rfl, rfl⟩
theorem app_apart {w : World} {v : Value} {g gp : Nat} (hne : v.ownBlock ≠ some gp) (hgp : gp < w.heap.size) (hat : v.ownBlock = some g ∨ g = w.heap.size) : some g ≠ some gp := by
  intro e
  have e : g = gp := by simpa using e
  subst e
  rcases hat with h | h
  · exact hne h
  · omega
/-- the places so far: the way, and of the peaks the first j but the one over the leaf. -/
def SOFAR (A P : List Nat) (K j : Nat) : List Nat := A ++ (P.take j).eraseIdx K
theorem SOFAR_zero (A P : List Nat) (K : Nat) : SOFAR A P K 0 = A := by simp [SOFAR]
theorem SOFAR_all (A P : List Nat) (K : Nat) : SOFAR A P K P.length = A ++ P.eraseIdx K := by simp [SOFAR]
theorem take_getD {P : List Nat} {j : Nat} (hj : j < P.length) : P.take (j + 1) = P.take j ++ [P.getD j 0] := by
  rw [List.take_add_one, List.getD, List.getElem?_eq_getElem hj]
  rfl
theorem SOFAR_skip (A P : List Nat) (K : Nat) (hK : K < P.length) : SOFAR A P K (K + 1) = SOFAR A P K K := by
  unfold SOFAR
  rw [take_getD hK, erase_snoc, if_pos (by rw [List.length_take]; omega)]
theorem SOFAR_next (A P : List Nat) (K j : Nat) (hj : j < P.length) (hK : j ≠ K) : SOFAR A P K (j + 1) = SOFAR A P K j ++ [P.getD j 0] := by
  unfold SOFAR
  rw [take_getD hj, erase_snoc, if_neg (by rw [List.length_take]; omega), List.append_assoc]
theorem SOFAR_length (A P : List Nat) (K j : Nat) : (SOFAR A P K j).length ≤ A.length + P.length := by
  unfold SOFAR
  rw [List.length_append]
  have h1 := List.length_eraseIdx_le (P.take j) K
  have h2 := List.length_take_le' j P
  omega
set_option maxHeartbeats 1000000 in
theorem places_ok (i n : Nat) (hi : i < n) (hn : n ≤ 4611686018427387904) (w : World) (hT : Tabled w) (h0 : 0 < w.heap.size) : Calls Tryz.prog 54 #[.int .u64 (i : Int), .int .u64 (n : Int)] w fun e w' =>
    ∃ v, e = .returned (.tuple #[v, .int .i64 0]) ∧ w'.ownsRow w.heap.size 24 1 v (PLCS (PSP i n)).length (UCELLS (PLCS (PSP i n))) ∧ Below w.heap.size w w' := by
  have c1 := path_ok i n hi hn w
  have c2 := peak_ok i n hi hn
  have hd : ¬ (4611686018427387904 : Int) < (n : Int) := by omega
  have C3 : Aside (∀ W, Below w.heap.size w W → Calls Tryz.prog 65 #[.int .u64 (n : Int)] W fun e w' => ∃ g cap, e = .returned (.slice (some ⟨g, 0, none⟩) (PC n) cap) ∧ w'.ownsRow W.heap.size 24 1 (.slice (some ⟨g, 0, none⟩) (PC n) cap) (PC n) (UCELLS (PEAKS n)) ∧ Below W.heap.size W w') :=
    fun W h => peaks_ok n hn W (hT.below h0 h) (Nat.lt_of_lt_of_le h0 h.size)
  have hP := PEAKS_length (n := n) (by omega)
  have hP6 := PC_lt_pow 64 n (by omega)
  have hR6 := (RISE_spec hi hn).2.1
  have hKl := KTH_lt hi hn
  rw [PSP_places hn]
  have hWl := WAY_length i (RISE i n)
  generalize WAY i (RISE i n) = A at *
  generalize PEAKS n = PK at *
  generalize RISE i n = R at *
  generalize KTH i n = K at *
  generalize PC n = P at *
  obtain ⟨X, hX⟩ : ∃ X, A ++ PK.eraseIdx K = X := ⟨_, rfl⟩
  rw [hX]
  obtain ⟨N, hN⟩ : ∃ N, X.length = N := ⟨_, rfl⟩
  rw [hN]
  have HA : Aside (PK.length = P ∧ P ≤ 64 ∧ R ≤ 62 ∧ K < P ∧ A.length = R) := ⟨hP, hP6, hR6, hKl, hWl⟩
  have HX : Aside (SOFAR A PK K P = X ∧ X.length = N) := ⟨by rw [← hX, ← hP]; exact SOFAR_all _ _ _, hN⟩
  clear hX hN
  clear hP hP6 hR6 hKl hWl hT h0 hi hn
  go_enter Tryz.func54, Tryz.ntmps54
  go_wp2_with fail
  refine c1.mono ?_
  rintro e w1 ⟨g, cap, rfl, hown, hg, hb⟩
  clear c1
  have R1 : Aside (w1.ownsRow w.heap.size 24 1 (.slice (some ⟨g, 0, none⟩) R cap) R (UCELLS A) ∧ Below w.heap.size w w1 ∧ g < w1.heap.size) := ⟨hown, hb, hg⟩
  clear hown hg hb
  go_wp2_with fail
  refine (c2 _).mono ?_
  rintro e w' ⟨rfl, rfl⟩
  clear c2
  go_wp2_with fail
  refine (C3.out _ R1.out.2.1).mono ?_
  rintro e w2 ⟨gp, capp, rfl, hrow, hb2⟩
  have R2 : Aside (w2.ownsRow w.heap.size 24 1 (.slice (some ⟨g, 0, none⟩) R cap) (SOFAR A PK K 0).length (UCELLS (SOFAR A PK K 0)) ∧ Below w.heap.size w w2 ∧ some g ≠ some gp ∧ w2.ownsRow w1.heap.size 24 1 (.slice (some ⟨gp, 0, none⟩) P capp) P (UCELLS PK)) := by
    obtain ⟨a1, a2, a3⟩ := R1.out
    have hgp := hrow.lt gp rfl
    refine ⟨?_, a2.trans (hb2.mono a2.size), fun e => ?_, hrow⟩
    · rw [SOFAR_zero, HA.out.2.2.2.2]
      exact own_below a1 hb2
    · have e : g = gp := by simpa using e
      omega
  clear R1 hrow hb2 C3
  go_wp2
  go_loopg [6, 31] P (fun q s6 s31 wx => ∃ j : Nat, s31 = .int .i64 (j : Int) ∧ Aside (j + q = P ∧ wx.ownsRow w.heap.size 24 1 s6 (SOFAR A PK K j).length (UCELLS (SOFAR A PK K j)) ∧ Below w.heap.size w wx ∧ s6.ownBlock ≠ some gp ∧ wx.ownsRow w1.heap.size 24 1 (.slice (some ⟨gp, 0, none⟩) P capp) P (UCELLS PK)))
  case atStart => exact ⟨0, rfl, by omega, R2.out.1, R2.out.2.1, R2.out.2.2.1, R2.out.2.2.2⟩
  case round =>
    obtain ⟨j, rfl, A1⟩ := hrel
    clear R2
    cases gk with
    | zero =>
      obtain ⟨hj, hown, hbel, hne, hrow⟩ := A1.out
      obtain rfl : j = P := by omega
      have hlt : ¬ (j : Int) < (j : Int) := by omega
      have R : Aside (wr.ownsRow w.heap.size 24 1 u6 N (UCELLS X) ∧ Below w.heap.size w wr) := by
        rw [HX.out.1, HX.out.2] at hown
        exact ⟨hown, hbel⟩
      clear hj hown hbel hne hrow A1 HA
      go_wp2
      go_ret2
      exact ⟨_, rfl, R.out.1, R.out.2⟩
    | succ q =>
      obtain ⟨hj, hown, hbel, hne, hrow⟩ := A1.out
      obtain ⟨a1, a2, a3, a4, a5⟩ := HA.out
      have hlt : (j : Int) < (P : Int) := by omega
      have hc : wr.cell? ⟨gp, j, none⟩ = some (.int .u64 ((PK.getD j 0 : Nat) : Int)) := by
        have hrow' := hrow
        rw [← a1] at hrow'
        exact row_at hrow' j (by omega)
      have e1 : wrap64 ((j : Int) + 1) = ((j + 1 : Nat) : Int) := by unfold wrap64; omega
      by_cases hk : j = K
      · subst hk
        have R : Aside (j + 1 + q = P ∧ wr.ownsRow w.heap.size 24 1 u6 (SOFAR A PK j (j + 1)).length (UCELLS (SOFAR A PK j (j + 1))) ∧ Below w.heap.size w wr ∧ u6.ownBlock ≠ some gp ∧ wr.ownsRow w1.heap.size 24 1 (.slice (some ⟨gp, 0, none⟩) P capp) P (UCELLS PK)) := ⟨by omega, by rw [SOFAR_skip _ _ _ (by omega)]; exact hown, hbel, hne, hrow⟩
        clear hj hown hbel hne hrow a1 a2 a3 a4 a5 A1
        generalize PK.getD j 0 = y at hc
        go_wp2
        go_roundg q
        case measure => omega
        case rel => exact ⟨j + 1, by first | rfl | (rw [e1]), R.out⟩
      · have hk' : ((j : Int) != (K : Int)) = true := by simp; omega
        have hnx := SOFAR_next A PK K j (by omega) hk
        have hll := SOFAR_length A PK K j
        generalize PK.getD j 0 = y at *
        have R : Aside (j + 1 + q = P ∧ wr.ownsRow w.heap.size 24 1 u6 (SOFAR A PK K j).length (UCELLS (SOFAR A PK K j)) ∧ Below w.heap.size w wr ∧ u6.ownBlock ≠ some gp ∧ wr.ownsRow w1.heap.size 24 1 (.slice (some ⟨gp, 0, none⟩) P capp) P (UCELLS PK) ∧ SOFAR A PK K (j + 1) = SOFAR A PK K j ++ [y] ∧ (SOFAR A PK K j).length ≤ 1000) := ⟨by omega, hown, hbel, hne, hrow, hnx, by omega⟩
        clear hj hown hbel hne hrow a1 a2 a3 a4 a5 A1 hnx hll
        go_wp2_with (at_builtin; refine app_more _ rfl (.tmp 39) (.tmp 41) rfl w.heap.size u6 _ (UCELLS (SOFAR A PK K j)) rfl (R.out.2.1.alloc _) wr.heap.size 1 (y : Int) rfl (by rw [World.cell?_alloc_at _ _ _ _ rfl]; rfl) R.out.2.2.2.2.2.2 (by have := R.out.2.2.1.size; simp; omega) ?_; intro g' cap' w3 hown hgrow hat hg)
        have R3 : Aside (j + 1 + q = P ∧ w3.ownsRow w.heap.size 24 1 (.slice (some ⟨g', 0, none⟩) ((SOFAR A PK K j).length + 1) cap') (SOFAR A PK K (j + 1)).length (UCELLS (SOFAR A PK K (j + 1))) ∧ Below w.heap.size w w3 ∧ some g' ≠ some gp ∧ w3.ownsRow w1.heap.size 24 1 (.slice (some ⟨gp, 0, none⟩) P capp) P (UCELLS PK)) := by
          obtain ⟨r1, r2, r3, r4, r5, r6, r7⟩ := R.out
          have hgp := r5.lt gp rfl
          refine ⟨r1, ?_, (r3.alloc r3.size _).grown hgrow (by have := r3.size; simp; omega) (fun k e => (r2.lt k e).1), app_apart r4 (by simp; omega) hat, (r5.alloc _).kept hgrow (.inr fun e => r4 e.symm)⟩
          rw [r6, UCELLS_snoc, List.length_append]
          exact hown
        clear R hown hgrow hat hg hc
        go_wp2
        go_roundg q
        case measure => omega
        case rel => exact ⟨j + 1, by first | rfl | (rw [e1]), R3.out⟩

theorem prefixplaces_not (m n : Int) (h : 4611686018427387904 < n ∨ n < m) (w : World) : Calls Tryz.prog 34 #[.int .u64 m, .int .u64 n] w fun e w' => e = .returned (.tuple #[.slice none 0 0, .int .i64 30]) ∧ w = w' := by
  by_cases hd : 4611686018427387904 < n
  · clear h
    go_enter Tryz.func34, Tryz.ntmps34
    go_wp2
    go_ret2
    exact ⟨rfl, rfl⟩
  · have hm : n < m := by omega
    clear h
    go_enter Tryz.func34, Tryz.ntmps34
    go_wp2
    go_ret2
    exact ⟨rfl, rfl⟩
theorem PLCS_next {l : List (Nat × Nat)} {j h k : Nat} (e : l[j]? = some (h, k)) : PLCS (l.take (j + 1)) = PLCS (l.take j) ++ [PLC h k] := by
  rw [(take_at e).2, PLCS_append]
  rfl
set_option maxHeartbeats 1000000 in
theorem prefixplaces_ok (m n : Nat) (hmn : m ≤ n) (hn : n ≤ 4611686018427387904) (w : World) (hT : Tabled w) (h0 : 0 < w.heap.size) : Calls Tryz.prog 34 #[.int .u64 (m : Int), .int .u64 (n : Int)] w fun e w' =>
    ∃ v, e = .returned (.tuple #[v, .int .i64 0]) ∧ w'.ownsRow w.heap.size 24 1 v (PLCS (PXS m n)).length (UCELLS (PLCS (PXS m n))) ∧ Below w.heap.size w w' := by
  have c1 := peaks_ok m (by omega) w hT h0
  have hd : ¬ (4611686018427387904 : Int) < (n : Int) := by omega
  have hd2 : ¬ (n : Int) < (m : Int) := by omega
  have C3 : Aside (∀ W, Below w.heap.size w W → Calls Tryz.prog 66 #[.int .u64 (m : Int), .int .u64 (n : Int)] W fun e w' => ∃ v, e = .returned v ∧ w'.ownsRow W.heap.size 64 2 v (SPAN m n).length (SCELLS (SPAN m n)) ∧ Below W.heap.size W w') :=
    fun W h => span_ok m n (by omega) hn W (hT.below h0 h) (Nat.lt_of_lt_of_le h0 h.size)
  have hP := PEAKS_length (n := m) (by omega)
  have hP6 := PC_lt_pow 64 m (by omega)
  have hS := SPAN_length (a := m) hn
  have hnode : ∀ j h k, (SPAN m n)[j]? = some (h, k) → Node h k := fun j h k e => (tile_span hn hmn).node e
  rw [PXS_places hmn hn]
  generalize PEAKS m = PK at *
  generalize PC m = P at *
  generalize SPAN m n = S at *
  obtain ⟨L, hL⟩ : ∃ L, S.length = L := ⟨_, rfl⟩
  rw [hL] at C3
  obtain ⟨X, hX⟩ : ∃ X, PK ++ PLCS S = X := ⟨_, rfl⟩
  rw [hX]
  obtain ⟨N, hN⟩ : ∃ N, X.length = N := ⟨_, rfl⟩
  rw [hN]
  have HX : Aside (SOFARP PK S L = X ∧ X.length = N) := ⟨by rw [← hX, ← hL]; simp [SOFARP], hN⟩
  clear hX hN
  have HA : Aside (PK.length = P ∧ P ≤ 64 ∧ S.length = L ∧ L ≤ 124 ∧ ∀ j h k, S[j]? = some (h, k) → Node h k) := ⟨hP, hP6, hL, by omega, hnode⟩
  clear hP hP6 hS hL hnode hT h0 hmn hn
  go_enter Tryz.func34, Tryz.ntmps34
  go_wp2_with fail
  refine c1.mono ?_
  rintro e w1 ⟨g, cap, rfl, hown, hb⟩
  clear c1
  have R1 : Aside (w1.ownsRow w.heap.size 24 1 (.slice (some ⟨g, 0, none⟩) P cap) P (UCELLS PK) ∧ Below w.heap.size w w1 ∧ g < w1.heap.size) := ⟨hown, hb, (hown.lt g rfl).2⟩
  clear hown hb
  go_wp2_with fail
  refine (C3.out _ R1.out.2.1).mono ?_
  rintro e w2 ⟨v, rfl, hrow, hb2⟩
  obtain ⟨ga, capp, rfl, hsp⟩ := spots_own HA.out.2.2.1 hrow
  have R2 : Aside (w2.ownsRow w.heap.size 24 1 (.slice (some ⟨g, 0, none⟩) P cap) (SOFARP PK S 0).length (UCELLS (SOFARP PK S 0)) ∧ Below w.heap.size w w2 ∧ (∀ k, (Value.slice ga L capp).ownBlock = some k → some g ≠ some k) ∧ w2.ownsRow w1.heap.size 64 2 (.slice ga L capp) L (SCELLS S)) := by
    obtain ⟨a1, a2, a3⟩ := R1.out
    refine ⟨?_, a2.trans (hb2.mono a2.size), fun k hk e => ?_, hrow⟩
    · have : (SOFARP PK S 0) = PK := by simp [SOFARP, PLCS]
      rw [this, HA.out.1]
      exact own_below a1 hb2
    · have e : g = k := by simpa using e
      have := (hrow.lt k hk).1
      omega
  clear R1 hrow hb2 C3 hsp
  go_wp2
  go_loopg [6, 24] L (fun q s6 s24 wx => ∃ j : Nat, s24 = .int .i64 (j : Int) ∧ Aside (j + q = L ∧ wx.ownsRow w.heap.size 24 1 s6 (SOFARP PK S j).length (UCELLS (SOFARP PK S j)) ∧ Below w.heap.size w wx ∧ (∀ k, (Value.slice ga L capp).ownBlock = some k → s6.ownBlock ≠ some k) ∧ wx.ownsRow w1.heap.size 64 2 (.slice ga L capp) L (SCELLS S)))
  case atStart => exact ⟨0, rfl, by omega, R2.out⟩
  case round =>
    obtain ⟨j, rfl, A1⟩ := hrel
    clear R2
    cases gk with
    | zero =>
      obtain ⟨hj, hown, hbel, hne, hrow⟩ := A1.out
      obtain rfl : j = L := by omega
      have hlt : ¬ (j : Int) < (j : Int) := by omega
      have R : Aside (wr.ownsRow w.heap.size 24 1 u6 N (UCELLS X) ∧ Below w.heap.size w wr) := by
        rw [HX.out.1, HX.out.2] at hown
        exact ⟨hown, hbel⟩
      clear hj hown hbel hne hrow A1 HA
      go_wp2
      go_ret2
      exact ⟨_, rfl, R.out.1, R.out.2⟩
    | succ q =>
      obtain ⟨hj, hown, hbel, hne, hrow⟩ := A1.out
      obtain ⟨a1, a2, a3, a4, a5⟩ := HA.out
      have hlt : (j : Int) < (L : Int) := by omega
      obtain ⟨ga', cap2, ee, hsp⟩ := spots_own a3 hrow
      cases ee
      obtain ⟨gs, rfl, hgs, hcs⟩ := hsp (by omega)
      obtain ⟨h, k, eh⟩ := at_lt (l := S) (i := j) (by omega)
      obtain ⟨hy0, hy1⟩ := hcs j h k eh
      have hN := a5 j h k eh
      have cp := fun w => place_ok h k hN w
      have hnx : SOFARP PK S (j + 1) = SOFARP PK S j ++ [PLC h k] := by
        unfold SOFARP
        rw [PLCS_next eh, List.append_assoc]
      have hll : (SOFARP PK S j).length ≤ 188 := by
        unfold SOFARP
        rw [List.length_append, PLCS_length, List.length_take]
        omega
      generalize PLC h k = y at *
      have e1 : wrap64 ((j : Int) + 1) = ((j + 1 : Nat) : Int) := by unfold wrap64; omega
      have hne' := hne gs rfl
      have R : Aside (j + 1 + q = L ∧ wr.ownsRow w.heap.size 24 1 u6 (SOFARP PK S j).length (UCELLS (SOFARP PK S j)) ∧ Below w.heap.size w wr ∧ u6.ownBlock ≠ some gs ∧ wr.ownsRow w1.heap.size 64 2 (.slice (some ⟨gs, 0, none⟩) L capp) L (SCELLS S) ∧ SOFARP PK S (j + 1) = SOFARP PK S j ++ [y] ∧ (SOFARP PK S j).length ≤ 1000) := ⟨by omega, hown, hbel, hne', hrow, hnx, by omega⟩
      clear hj hown hbel hne hrow a1 a2 a3 a4 a5 A1 hnx hll hne' hN eh hcs hgs hsp
      go_wp2_with fail
      refine (cp _).mono ?_
      rintro e w3 ⟨rfl, hb3⟩
      clear cp hy0 hy1
      have R2 : Aside (w3.ownsRow w.heap.size 24 1 u6 (SOFARP PK S j).length (UCELLS (SOFARP PK S j)) ∧ Below w.heap.size w w3 ∧ w3.ownsRow w1.heap.size 64 2 (.slice (some ⟨gs, 0, none⟩) L capp) L (SCELLS S)) := by
        obtain ⟨r1, r2, r3, r4, r5, r6, r7⟩ := R.out
        exact ⟨own_below (r2.alloc _) hb3, (r3.alloc r3.size _).trans (hb3.mono (by have := r3.size; simp; omega)), own_below (r5.alloc _) hb3⟩
      clear hb3
      go_wp2_with (at_builtin; refine app_more _ rfl (.tmp 33) (.tmp 35) rfl w.heap.size u6 _ (UCELLS (SOFARP PK S j)) rfl (R2.out.1.alloc _) w3.heap.size 1 (y : Int) rfl (by rw [World.cell?_alloc_at _ _ _ _ rfl]; rfl) R.out.2.2.2.2.2.2 (by have := R2.out.2.1.size; simp; omega) ?_; intro g' cap' w4 hown hgrow hat hg)
      have R3 : Aside (j + 1 + q = L ∧ w4.ownsRow w.heap.size 24 1 (.slice (some ⟨g', 0, none⟩) ((SOFARP PK S j).length + 1) cap') (SOFARP PK S (j + 1)).length (UCELLS (SOFARP PK S (j + 1))) ∧ Below w.heap.size w w4 ∧ (∀ k, (Value.slice (some ⟨gs, 0, none⟩) L capp).ownBlock = some k → some g' ≠ some k) ∧ w4.ownsRow w1.heap.size 64 2 (.slice (some ⟨gs, 0, none⟩) L capp) L (SCELLS S)) := by
        obtain ⟨r1, _, _, r4, _, r6, r7⟩ := R.out
        obtain ⟨r2, r3, r5⟩ := R2.out
        have hgp := r5.lt gs rfl
        refine ⟨r1, ?_, (r3.alloc r3.size _).grown hgrow (by have := r3.size; simp; omega) (fun k e => (r2.lt k e).1), fun k hk => ?_, (r5.alloc _).kept hgrow (.inr fun e => r4 e.symm)⟩
        · rw [r6, UCELLS_snoc, List.length_append]
          exact hown
        · cases hk
          exact app_apart r4 (by simp; omega) hat
      clear R R2 hown hgrow hat hg
      go_wp2
      go_roundg q
      case measure => omega
      case rel => exact ⟨j + 1, by first | rfl | (rw [e1]), R3.out⟩
end Go.Proofs.YtkcfhgflgkejoaaGreatDoor

/- What written, Encode and EncodePrefix of package proof answer. -/
namespace Go.Proofs.YtkcfhgflgkejoaaGreatDoor
open Go.RowKit
set_option maxRecDepth 100000

/-- so many hashes lie there, told as their bytes, one behind the other. -/
def Flat (w : World) (a : Option Addr) (n : Nat) (l : List Int) : Prop :=
  l.length = 32 * n ∧ (0 < n → ∃ b o, a = some ⟨b, o, none⟩ ∧ b < w.heap.size ∧ ∀ j, j < 32 * n → w.cell? ⟨b, o + j, none⟩ = some (.int .u8 (l.getD j 0))) ∧ ∀ x ∈ l, 0 ≤ x ∧ x ≤ 255
theorem Flat.below {w w' : World} {a : Option Addr} {n : Nat} {l : List Int} (h : Flat w a n l) (hb : Below w.heap.size w w') : Flat w' a n l :=
  ⟨h.1, fun hn => by
    obtain ⟨b, o, e, hl, hc⟩ := h.2.1 hn
    exact ⟨b, o, e, Nat.lt_of_lt_of_le hl hb.size, fun i hi => (hb.cell (by exact hl)).trans (hc i hi)⟩, h.2.2⟩
/-- the bytes of the i-th hash. -/
def HSH (l : List Int) (i : Nat) : List Int := (l.drop (32 * i)).take 32
theorem HSH_length {l : List Int} {n i : Nat} (hl : l.length = 32 * n) (hi : i < n) : (HSH l i).length = 32 := by
  unfold HSH
  rw [List.length_take, List.length_drop]
  omega
theorem HSH_at {l : List Int} {i j : Nat} (hj : j < 32) : (HSH l i).getD j 0 = l.getD (32 * i + j) 0 := by
  unfold HSH
  rw [List.getD_eq_getElem?_getD, List.getElem?_take, if_pos hj, List.getElem?_drop, List.getD_eq_getElem?_getD]
theorem HSH_mem {l : List Int} {i : Nat} {x : Int} (h : x ∈ HSH l i) : x ∈ l := List.mem_of_mem_drop (List.mem_of_mem_take h)
theorem HSH_next (l : List Int) (i : Nat) : l.take (32 * (i + 1)) = l.take (32 * i) ++ HSH l i := by
  unfold HSH
  rw [show 32 * (i + 1) = 32 * i + 32 by omega, List.take_add]
theorem info_hash32 : (Tryz.prog.info? 23).map (·.size) = some 32 := by kernel_rfl
theorem info_cells {h : List Int} (hl : h.length = 32) : (Tryz.prog.info? 23).map (·.size) = some (CELLS h).length := by
  rw [info_hash32, show (CELLS h).length = 32 by simp [CELLS, hl]]
theorem info_arr {h : List Int} (hl : h.length = 32) : (Tryz.prog.info? 23).map (·.size) = some (CELLS h).toArray.size := by
  rw [info_hash32, show (CELLS h).toArray.size = 32 by simp [CELLS, hl]]
theorem cells_one (h : List Int) : (CELLS h).toArray.all (·.oneCell') = true := by
  rw [Array.all_eq_true_iff_forall_mem]
  intro v hv
  exact CELLS_one h v (by simpa using hv)
theorem Flat.at {w : World} {b o n : Nat} {l : List Int} {i : Nat} (h : Flat w (some ⟨b, o, none⟩) n l) (hi : i < n) : w.rangeAt b (o + i * 32) (CELLS (HSH l i)) := by
  intro j v hv
  obtain ⟨b', o', e, _, hc⟩ := h.2.1 (by omega)
  simp only [Option.some.injEq, Addr.mk.injEq] at e
  obtain ⟨rfl, rfl, _⟩ := e
  have hj : j < 32 := by
    have := (List.getElem?_eq_some_iff.1 hv).1
    rw [show (CELLS (HSH l i)).length = 32 by simp [CELLS, HSH_length h.1 hi]] at this
    exact this
  rw [CELLS_get _ _ (by rw [HSH_length h.1 hi]; exact hj), HSH_at hj] at hv
  rw [show o + i * 32 + j = o + (32 * i + j) by omega, hc _ (by omega)]
  exact hv
theorem own_one (w : World) (x : Int) : (w.alloc (.cells #[.int .u8 x] 5)).ownsRow w.heap.size 5 1 (.slice (some ⟨w.heap.size, 0, none⟩) 1 1) 1 (CELLS [x]) :=
  World.ownsRow_lit w #[.int .u8 x] 1 (Nat.le_refl _) (by simp [maxLen]) rfl
end Go.Proofs.YtkcfhgflgkejoaaGreatDoor

/- What Encode and EncodePrefix answer, of any proof; the law's awake. -/
namespace Go.Proofs.YtkcfhgflgkejoaaGreatDoor
open Go.RowKit
set_option maxRecDepth 100000

/-- what Places answers: the error, the places. -/
def PLA (i n : Nat) : Int × List Nat := if 4611686018427387904 < n then (30, []) else if n ≤ i then (32, []) else (0, PLCS (PSP i n))
/-- what PrefixPlaces answers. -/
def PPA (m n : Nat) : Int × List Nat := if 4611686018427387904 < n ∨ n < m then (30, []) else (0, PLCS (PXS m n))
theorem PLA_few (i n : Nat) : (PLA i n).2.length ≤ 188 := by
  unfold PLA
  split
  · simp
  · split
    · simp
    · have := PSP_few (i := i) (n := n) (by omega) (by omega)
      simp only [PLCS_length]
      omega
theorem nil_row (w : World) : w.ownsRow w.heap.size 24 1 (.slice none 0 0) ([] : List Nat).length (UCELLS []) := World.ownsRow_nil _ _ _ _
theorem pla_ok (i n : Nat) (w : World) (hT : Tabled w) (h0 : 0 < w.heap.size) : Calls Tryz.prog 54 #[.int .u64 (i : Int), .int .u64 (n : Int)] w fun e w' =>
    ∃ v, e = .returned (.tuple #[v, .int .i64 (PLA i n).1]) ∧ w'.ownsRow w.heap.size 24 1 v (PLA i n).2.length (UCELLS (PLA i n).2) ∧ Below w.heap.size w w' := by
  unfold PLA
  split
  · refine (places_size _ _ (by omega) w).mono ?_
    rintro e w' ⟨rfl, rfl⟩
    exact ⟨_, rfl, nil_row w, Below.refl _ _⟩
  · split
    · refine (places_index _ _ (by omega) (by omega) w).mono ?_
      rintro e w' ⟨rfl, rfl⟩
      exact ⟨_, rfl, nil_row w, Below.refl _ _⟩
    · exact places_ok i n (by omega) (by omega) w hT h0
theorem ppa_ok (m n : Nat) (w : World) (hT : Tabled w) (h0 : 0 < w.heap.size) : Calls Tryz.prog 34 #[.int .u64 (m : Int), .int .u64 (n : Int)] w fun e w' =>
    ∃ v, e = .returned (.tuple #[v, .int .i64 (PPA m n).1]) ∧ w'.ownsRow w.heap.size 24 1 v (PPA m n).2.length (UCELLS (PPA m n).2) ∧ Below w.heap.size w w' := by
  unfold PPA
  split
  · refine (prefixplaces_not _ _ (by omega) w).mono ?_
    rintro e w' ⟨rfl, rfl⟩
    exact ⟨_, rfl, nil_row w, Below.refl _ _⟩
  · exact prefixplaces_ok m n (by omega) (by omega) w hT h0
/-- the bytes of a proof that needs P nodes (or none, by the error E) and has n, or what is wrong. -/
def ENCB (k E : Int) (P n X Y : Nat) (l : List Int) : Int × List Int := if E ≠ 0 then (E, []) else if n ≠ P then (70, []) else (0, k :: (SHORT X ++ SHORT Y ++ l))
/-- what EncodePrefix answers. -/
def ENX (F S n : Nat) (l : List Int) : Int × List Int := ENCB 80 (PPA F S).1 (PPA F S).2.length n F S l
theorem nil_bytes' (w : World) (b : Nat) : w.ownsRow b 5 1 (.slice none 0 0) ([] : List Int).length (CELLS []) := World.ownsRow_nil _ _ _ _
/-- an error and bytes of one's own are answered. -/
def ANSB (w : World) (A : Int × List Int) (e : Ending) (w' : World) : Prop := ∃ v, e = .returned (.tuple #[v, .int .i64 A.1]) ∧ w'.ownsRow w.heap.size 5 1 v A.2.length (CELLS A.2) ∧ Below w.heap.size w w'
/-! the law's awake -/
end Go.Proofs.YtkcfhgflgkejoaaGreatDoor
