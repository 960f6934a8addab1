/- Texts of ManyOne, one behind the other: CutOver, ProofPlaces, ProofBytes, ProofEncode, ManyOnePlain. -/
import Derived.Deep.MidRow
import Derived.Test.YtadpfcpipklmbabDoorManyOneP7
import Derived.Test.YtadpfcpipklmbabDoorManyOneP9
import Derived.Test.YtadpfcpipklmbabDoorManyOneP10
/- What Over answers, of any list of spots. -/
namespace Go.Proofs.YtadpfcpipklmbabDoor
open Go.RowKit

/-- a list of spots lies there. -/
def Lie (w : World) (a : Option Addr) (l : List (Nat × Nat)) : Prop := 0 < l.length → ∃ g o, a = some ⟨g, o, none⟩ ∧ g < w.heap.size ∧ ∀ (j h k : Nat), l[j]? = some (h, k) → w.cell? ⟨g, o + j * 2, none⟩ = some (.int .u8 (h : Int)) ∧ w.cell? ⟨g, o + j * 2 + 1, none⟩ = some (.int .u64 (k : Int))
theorem Lie.below {w w' : World} {a : Option Addr} {l : List (Nat × Nat)} (h : Lie w a l) (hb : Below w.heap.size w w') : Lie w' a l := fun h0 => by
  obtain ⟨g, o, e, hg, hc⟩ := h h0
  exact ⟨g, o, e, Nat.lt_of_lt_of_le hg hb.size, fun j x y he => ⟨(hb.cell (p := ⟨g, o + j * 2, none⟩) hg).trans (hc j x y he).1, (hb.cell (p := ⟨g, o + j * 2 + 1, none⟩) hg).trans (hc j x y he).2⟩⟩
theorem Lie.of {w : World} {a : Option Addr} {l : List (Nat × Nat)} (h : Spots w a l) : Lie w a l := fun h0 => by
  obtain ⟨g, e, hg, hc⟩ := h h0
  refine ⟨g, 0, e, hg, fun j x y he => ?_⟩
  rw [Nat.zero_add]
  exact hc j x y he
theorem lie_own {w : World} {base n : Nat} {v : Value} {l : List (Nat × Nat)} (hl : l.length = n) (h : w.ownsRow base 59 2 v n (SCELLS l)) : ∃ a cap, v = .slice a n cap ∧ Lie w a l := by
  obtain ⟨a, cap, e, hs⟩ := spots_own hl h
  exact ⟨a, cap, e, Lie.of hs⟩
theorem Tile.same {l : List (Nat × Nat)} : ∀ {a b a' b' : Nat}, l ≠ [] → Tile a l b → Tile a' l b' → a = a' ∧ b = b' := by
  have key : ∀ (l : List (Nat × Nat)) (a b b' : Nat), Tile a l b → Tile a l b' → b = b' := by
    intro l
    induction l with
    | nil => intro a b b' h h'; exact Eq.trans (Eq.symm h) h'
    | cons s l ih => intro a b b' h h'; exact ih _ _ _ h.2.2 h'.2.2
  intro a b a' b' h0 h h'
  cases l with
  | nil => exact absurd rfl h0
  | cons s l => exact ⟨h.2.1.symm.trans h'.2.1, key l _ _ _ h.2.2 h'.2.2⟩
/-- where the first spot begins, if it is right. -/
theorem tile_not {l rest : List (Nat × Nat)} {F c h k : Nat} {i : Nat} (hl : l = l.take i ++ (h, k) :: rest) (hi : Tile F (l.take i) c) (hF : ∀ x y, l[0]? = some (x, y) → Node x y → F = y * 2 ^ x) (hn : ¬ (Node h k ∧ k * 2 ^ h = c)) : ¬ ∃ a b, l ≠ [] ∧ Tile a l b := by
  rintro ⟨a, b, _, ht⟩
  rw [hl] at ht
  obtain ⟨c', h1, h2, h3, h4⟩ := ht.split
  dsimp only at h2 h3
  apply hn
  refine ⟨h2, ?_⟩
  by_cases h0 : l.take i = []
  · rw [h0] at hi hl
    have e : F = c := hi
    rw [← e]
    exact (hF h k (by rw [hl]; rfl) h2).symm
  · rw [(Tile.same h0 h1 hi).2] at h3
    exact h3
theorem take_at {l : List (Nat × Nat)} {i h k : Nat} (e : l[i]? = some (h, k)) : l = l.take i ++ (h, k) :: l.drop (i + 1) ∧ l.take (i + 1) = l.take i ++ [(h, k)] := by
  obtain ⟨hi, e2⟩ := List.getElem?_eq_some_iff.1 e
  refine ⟨?_, ?_⟩
  · rw [← e2, List.getElem_cons_drop, List.take_append_drop]
  · rw [List.take_add_one, e]
    rfl
theorem at_lt {l : List (Nat × Nat)} {i : Nat} (h : i < l.length) : ∃ x y, l[i]? = some (x, y) := ⟨_, _, List.getElem?_eq_getElem h⟩
end Go.Proofs.YtadpfcpipklmbabDoor

/- What Places and PrefixPlaces of package proof answer. -/
namespace Go.Proofs.YtadpfcpipklmbabDoor
open Go.RowKit

/-- the places so far: the earlier peaks, and of the spots behind them the first j. -/
def SOFARP (PK : List Nat) (S : List (Nat × Nat)) (j : Nat) : List Nat := PK ++ PLCS (S.take j)
theorem places_size (i n : Int) (hn : 4611686018427387904 < n) (w : World) : Calls Tryd.prog 12 #[.int .u64 i, .int .u64 n] w fun e w' => e = .returned (.tuple #[.slice none 0 0, .int .i64 30]) ∧ w = w' := by
  go_enter Tryd.func12, Tryd.ntmps12
  go_wp2
  go_ret2
  exact ⟨rfl, rfl⟩
theorem places_index (i n : Int) (hn : ¬ 4611686018427387904 < n) (hi : ¬ i < n) (w : World) : Calls Tryd.prog 12 #[.int .u64 i, .int .u64 n] w fun e w' => e = .returned (.tuple #[.slice none 0 0, .int .i64 32]) ∧ w = w' := by
  have c := path_not i n (by omega)
  clear hi
  go_enter Tryd.func12, Tryd.ntmps12
  go_wp2_with fail
  refine (c _).mono ?_
  rintro e w' ⟨rfl, rfl⟩
  clear c
  go_wp2
  go_ret2
  exact ⟨rfl, rfl⟩
theorem app_apart {w : World} {v : Value} {g gp : Nat} (hne : v.ownBlock ≠ some gp) (hgp : gp < w.heap.size) (hat : v.ownBlock = some g ∨ g = w.heap.size) : some g ≠ some gp := by
  intro e
  have e : g = gp := by simpa using e
  subst e
  rcases hat with h | h
  · exact hne h
  · omega
/-- the places so far: the way, and of the peaks the first j but the one over the leaf. -/
def SOFAR (A P : List Nat) (K j : Nat) : List Nat := A ++ (P.take j).eraseIdx K
theorem SOFAR_zero (A P : List Nat) (K : Nat) : SOFAR A P K 0 = A := by simp [SOFAR]
theorem SOFAR_all (A P : List Nat) (K : Nat) : SOFAR A P K P.length = A ++ P.eraseIdx K := by simp [SOFAR]
theorem take_getD {P : List Nat} {j : Nat} (hj : j < P.length) : P.take (j + 1) = P.take j ++ [P.getD j 0] := by
  rw [List.take_add_one, List.getD, List.getElem?_eq_getElem hj]
  rfl
theorem SOFAR_skip (A P : List Nat) (K : Nat) (hK : K < P.length) : SOFAR A P K (K + 1) = SOFAR A P K K := by
  unfold SOFAR
  rw [take_getD hK, erase_snoc, if_pos (by rw [List.length_take]; omega)]
theorem SOFAR_next (A P : List Nat) (K j : Nat) (hj : j < P.length) (hK : j ≠ K) : SOFAR A P K (j + 1) = SOFAR A P K j ++ [P.getD j 0] := by
  unfold SOFAR
  rw [take_getD hj, erase_snoc, if_neg (by rw [List.length_take]; omega), List.append_assoc]
theorem SOFAR_length (A P : List Nat) (K j : Nat) : (SOFAR A P K j).length ≤ A.length + P.length := by
  unfold SOFAR
  rw [List.length_append]
  have h1 := List.length_eraseIdx_le (P.take j) K
  have h2 := List.length_take_le' j P
  omega
set_option maxHeartbeats 1000000 in
theorem places_ok (i n : Nat) (hi : i < n) (hn : n ≤ 4611686018427387904) (w : World) (hT : Tabled w) (h0 : 0 < w.heap.size) : Calls Tryd.prog 12 #[.int .u64 (i : Int), .int .u64 (n : Int)] w fun e w' =>
    ∃ v, e = .returned (.tuple #[v, .int .i64 0]) ∧ w'.ownsRow w.heap.size 23 1 v (PLCS (PSP i n)).length (UCELLS (PLCS (PSP i n))) ∧ Below w.heap.size w w' := by
  have c1 := path_ok i n hi hn w
  have c2 := peak_ok i n hi hn
  have hd : ¬ (4611686018427387904 : Int) < (n : Int) := by omega
  have C3 : Aside (∀ W, Below w.heap.size w W → Calls Tryd.prog 14 #[.int .u64 (n : Int)] W fun e w' => ∃ g cap, e = .returned (.slice (some ⟨g, 0, none⟩) (PC n) cap) ∧ w'.ownsRow W.heap.size 23 1 (.slice (some ⟨g, 0, none⟩) (PC n) cap) (PC n) (UCELLS (PEAKS n)) ∧ Below W.heap.size W w') :=
    fun W h => peaks_ok n hn W (hT.below h0 h) (Nat.lt_of_lt_of_le h0 h.size)
  have hP := PEAKS_length (n := n) (by omega)
  have hP6 := PC_lt_pow 64 n (by omega)
  have hR6 := (RISE_spec hi hn).2.1
  have hKl := KTH_lt hi hn
  rw [PSP_places hn]
  have hWl := WAY_length i (RISE i n)
  generalize WAY i (RISE i n) = A at *
  generalize PEAKS n = PK at *
  generalize RISE i n = R at *
  generalize KTH i n = K at *
  generalize PC n = P at *
  obtain ⟨X, hX⟩ : ∃ X, A ++ PK.eraseIdx K = X := ⟨_, rfl⟩
  rw [hX]
  obtain ⟨N, hN⟩ : ∃ N, X.length = N := ⟨_, rfl⟩
  rw [hN]
  have HA : Aside (PK.length = P ∧ P ≤ 64 ∧ R ≤ 62 ∧ K < P ∧ A.length = R) := ⟨hP, hP6, hR6, hKl, hWl⟩
  have HX : Aside (SOFAR A PK K P = X ∧ X.length = N) := ⟨by rw [← hX, ← hP]; exact SOFAR_all _ _ _, hN⟩
  clear hX hN
  clear hP hP6 hR6 hKl hWl hT h0 hi hn
  go_enter Tryd.func12, Tryd.ntmps12
  go_wp2_with fail
  refine c1.mono ?_
  rintro e w1 ⟨g, cap, rfl, hown, hg, hb⟩
  clear c1
  have R1 : Aside (w1.ownsRow w.heap.size 23 1 (.slice (some ⟨g, 0, none⟩) R cap) R (UCELLS A) ∧ Below w.heap.size w w1 ∧ g < w1.heap.size) := ⟨hown, hb, hg⟩
  clear hown hg hb
  go_wp2_with fail
  refine (c2 _).mono ?_
  rintro e w' ⟨rfl, rfl⟩
  clear c2
  go_wp2_with fail
  refine (C3.out _ R1.out.2.1).mono ?_
  rintro e w2 ⟨gp, capp, rfl, hrow, hb2⟩
  have R2 : Aside (w2.ownsRow w.heap.size 23 1 (.slice (some ⟨g, 0, none⟩) R cap) (SOFAR A PK K 0).length (UCELLS (SOFAR A PK K 0)) ∧ Below w.heap.size w w2 ∧ some g ≠ some gp ∧ w2.ownsRow w1.heap.size 23 1 (.slice (some ⟨gp, 0, none⟩) P capp) P (UCELLS PK)) := by
    obtain ⟨a1, a2, a3⟩ := R1.out
    have hgp := hrow.lt gp rfl
    refine ⟨?_, a2.trans (hb2.mono a2.size), fun e => ?_, hrow⟩
    · rw [SOFAR_zero, HA.out.2.2.2.2]
      exact own_below a1 hb2
    · have e : g = gp := by simpa using e
      omega
  clear R1 hrow hb2 C3
  go_wp2
  go_loopg [6, 31] P (fun q s6 s31 wx => ∃ j : Nat, s31 = .int .i64 (j : Int) ∧ Aside (j + q = P ∧ wx.ownsRow w.heap.size 23 1 s6 (SOFAR A PK K j).length (UCELLS (SOFAR A PK K j)) ∧ Below w.heap.size w wx ∧ s6.ownBlock ≠ some gp ∧ wx.ownsRow w1.heap.size 23 1 (.slice (some ⟨gp, 0, none⟩) P capp) P (UCELLS PK)))
  case atStart => exact ⟨0, rfl, by omega, R2.out.1, R2.out.2.1, R2.out.2.2.1, R2.out.2.2.2⟩
  case round =>
    obtain ⟨j, rfl, A1⟩ := hrel
    clear R2
    cases gk with
    | zero =>
      obtain ⟨hj, hown, hbel, hne, hrow⟩ := A1.out
      obtain rfl : j = P := by omega
      have hlt : ¬ (j : Int) < (j : Int) := by omega
      have R : Aside (wr.ownsRow w.heap.size 23 1 u6 N (UCELLS X) ∧ Below w.heap.size w wr) := by
        rw [HX.out.1, HX.out.2] at hown
        exact ⟨hown, hbel⟩
      clear hj hown hbel hne hrow A1 HA
      go_wp2
      go_ret2
      exact ⟨_, rfl, R.out.1, R.out.2⟩
    | succ q =>
      obtain ⟨hj, hown, hbel, hne, hrow⟩ := A1.out
      obtain ⟨a1, a2, a3, a4, a5⟩ := HA.out
      have hlt : (j : Int) < (P : Int) := by omega
      have hc : wr.cell? ⟨gp, j, none⟩ = some (.int .u64 ((PK.getD j 0 : Nat) : Int)) := by
        have hrow' := hrow
        rw [← a1] at hrow'
        exact row_at hrow' j (by omega)
      have e1 : wrap64 ((j : Int) + 1) = ((j + 1 : Nat) : Int) := by unfold wrap64; omega
      by_cases hk : j = K
      · subst hk
        have R : Aside (j + 1 + q = P ∧ wr.ownsRow w.heap.size 23 1 u6 (SOFAR A PK j (j + 1)).length (UCELLS (SOFAR A PK j (j + 1))) ∧ Below w.heap.size w wr ∧ u6.ownBlock ≠ some gp ∧ wr.ownsRow w1.heap.size 23 1 (.slice (some ⟨gp, 0, none⟩) P capp) P (UCELLS PK)) := ⟨by omega, by rw [SOFAR_skip _ _ _ (by omega)]; exact hown, hbel, hne, hrow⟩
        clear hj hown hbel hne hrow a1 a2 a3 a4 a5 A1
        generalize PK.getD j 0 = y at hc
        go_wp2
        go_roundg q
        case measure => omega
        case rel => exact ⟨j + 1, by first | rfl | (rw [e1]), R.out⟩
      · have hk' : ((j : Int) != (K : Int)) = true := by simp; omega
        have hnx := SOFAR_next A PK K j (by omega) hk
        have hll := SOFAR_length A PK K j
        generalize PK.getD j 0 = y at *
        have R : Aside (j + 1 + q = P ∧ wr.ownsRow w.heap.size 23 1 u6 (SOFAR A PK K j).length (UCELLS (SOFAR A PK K j)) ∧ Below w.heap.size w wr ∧ u6.ownBlock ≠ some gp ∧ wr.ownsRow w1.heap.size 23 1 (.slice (some ⟨gp, 0, none⟩) P capp) P (UCELLS PK) ∧ SOFAR A PK K (j + 1) = SOFAR A PK K j ++ [y] ∧ (SOFAR A PK K j).length ≤ 1000) := ⟨by omega, hown, hbel, hne, hrow, hnx, by omega⟩
        clear hj hown hbel hne hrow a1 a2 a3 a4 a5 A1 hnx hll
        go_wp2_with (at_builtin; refine app_more _ rfl (.tmp 39) (.tmp 41) rfl w.heap.size u6 _ (UCELLS (SOFAR A PK K j)) rfl (R.out.2.1.alloc _) wr.heap.size 1 (y : Int) rfl (by rw [World.cell?_alloc_at _ _ _ _ rfl]; rfl) R.out.2.2.2.2.2.2 (by have := R.out.2.2.1.size; simp; omega) ?_; intro g' cap' w3 hown hgrow hat hg)
        have R3 : Aside (j + 1 + q = P ∧ w3.ownsRow w.heap.size 23 1 (.slice (some ⟨g', 0, none⟩) ((SOFAR A PK K j).length + 1) cap') (SOFAR A PK K (j + 1)).length (UCELLS (SOFAR A PK K (j + 1))) ∧ Below w.heap.size w w3 ∧ some g' ≠ some gp ∧ w3.ownsRow w1.heap.size 23 1 (.slice (some ⟨gp, 0, none⟩) P capp) P (UCELLS PK)) := by
          obtain ⟨r1, r2, r3, r4, r5, r6, r7⟩ := R.out
          have hgp := r5.lt gp rfl
          refine ⟨r1, ?_, (r3.alloc r3.size _).grown hgrow (by have := r3.size; simp; omega) (fun k e => (r2.lt k e).1), app_apart r4 (by simp; omega) hat, (r5.alloc _).kept hgrow (.inr fun e => r4 e.symm)⟩
          rw [r6, UCELLS_snoc, List.length_append]
          exact hown
        clear R hown hgrow hat hg hc
        go_wp2
        go_roundg q
        case measure => omega
        case rel => exact ⟨j + 1, by first | rfl | (rw [e1]), R3.out⟩

theorem PLCS_next {l : List (Nat × Nat)} {j h k : Nat} (e : l[j]? = some (h, k)) : PLCS (l.take (j + 1)) = PLCS (l.take j) ++ [PLC h k] := by
  rw [(take_at e).2, PLCS_append]
  rfl
end Go.Proofs.YtadpfcpipklmbabDoor

/- What written, Encode and EncodePrefix of package proof answer. -/
namespace Go.Proofs.YtadpfcpipklmbabDoor
open Go.RowKit
set_option maxRecDepth 100000

/-- so many hashes lie there, told as their bytes, one behind the other. -/
def Flat (w : World) (a : Option Addr) (n : Nat) (l : List Int) : Prop :=
  l.length = 32 * n ∧ (0 < n → ∃ b o, a = some ⟨b, o, none⟩ ∧ b < w.heap.size ∧ ∀ j, j < 32 * n → w.cell? ⟨b, o + j, none⟩ = some (.int .u8 (l.getD j 0))) ∧ ∀ x ∈ l, 0 ≤ x ∧ x ≤ 255
theorem Flat.below {w w' : World} {a : Option Addr} {n : Nat} {l : List Int} (h : Flat w a n l) (hb : Below w.heap.size w w') : Flat w' a n l :=
  ⟨h.1, fun hn => by
    obtain ⟨b, o, e, hl, hc⟩ := h.2.1 hn
    exact ⟨b, o, e, Nat.lt_of_lt_of_le hl hb.size, fun i hi => (hb.cell (by exact hl)).trans (hc i hi)⟩, h.2.2⟩
/-- the bytes of the i-th hash. -/
def HSH (l : List Int) (i : Nat) : List Int := (l.drop (32 * i)).take 32
theorem HSH_length {l : List Int} {n i : Nat} (hl : l.length = 32 * n) (hi : i < n) : (HSH l i).length = 32 := by
  unfold HSH
  rw [List.length_take, List.length_drop]
  omega
theorem HSH_at {l : List Int} {i j : Nat} (hj : j < 32) : (HSH l i).getD j 0 = l.getD (32 * i + j) 0 := by
  unfold HSH
  rw [List.getD_eq_getElem?_getD, List.getElem?_take, if_pos hj, List.getElem?_drop, List.getD_eq_getElem?_getD]
theorem HSH_mem {l : List Int} {i : Nat} {x : Int} (h : x ∈ HSH l i) : x ∈ l := List.mem_of_mem_drop (List.mem_of_mem_take h)
theorem HSH_next (l : List Int) (i : Nat) : l.take (32 * (i + 1)) = l.take (32 * i) ++ HSH l i := by
  unfold HSH
  rw [show 32 * (i + 1) = 32 * i + 32 by omega, List.take_add]
theorem info_hash32 : (Tryd.prog.info? 56).map (·.size) = some 32 := by kernel_rfl
theorem info_cells {h : List Int} (hl : h.length = 32) : (Tryd.prog.info? 56).map (·.size) = some (CELLS h).length := by
  rw [info_hash32, show (CELLS h).length = 32 by simp [CELLS, hl]]
theorem info_arr {h : List Int} (hl : h.length = 32) : (Tryd.prog.info? 56).map (·.size) = some (CELLS h).toArray.size := by
  rw [info_hash32, show (CELLS h).toArray.size = 32 by simp [CELLS, hl]]
theorem cells_one (h : List Int) : (CELLS h).toArray.all (·.oneCell') = true := by
  rw [Array.all_eq_true_iff_forall_mem]
  intro v hv
  exact CELLS_one h v (by simpa using hv)
theorem Flat.at {w : World} {b o n : Nat} {l : List Int} {i : Nat} (h : Flat w (some ⟨b, o, none⟩) n l) (hi : i < n) : w.rangeAt b (o + i * 32) (CELLS (HSH l i)) := by
  intro j v hv
  obtain ⟨b', o', e, _, hc⟩ := h.2.1 (by omega)
  simp only [Option.some.injEq, Addr.mk.injEq] at e
  obtain ⟨rfl, rfl, _⟩ := e
  have hj : j < 32 := by
    have := (List.getElem?_eq_some_iff.1 hv).1
    rw [show (CELLS (HSH l i)).length = 32 by simp [CELLS, HSH_length h.1 hi]] at this
    exact this
  rw [CELLS_get _ _ (by rw [HSH_length h.1 hi]; exact hj), HSH_at hj] at hv
  rw [show o + i * 32 + j = o + (32 * i + j) by omega, hc _ (by omega)]
  exact hv
/-- a box that holds a hash reads as its bytes. -/
theorem box_bytes (w : World) {h : List Int} (hl : h.length = 32) (hr : ∀ x ∈ h, 0 ≤ x ∧ x ≤ 255) (t : TypeId) : Bytes (w.alloc (.cells (CELLS h).toArray t)) (some ⟨w.heap.size, 0, none⟩) 32 h := by
  refine ⟨hl, fun _ => ⟨w.heap.size, 0, rfl, by simp, fun i hi => ?_⟩, hr⟩
  rw [Nat.zero_add, World.cell?_alloc_at _ _ _ _ rfl, List.getElem?_toArray, CELLS_get h i (by omega)]
theorem own_one (w : World) (x : Int) : (w.alloc (.cells #[.int .u8 x] 5)).ownsRow w.heap.size 5 1 (.slice (some ⟨w.heap.size, 0, none⟩) 1 1) 1 (CELLS [x]) :=
  World.ownsRow_lit w #[.int .u8 x] 1 (Nat.le_refl _) (by simp [maxLen]) rfl
theorem own_len {w : World} {base n : Nat} {v : Value} {l : List Int} (h : w.ownsRow base 5 1 v n (CELLS l)) : l.length = n := by
  have := h.1
  simpa [CELLS] using this

end Go.Proofs.YtadpfcpipklmbabDoor

/- What Encode and EncodePrefix answer, of any proof; the law's awake. -/
namespace Go.Proofs.YtadpfcpipklmbabDoor
open Go.RowKit
set_option maxRecDepth 100000

/-- what Places answers: the error, the places. -/
def PLA (i n : Nat) : Int × List Nat := if 4611686018427387904 < n then (30, []) else if n ≤ i then (32, []) else (0, PLCS (PSP i n))
/-- what PrefixPlaces answers. -/
def PPA (m n : Nat) : Int × List Nat := if 4611686018427387904 < n ∨ n < m then (30, []) else (0, PLCS (PXS m n))
theorem PLA_few (i n : Nat) : (PLA i n).2.length ≤ 188 := by
  unfold PLA
  split
  · simp
  · split
    · simp
    · have := PSP_few (i := i) (n := n) (by omega) (by omega)
      simp only [PLCS_length]
      omega
theorem PPA_few (m n : Nat) : (PPA m n).2.length ≤ 188 := by
  unfold PPA
  split
  · simp
  · have := PXS_length (m := m) (n := n) (by omega) (by omega)
    simp only [PLCS_length]
    omega
theorem nil_row (w : World) : w.ownsRow w.heap.size 23 1 (.slice none 0 0) ([] : List Nat).length (UCELLS []) := World.ownsRow_nil _ _ _ _
theorem pla_ok (i n : Nat) (w : World) (hT : Tabled w) (h0 : 0 < w.heap.size) : Calls Tryd.prog 12 #[.int .u64 (i : Int), .int .u64 (n : Int)] w fun e w' =>
    ∃ v, e = .returned (.tuple #[v, .int .i64 (PLA i n).1]) ∧ w'.ownsRow w.heap.size 23 1 v (PLA i n).2.length (UCELLS (PLA i n).2) ∧ Below w.heap.size w w' := by
  unfold PLA
  split
  · refine (places_size _ _ (by omega) w).mono ?_
    rintro e w' ⟨rfl, rfl⟩
    exact ⟨_, rfl, nil_row w, Below.refl _ _⟩
  · split
    · refine (places_index _ _ (by omega) (by omega) w).mono ?_
      rintro e w' ⟨rfl, rfl⟩
      exact ⟨_, rfl, nil_row w, Below.refl _ _⟩
    · exact places_ok i n (by omega) (by omega) w hT h0
/-- the bytes of a proof that needs P nodes (or none, by the error E) and has n, or what is wrong. -/
def ENCB (k E : Int) (P n X Y : Nat) (l : List Int) : Int × List Int := if E ≠ 0 then (E, []) else if n ≠ P then (70, []) else (0, k :: (SHORT X ++ SHORT Y ++ l))
/-- what Encode answers. -/
def ENC (S I n : Nat) (l : List Int) : Int × List Int := ENCB 77 (PLA I S).1 (PLA I S).2.length n S I l
/-- what EncodePrefix answers. -/
def ENX (F S n : Nat) (l : List Int) : Int × List Int := ENCB 80 (PPA F S).1 (PPA F S).2.length n F S l
theorem nil_bytes (w : World) : w.ownsRow w.heap.size 5 1 (.slice none 0 0) ([] : List Int).length (CELLS []) := World.ownsRow_nil _ _ _ _
theorem nil_bytes' (w : World) (b : Nat) : w.ownsRow b 5 1 (.slice none 0 0) ([] : List Int).length (CELLS []) := World.ownsRow_nil _ _ _ _
/-- an error and bytes of one's own are answered. -/
def ANSB (w : World) (A : Int × List Int) (e : Ending) (w' : World) : Prop := ∃ v, e = .returned (.tuple #[v, .int .i64 A.1]) ∧ w'.ownsRow w.heap.size 5 1 v A.2.length (CELLS A.2) ∧ Below w.heap.size w w'
/-! the law's awake -/
theorem PLA_awake : PLA 1 7 = (0, [0, 5, 9, 10]) := by decide
theorem ENC_awake : ENC 1 0 0 [] = (0, [77, 1, 0]) := by decide
theorem row_at_u64 {w : World} {base : Nat} {v : Value} {l : List Nat} (h : w.ownsRow base 23 1 v l.length (UCELLS l)) (h0 : 0 < l.length) : ∃ g c, v = .slice (some ⟨g, 0, none⟩) l.length c ∧ g < w.heap.size ∧ ∀ j, j < l.length → w.cell? ⟨g, j, none⟩ = some (.int .u64 ((l.getD j 0 : Nat) : Int)) := by
  obtain ⟨a, c, e, hh⟩ := nums_own h
  obtain ⟨g, rfl, hg, hc⟩ := hh h0
  exact ⟨g, c, e, hg, hc⟩
end Go.Proofs.YtadpfcpipklmbabDoor

/- One leaf's places are its proof's; of none the peaks; of all none: plain. -/
namespace Go.Proofs.YtadpfcpipklmbabDoor
set_option maxRecDepth 100000

theorem need_one (i : Nat) : ∀ H, (NEED H (i / 2 ^ H) [i]).length = H ∧ ∀ x ∈ NEED H (i / 2 ^ H) [i], x ∈ WAY i H
  | 0 => ⟨rfl, fun x h => by cases h⟩
  | H + 1 => by
    obtain ⟨h1, h2⟩ := need_one i H
    have hq : i / 2 ^ (H + 1) = i / 2 ^ H / 2 := by rw [Nat.pow_succ, Nat.div_div_eq_div_mul]
    have hlo : i / 2 ^ H * 2 ^ H ≤ i := Nat.div_mul_le_self _ _
    have hhi : i < (i / 2 ^ H + 1) * 2 ^ H := by
      have := Nat.lt_mul_div_succ i (Nat.two_pow_pos H)
      rw [Nat.mul_comm] at this
      exact this
    rw [NEED_node, WAY_succ, hq]
    generalize i / 2 ^ H = q at *
    rcases Nat.mod_two_eq_zero_or_one q with hp | hp
    · have e : 2 * (q / 2) = q := by omega
      have d : decide (i < (q + 1) * 2 ^ H) = true := decide_eq_true hhi
      rw [e]
      simp only [List.filter_cons, List.filter_nil, d, if_true, Bool.not_true, Bool.false_eq_true, if_false, NEED_nil, List.length_append, List.length_cons, List.length_nil, h1, List.mem_append, List.mem_cons, List.not_mem_nil, or_false]
      refine ⟨trivial, fun x hx => ?_⟩
      rcases hx with hx | hx
      · exact .inl (h2 x hx)
      · right
        rw [hx, SIB, if_neg (by omega)]
    · have e : 2 * (q / 2) + 1 = q := by omega
      have d : decide (i < q * 2 ^ H) = false := decide_eq_false (by omega)
      rw [e]
      simp only [List.filter_cons, List.filter_nil, d, if_true, Bool.not_false, Bool.false_eq_true, if_false, NEED_nil, List.length_append, List.length_cons, List.length_nil, h1, List.mem_append, List.mem_cons, List.not_mem_nil, or_false]
      refine ⟨by omega, fun x hx => ?_⟩
      rcases hx with hx | hx
      · right
        rw [hx, SIB, if_pos hp, show 2 * (q / 2) = q - 1 by omega]
      · exact .inl (h2 x hx)
theorem needs_off : ∀ ps : List (Nat × Nat), NEEDS ps [] = ps.map SPL
  | [] => rfl
  | (h, k) :: ps => by
    rw [NEEDS]
    simp only [List.filter_nil, NEED_nil, needs_off ps, List.map_cons, List.cons_append, List.nil_append]
    rfl
theorem needs_one : ∀ (ps : List (Nat × Nat)) (a b j H i : Nat), Tile a ps b → ps[j]? = some (H, i / 2 ^ H) → NEEDS ps [i] = (ps.take j).map SPL ++ NEED H (i / 2 ^ H) [i] ++ (ps.drop (j + 1)).map SPL
  | [], a, b, j, H, i, _, e => by simp at e
  | (h, k) :: ps, a, b, 0, H, i, _, e => by
    simp only [List.getElem?_cons_zero, Option.some.injEq, Prod.mk.injEq] at e
    obtain ⟨rfl, rfl⟩ := e
    have hhi : i < (i / 2 ^ h + 1) * 2 ^ h := by
      have := Nat.lt_mul_div_succ i (Nat.two_pow_pos h)
      rw [Nat.mul_comm] at this
      exact this
    have d : decide (i < (i / 2 ^ h + 1) * 2 ^ h) = true := decide_eq_true hhi
    rw [NEEDS]
    simp only [List.filter_cons, List.filter_nil, d, if_true, Bool.not_true, Bool.false_eq_true, if_false, needs_off, List.take_zero, List.map_nil, List.nil_append, List.drop_succ_cons, List.drop_zero]
  | (h, k) :: ps, a, b, j + 1, H, i, ht, e => by
    rw [List.getElem?_cons_succ] at e
    have h1 := (ht.2.2.within _ (List.mem_of_getElem? e)).1
    have hlo : i / 2 ^ H * 2 ^ H ≤ i := Nat.div_mul_le_self _ _
    have d : decide (i < (k + 1) * 2 ^ h) = false := decide_eq_false (by dsimp only at h1; omega)
    rw [NEEDS]
    simp only [List.filter_cons, List.filter_nil, d, if_true, Bool.not_false, Bool.false_eq_true, if_false, NEED_nil, needs_one ps _ b j H i ht.2.2 e, List.take_succ_cons, List.map_cons, List.cons_append, List.nil_append, List.drop_succ_cons]
    rfl
theorem PEAKS_TPS (n : Nat) : PEAKS n = (TPS n).map SPL := by
  unfold PEAKS TPS
  rw [List.map_map]
  rfl
theorem TPS_kth {i n : Nat} (hi : i < n) (hn : n ≤ 4611686018427387904) : (TPS n)[KTH i n]? = some (RISE i n, i / 2 ^ RISE i n) := by
  have h2 := KTH_lt hi hn
  rw [TPS_eq hn, PKS_at h2, ← SPAN_zero_at hn h2]
  exact (KTH_spot hi hn).1
theorem one_code (i n : Nat) : RISEA [i] n = (PLA i n).1 := by
  unfold RISEA PLA
  split
  · rfl
  · rw [RCHK]
    split
    · rename_i h; cases h
    · split
      · rfl
      · rfl
theorem one_at {i n : Nat} (h : RISEA [i] n = 0) : i < n ∧ n ≤ 4611686018427387904 := by
  obtain ⟨h1, _, h2⟩ := RISEA_ok h
  exact ⟨h2 i (List.mem_singleton.2 rfl), h1⟩
theorem one_places (i n : Nat) : (PLCA [i] n).length = (PLA i n).2.length ∧ ∀ x ∈ PLCA [i] n, x ∈ (PLA i n).2 := by
  unfold PLCA
  split
  · rename_i h
    obtain ⟨hi, hn⟩ := one_at h
    have hP : (PLA i n).2 = PLCS (PSP i n) := by
      unfold PLA
      rw [if_neg (by omega), if_neg (by omega)]
    obtain ⟨h1, h2⟩ := need_one i (RISE i n)
    rw [hP, PSP_places hn, needs_one (TPS n) 0 n (KTH i n) (RISE i n) i (TPS_tile hn) (TPS_kth hi hn), PEAKS_TPS, erase_map, List.eraseIdx_eq_take_drop_succ, List.map_append]
    refine ⟨?_, fun x hx => ?_⟩
    · simp only [List.length_append, h1]
      have : (WAY i (RISE i n)).length = RISE i n := by simp [WAY]
      omega
    · simp only [List.mem_append] at hx ⊢
      rcases hx with (hx | hx) | hx
      · exact .inr (.inl hx)
      · exact .inl (h2 x hx)
      · exact .inr (.inr hx)
  · rename_i h
    have hP : (PLA i n).2 = [] := by
      rw [one_code] at h
      unfold PLA at h ⊢
      split
      · rfl
      · rename_i h1
        rw [if_neg h1] at h
        split
        · rfl
        · rename_i h2
          rw [if_neg h2] at h
          exact absurd rfl h
    rw [hP]
    exact ⟨rfl, fun x hx => by cases hx⟩
theorem places_rise {L : List Nat} {n : Nat} {j x y : Nat} (hx : (PLCA L n)[j]? = some x) (hy : (PLCA L n)[j + 1]? = some y) : x < y := by
  unfold PLCA at hx hy
  split at hx
  · rename_i h
    rw [if_pos h] at hy
    obtain ⟨r1, r2, r3⟩ := RISEA_ok h
    have hc := nsps_cover (TPS n) 0 n L (TPS_tile r1) r2.pairwise (fun x hx => ⟨Nat.zero_le _, r3 x hx⟩)
    rw [NEEDS_NSPS, List.getElem?_map, Option.map_eq_some_iff] at hx hy
    obtain ⟨s, hs, rfl⟩ := hx
    obtain ⟨t, ht, rfl⟩ := hy
    have h1 := hc.order
    rw [List.pairwise_iff_getElem] at h1
    have hi := List.getElem?_eq_some_iff.1 hs
    have hj := List.getElem?_eq_some_iff.1 ht
    have h2 := h1 j (j + 1) hi.1 hj.1 (by omega)
    rw [hi.2, hj.2] at h2
    exact PLC_before h2
  · simp at hx
theorem none_places {n : Nat} (hn : n ≤ 4611686018427387904) : RISEA [] n = 0 ∧ PLCA [] n = PEAKS n := by
  have h : RISEA [] n = 0 := by unfold RISEA; rw [if_neg (by omega)]; rfl
  refine ⟨h, ?_⟩
  unfold PLCA
  rw [if_pos h, needs_off, PEAKS_TPS]
theorem none_size {n : Nat} (hn : 4611686018427387904 < n) (L : List Nat) : RISEA L n = 30 ∧ PLCA L n = [] := by
  have h : RISEA L n = 30 := by unfold RISEA; rw [if_pos hn]
  exact ⟨h, by unfold PLCA; rw [h]; rfl⟩
theorem RCHK_range (n : Nat) : ∀ (c a : Nat) (prev : Option Nat), (∀ y, prev = some y → y < a) → a + c ≤ n → RCHK n prev (List.range' a c) = 0
  | 0, _, _, _, _ => by cases ‹Option Nat› <;> rfl
  | c + 1, a, prev, hp, hc => by
    rw [List.range'_succ, RCHK, if_neg, if_neg (by omega)]
    · exact RCHK_range n c (a + 1) (some a) (fun y e => by cases e; omega) (by omega)
    · cases prev with
      | none => simp [NOTUP]
      | some y =>
        have := hp y rfl
        simp [NOTUP]
        omega
theorem all_places {n : Nat} (hn : n ≤ 200) : RISEA (List.range n) n = 0 ∧ PLCA (List.range n) n = [] := by
  have h : RISEA (List.range n) n = 0 := by
    unfold RISEA
    rw [if_neg (by omega), List.range_eq_range']
    exact RCHK_range n n 0 none (fun y e => by cases e) (by omega)
  refine ⟨h, ?_⟩
  obtain ⟨r1, r2, r3⟩ := RISEA_ok h
  have hc := nsps_cover (TPS n) 0 n (List.range n) (TPS_tile r1) r2.pairwise (fun x hx => ⟨Nat.zero_le _, r3 x hx⟩)
  unfold PLCA
  rw [if_pos h, NEEDS_NSPS]
  have h1 := hc.sum
  rw [List.length_range] at h1
  cases hs : NSPS (TPS n) (List.range n) with
  | nil => rfl
  | cons s t =>
    rw [hs] at h1
    have := Nat.two_pow_pos s.1
    simp at h1
end Go.Proofs.YtadpfcpipklmbabDoor
