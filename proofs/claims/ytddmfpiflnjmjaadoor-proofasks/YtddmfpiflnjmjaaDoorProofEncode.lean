/- What Encode and EncodePrefix answer, of any proof; the law's awake. -/
import Derived.Test.YtddmfpiflnjmjaaDoorProofBytes
namespace Go.Proofs.YtddmfpiflnjmjaaDoor
open Go.RowKit
set_option maxRecDepth 100000

/-- what Places answers: the error, the places. -/
def PLA (i n : Nat) : Int × List Nat := if 4611686018427387904 < n then (30, []) else if n ≤ i then (32, []) else (0, PLCS (PSP i n))
/-- what PrefixPlaces answers. -/
def PPA (m n : Nat) : Int × List Nat := if 4611686018427387904 < n ∨ n < m then (30, []) else (0, PLCS (PXS m n))
theorem PLA_few (i n : Nat) : (PLA i n).2.length ≤ 188 := by
  unfold PLA
  split
  · simp
  · split
    · simp
    · have := PSP_few (i := i) (n := n) (by omega) (by omega)
      simp only [PLCS_length]
      omega
theorem PPA_few (m n : Nat) : (PPA m n).2.length ≤ 188 := by
  unfold PPA
  split
  · simp
  · have := PXS_length (m := m) (n := n) (by omega) (by omega)
    simp only [PLCS_length]
    omega
theorem nil_row (w : World) : w.ownsRow w.heap.size 22 1 (.slice none 0 0) ([] : List Nat).length (UCELLS []) := World.ownsRow_nil _ _ _ _
theorem pla_ok (i n : Nat) (w : World) (hT : Tabled w) (h0 : 0 < w.heap.size) : Calls Tryd.prog 10 #[.int .u64 (i : Int), .int .u64 (n : Int)] w fun e w' =>
    ∃ v, e = .returned (.tuple #[v, .int .i64 (PLA i n).1]) ∧ w'.ownsRow w.heap.size 22 1 v (PLA i n).2.length (UCELLS (PLA i n).2) ∧ Below w.heap.size w w' := by
  unfold PLA
  split
  · refine (places_size _ _ (by omega) w).mono ?_
    rintro e w' ⟨rfl, rfl⟩
    exact ⟨_, rfl, nil_row w, Below.refl _ _⟩
  · split
    · refine (places_index _ _ (by omega) (by omega) w).mono ?_
      rintro e w' ⟨rfl, rfl⟩
      exact ⟨_, rfl, nil_row w, Below.refl _ _⟩
    · exact places_ok i n (by omega) (by omega) w hT h0
theorem ppa_ok (m n : Nat) (w : World) (hT : Tabled w) (h0 : 0 < w.heap.size) : Calls Tryd.prog 11 #[.int .u64 (m : Int), .int .u64 (n : Int)] w fun e w' =>
    ∃ v, e = .returned (.tuple #[v, .int .i64 (PPA m n).1]) ∧ w'.ownsRow w.heap.size 22 1 v (PPA m n).2.length (UCELLS (PPA m n).2) ∧ Below w.heap.size w w' := by
  unfold PPA
  split
  · refine (prefixplaces_not _ _ (by omega) w).mono ?_
    rintro e w' ⟨rfl, rfl⟩
    exact ⟨_, rfl, nil_row w, Below.refl _ _⟩
  · exact prefixplaces_ok m n (by omega) (by omega) w hT h0
/-- the bytes of a proof that needs P nodes (or none, by the error E) and has n, or what is wrong. -/
def ENCB (k E : Int) (P n X Y : Nat) (l : List Int) : Int × List Int := if E ≠ 0 then (E, []) else if n ≠ P then (70, []) else (0, k :: (SHORT X ++ SHORT Y ++ l))
/-- what Encode answers. -/
def ENC (S I n : Nat) (l : List Int) : Int × List Int := ENCB 77 (PLA I S).1 (PLA I S).2.length n S I l
/-- what EncodePrefix answers. -/
def ENX (F S n : Nat) (l : List Int) : Int × List Int := ENCB 80 (PPA F S).1 (PPA F S).2.length n F S l
theorem nil_bytes (w : World) : w.ownsRow w.heap.size 5 1 (.slice none 0 0) ([] : List Int).length (CELLS []) := World.ownsRow_nil _ _ _ _
theorem nil_bytes' (w : World) (b : Nat) : w.ownsRow b 5 1 (.slice none 0 0) ([] : List Int).length (CELLS []) := World.ownsRow_nil _ _ _ _
/-- an error and bytes of one's own are answered. -/
def ANSB (w : World) (A : Int × List Int) (e : Ending) (w' : World) : Prop := ∃ v, e = .returned (.tuple #[v, .int .i64 A.1]) ∧ w'.ownsRow w.heap.size 5 1 v A.2.length (CELLS A.2) ∧ Below w.heap.size w w'
set_option maxHeartbeats 1000000 in
theorem encode_raw (X Y E : Int) (a : Option Addr) (n c np : Nat) (P : List Nat) (L : List Int) (hnp : P.length = np) (w : World)
    (C1 : Aside (∀ W, Below w.heap.size w W → Calls Tryd.prog 10 #[.int .u64 Y, .int .u64 X] W fun e w' => ∃ v, e = .returned (.tuple #[v, .int .i64 E]) ∧ w'.ownsRow W.heap.size 22 1 v np (UCELLS P) ∧ Below W.heap.size W w'))
    (C2 : Aside (∀ W, Below w.heap.size w W → Calls Tryd.prog 52 #[.int .u8 77, .int .u64 X, .int .u64 Y, .slice a n c] W fun e w' => ∃ v, e = .returned v ∧ w'.ownsRow W.heap.size 5 1 v L.length (CELLS L) ∧ Below W.heap.size W w')) :
    Calls Tryd.prog 22 #[.agg #[.int .u64 X, .int .u64 Y, .slice a n c]] w (ANSB w (if E ≠ 0 then (E, []) else if n ≠ np then (70, []) else (0, L))) := by
  obtain ⟨A, hA⟩ : ∃ A, (if E ≠ 0 then (E, []) else if n ≠ np then (70, []) else (0, L)) = A := ⟨_, rfl⟩
  rw [hA]
  have HA : Aside ((if E ≠ 0 then (E, []) else if n ≠ np then (70, []) else (0, L)) = A) := hA
  clear hA
  obtain ⟨nl, hnl⟩ : ∃ nl, L.length = nl := ⟨_, rfl⟩
  rw [hnl] at C2
  have HN : Aside (L.length = nl) := hnl
  have HP : Aside (P.length = np) := hnp
  clear hnl hnp
  go_enter Tryd.func22, Tryd.ntmps22
  go_wp2_with fail
  have hH := Has.new w #[.int .u64 X, .int .u64 Y, .slice a n c] 37
  have hB : Aside (Below w.heap.size w (w.alloc (.cells #[.int .u64 X, .int .u64 Y, .slice a n c] 37))) := (Below.refl _ _).alloc (Nat.le_refl _) _
  refine (C1.out _ hB.out).mono ?_
  rintro e w1 ⟨v, rfl, hrow, hb⟩
  have hH := hH.keep hb
  have hz0 : w1.cell? ⟨w.heap.size, 0, none⟩ = some (.int .u64 X) := hH.cell 0
  have hz1 : w1.cell? ⟨w.heap.size, 1, none⟩ = some (.int .u64 Y) := hH.cell 1
  have hz2 : w1.cell? ⟨w.heap.size, 2, none⟩ = some (.slice a n c) := hH.cell 2
  have R : Aside (Below w.heap.size w w1) := hB.out.trans (hb.mono hB.out.size)
  obtain ⟨av, cv, rfl, _⟩ := own_slice hrow
  clear hrow hb hH hB C1
  by_cases hE : E = 0
  · subst hE
    by_cases hn : n = np
    · subst hn
      go_wp2_with fail
      refine (C2.out _ R.out).mono ?_
      rintro e w2 ⟨v, rfl, hrow, hb⟩
      have R2 : Aside (w2.ownsRow w.heap.size 5 1 v nl (CELLS L) ∧ Below w.heap.size w w2) := ⟨own_mono hrow R.out.size, R.out.trans (hb.mono R.out.size)⟩
      clear hrow hb C2 hz0 hz1 hz2 R
      go_wp2
      go_ret2
      have e : (0, L) = A := by have := HA.out; simpa using this
      rw [← e]
      refine ⟨v, rfl, ?_, R2.out.2⟩
      show w2.ownsRow w.heap.size 5 1 v L.length (CELLS L)
      rw [HN.out]
      exact R2.out.1
    · have hne : ¬ (n : Int) = (np : Int) := by omega
      have HE : Aside (¬ n = np) := hn
      clear C2 hn
      go_wp2
      go_ret2
      have e : (70, []) = A := by have := HA.out; simpa [HE.out] using this
      rw [← e]
      exact ⟨_, rfl, nil_bytes' _ _, R.out⟩
  · have HE : Aside (¬ E = 0) := hE
    have hne : ((E : Int) != 0) = true := by simp [hE]
    clear C2 hE
    go_wp2
    go_ret2
    have e : (E, []) = A := by have := HA.out; simpa [HE.out] using this
    rw [← e]
    exact ⟨_, rfl, nil_bytes' _ _, R.out⟩
theorem encode_ok (X Y : Nat) (hX : X < 2 ^ 64) (hY : Y < 2 ^ 64) (a : Option Addr) (n c : Nat) (hn : n ≤ 1000) (l : List Int) (w : World) (hF : Flat w a n l) (hT : Tabled w) (h0 : 0 < w.heap.size) :
    Calls Tryd.prog 22 #[.agg #[.int .u64 (X : Int), .int .u64 (Y : Int), .slice a n c]] w fun e w' =>
    ∃ v, e = .returned (.tuple #[v, .int .i64 (ENC X Y n l).1]) ∧ w'.ownsRow w.heap.size 5 1 v (ENC X Y n l).2.length (CELLS (ENC X Y n l).2) ∧ Below w.heap.size w w' := by
  refine (encode_raw X Y (PLA Y X).1 a n c _ (PLA Y X).2 (77 :: (SHORT X ++ SHORT Y ++ l)) rfl w (fun W h => pla_ok Y X W (hT.below h0 h) (Nat.lt_of_lt_of_le h0 h.size)) (fun W h => written_ok 77 X Y hX hY a n c hn l W (hF.below h))).mono ?_
  rintro e w' h
  exact h
set_option maxHeartbeats 1000000 in
theorem encodeprefix_raw (X Y E : Int) (a : Option Addr) (n c np : Nat) (P : List Nat) (L : List Int) (hnp : P.length = np) (w : World)
    (C1 : Aside (∀ W, Below w.heap.size w W → Calls Tryd.prog 11 #[.int .u64 X, .int .u64 Y] W fun e w' => ∃ v, e = .returned (.tuple #[v, .int .i64 E]) ∧ w'.ownsRow W.heap.size 22 1 v np (UCELLS P) ∧ Below W.heap.size W w'))
    (C2 : Aside (∀ W, Below w.heap.size w W → Calls Tryd.prog 52 #[.int .u8 80, .int .u64 X, .int .u64 Y, .slice a n c] W fun e w' => ∃ v, e = .returned v ∧ w'.ownsRow W.heap.size 5 1 v L.length (CELLS L) ∧ Below W.heap.size W w')) :
    Calls Tryd.prog 23 #[.agg #[.int .u64 X, .int .u64 Y, .slice a n c]] w (ANSB w (if E ≠ 0 then (E, []) else if n ≠ np then (70, []) else (0, L))) := by
  obtain ⟨A, hA⟩ : ∃ A, (if E ≠ 0 then (E, []) else if n ≠ np then (70, []) else (0, L)) = A := ⟨_, rfl⟩
  rw [hA]
  have HA : Aside ((if E ≠ 0 then (E, []) else if n ≠ np then (70, []) else (0, L)) = A) := hA
  clear hA
  obtain ⟨nl, hnl⟩ : ∃ nl, L.length = nl := ⟨_, rfl⟩
  rw [hnl] at C2
  have HN : Aside (L.length = nl) := hnl
  have HP : Aside (P.length = np) := hnp
  clear hnl hnp
  go_enter Tryd.func23, Tryd.ntmps23
  go_wp2_with fail
  have hH := Has.new w #[.int .u64 X, .int .u64 Y, .slice a n c] 42
  have hB : Aside (Below w.heap.size w (w.alloc (.cells #[.int .u64 X, .int .u64 Y, .slice a n c] 42))) := (Below.refl _ _).alloc (Nat.le_refl _) _
  refine (C1.out _ hB.out).mono ?_
  rintro e w1 ⟨v, rfl, hrow, hb⟩
  have hH := hH.keep hb
  have hz0 : w1.cell? ⟨w.heap.size, 0, none⟩ = some (.int .u64 X) := hH.cell 0
  have hz1 : w1.cell? ⟨w.heap.size, 1, none⟩ = some (.int .u64 Y) := hH.cell 1
  have hz2 : w1.cell? ⟨w.heap.size, 2, none⟩ = some (.slice a n c) := hH.cell 2
  have R : Aside (Below w.heap.size w w1) := hB.out.trans (hb.mono hB.out.size)
  obtain ⟨av, cv, rfl, _⟩ := own_slice hrow
  clear hrow hb hH hB C1
  by_cases hE : E = 0
  · subst hE
    by_cases hn : n = np
    · subst hn
      go_wp2_with fail
      refine (C2.out _ R.out).mono ?_
      rintro e w2 ⟨v, rfl, hrow, hb⟩
      have R2 : Aside (w2.ownsRow w.heap.size 5 1 v nl (CELLS L) ∧ Below w.heap.size w w2) := ⟨own_mono hrow R.out.size, R.out.trans (hb.mono R.out.size)⟩
      clear hrow hb C2 hz0 hz1 hz2 R
      go_wp2
      go_ret2
      have e : (0, L) = A := by have := HA.out; simpa using this
      rw [← e]
      refine ⟨v, rfl, ?_, R2.out.2⟩
      show w2.ownsRow w.heap.size 5 1 v L.length (CELLS L)
      rw [HN.out]
      exact R2.out.1
    · have hne : ¬ (n : Int) = (np : Int) := by omega
      have HE : Aside (¬ n = np) := hn
      clear C2 hn
      go_wp2
      go_ret2
      have e : (70, []) = A := by have := HA.out; simpa [HE.out] using this
      rw [← e]
      exact ⟨_, rfl, nil_bytes' _ _, R.out⟩
  · have HE : Aside (¬ E = 0) := hE
    have hne : ((E : Int) != 0) = true := by simp [hE]
    clear C2 hE
    go_wp2
    go_ret2
    have e : (E, []) = A := by have := HA.out; simpa [HE.out] using this
    rw [← e]
    exact ⟨_, rfl, nil_bytes' _ _, R.out⟩
theorem encodeprefix_ok (X Y : Nat) (hX : X < 2 ^ 64) (hY : Y < 2 ^ 64) (a : Option Addr) (n c : Nat) (hn : n ≤ 1000) (l : List Int) (w : World) (hF : Flat w a n l) (hT : Tabled w) (h0 : 0 < w.heap.size) :
    Calls Tryd.prog 23 #[.agg #[.int .u64 (X : Int), .int .u64 (Y : Int), .slice a n c]] w fun e w' =>
    ∃ v, e = .returned (.tuple #[v, .int .i64 (ENX X Y n l).1]) ∧ w'.ownsRow w.heap.size 5 1 v (ENX X Y n l).2.length (CELLS (ENX X Y n l).2) ∧ Below w.heap.size w w' := by
  refine (encodeprefix_raw X Y (PPA X Y).1 a n c _ (PPA X Y).2 (80 :: (SHORT X ++ SHORT Y ++ l)) rfl w (fun W h => ppa_ok X Y W (hT.below h0 h) (Nat.lt_of_lt_of_le h0 h.size)) (fun W h => written_ok 80 X Y hX hY a n c hn l W (hF.below h))).mono ?_
  rintro e w' h
  exact h
/-! the law's awake -/
theorem PLA_awake : PLA 1 7 = (0, [0, 5, 9, 10]) := by decide
theorem ENC_awake : ENC 1 0 0 [] = (0, [77, 1, 0]) := by decide
theorem row_at_u64 {w : World} {base : Nat} {v : Value} {l : List Nat} (h : w.ownsRow base 22 1 v l.length (UCELLS l)) (h0 : 0 < l.length) : ∃ g c, v = .slice (some ⟨g, 0, none⟩) l.length c ∧ g < w.heap.size ∧ ∀ j, j < l.length → w.cell? ⟨g, j, none⟩ = some (.int .u64 ((l.getD j 0 : Nat) : Int)) := by
  obtain ⟨a, c, e, hh⟩ := nums_own h
  obtain ⟨g, rfl, hg, hc⟩ := hh h0
  exact ⟨g, c, e, hg, hc⟩
theorem proofawake_ok (w : World) (hT : Tabled w) (h0 : 0 < w.heap.size) : Calls Tryd.prog 15 #[] w fun e w' => e = .returned (.bool true) ∧ Below w.heap.size w w' := by
  have c1 := pla_ok 1 7 w hT h0
  rw [PLA_awake] at c1
  have C2 : Aside (∀ W, Below w.heap.size w W → Calls Tryd.prog 22 #[.agg #[.int .u64 1, .int .u64 0, .slice none 0 0]] W fun e w' => ∃ v, e = .returned (.tuple #[v, .int .i64 0]) ∧ w'.ownsRow W.heap.size 5 1 v 3 (CELLS [77, 1, 0]) ∧ Below W.heap.size W w') := fun W h => by
    have := encode_ok 1 0 (by decide) (by decide) none 0 0 (by decide) [] W ⟨rfl, fun h => absurd h (by decide), by simp⟩ (hT.below h0 h) (Nat.lt_of_lt_of_le h0 h.size)
    rw [ENC_awake] at this
    exact this
  clear hT h0
  go_enter Tryd.func15, Tryd.ntmps15
  go_wp2_with fail
  refine c1.mono ?_
  rintro e w1 ⟨v, rfl, hrow, hb⟩
  clear c1
  obtain ⟨g, cg, rfl, hg, hc⟩ := row_at_u64 hrow (by decide)
  go_wp2_with fail
  refine (C2.out _ hb).mono ?_
  rintro e w2 ⟨v, rfl, hown, hb2⟩
  have hbb : Aside (Below w.heap.size w w2) := hb.trans (hb2.mono hb.size)
  have k0 : w2.cell? ⟨g, 0, none⟩ = some (.int .u64 0) := (hb2.cell (p := ⟨g, 0, none⟩) hg).trans (hc 0 (by decide))
  have k1 : w2.cell? ⟨g, 1, none⟩ = some (.int .u64 5) := (hb2.cell (p := ⟨g, 1, none⟩) hg).trans (hc 1 (by decide))
  have k2 : w2.cell? ⟨g, 2, none⟩ = some (.int .u64 9) := (hb2.cell (p := ⟨g, 2, none⟩) hg).trans (hc 2 (by decide))
  have hbx : ∃ g' c', v = .slice (some ⟨g', 0, none⟩) 3 c' ∧ w2.cell? ⟨g', 0, none⟩ = some (.int .u8 77) ∧ w2.cell? ⟨g', 1, none⟩ = some (.int .u8 1) := by
    rcases hown.2 with ⟨_, h⟩ | ⟨g', c', cur, rfl, _⟩
    · exact absurd h (by decide)
    · exact ⟨g', c', rfl, hown.cellAt 0 (by decide), hown.cellAt 1 (by decide)⟩
  obtain ⟨g', c', rfl, k3, k4⟩ := hbx
  clear hown hb2 hb hc hg hrow C2
  go_wp2
  go_ret
  exact ⟨rfl, hbb.out⟩
end Go.Proofs.YtddmfpiflnjmjaaDoor
