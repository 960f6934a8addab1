/- The walk of PosWays. -/
import Derived.Test.YtfkgbafaeljieabDoorPosPath
import Derived.Test.YtfkgbafaeljieabDoorPosAwake
namespace Go.Proofs.YtfkgbafaeljieabDoor
open Go.RowKit
set_option maxRecDepth 100000

theorem posWays_no (i n : Int) (w : World) (hn : ¬ (i < n ∧ n ≤ 4611686018427387904))
    (c1 : ∀ w, Calls Tryd.prog 20 #[.int .u64 i, .int .u64 n] w fun e w' => e = .returned (.tuple #[.slice none 0 0, .bool false]) ∧ w = w')
    (c2 : ∀ w, Calls Tryd.prog 21 #[.int .u64 i, .int .u64 n] w fun e w' => e = .returned (.tuple #[.int .i64 0, .bool false]) ∧ w = w')
    (c3 : Calls Tryd.prog 19 #[.int .u64 n] w fun e w' => (∃ v, e = .returned v) ∧ Below w.heap.size w w')
    (ca : ∀ W, Below w.heap.size w W → Calls Tryd.prog 15 #[] W fun e w' => e = .returned (.bool true) ∧ Below W.heap.size W w') :
    Calls Tryd.prog 6 #[.int .u64 i, .int .u64 n] w fun e w' => e = .returned (.bool true) ∧ Below w.heap.size w w' := by
  have CA : Aside (∀ W, Below w.heap.size w W → Calls Tryd.prog 15 #[] W fun e w' => e = .returned (.bool true) ∧ Below W.heap.size W w') := ca
  clear ca
  by_cases hd : n ≤ 4611686018427387904
  · have hi : ¬ i < n := fun h => hn ⟨h, hd⟩
    clear hn
    go_enter Tryd.func6, Tryd.ntmps6
    go_wp2_with fail
    refine (c1 _).mono ?_
    rintro e w1 ⟨rfl, rfl⟩
    clear c1
    go_wp2_with fail
    refine (c2 _).mono ?_
    rintro e w1 ⟨rfl, rfl⟩
    clear c2
    go_wp2_with fail
    refine c3.mono ?_
    rintro e w1 ⟨⟨v, rfl⟩, hb⟩
    clear c3
    have R : Aside (Below w.heap.size w w1) := hb
    clear hb
    go_wp2_with fail
    refine (CA.out _ R.out).mono ?_
    rintro e w2 ⟨rfl, hb⟩
    have R2 : Aside (Below w.heap.size w w2) := R.out.trans (hb.mono R.out.size)
    clear hb R CA
    go_wp2
    go_ret
    exact ⟨rfl, R2.out⟩
  · clear hn
    go_enter Tryd.func6, Tryd.ntmps6
    go_wp2_with fail
    refine (c1 _).mono ?_
    rintro e w1 ⟨rfl, rfl⟩
    clear c1
    go_wp2_with fail
    refine (c2 _).mono ?_
    rintro e w1 ⟨rfl, rfl⟩
    clear c2
    go_wp2_with fail
    refine c3.mono ?_
    rintro e w1 ⟨⟨v, rfl⟩, hb⟩
    clear c3
    have R : Aside (Below w.heap.size w w1) := hb
    clear hb
    go_wp2_with fail
    refine (CA.out _ R.out).mono ?_
    rintro e w2 ⟨rfl, hb⟩
    have R2 : Aside (Below w.heap.size w w2) := R.out.trans (hb.mono R.out.size)
    clear hb R CA
    go_wp2
    go_ret
    exact ⟨rfl, R2.out⟩

theorem posWays_yes (i n H K L : Nat) (f s : Nat → Nat) (a b : Int) (w : World) (hi : (i : Int) < (n : Int)) (hn : (n : Int) ≤ 4611686018427387904) (hK : (K : Int) < (L : Int)) (ha : a ≤ (i : Int)) (hb : (i : Int) < b) (HH : Aside (H ≤ 62))
    (hne : ∀ x, x < H → f x ≠ f H)
    (c1 : Calls Tryd.prog 20 #[.int .u64 (i : Int), .int .u64 (n : Int)] w fun e w' => ∃ g cap, e = .returned (.tuple #[.slice (some ⟨g, 0, none⟩) H cap, .bool true]) ∧ (∀ x, x < H → w'.cell? ⟨g, x, none⟩ = some (.int .u64 (s x : Nat))) ∧ g < w'.heap.size ∧ Below w.heap.size w w')
    (c2 : ∀ w, Calls Tryd.prog 21 #[.int .u64 (i : Int), .int .u64 (n : Int)] w fun e w' => e = .returned (.tuple #[.int .i64 (K : Int), .bool true]) ∧ w = w')
    (c3 : ∀ W, Below w.heap.size w W → Calls Tryd.prog 19 #[.int .u64 (n : Int)] W fun e w' => ∃ g cap, e = .returned (.slice (some ⟨g, 0, none⟩) L cap) ∧ w'.cell? ⟨g, K, none⟩ = some (.int .u64 (f H : Nat)) ∧ g < w'.heap.size ∧ Below W.heap.size W w')
    (c4 : ∀ w, Calls Tryd.prog 22 #[.int .u64 (i : Int)] w fun e w' => e = .returned (.tuple #[.int .u64 (f 0 : Nat), .bool true]) ∧ w = w')
    (c5 : ∀ x, x < H → ∀ w, Calls Tryd.prog 16 #[.int .u64 (f x : Nat)] w fun e w' => e = .returned (.tuple #[.int .u64 (s x : Nat), .bool true]) ∧ Below w.heap.size w w')
    (c6 : ∀ x, x < H → ∀ w, Calls Tryd.prog 14 #[.int .u64 (f x : Nat)] w fun e w' => e = .returned (.tuple #[.int .u64 (f (x + 1) : Nat), .bool true]) ∧ Below w.heap.size w w')
    (c7 : ∀ w, Calls Tryd.prog 17 #[.int .u64 (f H : Nat)] w fun e w' => e = .returned (.tuple #[.int .u64 a, .int .u64 b, .bool true]) ∧ Below w.heap.size w w')
    (ca : ∀ W, Below w.heap.size w W → Calls Tryd.prog 15 #[] W fun e w' => e = .returned (.bool true) ∧ Below W.heap.size W w') :
    Calls Tryd.prog 6 #[.int .u64 (i : Int), .int .u64 (n : Int)] w fun e w' => e = .returned (.bool true) ∧ Below w.heap.size w w' := by
  have CA : Aside (∀ W, Below w.heap.size w W → Calls Tryd.prog 15 #[] W fun e w' => e = .returned (.bool true) ∧ Below W.heap.size W w') := ca
  have C3 : Aside (∀ W, Below w.heap.size w W → Calls Tryd.prog 19 #[.int .u64 (n : Int)] W fun e w' => ∃ g cap, e = .returned (.slice (some ⟨g, 0, none⟩) L cap) ∧ w'.cell? ⟨g, K, none⟩ = some (.int .u64 (f H : Nat)) ∧ g < w'.heap.size ∧ Below W.heap.size W w') := c3
  have C5 : Aside (∀ x, x < H → ∀ w, Calls Tryd.prog 16 #[.int .u64 (f x : Nat)] w fun e w' => e = .returned (.tuple #[.int .u64 (s x : Nat), .bool true]) ∧ Below w.heap.size w w') := c5
  have C6 : Aside (∀ x, x < H → ∀ w, Calls Tryd.prog 14 #[.int .u64 (f x : Nat)] w fun e w' => e = .returned (.tuple #[.int .u64 (f (x + 1) : Nat), .bool true]) ∧ Below w.heap.size w w') := c6
  have HN : Aside (∀ x, x < H → f x ≠ f H) := hne
  clear ca c3 c5 c6 hne
  have hK0 : ¬ (K : Int) < 0 := by omega
  have hK1 : ¬ (L : Int) ≤ (K : Int) := by omega
  go_enter Tryd.func6, Tryd.ntmps6
  go_wp2_with fail
  refine c1.mono ?_
  rintro e w1 ⟨g, cap, rfl, hc, hg, hbl⟩
  have R1 : Aside (Below w.heap.size w w1 ∧ (∀ x, x < H → w1.cell? ⟨g, x, none⟩ = some (.int .u64 (s x : Nat))) ∧ g < w1.heap.size) := ⟨hbl, hc, hg⟩
  clear hc hg hbl c1
  go_wp2_with fail
  refine (c2 _).mono ?_
  rintro e w2 ⟨rfl, rfl⟩
  clear c2
  go_wp2_with fail
  refine (C3.out _ R1.out.1).mono ?_
  rintro e w2 ⟨g2, cap2, rfl, hc, hg, hbl⟩
  have R2 : Aside (Below w.heap.size w w2 ∧ (∀ x, x < H → w2.cell? ⟨g, x, none⟩ = some (.int .u64 (s x : Nat))) ∧ g < w2.heap.size ∧ w2.cell? ⟨g2, K, none⟩ = some (.int .u64 (f H : Nat)) ∧ g2 < w2.heap.size) :=
    ⟨R1.out.1.trans (hbl.mono R1.out.1.size), fun x hx => (hbl.cell (p := ⟨g, x, none⟩) R1.out.2.2).trans (R1.out.2.1 x hx), Nat.lt_of_lt_of_le R1.out.2.2 hbl.size, hc, hg⟩
  clear hc hg hbl C3 R1
  go_wp2_with fail
  refine (c4 _).mono ?_
  rintro e w3 ⟨rfl, rfl⟩
  clear c4
  go_wp2
  go_loopg [10, 12] H (fun q s10 s12 wx => ∃ x : Nat, s10 = .int .u64 (f x : Nat) ∧ s12 = .int .i64 (x : Int) ∧ Aside (x + q = H ∧ Below w2.heap.size w2 wx))
  case atStart => exact ⟨0, rfl, rfl, by omega, Below.refl _ _⟩
  case round =>
    obtain ⟨x, rfl, rfl, A⟩ := hrel
    cases gk with
    | zero =>
      obtain rfl : x = H := by have := A.out.1; omega
      have hlt : ¬ (x : Int) < (x : Int) := by omega
      have h2 : wr.cell? ⟨g2, K, none⟩ = some (.int .u64 (f x : Nat)) := (A.out.2.cell (p := ⟨g2, K, none⟩) R2.out.2.2.2.2).trans R2.out.2.2.2.1
      have R3 : Aside (Below w.heap.size w wr ∧ g2 < wr.heap.size) := ⟨R2.out.1.trans (A.out.2.mono R2.out.1.size), Nat.lt_of_lt_of_le R2.out.2.2.2.2 A.out.2.size⟩
      clear R2 A HN C5 C6 HH
      generalize f x = v at *
      go_wp2_with fail
      refine (c7 _).mono ?_
      rintro e w4 ⟨rfl, hbl⟩
      have h3 := (hbl.cell (p := ⟨g2, K, none⟩) R3.out.2).trans h2
      have R4 : Aside (Below w.heap.size w w4 ∧ g2 < w4.heap.size) := ⟨R3.out.1.trans (hbl.mono R3.out.1.size), Nat.lt_of_lt_of_le R3.out.2 hbl.size⟩
      clear c7 hbl R3 h2
      go_wp2_with fail
      refine (CA.out _ R4.out.1).mono ?_
      rintro e w5 ⟨rfl, hbl⟩
      have R5 : Aside (Below w.heap.size w w5) := R4.out.1.trans (hbl.mono R4.out.1.size)
      clear hbl R4 CA h3
      go_wp2
      go_ret
      exact ⟨rfl, R5.out⟩
    | succ q =>
      have hxH : x < H := by have := A.out.1; omega
      have hlt : (x : Int) < (H : Int) := by omega
      have h1 : wr.cell? ⟨g, x, none⟩ = some (.int .u64 (s x : Nat)) := (A.out.2.cell (p := ⟨g, x, none⟩) R2.out.2.2.1).trans (R2.out.2.1 x hxH)
      have h2 : wr.cell? ⟨g2, K, none⟩ = some (.int .u64 (f H : Nat)) := (A.out.2.cell (p := ⟨g2, K, none⟩) R2.out.2.2.2.2).trans R2.out.2.2.2.1
      have hx0 : ¬ (x : Int) < 0 := by omega
      have cs := C5.out x hxH
      have cp := C6.out x hxH
      have hv : (((f x : Nat) : Int) == ((f H : Nat) : Int)) = false := by have := HN.out x hxH; simp; omega
      have e1 : wrap64 ((x : Int) + 1) = ((x + 1 : Nat) : Int) := by have := HH.out; unfold wrap64; omega
      have B : Aside (x + 1 + q = H ∧ Below w2.heap.size w2 wr ∧ g < wr.heap.size ∧ g2 < wr.heap.size) := ⟨by have := A.out.1; omega, A.out.2, Nat.lt_of_lt_of_le R2.out.2.2.1 A.out.2.size, Nat.lt_of_lt_of_le R2.out.2.2.2.2 A.out.2.size⟩
      clear R2 A HN C5 C6 HH CA c7 hxH
      generalize f x = v at *
      generalize f H = v2 at *
      generalize s x = v3 at *
      go_wp2_with fail
      refine (cs _).mono ?_
      rintro e w4 ⟨rfl, hbl⟩
      replace h1 := (hbl.cell (p := ⟨g, x, none⟩) B.out.2.2.1).trans h1
      replace h2 := (hbl.cell (p := ⟨g2, K, none⟩) B.out.2.2.2).trans h2
      replace B : Aside (x + 1 + q = H ∧ Below w2.heap.size w2 w4 ∧ g < w4.heap.size ∧ g2 < w4.heap.size) := ⟨B.out.1, B.out.2.1.trans (hbl.mono B.out.2.1.size), Nat.lt_of_lt_of_le B.out.2.2.1 hbl.size, Nat.lt_of_lt_of_le B.out.2.2.2 hbl.size⟩
      clear cs hbl
      go_wp2_with fail
      refine (cp _).mono ?_
      rintro e w5 ⟨rfl, hbl⟩
      replace h1 := (hbl.cell (p := ⟨g, x, none⟩) B.out.2.2.1).trans h1
      replace h2 := (hbl.cell (p := ⟨g2, K, none⟩) B.out.2.2.2).trans h2
      replace B : Aside (x + 1 + q = H ∧ Below w2.heap.size w2 w5) := ⟨B.out.1, B.out.2.1.trans (hbl.mono B.out.2.1.size)⟩
      clear cp hbl
      go_wp2
      go_roundg q
      case measure => omega
      case rel => exact ⟨x + 1, rfl, by rw [e1], B.out⟩
theorem posWays_walk (a0 a1 : Int) (w0 : (Lit.int .u64 a0).wf = true) (w1 : (Lit.int .u64 a1).wf = true) (w : World) (hT : Tabled w) (h0 : 0 < w.heap.size) :
    Calls Tryd.prog 6 #[.int .u64 a0, .int .u64 a1] w fun e w' => e = .returned (.bool true) ∧ Below w.heap.size w w' := by
  have b0 := wf_u64 w0
  have b1 := wf_u64 w1
  obtain ⟨i, rfl⟩ : ∃ X : Nat, a0 = (X : Int) := ⟨a0.toNat, by omega⟩
  obtain ⟨n, rfl⟩ : ∃ X : Nat, a1 = (X : Int) := ⟨a1.toNat, by omega⟩
  have ca : ∀ W, Below w.heap.size w W → Calls Tryd.prog 15 #[] W fun e w' => e = .returned (.bool true) ∧ Below W.heap.size W w' := fun W hW => awake_ok W (hT.below h0 hW) (Nat.lt_of_lt_of_le h0 hW.size)
  by_cases hh : i < n ∧ n ≤ 4611686018427387904
  · obtain ⟨hi, hn⟩ := hh
    obtain ⟨_, h62, hb1, hq1, hq2⟩ := RISE_spec hi hn
    have hlt : i < 4611686018427387904 := by omega
    have hNH := Node.over hlt (RISE i n) h62
    have hK := KTH_lt hi hn
    have hdv := Nat.div_add_mod i (2 ^ RISE i n)
    have hml := Nat.mod_lt i (Nat.two_pow_pos (RISE i n))
    refine posWays_yes i n (RISE i n) (KTH i n) (PC n) (fun x => PLC x (i / 2 ^ x)) (fun x => PLC x (SIB (i / 2 ^ x))) ((i / 2 ^ RISE i n * 2 ^ RISE i n : Nat) : Int) (((i / 2 ^ RISE i n + 1) * 2 ^ RISE i n : Nat) : Int) w (by omega) (by omega) (by omega) ?_ ?_ h62 ?_ ?_ (fun w => peak_ok i n hi hn w) ?_ ?_ ?_ ?_ (fun w => under_ok _ _ hNH w) ca
    · rw [Nat.mul_comm] at hdv
      omega
    · rw [Nat.mul_comm] at hdv
      rw [Nat.add_mul, Nat.one_mul]
      omega
    · intro x hx he
      have := (Node.over hlt x (by omega)).one hNH he
      omega
    · refine (path_ok i n hi hn w).mono ?_
      rintro e w' ⟨g, cap, rfl, hr, hg, hb⟩
      refine ⟨g, cap, rfl, fun x hx => ?_, hg, hb⟩
      have := row_at hr x (by rw [WAY_length]; exact hx)
      rw [this]
      simp [WAY, hx]
    · intro W hW
      refine (peaks_ok n hn W (hT.below h0 hW) (Nat.lt_of_lt_of_le h0 hW.size)).mono ?_
      rintro e w' ⟨g, cap, rfl, hr, hb⟩
      have hk := KTH_at hi hn
      have hc := row_at hr (KTH i n) (by rw [PEAKS_length (by omega)]; exact hK)
      refine ⟨g, cap, rfl, ?_, World.block_lt_of_cell? _ _ hc, hb⟩
      rw [hc]
      unfold PEAKS
      rw [List.getD_eq_getElem?_getD, List.getElem?_map, hk]
      simp only [Option.map_some, Option.getD_some, PKP]
      rw [hq2]
    · intro w
      have := leaf_ok i hlt w
      rw [Nat.pow_zero, Nat.div_one, PLC_leaf]
      exact this
    · exact fun x hx w => sibling_ok x _ (Node.over hlt x (by omega)) (by omega) w
    · intro x hx w
      have := parent_ok x _ (Node.over hlt x (by omega)) (by omega) w
      rw [← half_pow] at this
      exact this
  · have hh' : ¬ ((i : Int) < (n : Int) ∧ (n : Int) ≤ 4611686018427387904) := by omega
    refine posWays_no _ _ w hh' (fun w => path_not _ _ hh' w) (fun w => peak_not _ _ hh' w) ?_ ca
    rcases Nat.lt_or_ge 4611686018427387904 n with h | h
    · refine (peaks_not n (by omega) w).mono ?_
      rintro e w' ⟨rfl, rfl⟩
      exact ⟨⟨_, rfl⟩, Below.refl _ _⟩
    · refine (peaks_ok n h w hT h0).mono ?_
      rintro e w' ⟨g, cap, rfl, _, hb⟩
      exact ⟨⟨_, rfl⟩, hb⟩
end Go.Proofs.YtfkgbafaeljieabDoor
