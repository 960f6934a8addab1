/- The walk of PosCovers. -/
import Derived.Test.YtfkgbafaeljieabDoorPosCoversPlain
import Derived.Test.YtfkgbafaeljieabDoorPosAwake
namespace Go.Proofs.YtfkgbafaeljieabDoor
open Go.RowKit
set_option maxRecDepth 100000

theorem posCovers_no (n : Int) (w : World) (hn : 4611686018427387904 < n)
    (c1 : ∀ w, Calls Tryd.prog 19 #[.int .u64 n] w fun e w' => e = .returned (.slice none 0 0) ∧ w = w')
    (c2 : ∀ w, Calls Tryd.prog 7 #[.int .u64 n] w fun e w' => e = .returned (.tuple #[.int .u64 0, .bool false]) ∧ w = w')
    (ca : ∀ W, Below w.heap.size w W → Calls Tryd.prog 15 #[] W fun e w' => e = .returned (.bool true) ∧ Below W.heap.size W w') :
    Calls Tryd.prog 5 #[.int .u64 n] w fun e w' => e = .returned (.bool true) ∧ Below w.heap.size w w' := by
  have CA : Calls Tryd.prog 15 #[] w fun e w' => e = .returned (.bool true) ∧ Below w.heap.size w w' := ca w (Below.refl _ _)
  clear ca
  go_enter Tryd.func5, Tryd.ntmps5
  go_wp2_with fail
  refine (c1 _).mono ?_
  rintro e w1 ⟨rfl, rfl⟩
  clear c1
  go_wp2_with fail
  refine (c2 _).mono ?_
  rintro e w1 ⟨rfl, rfl⟩
  clear c2
  go_wp2_with fail
  refine CA.mono ?_
  rintro e w2 ⟨rfl, hb⟩
  have R2 : Aside (Below w.heap.size w w2) := hb
  clear hb CA
  go_wp2
  go_ret
  exact ⟨rfl, R2.out⟩

set_option maxHeartbeats 2000000 in
theorem posCovers_yes (n P Z : Nat) (f at' hh kk : Nat → Nat) (u : Nat → Int) (has : Nat → Bool) (w : World) (hn : (n : Int) ≤ 4611686018427387904) (HP : Aside (PC n = P ∧ P ≤ 64 ∧ n ≤ 4611686018427387904)) (HZ : Aside (Z < 2 ^ 64))
    (ha0 : at' 0 = 0) (haP : at' P = n) (hfZ : ∀ i, i < P → f i < Z) (hfl : ∀ i, i + 1 < P → hh (i + 1) < hh i) (hup : ∀ i, i < P → has i = true → ¬ u i < (Z : Int)) (hla : ∀ i, i + 1 = P → f i + 1 = Z)
    (c1 : Calls Tryd.prog 19 #[.int .u64 (n : Int)] w fun e w' => ∃ g cap, e = .returned (.slice (some ⟨g, 0, none⟩) P cap) ∧ (∀ x, x < P → w'.cell? ⟨g, x, none⟩ = some (.int .u64 (f x : Nat))) ∧ (0 < P → g < w'.heap.size) ∧ Below w.heap.size w w')
    (c2 : ∀ w, Calls Tryd.prog 7 #[.int .u64 (n : Int)] w fun e w' => e = .returned (.tuple #[.int .u64 (Z : Int), .bool true]) ∧ w = w')
    (c3 : ∀ x, x < P → ∀ w, Calls Tryd.prog 17 #[.int .u64 (f x : Nat)] w fun e w' => e = .returned (.tuple #[.int .u64 (at' x : Nat), .int .u64 (at' (x + 1) : Nat), .bool true]) ∧ Below w.heap.size w w')
    (c4 : ∀ x, x < P → ∀ w, Calls Tryd.prog 9 #[.int .u64 (f x : Nat)] w fun e w' => e = .returned (.tuple #[SPOT (hh x) (kk x), .bool true]) ∧ Below w.heap.size w w')
    (c5 : ∀ x, x < P → ∀ w, Calls Tryd.prog 14 #[.int .u64 (f x : Nat)] w fun e w' => e = .returned (.tuple #[.int .u64 (u x), .bool (has x)]) ∧ Below w.heap.size w w')
    (ca : ∀ W, Below w.heap.size w W → Calls Tryd.prog 15 #[] W fun e w' => e = .returned (.bool true) ∧ Below W.heap.size W w') :
    Calls Tryd.prog 5 #[.int .u64 (n : Int)] w fun e w' => e = .returned (.bool true) ∧ Below w.heap.size w w' := by
  have CA : Aside (∀ W, Below w.heap.size w W → Calls Tryd.prog 15 #[] W fun e w' => e = .returned (.bool true) ∧ Below W.heap.size W w') := ca
  have C3 : Aside (∀ x, x < P → ∀ w, Calls Tryd.prog 17 #[.int .u64 (f x : Nat)] w fun e w' => e = .returned (.tuple #[.int .u64 (at' x : Nat), .int .u64 (at' (x + 1) : Nat), .bool true]) ∧ Below w.heap.size w w') := c3
  have C4 : Aside (∀ x, x < P → ∀ w, Calls Tryd.prog 9 #[.int .u64 (f x : Nat)] w fun e w' => e = .returned (.tuple #[SPOT (hh x) (kk x), .bool true]) ∧ Below w.heap.size w w') := c4
  have C5 : Aside (∀ x, x < P → ∀ w, Calls Tryd.prog 14 #[.int .u64 (f x : Nat)] w fun e w' => e = .returned (.tuple #[.int .u64 (u x), .bool (has x)]) ∧ Below w.heap.size w w') := c5
  have HF : Aside (at' 0 = 0 ∧ at' P = n ∧ (∀ i, i < P → f i < Z) ∧ (∀ i, i + 1 < P → hh (i + 1) < hh i) ∧ (∀ i, i < P → has i = true → ¬ u i < (Z : Int)) ∧ (∀ i, i + 1 = P → f i + 1 = Z)) := ⟨ha0, haP, hfZ, hfl, hup, hla⟩
  clear ca c3 c4 c5 ha0 haP hfZ hfl hup hla
  go_enter Tryd.func5, Tryd.ntmps5
  go_wp2_with fail
  refine c1.mono ?_
  rintro e w1 ⟨g, cap, rfl, hc, hg, hbl⟩
  have R1 : Aside (Below w.heap.size w w1 ∧ (∀ x, x < P → w1.cell? ⟨g, x, none⟩ = some (.int .u64 (f x : Nat))) ∧ (0 < P → g < w1.heap.size)) := ⟨hbl, hc, hg⟩
  clear hc hg hbl c1
  go_wp2_with fail
  refine (c2 _).mono ?_
  rintro e w2 ⟨rfl, rfl⟩
  clear c2
  go_wp2
  go_loopg [7, 8] n (fun q s7 s8 wx => ∃ b : Nat, s7 = .int .i64 (b : Int) ∧ s8 = .int .u64 (q : Int) ∧ Aside (b + PC q = P ∧ q ≤ n) ∧ wx = w1)
  case atStart => exact ⟨0, rfl, rfl, ⟨by have := HP.out.1; omega, Nat.le_refl _⟩, rfl⟩
  case round =>
    obtain ⟨b, rfl, rfl, A, hw⟩ := hrel
    subst hw
    cases gk with
    | zero =>
      obtain rfl : b = P := by have := A.out.1; rw [PC_zero] at this; omega
      clear A
      go_wp2
      generalize hw1 : wr = wr0 at *
      clear hw1
      go_loopg [6, 9] b (fun q s6 s9 wx => ∃ x : Nat, s6 = .int .u64 (at' x : Nat) ∧ s9 = .int .i64 (x : Int) ∧ Aside (x + q = b ∧ Below wr0.heap.size wr0 wx))
      case atStart => exact ⟨0, by rw [HF.out.1]; rfl, rfl, by omega, Below.refl _ _⟩
      case round =>
        obtain ⟨x, rfl, rfl, A⟩ := hrel
        cases gk with
        | zero =>
          obtain rfl : x = b := by have := A.out.1; omega
          have hlt : ¬ (x : Int) < (x : Int) := by omega
          have hat : at' x = n := HF.out.2.1
          have AW : Aside (Below w.heap.size w wr) := R1.out.1.trans (A.out.2.mono R1.out.1.size)
          cases hz : ((n : Int) == 0) with
          | true =>
            clear A HF C3 C4 C5 R1 HP hn
            go_wp2_with fail
            refine (CA.out _ AW.out).mono ?_
            rintro e w3 ⟨rfl, hbl⟩
            have R3 : Aside (Below w.heap.size w w3) := AW.out.trans (hbl.mono AW.out.size)
            clear hbl AW CA
            go_wp2
            go_ret
            exact ⟨rfl, R3.out⟩
          | false =>
            have hx0 : 0 < x := by
              have hz' : n ≠ 0 := by simpa using hz
              rcases Nat.eq_zero_or_pos x with h | h
              · exact absurd (PC_eq_zero (HP.out.1.trans h)) hz'
              · exact h
            obtain ⟨j, hj⟩ : ∃ j, x = j + 1 := ⟨x - 1, by omega⟩
            have hjx : wrap64 (j : Int) = (j : Int) := by have := HP.out; unfold wrap64; omega
            have hjx' : (x : Int) - 1 = (j : Int) := by omega
            have hjl : (j : Int) < (x : Int) := by omega
            have hj0 : ¬ (j : Int) < 0 := by omega
            have h2 : wr.cell? ⟨g, j, none⟩ = some (.int .u64 (f j : Nat)) := (A.out.2.cell (p := ⟨g, j, none⟩) (R1.out.2.2 hx0)).trans (R1.out.2.1 j (by omega))
            have hZ : IntKind.u64.wrap ((Z : Int) - 1) = ((f j : Nat) : Int) := by
              have h1 := HF.out.2.2.2.2.2 j hj.symm
              have h3 := HZ.out
              rw [wrapU]
              omega
            clear A HF C3 C4 C5 R1 HP hn hx0 hj HZ
            generalize f j = v at *
            go_wp2_with fail
            refine (CA.out _ AW.out).mono ?_
            rintro e w3 ⟨rfl, hbl⟩
            have R3 : Aside (Below w.heap.size w w3) := AW.out.trans (hbl.mono AW.out.size)
            clear hbl AW CA
            go_wp2
            go_ret
            exact ⟨rfl, R3.out⟩
        | succ q =>
          have hxH : x < b := by have := A.out.1; omega
          have hlt : (x : Int) < (b : Int) := by omega
          have hx0 : ¬ (x : Int) < 0 := by omega
          have hgw := R1.out.2.2 (by omega)
          have h1 : wr.cell? ⟨g, x, none⟩ = some (.int .u64 (f x : Nat)) := (A.out.2.cell (p := ⟨g, x, none⟩) hgw).trans (R1.out.2.1 x hxH)
          have cu := C3.out x hxH
          have cs := C4.out x hxH
          have cp := C5.out x hxH
          have hZ : ¬ (Z : Int) ≤ ((f x : Nat) : Int) := by have := HF.out.2.2.1 x hxH; omega
          have e1 : wrap64 ((x : Int) + 1) = ((x + 1 : Nat) : Int) := by have := HP.out; unfold wrap64; omega
          have hU := HF.out.2.2.2.2.1 x hxH
          have B : Aside (x + 1 + q = b ∧ Below wr0.heap.size wr0 wr ∧ g < wr.heap.size) := ⟨by have := A.out.1; omega, A.out.2, Nat.lt_of_lt_of_le hgw A.out.2.size⟩
          rcases Nat.eq_zero_or_pos x with hxz | hxz
          · have hx1 : ¬ (0 : Int) < (x : Int) := by omega
            clear A CA hn hxz hgw C3 C4 C5 HF R1
            generalize f x = v at *
            generalize has x = hs at *
            generalize u x = uu at *
            generalize hh x = v1 at *
            generalize kk x = v2 at *
            go_wp2_with fail
            refine (cu _).mono ?_
            rintro e w3 ⟨rfl, hbl⟩
            replace h1 := (hbl.cell (p := ⟨g, x, none⟩) B.out.2.2).trans h1
            replace B : Aside (x + 1 + q = b ∧ Below wr0.heap.size wr0 w3 ∧ g < w3.heap.size) := ⟨B.out.1, B.out.2.1.trans (hbl.mono B.out.2.1.size), Nat.lt_of_lt_of_le B.out.2.2 hbl.size⟩
            clear cu hbl
            go_wp2_with fail
            refine (cs _).mono ?_
            rintro e w4 ⟨rfl, hbl⟩
            replace h1 := (hbl.cell (p := ⟨g, x, none⟩) B.out.2.2).trans h1
            replace B : Aside (x + 1 + q = b ∧ Below wr0.heap.size wr0 w4 ∧ g < w4.heap.size) := ⟨B.out.1, B.out.2.1.trans (hbl.mono B.out.2.1.size), Nat.lt_of_lt_of_le B.out.2.2 hbl.size⟩
            clear cs hbl
            have hbl : Below w4.heap.size w4 (w4.alloc (.cells #[.int .u8 (v1 : Int), .int .u64 (v2 : Int)] 26)) := (Below.refl _ _).alloc (Nat.le_refl _) _
            have hz : w4.heap.size < (w4.alloc (.cells #[.int .u8 (v1 : Int), .int .u64 (v2 : Int)] 26)).heap.size := by simp
            replace h1 := (hbl.cell (p := ⟨g, x, none⟩) B.out.2.2).trans h1
            have y0 : (w4.alloc (.cells #[.int .u8 (v1 : Int), .int .u64 (v2 : Int)] 26)).cell? ⟨w4.heap.size, 0, none⟩ = some (.int .u8 (v1 : Int)) := by simp
            replace B : Aside (x + 1 + q = b ∧ Below wr0.heap.size wr0 (w4.alloc (.cells #[.int .u8 (v1 : Int), .int .u64 (v2 : Int)] 26)) ∧ g < (w4.alloc (.cells #[.int .u8 (v1 : Int), .int .u64 (v2 : Int)] 26)).heap.size ∧ w4.heap.size < (w4.alloc (.cells #[.int .u8 (v1 : Int), .int .u64 (v2 : Int)] 26)).heap.size) := ⟨B.out.1, B.out.2.1.trans (hbl.mono B.out.2.1.size), Nat.lt_of_lt_of_le B.out.2.2 hbl.size, hz⟩
            clear hbl hz
            go_wp2_with fail
            generalize w4.alloc (.cells #[.int .u8 (v1 : Int), .int .u64 (v2 : Int)] 26) = w5 at *
            generalize w4.heap.size = ba at *
            refine (cp _).mono ?_
            rintro e w6 ⟨rfl, hbl⟩
            replace B : Aside (x + 1 + q = b ∧ Below wr0.heap.size wr0 w6 ∧ g < w6.heap.size ∧ ba < w6.heap.size) := ⟨B.out.1, B.out.2.1.trans (hbl.mono B.out.2.1.size), Nat.lt_of_lt_of_le B.out.2.2.1 hbl.size, Nat.lt_of_lt_of_le B.out.2.2.2 hbl.size⟩
            clear cp hbl
            cases hs with
            | true =>
              have hU' := hU rfl
              clear hU
              go_wp2
              go_roundg q
              case measure => omega
              case rel => exact ⟨x + 1, rfl, by first | rfl | (rw [e1]), B.out.1, B.out.2.1⟩
            | false =>
              clear hU
              go_wp2
              go_roundg q
              case measure => omega
              case rel => exact ⟨x + 1, rfl, by first | rfl | (rw [e1]), B.out.1, B.out.2.1⟩
          · have hx1 : (0 : Int) < (x : Int) := by omega
            obtain ⟨j, hj⟩ : ∃ j, x = j + 1 := ⟨x - 1, by omega⟩
            have hjx : wrap64 (j : Int) = (j : Int) := by have := HP.out; unfold wrap64; omega
            have hjx' : (x : Int) - 1 = (j : Int) := by omega
            have hjl : (j : Int) < (b : Int) := by omega
            have hj0 : ¬ (j : Int) < 0 := by omega
            have h2 : wr.cell? ⟨g, j, none⟩ = some (.int .u64 (f j : Nat)) := (A.out.2.cell (p := ⟨g, j, none⟩) hgw).trans (R1.out.2.1 j (by omega))
            have ct := C4.out j (by omega)
            have hF : ¬ ((hh j : Nat) : Int) ≤ ((hh x : Nat) : Int) := by have := HF.out.2.2.2.1 j (by omega); rw [← hj] at this; omega
            clear A CA hn hxz hgw C3 C4 C5 HF R1 hj
            generalize f x = v at *
            generalize has x = hs at *
            generalize u x = uu at *
            generalize hh x = v1 at *
            generalize kk x = v2 at *
            generalize f j = v5 at *
            generalize hh j = v3 at *
            generalize kk j = v4 at *
            go_wp2_with fail
            refine (cu _).mono ?_
            rintro e w3 ⟨rfl, hbl⟩
            replace h1 := (hbl.cell (p := ⟨g, x, none⟩) B.out.2.2).trans h1
            replace h2 := (hbl.cell (p := ⟨g, j, none⟩) B.out.2.2).trans h2
            replace B : Aside (x + 1 + q = b ∧ Below wr0.heap.size wr0 w3 ∧ g < w3.heap.size) := ⟨B.out.1, B.out.2.1.trans (hbl.mono B.out.2.1.size), Nat.lt_of_lt_of_le B.out.2.2 hbl.size⟩
            clear cu hbl
            go_wp2_with fail
            refine (cs _).mono ?_
            rintro e w4 ⟨rfl, hbl⟩
            replace h1 := (hbl.cell (p := ⟨g, x, none⟩) B.out.2.2).trans h1
            replace h2 := (hbl.cell (p := ⟨g, j, none⟩) B.out.2.2).trans h2
            replace B : Aside (x + 1 + q = b ∧ Below wr0.heap.size wr0 w4 ∧ g < w4.heap.size) := ⟨B.out.1, B.out.2.1.trans (hbl.mono B.out.2.1.size), Nat.lt_of_lt_of_le B.out.2.2 hbl.size⟩
            clear cs hbl
            have hbl : Below w4.heap.size w4 (w4.alloc (.cells #[.int .u8 (v1 : Int), .int .u64 (v2 : Int)] 26)) := (Below.refl _ _).alloc (Nat.le_refl _) _
            have hz : w4.heap.size < (w4.alloc (.cells #[.int .u8 (v1 : Int), .int .u64 (v2 : Int)] 26)).heap.size := by simp
            replace h1 := (hbl.cell (p := ⟨g, x, none⟩) B.out.2.2).trans h1
            replace h2 := (hbl.cell (p := ⟨g, j, none⟩) B.out.2.2).trans h2
            have y0 : (w4.alloc (.cells #[.int .u8 (v1 : Int), .int .u64 (v2 : Int)] 26)).cell? ⟨w4.heap.size, 0, none⟩ = some (.int .u8 (v1 : Int)) := by simp
            replace B : Aside (x + 1 + q = b ∧ Below wr0.heap.size wr0 (w4.alloc (.cells #[.int .u8 (v1 : Int), .int .u64 (v2 : Int)] 26)) ∧ g < (w4.alloc (.cells #[.int .u8 (v1 : Int), .int .u64 (v2 : Int)] 26)).heap.size ∧ w4.heap.size < (w4.alloc (.cells #[.int .u8 (v1 : Int), .int .u64 (v2 : Int)] 26)).heap.size) := ⟨B.out.1, B.out.2.1.trans (hbl.mono B.out.2.1.size), Nat.lt_of_lt_of_le B.out.2.2 hbl.size, hz⟩
            clear hbl hz
            go_wp2_with fail
            generalize w4.alloc (.cells #[.int .u8 (v1 : Int), .int .u64 (v2 : Int)] 26) = w5 at *
            generalize w4.heap.size = ba at *
            refine (ct _).mono ?_
            rintro e w6 ⟨rfl, hbl⟩
            replace h1 := (hbl.cell (p := ⟨g, x, none⟩) B.out.2.2.1).trans h1
            replace y0 := (hbl.cell (p := ⟨ba, 0, none⟩) B.out.2.2.2).trans y0
            replace B : Aside (x + 1 + q = b ∧ Below wr0.heap.size wr0 w6 ∧ g < w6.heap.size ∧ ba < w6.heap.size) := ⟨B.out.1, B.out.2.1.trans (hbl.mono B.out.2.1.size), Nat.lt_of_lt_of_le B.out.2.2.1 hbl.size, Nat.lt_of_lt_of_le B.out.2.2.2 hbl.size⟩
            clear ct hbl
            have hbl : Below w6.heap.size w6 (w6.alloc (.cells #[.int .u8 (v3 : Int), .int .u64 (v4 : Int)] 26)) := (Below.refl _ _).alloc (Nat.le_refl _) _
            have hz : w6.heap.size < (w6.alloc (.cells #[.int .u8 (v3 : Int), .int .u64 (v4 : Int)] 26)).heap.size := by simp
            replace h1 := (hbl.cell (p := ⟨g, x, none⟩) B.out.2.2.1).trans h1
            replace y0 := (hbl.cell (p := ⟨ba, 0, none⟩) B.out.2.2.2).trans y0
            have z0 : (w6.alloc (.cells #[.int .u8 (v3 : Int), .int .u64 (v4 : Int)] 26)).cell? ⟨w6.heap.size, 0, none⟩ = some (.int .u8 (v3 : Int)) := by simp
            replace B : Aside (x + 1 + q = b ∧ Below wr0.heap.size wr0 (w6.alloc (.cells #[.int .u8 (v3 : Int), .int .u64 (v4 : Int)] 26)) ∧ g < (w6.alloc (.cells #[.int .u8 (v3 : Int), .int .u64 (v4 : Int)] 26)).heap.size ∧ ba < (w6.alloc (.cells #[.int .u8 (v3 : Int), .int .u64 (v4 : Int)] 26)).heap.size ∧ w6.heap.size < (w6.alloc (.cells #[.int .u8 (v3 : Int), .int .u64 (v4 : Int)] 26)).heap.size) := ⟨B.out.1, B.out.2.1.trans (hbl.mono B.out.2.1.size), Nat.lt_of_lt_of_le B.out.2.2.1 hbl.size, Nat.lt_of_lt_of_le B.out.2.2.2 hbl.size, hz⟩
            clear hbl hz
            go_wp2_with fail
            generalize w6.alloc (.cells #[.int .u8 (v3 : Int), .int .u64 (v4 : Int)] 26) = w7 at *
            generalize w6.heap.size = bb at *
            refine (cp _).mono ?_
            rintro e w8 ⟨rfl, hbl⟩
            replace B : Aside (x + 1 + q = b ∧ Below wr0.heap.size wr0 w8 ∧ g < w8.heap.size ∧ ba < w8.heap.size ∧ bb < w8.heap.size) := ⟨B.out.1, B.out.2.1.trans (hbl.mono B.out.2.1.size), Nat.lt_of_lt_of_le B.out.2.2.1 hbl.size, Nat.lt_of_lt_of_le B.out.2.2.2.1 hbl.size, Nat.lt_of_lt_of_le B.out.2.2.2.2 hbl.size⟩
            clear cp hbl
            cases hs with
            | true =>
              have hU' := hU rfl
              clear hU
              go_wp2
              go_roundg q
              case measure => omega
              case rel => exact ⟨x + 1, rfl, by first | rfl | (rw [e1]), B.out.1, B.out.2.1⟩
            | false =>
              clear hU
              go_wp2
              go_roundg q
              case measure => omega
              case rel => exact ⟨x + 1, rfl, by first | rfl | (rw [e1]), B.out.1, B.out.2.1⟩
    | succ q =>
      have hp : (0 : Int) < ((q + 1 : Nat) : Int) := by omega
      have e1 : Aside (wrap64 ((b : Int) + ((q + 1 : Nat) : Int) % 2) = ((b + (q + 1) % 2 : Nat) : Int)) := by
        have h1 := A.out.1
        have h2 := HP.out
        unfold Aside wrap64
        omega
      have e2 : Aside (IntKind.u64.wrap (((q + 1 : Nat) : Int) / 2) = (((q + 1) / 2 : Nat) : Int)) := by
        have h1 := A.out.2
        have h2 := HP.out
        unfold Aside
        rw [wrapU]
        omega
      generalize hG : q + 1 = G at *
      go_wp2
      go_roundg (G / 2)
      case measure => omega
      case rel =>
        refine ⟨b + G % 2, ?_, ?_, ⟨?_, ?_⟩, rfl⟩
        · first | rfl | (rw [e1.out]; done)
        · first | rfl | (rw [e2.out]; done) | (congr 1; omega)
        · have h1 := A.out.1
          rw [PC_step] at h1
          omega
        · have := A.out.2
          omega
theorem posCovers_walk (a0 : Int) (w0 : (Lit.int .u64 a0).wf = true) (w : World) (hT : Tabled w) (h0 : 0 < w.heap.size) :
    Calls Tryd.prog 5 #[.int .u64 a0] w fun e w' => e = .returned (.bool true) ∧ Below w.heap.size w w' := by
  have b0 := wf_u64 w0
  obtain ⟨n, rfl⟩ : ∃ X : Nat, a0 = (X : Int) := ⟨a0.toNat, by omega⟩
  have ca : ∀ W, Below w.heap.size w W → Calls Tryd.prog 15 #[] W fun e w' => e = .returned (.bool true) ∧ Below W.heap.size W w' := fun W hW => awake_ok W (hT.below h0 hW) (Nat.lt_of_lt_of_le h0 hW.size)
  rcases Nat.lt_or_ge 4611686018427387904 n with hn | hn
  · exact posCovers_no n w (by omega) (fun w => peaks_not _ (by omega) w) (fun w => nodes_not _ (by omega) w) ca
  · have h64 : n < 2 ^ 64 := by omega
    have hZ := NODES_top hn
    refine posCovers_yes n (PC n) (NODES n) (fun i => PLC (HGT n i) (KGT n i)) (AHEAD n) (HGT n) (KGT n) (fun i => if HGT n i < 62 then ((PLC (HGT n i + 1) (KGT n i / 2) : Nat) : Int) else 0) (fun i => decide (HGT n i < 62)) w (by omega) ⟨rfl, PC_lt_pow 64 n h64, hn⟩ (show NODES n < 2 ^ 64 by omega) rfl (AHEAD_all h64) (fun i hi => PEAK_lt h64 hi) (fun i hi => HGT_falls h64 hi) ?_ ?_ ?_ (fun w => nodes_ok n hn w) ?_ (fun i hi w => spot_ok _ _ (PEAK_node hn hi) w) ?_ ca
    · intro i hi hh
      have hh' : HGT n i < 62 := by simpa using hh
      have := PEAK_parent (n := n) (i := i)
      simp only [if_pos hh']
      omega
    · intro i hi
      have := PEAK_last h64 (i := i) (by omega)
      rw [hi, AHEAD_all h64] at this
      exact this
    · refine (peaks_ok n hn w hT h0).mono ?_
      rintro e w' ⟨g, cap, rfl, hr, hb⟩
      have hl := PEAKS_length h64
      have hc : ∀ x, x < PC n → w'.cell? ⟨g, x, none⟩ = some (.int .u64 (PLC (HGT n x) (KGT n x) : Nat)) := fun x hx => by
        rw [row_at hr x (by omega), PEAKS_at h64 hx]
      exact ⟨g, cap, rfl, hc, fun h => World.block_lt_of_cell? _ _ (hc 0 h), hb⟩
    · intro i hi w
      have := under_ok _ _ (PEAK_node hn hi) w
      rw [AHEAD_from h64 hi, AHEAD_to h64 hi] at this
      exact this
    · intro i hi w
      have hN := PEAK_node hn hi
      by_cases hh : HGT n i < 62
      · simp only [if_pos hh, decide_eq_true hh]
        exact parent_ok _ _ hN hh w
      · have he : HGT n i = 62 := by have := hN.1; omega
        simp only [if_neg hh, decide_eq_false hh]
        have hS := SpotAt.node hN
        rw [he] at hS ⊢
        exact parent_top _ _ w hS
end Go.Proofs.YtfkgbafaeljieabDoor
