/- The walk of PosBack, a part. -/
import Derived.Test.YtfkgbafaeljieabDoorPosAll
import Derived.Test.YtfkgbafaeljieabDoorPosAwake
namespace Go.Proofs.YtfkgbafaeljieabDoor
open Go.RowKit
set_option maxRecDepth 100000

set_option maxHeartbeats 1000000 in
theorem posBack_top_yes (p q a z xx l r m yy : Int) (sh sk h k : Nat) (w : World)
    (cp : ∀ w, Calls Tryd.prog 10 #[SPOT sh sk] w fun e w' => e = .returned (.tuple #[.int .u64 q, .bool true]) ∧ Below w.heap.size w w')
    (cq : ∀ w, Calls Tryd.prog 9 #[.int .u64 q] w fun e w' => e = .returned (.tuple #[SPOT sh sk, .bool true]) ∧ Below w.heap.size w w')
    (cs : ∀ w, Calls Tryd.prog 9 #[.int .u64 p] w fun e w' => e = .returned (.tuple #[SPOT h k, .bool true]) ∧ Below w.heap.size w w')
    (cl : ∀ w, Calls Tryd.prog 10 #[SPOT h k] w fun e w' => e = .returned (.tuple #[.int .u64 p, .bool true]) ∧ Below w.heap.size w w')
    (cu : ∀ w, Calls Tryd.prog 17 #[.int .u64 p] w fun e w' => e = .returned (.tuple #[.int .u64 a, .int .u64 z, .bool true]) ∧ Below w.heap.size w w')
    (cn : ∀ w, Calls Tryd.prog 18 #[.int .u64 p] w fun e w' => e = .returned (.tuple #[.int .u64 z, .bool true]) ∧ Below w.heap.size w w')
    (e1 : IntKind.u64.wrap (z - a) = xx) (e2 : IntKind.u64.wrap (2 ^ min h 64) = xx) (e3 : IntKind.u64.wrap ((k : Int) * 2 ^ min h 64) = a)
    (ck : ∀ w, Calls Tryd.prog 13 #[.int .u64 p] w fun e w' => e = .returned (.tuple #[.int .u64 l, .int .u64 r, .bool true]) ∧ Below w.heap.size w w')
    (d1 : ∀ w, Calls Tryd.prog 17 #[.int .u64 l] w fun e w' => e = .returned (.tuple #[.int .u64 a, .int .u64 m, .bool true]) ∧ Below w.heap.size w w')
    (d2 : ∀ w, Calls Tryd.prog 17 #[.int .u64 r] w fun e w' => e = .returned (.tuple #[.int .u64 m, .int .u64 z, .bool true]) ∧ Below w.heap.size w w')
    (d3 : ∀ w, Calls Tryd.prog 14 #[.int .u64 l] w fun e w' => e = .returned (.tuple #[.int .u64 p, .bool true]) ∧ Below w.heap.size w w')
    (d4 : ∀ w, Calls Tryd.prog 14 #[.int .u64 r] w fun e w' => e = .returned (.tuple #[.int .u64 p, .bool true]) ∧ Below w.heap.size w w')
    (d5 : ∀ w, Calls Tryd.prog 16 #[.int .u64 l] w fun e w' => e = .returned (.tuple #[.int .u64 r, .bool true]) ∧ Below w.heap.size w w')
    (d6 : ∀ w, Calls Tryd.prog 11 #[.int .u64 l] w fun e w' => e = .returned (.bool false) ∧ Below w.heap.size w w')
    (d7 : ∀ w, Calls Tryd.prog 11 #[.int .u64 r] w fun e w' => e = .returned (.bool true) ∧ Below w.heap.size w w')
    (e4 : IntKind.u64.wrap (m - a) = yy) (e5 : IntKind.u64.wrap (z - m) = yy) (e6 : ¬ r ≤ l) (e7 : ¬ p ≤ r)
    (c1 : ∀ w, Calls Tryd.prog 14 #[.int .u64 p] w fun e w' => e = .returned (.tuple #[.int .u64 0, .bool false]) ∧ Below w.heap.size w w')
    (c2 : ∀ w, Calls Tryd.prog 16 #[.int .u64 p] w fun e w' => e = .returned (.tuple #[.int .u64 0, .bool false]) ∧ Below w.heap.size w w')
    (ht : ((h : Int) == 62) = true)
    (ca : ∀ W, Below w.heap.size w W → Calls Tryd.prog 15 #[] W fun e w' => e = .returned (.bool true) ∧ Below W.heap.size W w') :
    Calls Tryd.prog 4 #[.int .u64 p, SPOT sh sk] w fun e w' => e = .returned (.bool true) ∧ Below w.heap.size w w' := by
  have CA : Aside (∀ W, Below w.heap.size w W → Calls Tryd.prog 15 #[] W fun e w' => e = .returned (.bool true) ∧ Below W.heap.size W w') := ca
  clear ca
  have HA : Aside (((h : Int) == 62) = true) := ht
  clear ht
  go_enter Tryd.func4, Tryd.ntmps4
  go_wp2_with fail
  have f0 : (w.alloc (.cells #[.int .u8 (sh : Int), .int .u64 (sk : Int)] 26)).cell? ⟨w.heap.size, 0, none⟩ = some (.int .u8 (sh : Int)) := by simp
  have f1 : (w.alloc (.cells #[.int .u8 (sh : Int), .int .u64 (sk : Int)] 26)).cell? ⟨w.heap.size, 1, none⟩ = some (.int .u64 (sk : Int)) := by simp
  have R0 : Aside (Below w.heap.size w (w.alloc (.cells #[.int .u8 (sh : Int), .int .u64 (sk : Int)] 26)) ∧ w.heap.size < (w.alloc (.cells #[.int .u8 (sh : Int), .int .u64 (sk : Int)] 26)).heap.size) := ⟨(Below.refl _ _).alloc (Nat.le_refl _) _, by simp⟩
  generalize w.alloc (.cells #[.int .u8 (sh : Int), .int .u64 (sk : Int)] 26) = w0 at *
  obtain ⟨s, hs⟩ : ∃ s, w.heap.size = s := ⟨_, rfl⟩
  rw [hs] at f0 f1
  replace R0 : Aside (Below w.heap.size w w0 ∧ s < w0.heap.size) := by rw [← hs]; exact R0
  simp only [hs]
  refine (cp _).mono ?_
  rintro e w1 ⟨rfl, hb⟩
  clear cp
  replace f0 := (hb.cell (p := ⟨s, 0, none⟩) R0.out.2).trans f0
  replace f1 := (hb.cell (p := ⟨s, 1, none⟩) R0.out.2).trans f1
  have R1 : Aside (Below w.heap.size w w1 ∧ s < w1.heap.size) := ⟨R0.out.1.trans (hb.mono R0.out.1.size), Nat.lt_of_lt_of_le R0.out.2 hb.size⟩
  clear hb R0
  go_wp2_with fail
  refine (cq _).mono ?_
  rintro e w2 ⟨rfl, hb⟩
  clear cq
  replace f0 := (hb.cell (p := ⟨s, 0, none⟩) R1.out.2).trans f0
  replace f1 := (hb.cell (p := ⟨s, 1, none⟩) R1.out.2).trans f1
  have R2 : Aside (Below w.heap.size w w2 ∧ s < w2.heap.size) := ⟨R1.out.1.trans (hb.mono R1.out.1.size), Nat.lt_of_lt_of_le R1.out.2 hb.size⟩
  clear hb R1
  have hb : Below w2.heap.size w2 (w2.alloc (.cells #[.int .u8 (sh : Int), .int .u64 (sk : Int)] 26)) := (Below.refl _ _).alloc (Nat.le_refl _) _
  have hz : w2.heap.size < (w2.alloc (.cells #[.int .u8 (sh : Int), .int .u64 (sk : Int)] 26)).heap.size := by simp
  replace f0 := (hb.cell (p := ⟨s, 0, none⟩) R2.out.2).trans f0
  replace f1 := (hb.cell (p := ⟨s, 1, none⟩) R2.out.2).trans f1
  have y0 : (w2.alloc (.cells #[.int .u8 (sh : Int), .int .u64 (sk : Int)] 26)).cell? ⟨w2.heap.size, 0, none⟩ = some (.int .u8 (sh : Int)) := by simp
  have y1 : (w2.alloc (.cells #[.int .u8 (sh : Int), .int .u64 (sk : Int)] 26)).cell? ⟨w2.heap.size, 1, none⟩ = some (.int .u64 (sk : Int)) := by simp
  replace R2 : Aside (Below w.heap.size w (w2.alloc (.cells #[.int .u8 (sh : Int), .int .u64 (sk : Int)] 26)) ∧ w2.heap.size < (w2.alloc (.cells #[.int .u8 (sh : Int), .int .u64 (sk : Int)] 26)).heap.size) := ⟨R2.out.1.trans (hb.mono R2.out.1.size), hz⟩
  clear hb hz
  go_wp2_with fail
  generalize w2.alloc (.cells #[.int .u8 (sh : Int), .int .u64 (sk : Int)] 26) = w3 at *
  generalize w2.heap.size = x at *
  have R3 := R2
  clear R2
  replace R3 : Aside (Below w.heap.size w w3) := R3.out.1
  clear f0 f1 y0 y1
  refine (cs _).mono ?_
  rintro e w4 ⟨rfl, hb⟩
  clear cs
  have R4 : Aside (Below w.heap.size w w4) := R3.out.trans (hb.mono R3.out.size)
  clear hb R3
  have hb : Below w4.heap.size w4 (w4.alloc (.cells #[.int .u8 (h : Int), .int .u64 (k : Int)] 26)) := (Below.refl _ _).alloc (Nat.le_refl _) _
  have hz : w4.heap.size < (w4.alloc (.cells #[.int .u8 (h : Int), .int .u64 (k : Int)] 26)).heap.size := by simp
  have y0 : (w4.alloc (.cells #[.int .u8 (h : Int), .int .u64 (k : Int)] 26)).cell? ⟨w4.heap.size, 0, none⟩ = some (.int .u8 (h : Int)) := by simp
  have y1 : (w4.alloc (.cells #[.int .u8 (h : Int), .int .u64 (k : Int)] 26)).cell? ⟨w4.heap.size, 1, none⟩ = some (.int .u64 (k : Int)) := by simp
  replace R4 : Aside (Below w.heap.size w (w4.alloc (.cells #[.int .u8 (h : Int), .int .u64 (k : Int)] 26)) ∧ w4.heap.size < (w4.alloc (.cells #[.int .u8 (h : Int), .int .u64 (k : Int)] 26)).heap.size) := ⟨R4.out.trans (hb.mono R4.out.size), hz⟩
  clear hb hz
  go_wp2_with fail
  generalize w4.alloc (.cells #[.int .u8 (h : Int), .int .u64 (k : Int)] 26) = w5 at *
  generalize w4.heap.size = b at *
  have R5 := R4
  clear R4
  refine (cl _).mono ?_
  rintro e w6 ⟨rfl, hb⟩
  clear cl
  replace y0 := (hb.cell (p := ⟨b, 0, none⟩) R5.out.2).trans y0
  replace y1 := (hb.cell (p := ⟨b, 1, none⟩) R5.out.2).trans y1
  have R6 : Aside (Below w.heap.size w w6 ∧ b < w6.heap.size) := ⟨R5.out.1.trans (hb.mono R5.out.1.size), Nat.lt_of_lt_of_le R5.out.2 hb.size⟩
  clear hb R5
  go_wp2_with fail
  refine (cu _).mono ?_
  rintro e w7 ⟨rfl, hb⟩
  clear cu
  replace y0 := (hb.cell (p := ⟨b, 0, none⟩) R6.out.2).trans y0
  replace y1 := (hb.cell (p := ⟨b, 1, none⟩) R6.out.2).trans y1
  have R7 : Aside (Below w.heap.size w w7 ∧ b < w7.heap.size) := ⟨R6.out.1.trans (hb.mono R6.out.1.size), Nat.lt_of_lt_of_le R6.out.2 hb.size⟩
  clear hb R6
  go_wp2_with fail
  refine (cn _).mono ?_
  rintro e w8 ⟨rfl, hb⟩
  clear cn
  replace y0 := (hb.cell (p := ⟨b, 0, none⟩) R7.out.2).trans y0
  replace y1 := (hb.cell (p := ⟨b, 1, none⟩) R7.out.2).trans y1
  have R8 : Aside (Below w.heap.size w w8 ∧ b < w8.heap.size) := ⟨R7.out.1.trans (hb.mono R7.out.1.size), Nat.lt_of_lt_of_le R7.out.2 hb.size⟩
  clear hb R7
  go_wp2_with fail
  refine (ck _).mono ?_
  rintro e w9 ⟨rfl, hb⟩
  clear ck
  replace y0 := (hb.cell (p := ⟨b, 0, none⟩) R8.out.2).trans y0
  replace y1 := (hb.cell (p := ⟨b, 1, none⟩) R8.out.2).trans y1
  have R9 : Aside (Below w.heap.size w w9 ∧ b < w9.heap.size) := ⟨R8.out.1.trans (hb.mono R8.out.1.size), Nat.lt_of_lt_of_le R8.out.2 hb.size⟩
  clear hb R8
  go_wp2_with fail
  refine (d1 _).mono ?_
  rintro e w10 ⟨rfl, hb⟩
  clear d1
  replace y0 := (hb.cell (p := ⟨b, 0, none⟩) R9.out.2).trans y0
  replace y1 := (hb.cell (p := ⟨b, 1, none⟩) R9.out.2).trans y1
  have R10 : Aside (Below w.heap.size w w10 ∧ b < w10.heap.size) := ⟨R9.out.1.trans (hb.mono R9.out.1.size), Nat.lt_of_lt_of_le R9.out.2 hb.size⟩
  clear hb R9
  go_wp2_with fail
  refine (d2 _).mono ?_
  rintro e w11 ⟨rfl, hb⟩
  clear d2
  replace y0 := (hb.cell (p := ⟨b, 0, none⟩) R10.out.2).trans y0
  replace y1 := (hb.cell (p := ⟨b, 1, none⟩) R10.out.2).trans y1
  have R11 : Aside (Below w.heap.size w w11 ∧ b < w11.heap.size) := ⟨R10.out.1.trans (hb.mono R10.out.1.size), Nat.lt_of_lt_of_le R10.out.2 hb.size⟩
  clear hb R10
  go_wp2_with fail
  refine (d3 _).mono ?_
  rintro e w12 ⟨rfl, hb⟩
  clear d3
  replace y0 := (hb.cell (p := ⟨b, 0, none⟩) R11.out.2).trans y0
  replace y1 := (hb.cell (p := ⟨b, 1, none⟩) R11.out.2).trans y1
  have R12 : Aside (Below w.heap.size w w12 ∧ b < w12.heap.size) := ⟨R11.out.1.trans (hb.mono R11.out.1.size), Nat.lt_of_lt_of_le R11.out.2 hb.size⟩
  clear hb R11
  go_wp2_with fail
  refine (d4 _).mono ?_
  rintro e w13 ⟨rfl, hb⟩
  clear d4
  replace y0 := (hb.cell (p := ⟨b, 0, none⟩) R12.out.2).trans y0
  replace y1 := (hb.cell (p := ⟨b, 1, none⟩) R12.out.2).trans y1
  have R13 : Aside (Below w.heap.size w w13 ∧ b < w13.heap.size) := ⟨R12.out.1.trans (hb.mono R12.out.1.size), Nat.lt_of_lt_of_le R12.out.2 hb.size⟩
  clear hb R12
  go_wp2_with fail
  refine (d5 _).mono ?_
  rintro e w14 ⟨rfl, hb⟩
  clear d5
  replace y0 := (hb.cell (p := ⟨b, 0, none⟩) R13.out.2).trans y0
  replace y1 := (hb.cell (p := ⟨b, 1, none⟩) R13.out.2).trans y1
  have R14 : Aside (Below w.heap.size w w14 ∧ b < w14.heap.size) := ⟨R13.out.1.trans (hb.mono R13.out.1.size), Nat.lt_of_lt_of_le R13.out.2 hb.size⟩
  clear hb R13
  go_wp2_with fail
  refine (d6 _).mono ?_
  rintro e w15 ⟨rfl, hb⟩
  clear d6
  replace y0 := (hb.cell (p := ⟨b, 0, none⟩) R14.out.2).trans y0
  replace y1 := (hb.cell (p := ⟨b, 1, none⟩) R14.out.2).trans y1
  have R15 : Aside (Below w.heap.size w w15 ∧ b < w15.heap.size) := ⟨R14.out.1.trans (hb.mono R14.out.1.size), Nat.lt_of_lt_of_le R14.out.2 hb.size⟩
  clear hb R14
  go_wp2_with fail
  refine (d7 _).mono ?_
  rintro e w16 ⟨rfl, hb⟩
  clear d7
  replace y0 := (hb.cell (p := ⟨b, 0, none⟩) R15.out.2).trans y0
  replace y1 := (hb.cell (p := ⟨b, 1, none⟩) R15.out.2).trans y1
  have R16 : Aside (Below w.heap.size w w16 ∧ b < w16.heap.size) := ⟨R15.out.1.trans (hb.mono R15.out.1.size), Nat.lt_of_lt_of_le R15.out.2 hb.size⟩
  clear hb R15
  go_wp2_with fail
  refine (c1 _).mono ?_
  rintro e w17 ⟨rfl, hb⟩
  clear c1
  replace y0 := (hb.cell (p := ⟨b, 0, none⟩) R16.out.2).trans y0
  replace y1 := (hb.cell (p := ⟨b, 1, none⟩) R16.out.2).trans y1
  have R17 : Aside (Below w.heap.size w w17 ∧ b < w17.heap.size) := ⟨R16.out.1.trans (hb.mono R16.out.1.size), Nat.lt_of_lt_of_le R16.out.2 hb.size⟩
  clear hb R16
  go_wp2_with fail
  refine (c2 _).mono ?_
  rintro e w18 ⟨rfl, hb⟩
  clear c2
  replace y0 := (hb.cell (p := ⟨b, 0, none⟩) R17.out.2).trans y0
  replace y1 := (hb.cell (p := ⟨b, 1, none⟩) R17.out.2).trans y1
  have R18 : Aside (Below w.heap.size w w18 ∧ b < w18.heap.size) := ⟨R17.out.1.trans (hb.mono R17.out.1.size), Nat.lt_of_lt_of_le R17.out.2 hb.size⟩
  clear hb R17
  have ht := HA.out
  clear HA
  replace R18 : Aside (Below w.heap.size w w18) := R18.out.1
  go_wp2_with fail
  refine (CA.out _ R18.out).mono ?_
  rintro e w19 ⟨rfl, hb⟩
  have R19 : Aside (Below w.heap.size w w19) := R18.out.trans (hb.mono R18.out.size)
  clear hb R18 CA
  go_wp2
  go_ret
  exact ⟨rfl, R19.out⟩

set_option maxHeartbeats 1000000 in
theorem posBack_top_no (p q a z xx l r m yy : Int) (sh sk h k : Nat) (w : World)
    (cp : ∀ w, Calls Tryd.prog 10 #[SPOT sh sk] w fun e w' => e = .returned (.tuple #[.int .u64 q, .bool false]) ∧ Below w.heap.size w w')
    (cs : ∀ w, Calls Tryd.prog 9 #[.int .u64 p] w fun e w' => e = .returned (.tuple #[SPOT h k, .bool true]) ∧ Below w.heap.size w w')
    (cl : ∀ w, Calls Tryd.prog 10 #[SPOT h k] w fun e w' => e = .returned (.tuple #[.int .u64 p, .bool true]) ∧ Below w.heap.size w w')
    (cu : ∀ w, Calls Tryd.prog 17 #[.int .u64 p] w fun e w' => e = .returned (.tuple #[.int .u64 a, .int .u64 z, .bool true]) ∧ Below w.heap.size w w')
    (cn : ∀ w, Calls Tryd.prog 18 #[.int .u64 p] w fun e w' => e = .returned (.tuple #[.int .u64 z, .bool true]) ∧ Below w.heap.size w w')
    (e1 : IntKind.u64.wrap (z - a) = xx) (e2 : IntKind.u64.wrap (2 ^ min h 64) = xx) (e3 : IntKind.u64.wrap ((k : Int) * 2 ^ min h 64) = a)
    (ck : ∀ w, Calls Tryd.prog 13 #[.int .u64 p] w fun e w' => e = .returned (.tuple #[.int .u64 l, .int .u64 r, .bool true]) ∧ Below w.heap.size w w')
    (d1 : ∀ w, Calls Tryd.prog 17 #[.int .u64 l] w fun e w' => e = .returned (.tuple #[.int .u64 a, .int .u64 m, .bool true]) ∧ Below w.heap.size w w')
    (d2 : ∀ w, Calls Tryd.prog 17 #[.int .u64 r] w fun e w' => e = .returned (.tuple #[.int .u64 m, .int .u64 z, .bool true]) ∧ Below w.heap.size w w')
    (d3 : ∀ w, Calls Tryd.prog 14 #[.int .u64 l] w fun e w' => e = .returned (.tuple #[.int .u64 p, .bool true]) ∧ Below w.heap.size w w')
    (d4 : ∀ w, Calls Tryd.prog 14 #[.int .u64 r] w fun e w' => e = .returned (.tuple #[.int .u64 p, .bool true]) ∧ Below w.heap.size w w')
    (d5 : ∀ w, Calls Tryd.prog 16 #[.int .u64 l] w fun e w' => e = .returned (.tuple #[.int .u64 r, .bool true]) ∧ Below w.heap.size w w')
    (d6 : ∀ w, Calls Tryd.prog 11 #[.int .u64 l] w fun e w' => e = .returned (.bool false) ∧ Below w.heap.size w w')
    (d7 : ∀ w, Calls Tryd.prog 11 #[.int .u64 r] w fun e w' => e = .returned (.bool true) ∧ Below w.heap.size w w')
    (e4 : IntKind.u64.wrap (m - a) = yy) (e5 : IntKind.u64.wrap (z - m) = yy) (e6 : ¬ r ≤ l) (e7 : ¬ p ≤ r)
    (c1 : ∀ w, Calls Tryd.prog 14 #[.int .u64 p] w fun e w' => e = .returned (.tuple #[.int .u64 0, .bool false]) ∧ Below w.heap.size w w')
    (c2 : ∀ w, Calls Tryd.prog 16 #[.int .u64 p] w fun e w' => e = .returned (.tuple #[.int .u64 0, .bool false]) ∧ Below w.heap.size w w')
    (ht : ((h : Int) == 62) = true)
    (ca : ∀ W, Below w.heap.size w W → Calls Tryd.prog 15 #[] W fun e w' => e = .returned (.bool true) ∧ Below W.heap.size W w') :
    Calls Tryd.prog 4 #[.int .u64 p, SPOT sh sk] w fun e w' => e = .returned (.bool true) ∧ Below w.heap.size w w' := by
  have CA : Aside (∀ W, Below w.heap.size w W → Calls Tryd.prog 15 #[] W fun e w' => e = .returned (.bool true) ∧ Below W.heap.size W w') := ca
  clear ca
  have HA : Aside (((h : Int) == 62) = true) := ht
  clear ht
  go_enter Tryd.func4, Tryd.ntmps4
  go_wp2_with fail
  have f0 : (w.alloc (.cells #[.int .u8 (sh : Int), .int .u64 (sk : Int)] 26)).cell? ⟨w.heap.size, 0, none⟩ = some (.int .u8 (sh : Int)) := by simp
  have f1 : (w.alloc (.cells #[.int .u8 (sh : Int), .int .u64 (sk : Int)] 26)).cell? ⟨w.heap.size, 1, none⟩ = some (.int .u64 (sk : Int)) := by simp
  have R0 : Aside (Below w.heap.size w (w.alloc (.cells #[.int .u8 (sh : Int), .int .u64 (sk : Int)] 26)) ∧ w.heap.size < (w.alloc (.cells #[.int .u8 (sh : Int), .int .u64 (sk : Int)] 26)).heap.size) := ⟨(Below.refl _ _).alloc (Nat.le_refl _) _, by simp⟩
  generalize w.alloc (.cells #[.int .u8 (sh : Int), .int .u64 (sk : Int)] 26) = w0 at *
  obtain ⟨s, hs⟩ : ∃ s, w.heap.size = s := ⟨_, rfl⟩
  rw [hs] at f0 f1
  replace R0 : Aside (Below w.heap.size w w0 ∧ s < w0.heap.size) := by rw [← hs]; exact R0
  simp only [hs]
  refine (cp _).mono ?_
  rintro e w1 ⟨rfl, hb⟩
  clear cp
  replace f0 := (hb.cell (p := ⟨s, 0, none⟩) R0.out.2).trans f0
  replace f1 := (hb.cell (p := ⟨s, 1, none⟩) R0.out.2).trans f1
  have R1 : Aside (Below w.heap.size w w1 ∧ s < w1.heap.size) := ⟨R0.out.1.trans (hb.mono R0.out.1.size), Nat.lt_of_lt_of_le R0.out.2 hb.size⟩
  clear hb R0
  go_wp2_with fail
  replace R1 : Aside (Below w.heap.size w w1) := R1.out.1
  clear f0 f1
  refine (cs _).mono ?_
  rintro e w2 ⟨rfl, hb⟩
  clear cs
  have R2 : Aside (Below w.heap.size w w2) := R1.out.trans (hb.mono R1.out.size)
  clear hb R1
  have hb : Below w2.heap.size w2 (w2.alloc (.cells #[.int .u8 (h : Int), .int .u64 (k : Int)] 26)) := (Below.refl _ _).alloc (Nat.le_refl _) _
  have hz : w2.heap.size < (w2.alloc (.cells #[.int .u8 (h : Int), .int .u64 (k : Int)] 26)).heap.size := by simp
  have y0 : (w2.alloc (.cells #[.int .u8 (h : Int), .int .u64 (k : Int)] 26)).cell? ⟨w2.heap.size, 0, none⟩ = some (.int .u8 (h : Int)) := by simp
  have y1 : (w2.alloc (.cells #[.int .u8 (h : Int), .int .u64 (k : Int)] 26)).cell? ⟨w2.heap.size, 1, none⟩ = some (.int .u64 (k : Int)) := by simp
  replace R2 : Aside (Below w.heap.size w (w2.alloc (.cells #[.int .u8 (h : Int), .int .u64 (k : Int)] 26)) ∧ w2.heap.size < (w2.alloc (.cells #[.int .u8 (h : Int), .int .u64 (k : Int)] 26)).heap.size) := ⟨R2.out.trans (hb.mono R2.out.size), hz⟩
  clear hb hz
  go_wp2_with fail
  generalize w2.alloc (.cells #[.int .u8 (h : Int), .int .u64 (k : Int)] 26) = w3 at *
  generalize w2.heap.size = b at *
  have R3 := R2
  clear R2
  refine (cl _).mono ?_
  rintro e w4 ⟨rfl, hb⟩
  clear cl
  replace y0 := (hb.cell (p := ⟨b, 0, none⟩) R3.out.2).trans y0
  replace y1 := (hb.cell (p := ⟨b, 1, none⟩) R3.out.2).trans y1
  have R4 : Aside (Below w.heap.size w w4 ∧ b < w4.heap.size) := ⟨R3.out.1.trans (hb.mono R3.out.1.size), Nat.lt_of_lt_of_le R3.out.2 hb.size⟩
  clear hb R3
  go_wp2_with fail
  refine (cu _).mono ?_
  rintro e w5 ⟨rfl, hb⟩
  clear cu
  replace y0 := (hb.cell (p := ⟨b, 0, none⟩) R4.out.2).trans y0
  replace y1 := (hb.cell (p := ⟨b, 1, none⟩) R4.out.2).trans y1
  have R5 : Aside (Below w.heap.size w w5 ∧ b < w5.heap.size) := ⟨R4.out.1.trans (hb.mono R4.out.1.size), Nat.lt_of_lt_of_le R4.out.2 hb.size⟩
  clear hb R4
  go_wp2_with fail
  refine (cn _).mono ?_
  rintro e w6 ⟨rfl, hb⟩
  clear cn
  replace y0 := (hb.cell (p := ⟨b, 0, none⟩) R5.out.2).trans y0
  replace y1 := (hb.cell (p := ⟨b, 1, none⟩) R5.out.2).trans y1
  have R6 : Aside (Below w.heap.size w w6 ∧ b < w6.heap.size) := ⟨R5.out.1.trans (hb.mono R5.out.1.size), Nat.lt_of_lt_of_le R5.out.2 hb.size⟩
  clear hb R5
  go_wp2_with fail
  refine (ck _).mono ?_
  rintro e w7 ⟨rfl, hb⟩
  clear ck
  replace y0 := (hb.cell (p := ⟨b, 0, none⟩) R6.out.2).trans y0
  replace y1 := (hb.cell (p := ⟨b, 1, none⟩) R6.out.2).trans y1
  have R7 : Aside (Below w.heap.size w w7 ∧ b < w7.heap.size) := ⟨R6.out.1.trans (hb.mono R6.out.1.size), Nat.lt_of_lt_of_le R6.out.2 hb.size⟩
  clear hb R6
  go_wp2_with fail
  refine (d1 _).mono ?_
  rintro e w8 ⟨rfl, hb⟩
  clear d1
  replace y0 := (hb.cell (p := ⟨b, 0, none⟩) R7.out.2).trans y0
  replace y1 := (hb.cell (p := ⟨b, 1, none⟩) R7.out.2).trans y1
  have R8 : Aside (Below w.heap.size w w8 ∧ b < w8.heap.size) := ⟨R7.out.1.trans (hb.mono R7.out.1.size), Nat.lt_of_lt_of_le R7.out.2 hb.size⟩
  clear hb R7
  go_wp2_with fail
  refine (d2 _).mono ?_
  rintro e w9 ⟨rfl, hb⟩
  clear d2
  replace y0 := (hb.cell (p := ⟨b, 0, none⟩) R8.out.2).trans y0
  replace y1 := (hb.cell (p := ⟨b, 1, none⟩) R8.out.2).trans y1
  have R9 : Aside (Below w.heap.size w w9 ∧ b < w9.heap.size) := ⟨R8.out.1.trans (hb.mono R8.out.1.size), Nat.lt_of_lt_of_le R8.out.2 hb.size⟩
  clear hb R8
  go_wp2_with fail
  refine (d3 _).mono ?_
  rintro e w10 ⟨rfl, hb⟩
  clear d3
  replace y0 := (hb.cell (p := ⟨b, 0, none⟩) R9.out.2).trans y0
  replace y1 := (hb.cell (p := ⟨b, 1, none⟩) R9.out.2).trans y1
  have R10 : Aside (Below w.heap.size w w10 ∧ b < w10.heap.size) := ⟨R9.out.1.trans (hb.mono R9.out.1.size), Nat.lt_of_lt_of_le R9.out.2 hb.size⟩
  clear hb R9
  go_wp2_with fail
  refine (d4 _).mono ?_
  rintro e w11 ⟨rfl, hb⟩
  clear d4
  replace y0 := (hb.cell (p := ⟨b, 0, none⟩) R10.out.2).trans y0
  replace y1 := (hb.cell (p := ⟨b, 1, none⟩) R10.out.2).trans y1
  have R11 : Aside (Below w.heap.size w w11 ∧ b < w11.heap.size) := ⟨R10.out.1.trans (hb.mono R10.out.1.size), Nat.lt_of_lt_of_le R10.out.2 hb.size⟩
  clear hb R10
  go_wp2_with fail
  refine (d5 _).mono ?_
  rintro e w12 ⟨rfl, hb⟩
  clear d5
  replace y0 := (hb.cell (p := ⟨b, 0, none⟩) R11.out.2).trans y0
  replace y1 := (hb.cell (p := ⟨b, 1, none⟩) R11.out.2).trans y1
  have R12 : Aside (Below w.heap.size w w12 ∧ b < w12.heap.size) := ⟨R11.out.1.trans (hb.mono R11.out.1.size), Nat.lt_of_lt_of_le R11.out.2 hb.size⟩
  clear hb R11
  go_wp2_with fail
  refine (d6 _).mono ?_
  rintro e w13 ⟨rfl, hb⟩
  clear d6
  replace y0 := (hb.cell (p := ⟨b, 0, none⟩) R12.out.2).trans y0
  replace y1 := (hb.cell (p := ⟨b, 1, none⟩) R12.out.2).trans y1
  have R13 : Aside (Below w.heap.size w w13 ∧ b < w13.heap.size) := ⟨R12.out.1.trans (hb.mono R12.out.1.size), Nat.lt_of_lt_of_le R12.out.2 hb.size⟩
  clear hb R12
  go_wp2_with fail
  refine (d7 _).mono ?_
  rintro e w14 ⟨rfl, hb⟩
  clear d7
  replace y0 := (hb.cell (p := ⟨b, 0, none⟩) R13.out.2).trans y0
  replace y1 := (hb.cell (p := ⟨b, 1, none⟩) R13.out.2).trans y1
  have R14 : Aside (Below w.heap.size w w14 ∧ b < w14.heap.size) := ⟨R13.out.1.trans (hb.mono R13.out.1.size), Nat.lt_of_lt_of_le R13.out.2 hb.size⟩
  clear hb R13
  go_wp2_with fail
  refine (c1 _).mono ?_
  rintro e w15 ⟨rfl, hb⟩
  clear c1
  replace y0 := (hb.cell (p := ⟨b, 0, none⟩) R14.out.2).trans y0
  replace y1 := (hb.cell (p := ⟨b, 1, none⟩) R14.out.2).trans y1
  have R15 : Aside (Below w.heap.size w w15 ∧ b < w15.heap.size) := ⟨R14.out.1.trans (hb.mono R14.out.1.size), Nat.lt_of_lt_of_le R14.out.2 hb.size⟩
  clear hb R14
  go_wp2_with fail
  refine (c2 _).mono ?_
  rintro e w16 ⟨rfl, hb⟩
  clear c2
  replace y0 := (hb.cell (p := ⟨b, 0, none⟩) R15.out.2).trans y0
  replace y1 := (hb.cell (p := ⟨b, 1, none⟩) R15.out.2).trans y1
  have R16 : Aside (Below w.heap.size w w16 ∧ b < w16.heap.size) := ⟨R15.out.1.trans (hb.mono R15.out.1.size), Nat.lt_of_lt_of_le R15.out.2 hb.size⟩
  clear hb R15
  have ht := HA.out
  clear HA
  replace R16 : Aside (Below w.heap.size w w16) := R16.out.1
  go_wp2_with fail
  refine (CA.out _ R16.out).mono ?_
  rintro e w17 ⟨rfl, hb⟩
  have R17 : Aside (Below w.heap.size w w17) := R16.out.trans (hb.mono R16.out.size)
  clear hb R16 CA
  go_wp2
  go_ret
  exact ⟨rfl, R17.out⟩

end Go.Proofs.YtfkgbafaeljieabDoor
