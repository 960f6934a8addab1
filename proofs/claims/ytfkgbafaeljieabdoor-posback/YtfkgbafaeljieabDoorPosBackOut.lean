/- The walk of PosBack, a part. -/
import Derived.Test.YtfkgbafaeljieabDoorPosAll
import Derived.Test.YtfkgbafaeljieabDoorPosAwake
namespace Go.Proofs.YtfkgbafaeljieabDoor
open Go.RowKit
set_option maxRecDepth 100000

set_option maxHeartbeats 1000000 in
theorem posBack_out_yes (p q a1 a2 a3 a4 a5 a6 a7 a8 : Int) (sh sk h k : Nat) (w : World)
    (cp : ∀ w, Calls Tryd.prog 10 #[SPOT sh sk] w fun e w' => e = .returned (.tuple #[.int .u64 q, .bool true]) ∧ Below w.heap.size w w')
    (cq : ∀ w, Calls Tryd.prog 9 #[.int .u64 q] w fun e w' => e = .returned (.tuple #[SPOT sh sk, .bool true]) ∧ Below w.heap.size w w')
    (cs : ∀ w, Calls Tryd.prog 9 #[.int .u64 p] w fun e w' => e = .returned (.tuple #[SPOT h k, .bool false]) ∧ Below w.heap.size w w')
    (c1 : ∀ w, Calls Tryd.prog 14 #[.int .u64 p] w fun e w' => e = .returned (.tuple #[.int .u64 a1, .bool false]) ∧ Below w.heap.size w w')
    (c2 : ∀ w, Calls Tryd.prog 16 #[.int .u64 p] w fun e w' => e = .returned (.tuple #[.int .u64 a2, .bool false]) ∧ Below w.heap.size w w')
    (c3 : ∀ w, Calls Tryd.prog 13 #[.int .u64 p] w fun e w' => e = .returned (.tuple #[.int .u64 a3, .int .u64 a4, .bool false]) ∧ Below w.heap.size w w')
    (c4 : ∀ w, Calls Tryd.prog 17 #[.int .u64 p] w fun e w' => e = .returned (.tuple #[.int .u64 a5, .int .u64 a6, .bool false]) ∧ Below w.heap.size w w')
    (c5 : ∀ w, Calls Tryd.prog 18 #[.int .u64 p] w fun e w' => e = .returned (.tuple #[.int .u64 a7, .bool false]) ∧ Below w.heap.size w w')
    (c6 : ∀ w, Calls Tryd.prog 12 #[.int .u64 p] w fun e w' => e = .returned (.tuple #[.int .u64 a8, .bool false]) ∧ Below w.heap.size w w')
    (c7 : ∀ w, Calls Tryd.prog 11 #[.int .u64 p] w fun e w' => e = .returned (.bool false) ∧ Below w.heap.size w w')
    (ca : ∀ W, Below w.heap.size w W → Calls Tryd.prog 15 #[] W fun e w' => e = .returned (.bool true) ∧ Below W.heap.size W w') :
    Calls Tryd.prog 4 #[.int .u64 p, SPOT sh sk] w fun e w' => e = .returned (.bool true) ∧ Below w.heap.size w w' := by
  have CA : Aside (∀ W, Below w.heap.size w W → Calls Tryd.prog 15 #[] W fun e w' => e = .returned (.bool true) ∧ Below W.heap.size W w') := ca
  clear ca
  go_enter Tryd.func4, Tryd.ntmps4
  go_wp2_with fail
  have f0 : (w.alloc (.cells #[.int .u8 (sh : Int), .int .u64 (sk : Int)] 26)).cell? ⟨w.heap.size, 0, none⟩ = some (.int .u8 (sh : Int)) := by simp
  have f1 : (w.alloc (.cells #[.int .u8 (sh : Int), .int .u64 (sk : Int)] 26)).cell? ⟨w.heap.size, 1, none⟩ = some (.int .u64 (sk : Int)) := by simp
  have R0 : Aside (Below w.heap.size w (w.alloc (.cells #[.int .u8 (sh : Int), .int .u64 (sk : Int)] 26)) ∧ w.heap.size < (w.alloc (.cells #[.int .u8 (sh : Int), .int .u64 (sk : Int)] 26)).heap.size) := ⟨(Below.refl _ _).alloc (Nat.le_refl _) _, by simp⟩
  generalize w.alloc (.cells #[.int .u8 (sh : Int), .int .u64 (sk : Int)] 26) = w0 at *
  obtain ⟨s, hs⟩ : ∃ s, w.heap.size = s := ⟨_, rfl⟩
  rw [hs] at f0 f1
  replace R0 : Aside (Below w.heap.size w w0 ∧ s < w0.heap.size) := by rw [← hs]; exact R0
  simp only [hs]
  refine (cp _).mono ?_
  rintro e w1 ⟨rfl, hb⟩
  clear cp
  replace f0 := (hb.cell (p := ⟨s, 0, none⟩) R0.out.2).trans f0
  replace f1 := (hb.cell (p := ⟨s, 1, none⟩) R0.out.2).trans f1
  have R1 : Aside (Below w.heap.size w w1 ∧ s < w1.heap.size) := ⟨R0.out.1.trans (hb.mono R0.out.1.size), Nat.lt_of_lt_of_le R0.out.2 hb.size⟩
  clear hb R0
  go_wp2_with fail
  refine (cq _).mono ?_
  rintro e w2 ⟨rfl, hb⟩
  clear cq
  replace f0 := (hb.cell (p := ⟨s, 0, none⟩) R1.out.2).trans f0
  replace f1 := (hb.cell (p := ⟨s, 1, none⟩) R1.out.2).trans f1
  have R2 : Aside (Below w.heap.size w w2 ∧ s < w2.heap.size) := ⟨R1.out.1.trans (hb.mono R1.out.1.size), Nat.lt_of_lt_of_le R1.out.2 hb.size⟩
  clear hb R1
  have hb : Below w2.heap.size w2 (w2.alloc (.cells #[.int .u8 (sh : Int), .int .u64 (sk : Int)] 26)) := (Below.refl _ _).alloc (Nat.le_refl _) _
  have hz : w2.heap.size < (w2.alloc (.cells #[.int .u8 (sh : Int), .int .u64 (sk : Int)] 26)).heap.size := by simp
  replace f0 := (hb.cell (p := ⟨s, 0, none⟩) R2.out.2).trans f0
  replace f1 := (hb.cell (p := ⟨s, 1, none⟩) R2.out.2).trans f1
  have y0 : (w2.alloc (.cells #[.int .u8 (sh : Int), .int .u64 (sk : Int)] 26)).cell? ⟨w2.heap.size, 0, none⟩ = some (.int .u8 (sh : Int)) := by simp
  have y1 : (w2.alloc (.cells #[.int .u8 (sh : Int), .int .u64 (sk : Int)] 26)).cell? ⟨w2.heap.size, 1, none⟩ = some (.int .u64 (sk : Int)) := by simp
  replace R2 : Aside (Below w.heap.size w (w2.alloc (.cells #[.int .u8 (sh : Int), .int .u64 (sk : Int)] 26)) ∧ w2.heap.size < (w2.alloc (.cells #[.int .u8 (sh : Int), .int .u64 (sk : Int)] 26)).heap.size) := ⟨R2.out.1.trans (hb.mono R2.out.1.size), hz⟩
  clear hb hz
  go_wp2_with fail
  generalize w2.alloc (.cells #[.int .u8 (sh : Int), .int .u64 (sk : Int)] 26) = w3 at *
  generalize w2.heap.size = x at *
  have R3 := R2
  clear R2
  replace R3 : Aside (Below w.heap.size w w3) := R3.out.1
  clear f0 f1 y0 y1
  refine (cs _).mono ?_
  rintro e w4 ⟨rfl, hb⟩
  clear cs
  have R4 : Aside (Below w.heap.size w w4) := R3.out.trans (hb.mono R3.out.size)
  clear hb R3
  have hb : Below w4.heap.size w4 (w4.alloc (.cells #[.int .u8 (h : Int), .int .u64 (k : Int)] 26)) := (Below.refl _ _).alloc (Nat.le_refl _) _
  have hz : w4.heap.size < (w4.alloc (.cells #[.int .u8 (h : Int), .int .u64 (k : Int)] 26)).heap.size := by simp
  have y0 : (w4.alloc (.cells #[.int .u8 (h : Int), .int .u64 (k : Int)] 26)).cell? ⟨w4.heap.size, 0, none⟩ = some (.int .u8 (h : Int)) := by simp
  have y1 : (w4.alloc (.cells #[.int .u8 (h : Int), .int .u64 (k : Int)] 26)).cell? ⟨w4.heap.size, 1, none⟩ = some (.int .u64 (k : Int)) := by simp
  replace R4 : Aside (Below w.heap.size w (w4.alloc (.cells #[.int .u8 (h : Int), .int .u64 (k : Int)] 26)) ∧ w4.heap.size < (w4.alloc (.cells #[.int .u8 (h : Int), .int .u64 (k : Int)] 26)).heap.size) := ⟨R4.out.trans (hb.mono R4.out.size), hz⟩
  clear hb hz
  go_wp2_with fail
  generalize w4.alloc (.cells #[.int .u8 (h : Int), .int .u64 (k : Int)] 26) = w5 at *
  generalize w4.heap.size = b at *
  have R5 := R4
  clear R4
  replace R5 : Aside (Below w.heap.size w w5) := R5.out.1
  clear y0 y1
  refine (c1 _).mono ?_
  rintro e w6 ⟨rfl, hb⟩
  clear c1
  have R6 : Aside (Below w.heap.size w w6) := R5.out.trans (hb.mono R5.out.size)
  clear hb R5
  go_wp2_with fail
  refine (c2 _).mono ?_
  rintro e w7 ⟨rfl, hb⟩
  clear c2
  have R7 : Aside (Below w.heap.size w w7) := R6.out.trans (hb.mono R6.out.size)
  clear hb R6
  go_wp2_with fail
  refine (c3 _).mono ?_
  rintro e w8 ⟨rfl, hb⟩
  clear c3
  have R8 : Aside (Below w.heap.size w w8) := R7.out.trans (hb.mono R7.out.size)
  clear hb R7
  go_wp2_with fail
  refine (c4 _).mono ?_
  rintro e w9 ⟨rfl, hb⟩
  clear c4
  have R9 : Aside (Below w.heap.size w w9) := R8.out.trans (hb.mono R8.out.size)
  clear hb R8
  go_wp2_with fail
  refine (c5 _).mono ?_
  rintro e w10 ⟨rfl, hb⟩
  clear c5
  have R10 : Aside (Below w.heap.size w w10) := R9.out.trans (hb.mono R9.out.size)
  clear hb R9
  go_wp2_with fail
  refine (c6 _).mono ?_
  rintro e w11 ⟨rfl, hb⟩
  clear c6
  have R11 : Aside (Below w.heap.size w w11) := R10.out.trans (hb.mono R10.out.size)
  clear hb R10
  go_wp2_with fail
  refine (c7 _).mono ?_
  rintro e w12 ⟨rfl, hb⟩
  clear c7
  have R12 : Aside (Below w.heap.size w w12) := R11.out.trans (hb.mono R11.out.size)
  clear hb R11
  go_wp2_with fail
  refine (CA.out _ R12.out).mono ?_
  rintro e w13 ⟨rfl, hb⟩
  have R13 : Aside (Below w.heap.size w w13) := R12.out.trans (hb.mono R12.out.size)
  clear hb R12 CA
  go_wp2
  go_ret
  exact ⟨rfl, R13.out⟩

set_option maxHeartbeats 1000000 in
theorem posBack_out_no (p q a1 a2 a3 a4 a5 a6 a7 a8 : Int) (sh sk h k : Nat) (w : World)
    (cp : ∀ w, Calls Tryd.prog 10 #[SPOT sh sk] w fun e w' => e = .returned (.tuple #[.int .u64 q, .bool false]) ∧ Below w.heap.size w w')
    (cs : ∀ w, Calls Tryd.prog 9 #[.int .u64 p] w fun e w' => e = .returned (.tuple #[SPOT h k, .bool false]) ∧ Below w.heap.size w w')
    (c1 : ∀ w, Calls Tryd.prog 14 #[.int .u64 p] w fun e w' => e = .returned (.tuple #[.int .u64 a1, .bool false]) ∧ Below w.heap.size w w')
    (c2 : ∀ w, Calls Tryd.prog 16 #[.int .u64 p] w fun e w' => e = .returned (.tuple #[.int .u64 a2, .bool false]) ∧ Below w.heap.size w w')
    (c3 : ∀ w, Calls Tryd.prog 13 #[.int .u64 p] w fun e w' => e = .returned (.tuple #[.int .u64 a3, .int .u64 a4, .bool false]) ∧ Below w.heap.size w w')
    (c4 : ∀ w, Calls Tryd.prog 17 #[.int .u64 p] w fun e w' => e = .returned (.tuple #[.int .u64 a5, .int .u64 a6, .bool false]) ∧ Below w.heap.size w w')
    (c5 : ∀ w, Calls Tryd.prog 18 #[.int .u64 p] w fun e w' => e = .returned (.tuple #[.int .u64 a7, .bool false]) ∧ Below w.heap.size w w')
    (c6 : ∀ w, Calls Tryd.prog 12 #[.int .u64 p] w fun e w' => e = .returned (.tuple #[.int .u64 a8, .bool false]) ∧ Below w.heap.size w w')
    (c7 : ∀ w, Calls Tryd.prog 11 #[.int .u64 p] w fun e w' => e = .returned (.bool false) ∧ Below w.heap.size w w')
    (ca : ∀ W, Below w.heap.size w W → Calls Tryd.prog 15 #[] W fun e w' => e = .returned (.bool true) ∧ Below W.heap.size W w') :
    Calls Tryd.prog 4 #[.int .u64 p, SPOT sh sk] w fun e w' => e = .returned (.bool true) ∧ Below w.heap.size w w' := by
  have CA : Aside (∀ W, Below w.heap.size w W → Calls Tryd.prog 15 #[] W fun e w' => e = .returned (.bool true) ∧ Below W.heap.size W w') := ca
  clear ca
  go_enter Tryd.func4, Tryd.ntmps4
  go_wp2_with fail
  have f0 : (w.alloc (.cells #[.int .u8 (sh : Int), .int .u64 (sk : Int)] 26)).cell? ⟨w.heap.size, 0, none⟩ = some (.int .u8 (sh : Int)) := by simp
  have f1 : (w.alloc (.cells #[.int .u8 (sh : Int), .int .u64 (sk : Int)] 26)).cell? ⟨w.heap.size, 1, none⟩ = some (.int .u64 (sk : Int)) := by simp
  have R0 : Aside (Below w.heap.size w (w.alloc (.cells #[.int .u8 (sh : Int), .int .u64 (sk : Int)] 26)) ∧ w.heap.size < (w.alloc (.cells #[.int .u8 (sh : Int), .int .u64 (sk : Int)] 26)).heap.size) := ⟨(Below.refl _ _).alloc (Nat.le_refl _) _, by simp⟩
  generalize w.alloc (.cells #[.int .u8 (sh : Int), .int .u64 (sk : Int)] 26) = w0 at *
  obtain ⟨s, hs⟩ : ∃ s, w.heap.size = s := ⟨_, rfl⟩
  rw [hs] at f0 f1
  replace R0 : Aside (Below w.heap.size w w0 ∧ s < w0.heap.size) := by rw [← hs]; exact R0
  simp only [hs]
  refine (cp _).mono ?_
  rintro e w1 ⟨rfl, hb⟩
  clear cp
  replace f0 := (hb.cell (p := ⟨s, 0, none⟩) R0.out.2).trans f0
  replace f1 := (hb.cell (p := ⟨s, 1, none⟩) R0.out.2).trans f1
  have R1 : Aside (Below w.heap.size w w1 ∧ s < w1.heap.size) := ⟨R0.out.1.trans (hb.mono R0.out.1.size), Nat.lt_of_lt_of_le R0.out.2 hb.size⟩
  clear hb R0
  go_wp2_with fail
  replace R1 : Aside (Below w.heap.size w w1) := R1.out.1
  clear f0 f1
  refine (cs _).mono ?_
  rintro e w2 ⟨rfl, hb⟩
  clear cs
  have R2 : Aside (Below w.heap.size w w2) := R1.out.trans (hb.mono R1.out.size)
  clear hb R1
  have hb : Below w2.heap.size w2 (w2.alloc (.cells #[.int .u8 (h : Int), .int .u64 (k : Int)] 26)) := (Below.refl _ _).alloc (Nat.le_refl _) _
  have hz : w2.heap.size < (w2.alloc (.cells #[.int .u8 (h : Int), .int .u64 (k : Int)] 26)).heap.size := by simp
  have y0 : (w2.alloc (.cells #[.int .u8 (h : Int), .int .u64 (k : Int)] 26)).cell? ⟨w2.heap.size, 0, none⟩ = some (.int .u8 (h : Int)) := by simp
  have y1 : (w2.alloc (.cells #[.int .u8 (h : Int), .int .u64 (k : Int)] 26)).cell? ⟨w2.heap.size, 1, none⟩ = some (.int .u64 (k : Int)) := by simp
  replace R2 : Aside (Below w.heap.size w (w2.alloc (.cells #[.int .u8 (h : Int), .int .u64 (k : Int)] 26)) ∧ w2.heap.size < (w2.alloc (.cells #[.int .u8 (h : Int), .int .u64 (k : Int)] 26)).heap.size) := ⟨R2.out.trans (hb.mono R2.out.size), hz⟩
  clear hb hz
  go_wp2_with fail
  generalize w2.alloc (.cells #[.int .u8 (h : Int), .int .u64 (k : Int)] 26) = w3 at *
  generalize w2.heap.size = b at *
  have R3 := R2
  clear R2
  replace R3 : Aside (Below w.heap.size w w3) := R3.out.1
  clear y0 y1
  refine (c1 _).mono ?_
  rintro e w4 ⟨rfl, hb⟩
  clear c1
  have R4 : Aside (Below w.heap.size w w4) := R3.out.trans (hb.mono R3.out.size)
  clear hb R3
  go_wp2_with fail
  refine (c2 _).mono ?_
  rintro e w5 ⟨rfl, hb⟩
  clear c2
  have R5 : Aside (Below w.heap.size w w5) := R4.out.trans (hb.mono R4.out.size)
  clear hb R4
  go_wp2_with fail
  refine (c3 _).mono ?_
  rintro e w6 ⟨rfl, hb⟩
  clear c3
  have R6 : Aside (Below w.heap.size w w6) := R5.out.trans (hb.mono R5.out.size)
  clear hb R5
  go_wp2_with fail
  refine (c4 _).mono ?_
  rintro e w7 ⟨rfl, hb⟩
  clear c4
  have R7 : Aside (Below w.heap.size w w7) := R6.out.trans (hb.mono R6.out.size)
  clear hb R6
  go_wp2_with fail
  refine (c5 _).mono ?_
  rintro e w8 ⟨rfl, hb⟩
  clear c5
  have R8 : Aside (Below w.heap.size w w8) := R7.out.trans (hb.mono R7.out.size)
  clear hb R7
  go_wp2_with fail
  refine (c6 _).mono ?_
  rintro e w9 ⟨rfl, hb⟩
  clear c6
  have R9 : Aside (Below w.heap.size w w9) := R8.out.trans (hb.mono R8.out.size)
  clear hb R8
  go_wp2_with fail
  refine (c7 _).mono ?_
  rintro e w10 ⟨rfl, hb⟩
  clear c7
  have R10 : Aside (Below w.heap.size w w10) := R9.out.trans (hb.mono R9.out.size)
  clear hb R9
  go_wp2_with fail
  refine (CA.out _ R10.out).mono ?_
  rintro e w11 ⟨rfl, hb⟩
  have R11 : Aside (Below w.heap.size w w11) := R10.out.trans (hb.mono R10.out.size)
  clear hb R10 CA
  go_wp2
  go_ret
  exact ⟨rfl, R11.out⟩

end Go.Proofs.YtfkgbafaeljieabDoor
