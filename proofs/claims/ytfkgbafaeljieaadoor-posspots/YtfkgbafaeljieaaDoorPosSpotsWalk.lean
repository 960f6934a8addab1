/- The walk of PosSpots. -/
import Derived.Test.YtfkgbafaeljieaaDoorPosRefKin
import Derived.Test.YtfkgbafaeljieaaDoorPosAwake
namespace Go.Proofs.YtfkgbafaeljieaaDoor
open Go.RowKit

theorem posSpots_core (p c : Int) (h k sh sk : Nat) (ok yes : Bool) (w : World)
    (c1 : ∀ w, Calls Tryd.prog 18 #[.int .u64 p] w fun e w' => e = .returned (.tuple #[SPOT h k, .bool ok]) ∧ Below w.heap.size w w')
    (c2 : ∀ w, Calls Tryd.prog 19 #[.int .u64 p] w fun e w' => e = .returned (.tuple #[SPOT h k, .bool ok]) ∧ Below w.heap.size w w')
    (c3 : ∀ w, Calls Tryd.prog 20 #[SPOT sh sk] w fun e w' => e = .returned (.tuple #[.int .u64 c, .bool yes]) ∧ Below w.heap.size w w')
    (c4 : ∀ w, Calls Tryd.prog 21 #[SPOT sh sk] w fun e w' => e = .returned (.tuple #[.int .u64 c, .bool yes]) ∧ Below w.heap.size w w')
    (ca : ∀ W, Below w.heap.size w W → Calls Tryd.prog 13 #[] W fun e w' => e = .returned (.bool true) ∧ Below W.heap.size W w') :
    Calls Tryd.prog 5 #[.int .u64 p, SPOT sh sk] w fun e w' => e = .returned (.bool true) ∧ Below w.heap.size w w' := by
  have CA : Aside (∀ W, Below w.heap.size w W → Calls Tryd.prog 13 #[] W fun e w' => e = .returned (.bool true) ∧ Below W.heap.size W w') := ca
  clear ca
  go_enter Tryd.func5, Tryd.ntmps5
  go_wp2_with fail
  have g0 : (w.alloc (.cells #[.int .u8 (sh : Int), .int .u64 (sk : Int)] 28)).cell? ⟨w.heap.size, 0, none⟩ = some (.int .u8 (sh : Int)) := by simp
  have g1 : (w.alloc (.cells #[.int .u8 (sh : Int), .int .u64 (sk : Int)] 28)).cell? ⟨w.heap.size, 1, none⟩ = some (.int .u64 (sk : Int)) := by simp
  have R0 : Aside (Below w.heap.size w (w.alloc (.cells #[.int .u8 (sh : Int), .int .u64 (sk : Int)] 28)) ∧ w.heap.size < (w.alloc (.cells #[.int .u8 (sh : Int), .int .u64 (sk : Int)] 28)).heap.size) := ⟨(Below.refl _ _).alloc (Nat.le_refl _) _, by simp⟩
  generalize w.alloc (.cells #[.int .u8 (sh : Int), .int .u64 (sk : Int)] 28) = w0 at *
  obtain ⟨s, hs⟩ : ∃ s, w.heap.size = s := ⟨_, rfl⟩
  rw [hs] at g0 g1
  simp only [hs]
  refine (c1 _).mono ?_
  rintro e w1 ⟨rfl, hb⟩
  clear c1
  have f0 := (hb.cell (p := ⟨s, 0, none⟩) (by rw [← hs]; exact R0.out.2)).trans g0
  have f1 := (hb.cell (p := ⟨s, 1, none⟩) (by rw [← hs]; exact R0.out.2)).trans g1
  have R1 : Aside (Below w.heap.size w w1 ∧ s < w1.heap.size) := ⟨R0.out.1.trans (hb.mono R0.out.1.size), by rw [← hs]; exact Nat.lt_of_lt_of_le R0.out.2 hb.size⟩
  clear hb R0 g0 g1
  go_wp2_with fail
  have g0 : (w1.alloc (.cells #[.int .u8 (h : Int), .int .u64 (k : Int)] 28)).cell? ⟨w1.heap.size, 0, none⟩ = some (.int .u8 (h : Int)) := by simp
  have g1 : (w1.alloc (.cells #[.int .u8 (h : Int), .int .u64 (k : Int)] 28)).cell? ⟨w1.heap.size, 1, none⟩ = some (.int .u64 (k : Int)) := by simp
  have hb : Below w1.heap.size w1 (w1.alloc (.cells #[.int .u8 (h : Int), .int .u64 (k : Int)] 28)) := (Below.refl _ _).alloc (Nat.le_refl _) _
  have hz : w1.heap.size < (w1.alloc (.cells #[.int .u8 (h : Int), .int .u64 (k : Int)] 28)).heap.size := by simp
  generalize w1.alloc (.cells #[.int .u8 (h : Int), .int .u64 (k : Int)] 28) = w2 at *
  have f0 := (hb.cell (p := ⟨s, 0, none⟩) R1.out.2).trans f0
  have f1 := (hb.cell (p := ⟨s, 1, none⟩) R1.out.2).trans f1
  have R2 : Aside (Below w.heap.size w w2 ∧ s < w2.heap.size ∧ w1.heap.size < w2.heap.size) := ⟨R1.out.1.trans (hb.mono R1.out.1.size), Nat.lt_of_lt_of_le R1.out.2 hb.size, hz⟩
  clear hb hz R1
  generalize w1.heap.size = a at *
  refine (c2 _).mono ?_
  rintro e w3 ⟨rfl, hb⟩
  clear c2
  have f0 := (hb.cell (p := ⟨s, 0, none⟩) R2.out.2.1).trans f0
  have f1 := (hb.cell (p := ⟨s, 1, none⟩) R2.out.2.1).trans f1
  have g0 := (hb.cell (p := ⟨a, 0, none⟩) R2.out.2.2).trans g0
  have g1 := (hb.cell (p := ⟨a, 1, none⟩) R2.out.2.2).trans g1
  have R3 : Aside (Below w.heap.size w w3 ∧ s < w3.heap.size ∧ a < w3.heap.size) := ⟨R2.out.1.trans (hb.mono R2.out.1.size), Nat.lt_of_lt_of_le R2.out.2.1 hb.size, Nat.lt_of_lt_of_le R2.out.2.2 hb.size⟩
  clear hb R2
  have i0 : (w3.alloc (.cells #[.int .u8 (h : Int), .int .u64 (k : Int)] 28)).cell? ⟨w3.heap.size, 0, none⟩ = some (.int .u8 (h : Int)) := by simp
  have i1 : (w3.alloc (.cells #[.int .u8 (h : Int), .int .u64 (k : Int)] 28)).cell? ⟨w3.heap.size, 1, none⟩ = some (.int .u64 (k : Int)) := by simp
  have hb : Below w3.heap.size w3 (w3.alloc (.cells #[.int .u8 (h : Int), .int .u64 (k : Int)] 28)) := (Below.refl _ _).alloc (Nat.le_refl _) _
  have hz : w3.heap.size < (w3.alloc (.cells #[.int .u8 (h : Int), .int .u64 (k : Int)] 28)).heap.size := by simp
  have f0 := (hb.cell (p := ⟨s, 0, none⟩) R3.out.2.1).trans f0
  have f1 := (hb.cell (p := ⟨s, 1, none⟩) R3.out.2.1).trans f1
  have g0 := (hb.cell (p := ⟨a, 0, none⟩) R3.out.2.2).trans g0
  have g1 := (hb.cell (p := ⟨a, 1, none⟩) R3.out.2.2).trans g1
  have R4 : Aside (Below w.heap.size w (w3.alloc (.cells #[.int .u8 (h : Int), .int .u64 (k : Int)] 28)) ∧ s < (w3.alloc (.cells #[.int .u8 (h : Int), .int .u64 (k : Int)] 28)).heap.size ∧ a < (w3.alloc (.cells #[.int .u8 (h : Int), .int .u64 (k : Int)] 28)).heap.size ∧ w3.heap.size < (w3.alloc (.cells #[.int .u8 (h : Int), .int .u64 (k : Int)] 28)).heap.size) := ⟨R3.out.1.trans (hb.mono R3.out.1.size), Nat.lt_of_lt_of_le R3.out.2.1 hb.size, Nat.lt_of_lt_of_le R3.out.2.2 hb.size, hz⟩
  clear hb hz R3
  go_wp2_with fail
  generalize w3.alloc (.cells #[.int .u8 (h : Int), .int .u64 (k : Int)] 28) = w4 at *
  generalize w3.heap.size = b at *
  refine (c3 _).mono ?_
  rintro e w5 ⟨rfl, hb⟩
  clear c3
  have f0 := (hb.cell (p := ⟨s, 0, none⟩) R4.out.2.1).trans f0
  have f1 := (hb.cell (p := ⟨s, 1, none⟩) R4.out.2.1).trans f1
  have g0 := (hb.cell (p := ⟨a, 0, none⟩) R4.out.2.2.1).trans g0
  have g1 := (hb.cell (p := ⟨a, 1, none⟩) R4.out.2.2.1).trans g1
  have i0 := (hb.cell (p := ⟨b, 0, none⟩) R4.out.2.2.2).trans i0
  have i1 := (hb.cell (p := ⟨b, 1, none⟩) R4.out.2.2.2).trans i1
  have R5 : Aside (Below w.heap.size w w5 ∧ s < w5.heap.size ∧ a < w5.heap.size ∧ b < w5.heap.size) := ⟨R4.out.1.trans (hb.mono R4.out.1.size), Nat.lt_of_lt_of_le R4.out.2.1 hb.size, Nat.lt_of_lt_of_le R4.out.2.2.1 hb.size, Nat.lt_of_lt_of_le R4.out.2.2.2 hb.size⟩
  clear hb R4
  go_wp2_with fail
  refine (c4 _).mono ?_
  rintro e w6 ⟨rfl, hb⟩
  clear c4
  have g0 := (hb.cell (p := ⟨a, 0, none⟩) R5.out.2.2.1).trans g0
  have g1 := (hb.cell (p := ⟨a, 1, none⟩) R5.out.2.2.1).trans g1
  have i0 := (hb.cell (p := ⟨b, 0, none⟩) R5.out.2.2.2).trans i0
  have i1 := (hb.cell (p := ⟨b, 1, none⟩) R5.out.2.2.2).trans i1
  have R6 : Aside (Below w.heap.size w w6) := R5.out.1.trans (hb.mono R5.out.1.size)
  clear hb R5 f0 f1
  go_wp2_with fail
  refine (CA.out _ R6.out).mono ?_
  rintro e w7 ⟨rfl, hb⟩
  have R7 : Aside (Below w.heap.size w w7) := R6.out.trans (hb.mono R6.out.size)
  clear hb R6 CA
  go_wp2
  go_ret
  exact ⟨rfl, R7.out⟩
theorem posSpots_walk (a0 : Int) (a1 b1 : Nat) (w0 : (Lit.int .u64 a0).wf = true) (w1 : a1 < 256) (_x1 : b1 < 2 ^ 64) (w : World) (hT : Tabled w) (h0 : 0 < w.heap.size) :
    Calls Tryd.prog 5 #[.int .u64 a0, SPOT a1 b1] w fun e w' => e = .returned (.bool true) ∧ Below w.heap.size w w' := by
  have b0 := wf_u64 w0
  obtain ⟨p, rfl⟩ : ∃ X : Nat, a0 = (X : Int) := ⟨a0.toNat, by omega⟩
  have ca : ∀ W, Below w.heap.size w W → Calls Tryd.prog 13 #[] W fun e w' => e = .returned (.bool true) ∧ Below W.heap.size W w' := fun W hW => awake_ok W (hT.below h0 hW) (Nat.lt_of_lt_of_le h0 hW.size)
  have hn : ∃ (c : Int) (ok : Bool), (∀ w, Calls Tryd.prog 20 #[SPOT a1 b1] w fun e w' => e = .returned (.tuple #[.int .u64 c, .bool ok]) ∧ Below w.heap.size w w') ∧ (∀ w, Calls Tryd.prog 21 #[SPOT a1 b1] w fun e w' => e = .returned (.tuple #[.int .u64 c, .bool ok]) ∧ Below w.heap.size w w') := by
    by_cases hN : Node a1 b1
    · exact ⟨_, true, fun w => place_ok _ _ hN w, fun w => refplace_ok _ _ hN w⟩
    · exact ⟨0, false, fun w => place_not _ _ hN w, fun w => refplace_not _ _ w1 hN w⟩
  obtain ⟨c, ok, c1, c2⟩ := hn
  rcases Nat.lt_or_ge p 9223372036854775807 with hp | hp
  · obtain ⟨h, k, hN, rfl⟩ := Node.of hp
    exact posSpots_core _ c h k a1 b1 true ok w (fun w => spot_ok h k hN w) (fun w => refspot_ok h k hN w) c1 c2 ca
  · exact posSpots_core _ c 0 0 a1 b1 false ok w (fun w => spot_not _ (by omega) w) (fun w => refspot_not _ (by omega) w) c1 c2 ca
end Go.Proofs.YtfkgbafaeljieaaDoor
