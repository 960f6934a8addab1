/- The walk of PosKin. -/
import Derived.Test.YtfkgbafaeljieaaDoorPosRefKin
import Derived.Test.YtfkgbafaeljieaaDoorPosAwake
namespace Go.Proofs.YtfkgbafaeljieaaDoor
open Go.RowKit

theorem posKin_core (p a b c d : Int) (x y z r : Bool) (w : World)
    (c1 : ∀ w, Calls Tryd.prog 22 #[.int .u64 p] w fun e w' => e = .returned (.tuple #[.int .u64 a, .bool x]) ∧ Below w.heap.size w w')
    (c2 : ∀ w, Calls Tryd.prog 23 #[.int .u64 p] w fun e w' => e = .returned (.tuple #[.int .u64 a, .bool x]) ∧ Below w.heap.size w w')
    (c3 : ∀ w, Calls Tryd.prog 24 #[.int .u64 p] w fun e w' => e = .returned (.tuple #[.int .u64 b, .bool y]) ∧ Below w.heap.size w w')
    (c4 : ∀ w, Calls Tryd.prog 25 #[.int .u64 p] w fun e w' => e = .returned (.tuple #[.int .u64 b, .bool y]) ∧ Below w.heap.size w w')
    (c5 : ∀ w, Calls Tryd.prog 26 #[.int .u64 p] w fun e w' => e = .returned (.tuple #[.int .u64 c, .int .u64 d, .bool z]) ∧ Below w.heap.size w w')
    (c6 : ∀ w, Calls Tryd.prog 27 #[.int .u64 p] w fun e w' => e = .returned (.tuple #[.int .u64 c, .int .u64 d, .bool z]) ∧ Below w.heap.size w w')
    (c7 : ∀ w, Calls Tryd.prog 28 #[.int .u64 p] w fun e w' => e = .returned (.bool r) ∧ Below w.heap.size w w')
    (c8 : ∀ w, Calls Tryd.prog 29 #[.int .u64 p] w fun e w' => e = .returned (.bool r) ∧ Below w.heap.size w w')
    (ca : ∀ W, Below w.heap.size w W → Calls Tryd.prog 13 #[] W fun e w' => e = .returned (.bool true) ∧ Below W.heap.size W w') :
    Calls Tryd.prog 6 #[.int .u64 p] w fun e w' => e = .returned (.bool true) ∧ Below w.heap.size w w' := by
  have CA : Aside (∀ W, Below w.heap.size w W → Calls Tryd.prog 13 #[] W fun e w' => e = .returned (.bool true) ∧ Below W.heap.size W w') := ca
  clear ca
  go_enter Tryd.func6, Tryd.ntmps6
  go_wp2_with fail
  refine (c1 _).mono ?_
  rintro e w1 ⟨rfl, hb⟩
  clear c1
  have R1 : Aside (Below w.heap.size w w1) := hb
  clear hb
  go_wp2_with fail
  refine (c2 _).mono ?_
  rintro e w2 ⟨rfl, hb⟩
  clear c2
  have R2 : Aside (Below w.heap.size w w2) := R1.out.trans (hb.mono R1.out.size)
  clear hb R1
  go_wp2_with fail
  refine (c3 _).mono ?_
  rintro e w3 ⟨rfl, hb⟩
  clear c3
  have R3 : Aside (Below w.heap.size w w3) := R2.out.trans (hb.mono R2.out.size)
  clear hb R2
  go_wp2_with fail
  refine (c4 _).mono ?_
  rintro e w4 ⟨rfl, hb⟩
  clear c4
  have R4 : Aside (Below w.heap.size w w4) := R3.out.trans (hb.mono R3.out.size)
  clear hb R3
  go_wp2_with fail
  refine (c5 _).mono ?_
  rintro e w5 ⟨rfl, hb⟩
  clear c5
  have R5 : Aside (Below w.heap.size w w5) := R4.out.trans (hb.mono R4.out.size)
  clear hb R4
  go_wp2_with fail
  refine (c6 _).mono ?_
  rintro e w6 ⟨rfl, hb⟩
  clear c6
  have R6 : Aside (Below w.heap.size w w6) := R5.out.trans (hb.mono R5.out.size)
  clear hb R5
  go_wp2_with fail
  refine (c7 _).mono ?_
  rintro e w7 ⟨rfl, hb⟩
  clear c7
  have R7 : Aside (Below w.heap.size w w7) := R6.out.trans (hb.mono R6.out.size)
  clear hb R6
  go_wp2_with fail
  refine (c8 _).mono ?_
  rintro e w8 ⟨rfl, hb⟩
  clear c8
  have R8 : Aside (Below w.heap.size w w8) := R7.out.trans (hb.mono R7.out.size)
  clear hb R7
  go_wp2_with fail
  refine (CA.out _ R8.out).mono ?_
  rintro e w9 ⟨rfl, hb⟩
  have R9 : Aside (Below w.heap.size w w9) := R8.out.trans (hb.mono R8.out.size)
  clear hb R8 CA
  go_wp2
  go_ret
  exact ⟨rfl, R9.out⟩
theorem posKin_walk (a0 : Int) (w0 : (Lit.int .u64 a0).wf = true) (w : World) (hT : Tabled w) (h0 : 0 < w.heap.size) :
    Calls Tryd.prog 6 #[.int .u64 a0] w fun e w' => e = .returned (.bool true) ∧ Below w.heap.size w w' := by
  have b0 := wf_u64 w0
  obtain ⟨p, rfl⟩ : ∃ X : Nat, a0 = (X : Int) := ⟨a0.toNat, by omega⟩
  have ca : ∀ W, Below w.heap.size w W → Calls Tryd.prog 13 #[] W fun e w' => e = .returned (.bool true) ∧ Below W.heap.size W w' := fun W hW => awake_ok W (hT.below h0 hW) (Nat.lt_of_lt_of_le h0 hW.size)
  rcases Nat.lt_or_ge p 9223372036854775807 with hp | hp
  · obtain ⟨h, k, hN, rfl⟩ := Node.of hp
    have hu : ∃ (a b : Int) (x : Bool), (∀ w, Calls Tryd.prog 22 #[.int .u64 ((PLC h k : Nat) : Int)] w fun e w' => e = .returned (.tuple #[.int .u64 a, .bool x]) ∧ Below w.heap.size w w')
        ∧ (∀ w, Calls Tryd.prog 23 #[.int .u64 ((PLC h k : Nat) : Int)] w fun e w' => e = .returned (.tuple #[.int .u64 a, .bool x]) ∧ Below w.heap.size w w')
        ∧ (∀ w, Calls Tryd.prog 24 #[.int .u64 ((PLC h k : Nat) : Int)] w fun e w' => e = .returned (.tuple #[.int .u64 b, .bool x]) ∧ Below w.heap.size w w')
        ∧ (∀ w, Calls Tryd.prog 25 #[.int .u64 ((PLC h k : Nat) : Int)] w fun e w' => e = .returned (.tuple #[.int .u64 b, .bool x]) ∧ Below w.heap.size w w') := by
      rcases Nat.lt_or_ge h 62 with hh | hh
      · exact ⟨_, _, true, fun w => parent_ok h k hN hh w, fun w => refparent_ok h k hN hh w, fun w => sibling_ok h k hN hh w, fun w => refsibling_ok h k hN hh w⟩
      · obtain rfl : h = 62 := by have := hN.1; omega
        exact ⟨0, 0, false, fun w => parent_top _ k w (.node hN), fun w => refparent_top _ k w (.node hN), fun w => sibling_top _ k w (.node hN), fun w => refsibling_top _ k w (.node hN)⟩
    obtain ⟨a, b, x, c1, c2, c3, c4⟩ := hu
    rcases Nat.eq_zero_or_pos h with h1 | h1
    · subst h1
      exact posKin_core _ a b 0 0 x x false _ w c1 c2 c3 c4 (fun w => kids_leaf _ k w (.node hN)) (fun w => refkids_leaf _ k w (.node hN)) (fun w => right_ok 0 k hN w) (fun w => refright_ok 0 k hN w) ca
    · obtain ⟨g, rfl⟩ : ∃ g, h = g + 1 := ⟨h - 1, by omega⟩
      exact posKin_core _ a b _ _ x x true _ w c1 c2 c3 c4 (fun w => kids_ok g k hN w) (fun w => refkids_ok g k hN w) (fun w => right_ok (g + 1) k hN w) (fun w => refright_ok (g + 1) k hN w) ca
  · have hp : (9223372036854775807 : Int) ≤ (p : Int) := by omega
    exact posKin_core _ 0 0 0 0 false false false false w (fun w => parent_not _ 0 0 w (.out hp)) (fun w => refparent_not _ 0 0 w (.out hp)) (fun w => sibling_not _ 0 0 w (.out hp)) (fun w => refsibling_not _ 0 0 w (.out hp)) (fun w => kids_not _ 0 0 w (.out hp)) (fun w => refkids_not _ 0 0 w (.out hp)) (fun w => right_not _ 0 0 w (.out hp)) (fun w => refright_not _ 0 0 w (.out hp)) ca
end Go.Proofs.YtfkgbafaeljieaaDoor
