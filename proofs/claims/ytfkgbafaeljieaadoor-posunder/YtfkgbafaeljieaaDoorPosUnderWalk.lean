/- The walk of PosUnder. -/
import Derived.Test.YtfkgbafaeljieaaDoorPosRefKin
import Derived.Test.YtfkgbafaeljieaaDoorPosAwake
namespace Go.Proofs.YtfkgbafaeljieaaDoor
open Go.RowKit

theorem posUnder_core (p a b f : Int) (ok yes : Bool) (w : World)
    (c1 : ∀ w, Calls Tryd.prog 30 #[.int .u64 p] w fun e w' => e = .returned (.tuple #[.int .u64 a, .int .u64 b, .bool ok]) ∧ Below w.heap.size w w')
    (c2 : ∀ w, Calls Tryd.prog 31 #[.int .u64 p] w fun e w' => e = .returned (.tuple #[.int .u64 a, .int .u64 b, .bool ok]) ∧ Below w.heap.size w w')
    (c3 : ∀ w, Calls Tryd.prog 32 #[.int .u64 p] w fun e w' => e = .returned (.tuple #[.int .u64 f, .bool yes]) ∧ Below w.heap.size w w')
    (c4 : ∀ w, Calls Tryd.prog 33 #[.int .u64 p] w fun e w' => e = .returned (.tuple #[.int .u64 f, .bool yes]) ∧ Below w.heap.size w w')
    (ca : ∀ W, Below w.heap.size w W → Calls Tryd.prog 13 #[] W fun e w' => e = .returned (.bool true) ∧ Below W.heap.size W w') :
    Calls Tryd.prog 7 #[.int .u64 p] w fun e w' => e = .returned (.bool true) ∧ Below w.heap.size w w' := by
  have CA : Aside (∀ W, Below w.heap.size w W → Calls Tryd.prog 13 #[] W fun e w' => e = .returned (.bool true) ∧ Below W.heap.size W w') := ca
  clear ca
  go_enter Tryd.func7, Tryd.ntmps7
  go_wp2_with fail
  refine (c1 _).mono ?_
  rintro e w1 ⟨rfl, hb⟩
  clear c1
  have R1 : Aside (Below w.heap.size w w1) := hb
  clear hb
  go_wp2_with fail
  refine (c2 _).mono ?_
  rintro e w2 ⟨rfl, hb⟩
  clear c2
  have R2 : Aside (Below w.heap.size w w2) := R1.out.trans (hb.mono R1.out.size)
  clear hb R1
  go_wp2_with fail
  refine (c3 _).mono ?_
  rintro e w3 ⟨rfl, hb⟩
  clear c3
  have R3 : Aside (Below w.heap.size w w3) := R2.out.trans (hb.mono R2.out.size)
  clear hb R2
  go_wp2_with fail
  refine (c4 _).mono ?_
  rintro e w4 ⟨rfl, hb⟩
  clear c4
  have R4 : Aside (Below w.heap.size w w4) := R3.out.trans (hb.mono R3.out.size)
  clear hb R3
  go_wp2_with fail
  refine (CA.out _ R4.out).mono ?_
  rintro e w5 ⟨rfl, hb⟩
  have R5 : Aside (Below w.heap.size w w5) := R4.out.trans (hb.mono R4.out.size)
  clear hb R4 CA
  go_wp2
  go_ret
  exact ⟨rfl, R5.out⟩
theorem posUnder_walk (a0 : Int) (w0 : (Lit.int .u64 a0).wf = true) (w : World) (hT : Tabled w) (h0 : 0 < w.heap.size) :
    Calls Tryd.prog 7 #[.int .u64 a0] w fun e w' => e = .returned (.bool true) ∧ Below w.heap.size w w' := by
  have b0 := wf_u64 w0
  obtain ⟨p, rfl⟩ : ∃ X : Nat, a0 = (X : Int) := ⟨a0.toNat, by omega⟩
  have ca : ∀ W, Below w.heap.size w W → Calls Tryd.prog 13 #[] W fun e w' => e = .returned (.bool true) ∧ Below W.heap.size W w' := fun W hW => awake_ok W (hT.below h0 hW) (Nat.lt_of_lt_of_le h0 hW.size)
  rcases Nat.lt_or_ge p 9223372036854775807 with hp | hp
  · obtain ⟨h, k, hN, rfl⟩ := Node.of hp
    exact posUnder_core _ _ _ _ true true w (fun w => under_ok h k hN w) (fun w => refunder_ok h k hN w) (fun w => since_ok h k hN w) (fun w => refsince_ok h k hN w) ca
  · have cu : ∀ w, Calls Tryd.prog 30 #[.int .u64 (p : Int)] w fun e w' => e = .returned (.tuple #[.int .u64 0, .int .u64 0, .bool false]) ∧ Below w.heap.size w w' := fun w => under_not _ 0 0 w (.out (by omega))
    have cr : ∀ w, Calls Tryd.prog 31 #[.int .u64 (p : Int)] w fun e w' => e = .returned (.tuple #[.int .u64 0, .int .u64 0, .bool false]) ∧ Below w.heap.size w w' := fun w => refunder_not _ 0 0 w (.out (by omega))
    exact posUnder_core _ _ _ _ false false w cu cr (fun w => since_raw _ _ _ _ w cu) (fun w => refsince_raw _ _ _ _ w cr) ca
end Go.Proofs.YtfkgbafaeljieaaDoor
