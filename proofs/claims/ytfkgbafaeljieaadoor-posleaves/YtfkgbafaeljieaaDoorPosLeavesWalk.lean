/- The walk of PosLeaves. -/
import Derived.Test.YtfkgbafaeljieaaDoorPosRefKin
import Derived.Test.YtfkgbafaeljieaaDoorPosAwake
namespace Go.Proofs.YtfkgbafaeljieaaDoor
open Go.RowKit

theorem posLeaves_core (n s a c : Int) (ok yes : Bool) (w : World)
    (c1 : ∀ w, Calls Tryd.prog 14 #[.int .u64 n] w fun e w' => e = .returned (.tuple #[.int .u64 a, .bool ok]) ∧ w = w')
    (c2 : ∀ w, Calls Tryd.prog 15 #[.int .u64 n] w fun e w' => e = .returned (.tuple #[.int .u64 a, .bool ok]) ∧ w = w')
    (c3 : ∀ w, Calls Tryd.prog 16 #[.int .u64 s] w fun e w' => e = .returned (.tuple #[.int .u64 c, .bool yes]) ∧ Below w.heap.size w w')
    (c4 : ∀ w, Calls Tryd.prog 17 #[.int .u64 s] w fun e w' => e = .returned (.tuple #[.int .u64 c, .bool yes]) ∧ Below w.heap.size w w')
    (ca : ∀ W, Below w.heap.size w W → Calls Tryd.prog 13 #[] W fun e w' => e = .returned (.bool true) ∧ Below W.heap.size W w') :
    Calls Tryd.prog 4 #[.int .u64 n, .int .u64 s] w fun e w' => e = .returned (.bool true) ∧ Below w.heap.size w w' := by
  have CA : Aside (∀ W, Below w.heap.size w W → Calls Tryd.prog 13 #[] W fun e w' => e = .returned (.bool true) ∧ Below W.heap.size W w') := ca
  clear ca
  go_enter Tryd.func4, Tryd.ntmps4
  go_wp2_with fail
  refine (c1 _).mono ?_
  rintro e w1 ⟨rfl, rfl⟩
  clear c1
  go_wp2_with fail
  refine (c2 _).mono ?_
  rintro e w1 ⟨rfl, rfl⟩
  clear c2
  go_wp2_with fail
  refine (c3 _).mono ?_
  rintro e w1 ⟨rfl, hb⟩
  clear c3
  have R : Aside (Below w.heap.size w w1) := hb
  clear hb
  go_wp2_with fail
  refine (c4 _).mono ?_
  rintro e w2 ⟨rfl, hb⟩
  clear c4
  have R1 : Aside (Below w.heap.size w w2) := R.out.trans (hb.mono R.out.size)
  clear hb R
  go_wp2_with fail
  refine (CA.out _ R1.out).mono ?_
  rintro e w3 ⟨rfl, hb⟩
  have R2 : Aside (Below w.heap.size w w3) := R1.out.trans (hb.mono R1.out.size)
  clear hb R1 CA
  go_wp2
  go_ret
  exact ⟨rfl, R2.out⟩
theorem posLeaves_walk (a0 a1 : Int) (w0 : (Lit.int .u64 a0).wf = true) (w1 : (Lit.int .u64 a1).wf = true) (w : World) (hT : Tabled w) (h0 : 0 < w.heap.size) :
    Calls Tryd.prog 4 #[.int .u64 a0, .int .u64 a1] w fun e w' => e = .returned (.bool true) ∧ Below w.heap.size w w' := by
  have b0 := wf_u64 w0
  have b1 := wf_u64 w1
  obtain ⟨n, rfl⟩ : ∃ X : Nat, a0 = (X : Int) := ⟨a0.toNat, by omega⟩
  obtain ⟨s, rfl⟩ : ∃ X : Nat, a1 = (X : Int) := ⟨a1.toNat, by omega⟩
  have ca : ∀ W, Below w.heap.size w W → Calls Tryd.prog 13 #[] W fun e w' => e = .returned (.bool true) ∧ Below W.heap.size W w' := fun W hW => awake_ok W (hT.below h0 hW) (Nat.lt_of_lt_of_le h0 hW.size)
  have hn : ∃ (a : Int) (ok : Bool), (∀ w, Calls Tryd.prog 14 #[.int .u64 (n : Int)] w fun e w' => e = .returned (.tuple #[.int .u64 a, .bool ok]) ∧ w = w') ∧ (∀ w, Calls Tryd.prog 15 #[.int .u64 (n : Int)] w fun e w' => e = .returned (.tuple #[.int .u64 a, .bool ok]) ∧ w = w') := by
    rcases Nat.lt_or_ge n 4611686018427387904 with h | h
    · exact ⟨_, true, fun w => leaf_ok n h w, fun w => refleaf_ok n h w⟩
    · exact ⟨0, false, fun w => leaf_not _ (by omega) w, fun w => refleaf_not _ (by omega) w⟩
  obtain ⟨a, ok, c1, c2⟩ := hn
  rcases Nat.lt_or_ge s 9223372036854775807 with hp | hp
  · obtain ⟨h, k, hN, rfl⟩ := Node.of hp
    rcases Nat.eq_zero_or_pos h with h1 | h1
    · subst h1
      exact posLeaves_core _ _ a k ok true w c1 c2 (fun w => index_leaf _ k w (.node hN)) (fun w => refindex_leaf _ k w (.node hN)) ca
    · exact posLeaves_core _ _ a 0 ok false w c1 c2 (fun w => index_inner _ h k w h1 (.node hN)) (fun w => refindex_inner _ h k w h1 (.node hN)) ca
  · exact posLeaves_core _ _ a 0 ok false w c1 c2 (fun w => index_not _ 0 0 w (.out (by omega))) (fun w => refindex_not _ 0 0 w (.out (by omega))) ca
end Go.Proofs.YtfkgbafaeljieaaDoor
