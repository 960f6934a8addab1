/- The walk of PosNumbers. -/
import Derived.Test.YtfkgbafaeljieaaDoorPosAll
import Derived.Test.YtfkgbafaeljieaaDoorPosRefLeaves
import Derived.Test.YtfkgbafaeljieaaDoorPosAwake
namespace Go.Proofs.YtfkgbafaeljieaaDoor
open Go.RowKit

theorem posNumbers_core (n s a c : Int) (ok yes : Bool) (w : World)
    (c1 : ∀ w, Calls Tryd.prog 9 #[.int .u64 n] w fun e w' => e = .returned (.tuple #[.int .u64 a, .bool ok]) ∧ w = w')
    (c2 : ∀ w, Calls Tryd.prog 10 #[.int .u64 n] w fun e w' => e = .returned (.tuple #[.int .u64 a, .bool ok]) ∧ w = w')
    (c3 : ∀ w, Calls Tryd.prog 11 #[.int .u64 s] w fun e w' => e = .returned (.tuple #[.int .u64 c, .bool yes]) ∧ Below w.heap.size w w')
    (c4 : ∀ w, Calls Tryd.prog 12 #[.int .u64 s] w fun e w' => e = .returned (.tuple #[.int .u64 c, .bool yes]) ∧ w = w')
    (ca : ∀ W, Below w.heap.size w W → Calls Tryd.prog 13 #[] W fun e w' => e = .returned (.bool true) ∧ Below W.heap.size W w') :
    Calls Tryd.prog 3 #[.int .u64 n, .int .u64 s] w fun e w' => e = .returned (.bool true) ∧ Below w.heap.size w w' := by
  have CA : Aside (∀ W, Below w.heap.size w W → Calls Tryd.prog 13 #[] W fun e w' => e = .returned (.bool true) ∧ Below W.heap.size W w') := ca
  clear ca
  go_enter Tryd.func3, Tryd.ntmps3
  go_wp2_with fail
  refine (c1 _).mono ?_
  rintro e w1 ⟨rfl, rfl⟩
  clear c1
  go_wp2_with fail
  refine (c2 _).mono ?_
  rintro e w1 ⟨rfl, rfl⟩
  clear c2
  go_wp2_with fail
  refine (c3 _).mono ?_
  rintro e w1 ⟨rfl, hb⟩
  clear c3
  have R : Aside (Below w.heap.size w w1) := hb
  clear hb
  go_wp2_with fail
  refine (c4 _).mono ?_
  rintro e w2 ⟨rfl, rfl⟩
  clear c4
  go_wp2_with fail
  refine (CA.out _ R.out).mono ?_
  rintro e w2 ⟨rfl, hb⟩
  have R2 : Aside (Below w.heap.size w w2) := R.out.trans (hb.mono R.out.size)
  clear hb R CA
  go_wp2
  go_ret
  exact ⟨rfl, R2.out⟩
theorem posNumbers_walk (a0 a1 : Int) (w0 : (Lit.int .u64 a0).wf = true) (w1 : (Lit.int .u64 a1).wf = true) (w : World) (hT : Tabled w) (h0 : 0 < w.heap.size) :
    Calls Tryd.prog 3 #[.int .u64 a0, .int .u64 a1] w fun e w' => e = .returned (.bool true) ∧ Below w.heap.size w w' := by
  have b0 := wf_u64 w0
  have b1 := wf_u64 w1
  obtain ⟨n, rfl⟩ : ∃ X : Nat, a0 = (X : Int) := ⟨a0.toNat, by omega⟩
  obtain ⟨s, rfl⟩ : ∃ X : Nat, a1 = (X : Int) := ⟨a1.toNat, by omega⟩
  have ca : ∀ W, Below w.heap.size w W → Calls Tryd.prog 13 #[] W fun e w' => e = .returned (.bool true) ∧ Below W.heap.size W w' := fun W hW => awake_ok W (hT.below h0 hW) (Nat.lt_of_lt_of_le h0 hW.size)
  have hn : ∃ (a : Int) (ok : Bool), (∀ w, Calls Tryd.prog 9 #[.int .u64 (n : Int)] w fun e w' => e = .returned (.tuple #[.int .u64 a, .bool ok]) ∧ w = w') ∧ (∀ w, Calls Tryd.prog 10 #[.int .u64 (n : Int)] w fun e w' => e = .returned (.tuple #[.int .u64 a, .bool ok]) ∧ w = w') := by
    rcases Nat.lt_or_ge 4611686018427387904 n with h | h
    · exact ⟨0, false, fun w => nodes_not _ (by omega) w, fun w => refnodes_not _ (by omega) w⟩
    · exact ⟨_, true, fun w => nodes_ok n h w, fun w => refnodes_ok n h w⟩
  obtain ⟨a, ok, c1, c2⟩ := hn
  by_cases hs : ∃ n : Nat, n ≤ 4611686018427387904 ∧ NODES n = s
  · obtain ⟨m, hm, rfl⟩ := hs
    refine posNumbers_core _ _ a m ok true w c1 c2 (fun w => leaves_yes m hm w) (fun w => ?_) ca
    refine (refleaves_ok _ w).mono ?_
    rintro e w' ⟨rfl, ⟨m', hm', he, rfl⟩ | ⟨h, _⟩⟩
    · rw [NODES_inj he]
      exact ⟨rfl, rfl⟩
    · exact absurd rfl (h m hm)
  · have hs' : ∀ n : Nat, n ≤ 4611686018427387904 → NODES n ≠ s := fun n hn he => hs ⟨n, hn, he⟩
    refine posNumbers_core _ _ a 0 ok false w c1 c2 (fun w => leaves_no s hs' w) (fun w => ?_) ca
    refine (refleaves_ok _ w).mono ?_
    rintro e w' ⟨rfl, ⟨m', hm', he, rfl⟩ | ⟨h, rfl⟩⟩
    · exact absurd he (hs' m' hm')
    · exact ⟨rfl, rfl⟩
end Go.Proofs.YtfkgbafaeljieaaDoor
