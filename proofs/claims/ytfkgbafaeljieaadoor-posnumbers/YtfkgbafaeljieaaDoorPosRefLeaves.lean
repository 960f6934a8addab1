/- What the document's Leaves gives: a search between two bounds. -/
import Derived.Test.YtfkgbafaeljieaaDoorPosRef
namespace Go.Proofs.YtfkgbafaeljieaaDoor
open Go.RowKit

/-- the document's search for so many nodes: the one that has them, or none. -/
theorem refleaves_ok (s : Nat) (w : World) : Calls Tryd.prog 12 #[.int .u64 (s : Int)] w fun e w' => w = w' ∧ ((∃ n : Nat, n ≤ 4611686018427387904 ∧ NODES n = s ∧ e = .returned (.tuple #[.int .u64 (n : Int), .bool true])) ∨ ((∀ n : Nat, n ≤ 4611686018427387904 → NODES n ≠ s) ∧ e = .returned (.tuple #[.int .u64 0, .bool false]))) := by
  go_enter Tryd.func12, Tryd.ntmps12
  go_wp2
  go_loopg [4, 5] 4611686018427387904 (fun g s4 s5 wx => ∃ lo hi : Nat, s4 = .int .u64 (lo : Int) ∧ s5 = .int .u64 (hi : Int) ∧ Aside (lo + g = hi ∧ hi ≤ 4611686018427387904 ∧ (∀ n, n < lo → NODES n < s) ∧ (hi < 4611686018427387904 → s ≤ NODES hi)) ∧ wx = w)
  case atStart => exact ⟨0, 4611686018427387904, rfl, rfl, ⟨by omega, by omega, fun n h => by omega, fun h => by omega⟩, rfl⟩
  case round =>
    obtain ⟨lo, hi, rfl, rfl, A, hw⟩ := hrel
    subst hw
    cases gk with
    | zero =>
      obtain ⟨r1, r2, r3, r4⟩ := A.out
      have hlo : ¬ (lo : Int) < (hi : Int) := by omega
      have c1 := refnodes_ok lo (by omega)
      by_cases hs : NODES lo = s
      · have hb : (((NODES lo : Nat) : Int) != (s : Int)) = false := by simp; omega
        have R : Aside (NODES lo = s ∧ lo ≤ 4611686018427387904) := ⟨hs, by omega⟩
        generalize ((NODES lo : Nat) : Int) = q at *
        clear r1 r2 r3 r4 A hs
        go_wp2_with fail
        refine (c1 _).mono ?_
        rintro e w' ⟨rfl, rfl⟩
        clear c1
        go_wp2
        go_ret2
        exact ⟨rfl, .inl ⟨lo, R.out.2, R.out.1, rfl⟩⟩
      · have hb : (((NODES lo : Nat) : Int) != (s : Int)) = true := by simp; omega
        have R : Aside (∀ n : Nat, n ≤ 4611686018427387904 → NODES n ≠ s) := by
          intro n hn he
          rcases Nat.lt_trichotomy n lo with h | h | h
          · have := r3 n h
            omega
          · subst h
            exact hs he
          · have h1 := NODES_lt h
            have h2 := r4 (by omega)
            rw [show hi = lo by omega] at h2
            omega
        generalize ((NODES lo : Nat) : Int) = q at *
        clear r1 r2 r3 r4 A hs
        go_wp2_with fail
        refine (c1 _).mono ?_
        rintro e w' ⟨rfl, rfl⟩
        clear c1
        go_wp2
        go_ret2
        exact ⟨rfl, .inr ⟨R.out, rfl⟩⟩
    | succ g =>
      obtain ⟨r1, r2, r3, r4⟩ := A.out
      have hlo : (lo : Int) < (hi : Int) := by omega
      obtain ⟨d, hd⟩ : ∃ d, hi - lo = d := ⟨_, rfl⟩
      obtain ⟨q, hq⟩ : ∃ q, d / 2 = q := ⟨_, rfl⟩
      obtain ⟨m, hm⟩ : ∃ m, lo + q = m := ⟨_, rfl⟩
      have e1 : IntKind.u64.wrap ((hi : Int) - (lo : Int)) = (d : Int) := by rw [wrapU]; omega
      have e2 : (d : Int) / 2 = (q : Int) := by omega
      have e2' : IntKind.u64.wrap (q : Int) = (q : Int) := by rw [wrapU]; omega
      have e3 : IntKind.u64.wrap ((lo : Int) + (q : Int)) = (m : Int) := by rw [wrapU]; omega
      have e4 : IntKind.u64.wrap ((m : Int) + 1) = ((m + 1 : Nat) : Int) := by rw [wrapU]; omega
      have c1 := refnodes_ok m (by omega)
      have RR : Aside (lo ≤ m ∧ m < hi) := ⟨by omega, by omega⟩
      clear hd hq hm r1 r2 r3 r4
      by_cases hs : NODES m < s
      · have hb : ((NODES m : Nat) : Int) < (s : Int) := by omega
        have R : Aside (NODES m < s) := hs
        generalize ((NODES m : Nat) : Int) = v at *
        clear hs
        go_wp2_with fail
        refine (c1 _).mono ?_
        rintro e w' ⟨rfl, rfl⟩
        clear c1
        go_wp2
        go_roundg (hi - (m + 1))
        case measure =>
          obtain ⟨r1, r2, r3, r4⟩ := A.out
          have := RR.out
          omega
        case rel =>
          obtain ⟨r1, r2, r3, r4⟩ := A.out
          have h5 := RR.out
          refine ⟨m + 1, hi, rfl, rfl, ⟨by omega, r2, fun n hn => ?_, r4⟩, rfl⟩
          rcases Nat.lt_or_ge n m with h | h
          · exact Nat.lt_trans (NODES_lt h) R.out
          · obtain rfl : n = m := by omega
            exact R.out
      · have hb : ¬ ((NODES m : Nat) : Int) < (s : Int) := by omega
        have R : Aside (s ≤ NODES m) := by unfold Aside; omega
        generalize ((NODES m : Nat) : Int) = v at *
        clear hs
        go_wp2_with fail
        refine (c1 _).mono ?_
        rintro e w' ⟨rfl, rfl⟩
        clear c1
        go_wp2
        go_roundg (m - lo)
        case measure =>
          obtain ⟨r1, r2, r3, r4⟩ := A.out
          have := RR.out
          omega
        case rel =>
          obtain ⟨r1, r2, r3, r4⟩ := A.out
          have h5 := RR.out
          exact ⟨lo, m, rfl, rfl, ⟨by omega, by omega, r3, fun _ => R.out⟩, rfl⟩
end Go.Proofs.YtfkgbafaeljieaaDoor
