/- What the document's answers for layer 3 give: Power, Nodes, Leaf, Leaves. -/
import Derived.Test.YtddmfpiflnjmjaaDoorPosPlace
namespace Go.Proofs.YtddmfpiflnjmjaaDoor
open Go.RowKit

theorem power_ok (n : Nat) (hn : n < 64) (w : World) : Calls Tryd.prog 67 #[.int .i64 (n : Int)] w fun e w' => e = .returned (.int .u64 ((2 ^ n : Nat) : Int)) ∧ w = w' := by
  have HN : Aside (n < 64) := hn
  clear hn
  go_enter Tryd.func67, Tryd.ntmps67
  go_wp2
  go_loopg [3, 4] n (fun g s3 s4 wx => ∃ i v : Nat, s3 = .int .u64 (v : Int) ∧ s4 = .int .i64 (i : Int) ∧ Aside (v = 2 ^ i ∧ i + g = n) ∧ wx = w)
  case atStart => exact ⟨0, 1, rfl, rfl, ⟨rfl, by omega⟩, rfl⟩
  case round =>
    obtain ⟨i, v, rfl, rfl, A, hw⟩ := hrel
    subst hw
    cases gk with
    | zero =>
      have hi : ¬ (i : Int) < (n : Int) := by have := A.out.2; omega
      go_wp2
      go_ret
      obtain ⟨r1, r2⟩ := A.out
      refine ⟨?_, rfl⟩
      rw [r1, show i = n by omega]
      rfl
    | succ g =>
      have hi : (i : Int) < (n : Int) := by have := A.out.2; omega
      go_wp2
      go_roundg g
      case measure => omega
      case rel =>
        obtain ⟨r1, r2⟩ := A.out
        have h64 := HN.out
        have hp : 2 ^ (i + 1) ≤ 2 ^ 63 := Nat.pow_le_pow_right (by decide) (by omega)
        refine ⟨i + 1, 2 ^ (i + 1), ?_, ?_, ⟨rfl, by omega⟩, rfl⟩
        · congr 1
          rw [wrapU, r1]
          rw [Nat.pow_succ] at hp ⊢
          omega
        · congr 1
          unfold wrap64
          omega
theorem refnodes_not (n : Int) (hn : 4611686018427387904 < n) (w : World) : Calls Tryd.prog 68 #[.int .u64 n] w fun e w' => e = .returned (.tuple #[.int .u64 0, .bool false]) ∧ w = w' := by
  go_enter Tryd.func68, Tryd.ntmps68
  go_wp2
  go_ret2
  exact ⟨rfl, rfl⟩
theorem refnodes_ok (n : Nat) (hn : n ≤ 4611686018427387904) (w : World) : Calls Tryd.prog 68 #[.int .u64 (n : Int)] w fun e w' => e = .returned (.tuple #[.int .u64 ((NODES n : Nat) : Int), .bool true]) ∧ w = w' := by
  have HN : Aside (n ≤ 4611686018427387904) := hn
  have hd : ¬ (4611686018427387904 : Int) < (n : Int) := by omega
  clear hn
  go_enter Tryd.func68, Tryd.ntmps68
  go_wp2
  go_loopg [0, 4] n (fun g s0 s4 wx => ∃ v : Nat, s0 = .int .u64 (g : Int) ∧ s4 = .int .u64 (v : Int) ∧ Aside (v + NODES g = NODES n) ∧ wx = w)
  case atStart => exact ⟨0, rfl, rfl, by unfold Aside; omega, rfl⟩
  case round =>
    obtain ⟨v, rfl, rfl, A, hw⟩ := hrel
    subst hw
    cases gk with
    | zero =>
      go_wp2
      go_ret2
      have r1 := A.out
      rw [NODES_zero] at r1
      refine ⟨?_, rfl⟩
      rw [← r1]
      rfl
    | succ g =>
      have hi : (0 : Int) < (((g + 1 : Nat)) : Int) := by omega
      have e1 : Aside (IntKind.u64.wrap ((v : Int) + ((g + 1 : Nat) : Int)) = ((v + (g + 1) : Nat) : Int)) := by
        have h1 := NODES_half (g + 1)
        have h2 := A.out
        have h3 := NODES_top HN.out
        unfold Aside
        rw [wrapU]
        omega
      have e2 : Aside (IntKind.u64.wrap (((g + 1 : Nat) : Int) / 2) = (((g + 1) / 2 : Nat) : Int)) := by
        have h1 := NODES_ge (g + 1)
        have h2 := A.out
        have h3 := NODES_top HN.out
        unfold Aside
        rw [wrapU]
        omega
      generalize hG : g + 1 = G at *
      go_wp2
      go_roundg (G / 2)
      case measure => omega
      case rel =>
        refine ⟨v + G, ?_, ?_, ?_, rfl⟩
        · first | rfl | (congr 1; omega) | (rw [e2.out])
        · rw [e1.out]
        · have h1 := NODES_half G
          have h2 := A.out
          unfold Aside
          omega
end Go.Proofs.YtddmfpiflnjmjaaDoor
