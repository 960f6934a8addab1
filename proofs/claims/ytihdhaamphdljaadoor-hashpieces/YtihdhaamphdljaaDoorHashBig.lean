/- What Big of package num answers, where eight bytes are asked for. -/
import Derived.Test.YtihdhaamphdljaaDoorProg
import Derived.Test.YtihdhaamphdljaaDoorNumPlain
import Derived.Test.YtihdhaamphdljaaDoorNumSlice
namespace Go.Proofs.YtihdhaamphdljaaDoor
open Go.RowKit

theorem shr_raw (x n : Int) (w : World) : Calls Tryd.prog 51 #[.int .u64 x, .int .i64 n] w fun e w' => e = .returned (.int .u64 (if n < 0 then IntKind.u64.wrap (x * 2 ^ min (IntKind.u64.wrap (-IntKind.u64.wrap n)).toNat 64) else x / 2 ^ min (IntKind.u64.wrap n).toNat 64)) ∧ w = w' := by
  by_cases h : n < 0
  · rw [if_pos h]
    go_enter Tryd.func51, Tryd.ntmps51
    go_wp2
    go_ret
    exact ⟨rfl, rfl⟩
  · rw [if_neg h]
    go_enter Tryd.func51, Tryd.ntmps51
    go_wp2
    go_ret
    exact ⟨rfl, rfl⟩
theorem shr_ok (X : Nat) (n : Int) (hX : X < 2 ^ 64) (h0 : -(2 ^ 63) ≤ n) (h1 : n < 2 ^ 63) (w : World) : Calls Tryd.prog 51 #[.int .u64 (X : Int), .int .i64 n] w fun e w' => e = .returned (.int .u64 ((SHR X n : Nat) : Int)) ∧ w = w' :=
  (shr_raw X n w).mono fun e w' h => by rw [shr_raw_eq hX h0 h1] at h; exact h
/-- an array that is filled from 0 on. -/
theorem bfill_put {F f : Nat → Int} {i : Nat} {v : Int} (A : ∀ j, f j = if j < i then F j else 0) (hv : v = F i) : ∀ j, (if j = i then v else f j) = if j < i + 1 then F j else 0 := fun j => by
  by_cases e : j = i
  · subst e
    simp [hv]
  · rw [if_neg e, A j]
    by_cases e2 : j < i
    · rw [if_pos e2, if_pos (by omega)]
    · rw [if_neg e2, if_neg (by omega)]
theorem big_raw (x : Int) (n : Nat) (F : Nat → Int) (hn : (n : Int) ≤ 8) (w : World) (c : ∀ w, Calls Tryd.prog 51 #[.int .u64 x, .int .i64 (8 * (n : Int))] w fun e w' => e = .returned (.int .u64 0) ∧ w = w')
    (ci : ∀ i : Nat, i < n → ∃ s : Int, Aside (s % 256 = F i) ∧ ∀ w, Calls Tryd.prog 51 #[.int .u64 x, .int .i64 (8 * ((n : Int) - 1 - (i : Int)))] w fun e w' => e = .returned (.int .u64 s) ∧ w = w') :
    Calls Tryd.prog 41 #[.int .u64 x, .int .i64 (n : Int)] w fun e w' => e = .returned (.tuple #[.slice (some ⟨w.heap.size, 0, none⟩) n n, .int .i64 0]) ∧ w.alloc (.cells (BARR n F) 5) = w' := by
  have hmk := make_bytes n (by omega)
  have CI : Aside (∀ i : Nat, i < n → ∃ s : Int, Aside (s % 256 = F i) ∧ ∀ w, Calls Tryd.prog 51 #[.int .u64 x, .int .i64 (8 * ((n : Int) - 1 - (i : Int)))] w fun e w' => e = .returned (.int .u64 s) ∧ w = w') := ci
  clear ci
  go_enter Tryd.func41, Tryd.ntmps41
  go_wp2_with fail
  refine (c _).mono ?_
  rintro e w' ⟨rfl, rfl⟩
  go_wp2
  go_loopg [23] n (fun g s23 wx => ∃ (i : Nat) (f : Nat → Int), i + g = n ∧ Aside (∀ j, f j = if j < i then F j else 0) ∧ s23 = .int .i64 i ∧ wx = w.alloc (.cells (BARR n f) 5))
  case atStart => exact ⟨0, fun _ => 0, by omega, fun j => by simp, rfl, rfl⟩
  case round =>
    obtain ⟨i, f, hig, A, rfl, rfl⟩ := hrel
    cases gk with
    | zero =>
      obtain rfl : i = n := by omega
      have hf : BARR i f = BARR i F := BARR_ext fun j hj => by rw [A.out j, if_pos hj]
      rw [hf]
      clear hf A
      go_wp2
      go_ret2
      exact ⟨rfl, rfl⟩
    | succ g =>
      have hi : (i : Int) < (n : Int) := by omega
      have hc : (BARR n f)[i]? = some (.int .u8 (f i)) := BARR_get n f i (by omega)
      have hs : ∀ v, (BARR n f).setIfInBounds i (.int .u8 v) = BARR n (fun j => if j = i then v else f j) := fun v => BARR_set n f i v
      obtain ⟨s, hsF, cs⟩ := CI.out i (by omega)
      go_wp2_with fail
      refine (cs _).mono ?_
      rintro e w' ⟨rfl, rfl⟩
      go_wp2
      go_roundg g
      case measure => omega
      case rel => exact ⟨i + 1, _, by omega, bfill_put A.out hsF.out, by go_num, rfl⟩
/-- the i-th of n bytes of x, the highest first. -/
def BYTE (X n : Nat) : Nat → Int := fun i => ((X / 2 ^ (8 * (n - 1 - i)) % 256 : Nat) : Int)
theorem big_ok (X n : Nat) (hX : X < 2 ^ 64) (hn : n ≤ 8) (h : X / 2 ^ (8 * n) = 0) (w : World) :
    Calls Tryd.prog 41 #[.int .u64 (X : Int), .int .i64 (n : Int)] w fun e w' => e = .returned (.tuple #[.slice (some ⟨w.heap.size, 0, none⟩) n n, .int .i64 0]) ∧ w.alloc (.cells (BARR n (BYTE X n)) 5) = w' := by
  refine big_raw X n (BYTE X n) (by omega) w (fun w => ?_) (fun i hi => ?_)
  · have k := shr_ok X (8 * (n : Int)) hX (by omega) (by omega) w
    have hs : SHR X (8 * (n : Int)) = 0 := by
      unfold SHR
      rw [if_neg (by omega), show (8 * (n : Int)).toNat = 8 * n by omega, h]
    rw [hs] at k
    exact k
  · refine ⟨(SHR X (8 * ((n : Int) - 1 - (i : Int))) : Nat), ?_, fun w => shr_ok X _ hX (by omega) (by omega) w⟩
    unfold SHR BYTE Aside
    rw [if_neg (by omega), show (8 * ((n : Int) - 1 - (i : Int))).toNat = 8 * (n - 1 - i) by omega]
    simp
end Go.Proofs.YtihdhaamphdljaaDoor
