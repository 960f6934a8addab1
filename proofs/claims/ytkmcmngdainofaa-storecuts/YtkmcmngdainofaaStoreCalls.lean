/- What the small functions under package store answer: cmp.Compare, rowOf, bitOf, New, the comparison of a row. -/
import Derived.Test.YtkmcmngdainofaaNumBitCalls
import Derived.Test.YtkmcmngdainofaaHashHasher
namespace Go.Proofs.Ytkmcmngdainofaa
open Go.RowKit

theorem isnan_ok (x : Int) (w : World) : Calls Try.prog 44 #[.int .u64 x] w fun e w' => e = .returned (.bool false) ∧ w = w' := by
  go_enter Try.func44, Try.ntmps44
  go_wp2
  go_ret
  exact ⟨rfl, rfl⟩
/-- three ways. -/
def CMP (x y : Nat) : Int := if x < y then -1 else if y < x then 1 else 0
theorem compare_ok (x y : Nat) (w : World) : Calls Try.prog 34 #[.int .u64 (x : Int), .int .u64 (y : Int)] w fun e w' => e = .returned (.int .i64 (CMP x y)) ∧ w = w' := by
  have c1 := fun w => isnan_ok (x : Int) w
  have c2 := fun w => isnan_ok (y : Int) w
  rcases Nat.lt_trichotomy x y with h | h | h
  · have h1 : (x : Int) < (y : Int) := by omega
    have e : CMP x y = -1 := by unfold CMP; rw [if_pos h]
    rw [e]
    go_enter Try.func34, Try.ntmps34
    go_wp2_with fail
    refine (c1 _).mono ?_
    rintro e w' ⟨rfl, rfl⟩
    go_wp2_with fail
    refine (c2 _).mono ?_
    rintro e w' ⟨rfl, rfl⟩
    go_wp2
    go_ret
    exact ⟨rfl, rfl⟩
  · subst h
    have e : CMP x x = 0 := by unfold CMP; rw [if_neg (by omega), if_neg (by omega)]
    rw [e]
    go_enter Try.func34, Try.ntmps34
    go_wp2_with fail
    refine (c1 _).mono ?_
    rintro e w' ⟨rfl, rfl⟩
    go_wp2_with fail
    refine (c1 _).mono ?_
    rintro e w' ⟨rfl, rfl⟩
    go_wp2
    go_ret
    exact ⟨rfl, rfl⟩
  · have h1 : ¬ (x : Int) < (y : Int) := by omega
    have h2 : (y : Int) < (x : Int) := by omega
    have e : CMP x y = 1 := by unfold CMP; rw [if_neg (by omega), if_pos h]
    rw [e]
    go_enter Try.func34, Try.ntmps34
    go_wp2_with fail
    refine (c1 _).mono ?_
    rintro e w' ⟨rfl, rfl⟩
    go_wp2_with fail
    refine (c2 _).mono ?_
    rintro e w' ⟨rfl, rfl⟩
    go_wp2
    go_ret
    exact ⟨rfl, rfl⟩
theorem rowof_raw (p r : Int) (h : p / 64 = r) (w : World) : Calls Try.prog 17 #[.int .u64 p] w fun e w' => e = .returned (.int .u64 r) ∧ w = w' := by
  go_enter Try.func17, Try.ntmps17
  go_wp2
  go_ret
  exact ⟨rfl, rfl⟩
theorem rowof_ok (p : Nat) (w : World) : Calls Try.prog 17 #[.int .u64 (p : Int)] w fun e w' => e = .returned (.int .u64 ((p / 64 : Nat) : Int)) ∧ w = w' := rowof_raw _ _ (by omega) w
theorem bitof_raw (p k r : Int) (h0 : bits .and .u64 p 63 = k) (hk : ¬ k < 0) (h : IntKind.u64.wrap (2 ^ min k.toNat 64) = r) (w : World) : Calls Try.prog 18 #[.int .u64 p] w fun e w' => e = .returned (.int .u64 r) ∧ w = w' := by
  subst h
  go_enter Try.func18, Try.ntmps18
  go_wp2
  go_ret
  exact ⟨rfl, rfl⟩
theorem bitof_ok (p : Nat) (hp : p < 2 ^ 64) (w : World) : Calls Try.prog 18 #[.int .u64 (p : Int)] w fun e w' => e = .returned (.int .u64 ((2 ^ (p % 64) : Nat) : Int)) ∧ w = w' := by
  have hk : p % 64 < 64 := Nat.mod_lt _ (by decide)
  have e : (p &&& 63 : Nat) = p % 64 := Nat.and_two_pow_sub_one_eq_mod p 6
  have h2 : 2 ^ (p % 64) < 2 ^ 64 := Nat.pow_lt_pow_right (by decide) hk
  refine bitof_raw _ ((p % 64 : Nat) : Int) _ ((and_lit rfl rfl hp (by decide)).trans (by rw [e])) (by omega) ?_ w
  rw [Int.toNat_natCast, Nat.min_eq_left (by omega)]
  exact wrap_nat (by push_cast; rfl) h2
/-- an empty store, as cells. -/
abbrev FRESH (log : Nat) : Array Value := #[.int .i64 (log : Int), .int .u64 0, .int .u64 0, .map none, .map none]
theorem storenew_ok (log : Nat) (h : log ≤ 16) (w : World) : Calls Try.prog 16 #[.int .i64 (log : Int)] w fun e w' => e = .returned (.tuple #[.pointer (some ⟨w.heap.size, 0, none⟩), .int .i64 0]) ∧ w' = w.alloc (.cells (FRESH log) 47) := by
  have h1 : ¬ (log : Int) < 0 := by omega
  have h2 : ¬ (16 : Int) < (log : Int) := by omega
  go_enter Try.func16, Try.ntmps16
  go_wp2
  go_ret2
  exact ⟨rfl, rfl⟩
theorem new_not (log : Int) (h : log < 0 ∨ 16 < log) (w : World) : Calls Try.prog 16 #[.int .i64 log] w fun e w' => e = .returned (.tuple #[.pointer none, .int .i64 1]) ∧ w = w' := by
  rcases h with h | h
  · go_enter Try.func16, Try.ntmps16
    go_wp2
    go_ret2
    exact ⟨rfl, rfl⟩
  · have h1 : ¬ log < 0 := by omega
    go_enter Try.func16, Try.ntmps16
    go_wp2
    go_ret2
    exact ⟨rfl, rfl⟩
/-- the comparison of a row with a number. -/
theorem rowcmp_ok (x y : Nat) (lv : Int) (a : Option Addr) (n c : Nat) (w : World) : Calls Try.prog 50 #[.agg #[.int .u64 (x : Int), .int .u64 lv, .slice a n c], .int .u64 (y : Int)] w fun e w' => e = .returned (.int .i64 (CMP x y)) ∧ Below w.heap.size w w' := by
  have cc := fun w => compare_ok x y w
  go_enter Try.func50, Try.ntmps50
  go_wp2_with fail
  refine (cc _).mono ?_
  rintro e w' ⟨rfl, rfl⟩
  go_wp2
  go_ret
  exact ⟨rfl, (Below.refl _ _).alloc (Nat.le_refl _) _⟩
/-- Len, Alive: what the store's own cells hold. -/
theorem len_ok (g n : Nat) (w : World) (h : w.cell? ⟨g, 1, none⟩ = some (.int .u64 (n : Int))) : Calls Try.prog 9 #[.pointer (some ⟨g, 0, none⟩)] w fun e w' => e = .returned (.int .u64 (n : Int)) ∧ w = w' := by
  go_enter Try.func9, Try.ntmps9
  go_wp2
  go_ret
  exact ⟨rfl, rfl⟩
theorem alive_ok (g n : Nat) (w : World) (h : w.cell? ⟨g, 2, none⟩ = some (.int .u64 (n : Int))) : Calls Try.prog 7 #[.pointer (some ⟨g, 0, none⟩)] w fun e w' => e = .returned (.int .u64 (n : Int)) ∧ w = w' := by
  go_enter Try.func7, Try.ntmps7
  go_wp2
  go_ret
  exact ⟨rfl, rfl⟩
end Go.Proofs.Ytkmcmngdainofaa
