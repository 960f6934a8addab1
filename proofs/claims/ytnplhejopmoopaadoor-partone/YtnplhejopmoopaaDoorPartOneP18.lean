/- Texts of PartOne, one behind the other: NumLowPlain, NumLowCalls, NumHighCalls, PosCalls, NumPlaces, NumListCalls, NumListPlain. -/
import Derived.Deep.LoopGhost
import Derived.WalkKit
import Derived.WalkLawsBesides
import Derived.Deep.OwnRows
import Derived.Deep.AppendLies
import Derived.Test.YtnplhejopmoopaaDoorPartOneP8
/- The lowest set bit, in plain numbers. -/
namespace Go.Proofs.YtnplhejopmoopaaDoor
open Go.RowKit

theorem low_split : ∀ X : Nat, X ≠ 0 → ∃ t q, X = 2 ^ t * (2 * q + 1) := fun X => by
  induction X using Nat.strongRecOn with
  | _ X ih =>
    intro h
    by_cases ho : X % 2 = 1
    · exact ⟨0, X / 2, by omega⟩
    · obtain ⟨t, q, e⟩ := ih (X / 2) (by omega) (by omega)
      refine ⟨t + 1, q, ?_⟩
      rw [Nat.pow_succ, Nat.mul_comm (2 ^ t) 2, Nat.mul_assoc, ← e]
      omega
theorem odd_and {q s : Nat} (h : 2 * q + 1 < 2 ^ s) : (2 * q + 1) &&& (2 ^ s - (2 * q + 1)) = 1 := by
  apply Nat.eq_of_testBit_eq
  intro i
  rw [Nat.testBit_and, Nat.testBit_two_pow_sub_succ (by omega)]
  cases i with
  | zero =>
    have hs : 0 < s := by
      rcases Nat.eq_zero_or_pos s with h0 | h0
      · subst h0
        simp at h
      · exact h0
    simp [Nat.testBit_zero, hs]
  | succ i =>
    rw [Nat.testBit_succ, Nat.testBit_succ, Nat.testBit_succ, show (2 * q + 1) / 2 = q by omega, show 2 * q / 2 = q by omega]
    simp
    intro h1 _
    exact h1
theorem neg_and {X t q : Nat} (hX : X < 2 ^ 64) (e : X = 2 ^ t * (2 * q + 1)) : X &&& (2 ^ 64 - X) = 2 ^ t ∧ t < 64 := by
  have hp := Nat.two_pow_pos t
  have ht : t < 64 := by
    rcases Nat.lt_or_ge t 64 with h | h
    · exact h
    · have h1 : 2 ^ 64 ≤ 2 ^ t := Nat.pow_le_pow_right (by decide) h
      have h2 : 2 ^ t * 1 ≤ 2 ^ t * (2 * q + 1) := Nat.mul_le_mul_left _ (by omega)
      omega
  have h64 : (2 : Nat) ^ 64 = 2 ^ t * 2 ^ (64 - t) := by rw [← Nat.pow_add, show t + (64 - t) = 64 by omega]
  have hq : 2 * q + 1 < 2 ^ (64 - t) := by
    rw [e, h64] at hX
    exact Nat.lt_of_mul_lt_mul_left hX
  refine ⟨?_, ht⟩
  rw [e, h64, ← Nat.mul_sub, Nat.mul_comm, Nat.mul_comm (2 ^ t), ← Nat.shiftLeft_eq, ← Nat.shiftLeft_eq, ← Nat.shiftLeft_and_distrib, odd_and hq, Nat.shiftLeft_eq, Nat.one_mul]
end Go.Proofs.YtnplhejopmoopaaDoor

/- What TrailingZeros64 and num's Low answer, where the table of math/bits lies as its text lays it. -/
namespace Go.Proofs.YtnplhejopmoopaaDoor
open Go.RowKit

/-- the table by which the lowest set bit is found. -/
def TAB : List Nat := [0, 1, 56, 2, 57, 49, 28, 3, 61, 58, 42, 50, 38, 29, 17, 4, 62, 47, 59, 36, 45, 43, 51, 22, 53, 39, 33, 30, 24, 18, 12, 5, 63, 55, 48, 27, 60, 41, 37, 16, 46, 35, 44, 21, 52, 32, 23, 11, 54, 26, 40, 15, 34, 20, 31, 10, 25, 14, 19, 9, 13, 8, 7, 6]
/-- the table lies in the first block. -/
def Tabled (w : World) : Prop := ∀ i, i < 64 → w.cell? ⟨0, i, none⟩ = some (.int .u8 ((TAB.getD i 0 : Nat) : Int))
theorem TAB_hit : ∀ t, t < 64 → TAB.getD (2 ^ t * 285870213051353865 % 2 ^ 64 / 2 ^ 58) 0 = t := by decide
theorem tz_raw (x b p i t : Int) (w : World) (h0 : (x == 0) = false) (e1 : bits .and .u64 x (IntKind.u64.wrap (-x)) = b) (e2 : IntKind.u64.wrap (b * 285870213051353865) = p) (hi : p / 288230376151711744 = i) (hi1 : 0 ≤ i) (hi2 : i < 64)
    (hc : w.cell? ⟨0, i.toNat, none⟩ = some (.int .u8 t)) (ht : Aside (wrap64 t = t)) : Calls Tryd.prog 63 #[.int .u64 x] w fun e w' => e = .returned (.int .i64 t) ∧ w = w' := by
  go_enter Tryd.func63, Tryd.ntmps63
  go_wp2
  go_ret
  refine ⟨?_, rfl⟩
  rw [show (Value.int .i64 t) = .int .i64 (wrap64 t) by rw [ht.out]]
  rfl
theorem tz_ok (X t q : Nat) (hX : X < 2 ^ 64) (e : X = 2 ^ t * (2 * q + 1)) (w : World) (hT : Tabled w) : Calls Tryd.prog 63 #[.int .u64 (X : Int)] w fun e w' => e = .returned (.int .i64 (t : Int)) ∧ w = w' := by
  obtain ⟨ha, ht⟩ := neg_and hX e
  have hX0 : 0 < X := by
    rw [e]
    exact Nat.mul_pos (Nat.two_pow_pos t) (by omega)
  have hm : IntKind.u64.wrap (-(X : Int)) = ((2 ^ 64 - X : Nat) : Int) := by rw [wrapU]; omega
  have hb : bits .and .u64 (X : Int) (IntKind.u64.wrap (-(X : Int))) = ((2 ^ t : Nat) : Int) := by rw [hm, and_eq hX (by omega), ha]
  have hp : IntKind.u64.wrap (((2 ^ t : Nat) : Int) * 285870213051353865) = ((2 ^ t * 285870213051353865 % 2 ^ 64 : Nat) : Int) := by
    rw [wrapU]
    generalize 2 ^ t = u
    omega
  have hl : 2 ^ t * 285870213051353865 % 2 ^ 64 < 2 ^ 64 := Nat.mod_lt _ (by decide)
  have hi : 2 ^ t * 285870213051353865 % 2 ^ 64 / 2 ^ 58 < 64 := Nat.div_lt_of_lt_mul (by omega)
  have hc := hT _ hi
  rw [TAB_hit t ht] at hc
  refine tz_raw X _ _ ((2 ^ t * 285870213051353865 % 2 ^ 64 / 2 ^ 58 : Nat) : Int) t w (by simp; omega) hb hp ?_ (by omega) (by omega) (by rw [Int.toNat_natCast]; exact hc) (by unfold Aside wrap64; omega)
  generalize 2 ^ t * 285870213051353865 % 2 ^ 64 = u
  omega
theorem low_raw (x r : Int) (w : World) (c : Calls Tryd.prog 63 #[.int .u64 x] w fun e w' => e = .returned (.int .i64 r) ∧ w = w') :
    Calls Tryd.prog 51 #[.int .u64 x] w fun e w' => e = .returned (.int .i64 r) ∧ w = w' := by
  go_enter Tryd.func51, Tryd.ntmps51
  go_wp2_with fail
  refine c.mono ?_
  rintro e w' ⟨rfl, rfl⟩
  go_wp2
  go_ret
  exact ⟨rfl, rfl⟩
end Go.Proofs.YtnplhejopmoopaaDoor

/- What Len64 and num's High answer. -/
namespace Go.Proofs.YtnplhejopmoopaaDoor
open Go.RowKit

/-- the lengths of bytes. -/
def LTAB : ByteArray := ⟨#[0, 1, 2, 2, 3, 3, 3, 3, 4, 4, 4, 4, 4, 4, 4, 4, 5, 5, 5, 5, 5, 5, 5, 5, 5, 5, 5, 5, 5, 5, 5, 5, 6, 6, 6, 6, 6, 6, 6, 6, 6, 6, 6, 6, 6, 6, 6, 6, 6, 6, 6, 6, 6, 6, 6, 6, 6, 6, 6, 6, 6, 6, 6, 6, 7, 7, 7, 7, 7, 7, 7, 7, 7, 7, 7, 7, 7, 7, 7, 7, 7, 7, 7, 7, 7, 7, 7, 7, 7, 7, 7, 7, 7, 7, 7, 7, 7, 7, 7, 7, 7, 7, 7, 7, 7, 7, 7, 7, 7, 7, 7, 7, 7, 7, 7, 7, 7, 7, 7, 7, 7, 7, 7, 7, 7, 7, 7, 7, 8, 8, 8, 8, 8, 8, 8, 8, 8, 8, 8, 8, 8, 8, 8, 8, 8, 8, 8, 8, 8, 8, 8, 8, 8, 8, 8, 8, 8, 8, 8, 8, 8, 8, 8, 8, 8, 8, 8, 8, 8, 8, 8, 8, 8, 8, 8, 8, 8, 8, 8, 8, 8, 8, 8, 8, 8, 8, 8, 8, 8, 8, 8, 8, 8, 8, 8, 8, 8, 8, 8, 8, 8, 8, 8, 8, 8, 8, 8, 8, 8, 8, 8, 8, 8, 8, 8, 8, 8, 8, 8, 8, 8, 8, 8, 8, 8, 8, 8, 8, 8, 8, 8, 8, 8, 8, 8, 8, 8, 8, 8, 8, 8, 8, 8, 8, 8, 8, 8, 8, 8, 8, 8, 8, 8, 8, 8, 8]⟩
set_option maxRecDepth 100000 in
theorem len_raw000 (x v : Int) (w : World) (h0 : (¬ 4294967296 ≤ x)) (h1 : (¬ 65536 ≤ x)) (h2 : (¬ 256 ≤ x)) (hx : 0 ≤ x) (hx' : x < 256)
    (hv : Aside (∀ h : (x).toNat < LTAB.size, wrap64 (wrap64 (LTAB[(x).toNat]'h).toNat) = v)) : Calls Tryd.prog 25 #[.int .u64 x] w fun e w' => e = .returned (.int .i64 v) ∧ w = w' := by
  go_enter Tryd.func25, Tryd.ntmps25
  go_wp2
  go_ret
  exact ⟨congrArg (fun z => Ending.returned (Value.int .i64 z)) (hv.out _), rfl⟩
set_option maxRecDepth 100000 in
theorem len_raw001 (x v : Int) (w : World) (h0 : (¬ 4294967296 ≤ x)) (h1 : (¬ 65536 ≤ x)) (h2 : (256 ≤ x)) (hx : 0 ≤ x / 256) (hx' : x / 256 < 256)
    (hv : Aside (∀ h : (x / 256).toNat < LTAB.size, wrap64 (8 + wrap64 (LTAB[(x / 256).toNat]'h).toNat) = v)) : Calls Tryd.prog 25 #[.int .u64 x] w fun e w' => e = .returned (.int .i64 v) ∧ w = w' := by
  go_enter Tryd.func25, Tryd.ntmps25
  go_wp2
  go_ret
  exact ⟨congrArg (fun z => Ending.returned (Value.int .i64 z)) (hv.out _), rfl⟩
set_option maxRecDepth 100000 in
theorem len_raw010 (x v : Int) (w : World) (h0 : (¬ 4294967296 ≤ x)) (h1 : (65536 ≤ x)) (h2 : (¬ 256 ≤ x / 65536)) (hx : 0 ≤ x / 65536) (hx' : x / 65536 < 256)
    (hv : Aside (∀ h : (x / 65536).toNat < LTAB.size, wrap64 (16 + wrap64 (LTAB[(x / 65536).toNat]'h).toNat) = v)) : Calls Tryd.prog 25 #[.int .u64 x] w fun e w' => e = .returned (.int .i64 v) ∧ w = w' := by
  go_enter Tryd.func25, Tryd.ntmps25
  go_wp2
  go_ret
  exact ⟨congrArg (fun z => Ending.returned (Value.int .i64 z)) (hv.out _), rfl⟩
set_option maxRecDepth 100000 in
theorem len_raw011 (x v : Int) (w : World) (h0 : (¬ 4294967296 ≤ x)) (h1 : (65536 ≤ x)) (h2 : (256 ≤ x / 65536)) (hx : 0 ≤ x / 65536 / 256) (hx' : x / 65536 / 256 < 256)
    (hv : Aside (∀ h : (x / 65536 / 256).toNat < LTAB.size, wrap64 (24 + wrap64 (LTAB[(x / 65536 / 256).toNat]'h).toNat) = v)) : Calls Tryd.prog 25 #[.int .u64 x] w fun e w' => e = .returned (.int .i64 v) ∧ w = w' := by
  go_enter Tryd.func25, Tryd.ntmps25
  go_wp2
  go_ret
  exact ⟨congrArg (fun z => Ending.returned (Value.int .i64 z)) (hv.out _), rfl⟩
set_option maxRecDepth 100000 in
theorem len_raw100 (x v : Int) (w : World) (h0 : (4294967296 ≤ x)) (h1 : (¬ 65536 ≤ x / 4294967296)) (h2 : (¬ 256 ≤ x / 4294967296)) (hx : 0 ≤ x / 4294967296) (hx' : x / 4294967296 < 256)
    (hv : Aside (∀ h : (x / 4294967296).toNat < LTAB.size, wrap64 (32 + wrap64 (LTAB[(x / 4294967296).toNat]'h).toNat) = v)) : Calls Tryd.prog 25 #[.int .u64 x] w fun e w' => e = .returned (.int .i64 v) ∧ w = w' := by
  go_enter Tryd.func25, Tryd.ntmps25
  go_wp2
  go_ret
  exact ⟨congrArg (fun z => Ending.returned (Value.int .i64 z)) (hv.out _), rfl⟩
set_option maxRecDepth 100000 in
theorem len_raw101 (x v : Int) (w : World) (h0 : (4294967296 ≤ x)) (h1 : (¬ 65536 ≤ x / 4294967296)) (h2 : (256 ≤ x / 4294967296)) (hx : 0 ≤ x / 4294967296 / 256) (hx' : x / 4294967296 / 256 < 256)
    (hv : Aside (∀ h : (x / 4294967296 / 256).toNat < LTAB.size, wrap64 (40 + wrap64 (LTAB[(x / 4294967296 / 256).toNat]'h).toNat) = v)) : Calls Tryd.prog 25 #[.int .u64 x] w fun e w' => e = .returned (.int .i64 v) ∧ w = w' := by
  go_enter Tryd.func25, Tryd.ntmps25
  go_wp2
  go_ret
  exact ⟨congrArg (fun z => Ending.returned (Value.int .i64 z)) (hv.out _), rfl⟩
set_option maxRecDepth 100000 in
theorem len_raw110 (x v : Int) (w : World) (h0 : (4294967296 ≤ x)) (h1 : (65536 ≤ x / 4294967296)) (h2 : (¬ 256 ≤ x / 4294967296 / 65536)) (hx : 0 ≤ x / 4294967296 / 65536) (hx' : x / 4294967296 / 65536 < 256)
    (hv : Aside (∀ h : (x / 4294967296 / 65536).toNat < LTAB.size, wrap64 (48 + wrap64 (LTAB[(x / 4294967296 / 65536).toNat]'h).toNat) = v)) : Calls Tryd.prog 25 #[.int .u64 x] w fun e w' => e = .returned (.int .i64 v) ∧ w = w' := by
  go_enter Tryd.func25, Tryd.ntmps25
  go_wp2
  go_ret
  exact ⟨congrArg (fun z => Ending.returned (Value.int .i64 z)) (hv.out _), rfl⟩
set_option maxRecDepth 100000 in
theorem len_raw111 (x v : Int) (w : World) (h0 : (4294967296 ≤ x)) (h1 : (65536 ≤ x / 4294967296)) (h2 : (256 ≤ x / 4294967296 / 65536)) (hx : 0 ≤ x / 4294967296 / 65536 / 256) (hx' : x / 4294967296 / 65536 / 256 < 256)
    (hv : Aside (∀ h : (x / 4294967296 / 65536 / 256).toNat < LTAB.size, wrap64 (56 + wrap64 (LTAB[(x / 4294967296 / 65536 / 256).toNat]'h).toNat) = v)) : Calls Tryd.prog 25 #[.int .u64 x] w fun e w' => e = .returned (.int .i64 v) ∧ w = w' := by
  go_enter Tryd.func25, Tryd.ntmps25
  go_wp2
  go_ret
  exact ⟨congrArg (fun z => Ending.returned (Value.int .i64 z)) (hv.out _), rfl⟩

/-- the length of a byte's number. -/
def L8 (i : Nat) : Nat := if i = 0 then 0 else if i < 2 then 1 else if i < 4 then 2 else if i < 8 then 3 else if i < 16 then 4 else if i < 32 then 5 else if i < 64 then 6 else if i < 128 then 7 else 8
set_option maxRecDepth 100000 in
theorem tab_list : ∀ i, i < 256 → (([0, 1, 2, 2, 3, 3, 3, 3, 4, 4, 4, 4, 4, 4, 4, 4, 5, 5, 5, 5, 5, 5, 5, 5, 5, 5, 5, 5, 5, 5, 5, 5, 6, 6, 6, 6, 6, 6, 6, 6, 6, 6, 6, 6, 6, 6, 6, 6, 6, 6, 6, 6, 6, 6, 6, 6, 6, 6, 6, 6, 6, 6, 6, 6, 7, 7, 7, 7, 7, 7, 7, 7, 7, 7, 7, 7, 7, 7, 7, 7, 7, 7, 7, 7, 7, 7, 7, 7, 7, 7, 7, 7, 7, 7, 7, 7, 7, 7, 7, 7, 7, 7, 7, 7, 7, 7, 7, 7, 7, 7, 7, 7, 7, 7, 7, 7, 7, 7, 7, 7, 7, 7, 7, 7, 7, 7, 7, 7, 8, 8, 8, 8, 8, 8, 8, 8, 8, 8, 8, 8, 8, 8, 8, 8, 8, 8, 8, 8, 8, 8, 8, 8, 8, 8, 8, 8, 8, 8, 8, 8, 8, 8, 8, 8, 8, 8, 8, 8, 8, 8, 8, 8, 8, 8, 8, 8, 8, 8, 8, 8, 8, 8, 8, 8, 8, 8, 8, 8, 8, 8, 8, 8, 8, 8, 8, 8, 8, 8, 8, 8, 8, 8, 8, 8, 8, 8, 8, 8, 8, 8, 8, 8, 8, 8, 8, 8, 8, 8, 8, 8, 8, 8, 8, 8, 8, 8, 8, 8, 8, 8, 8, 8, 8, 8, 8, 8, 8, 8, 8, 8, 8, 8, 8, 8, 8, 8, 8, 8, 8, 8, 8, 8, 8, 8, 8, 8] : List UInt8).getD i 0).toNat = L8 i := by decide +kernel
set_option maxRecDepth 100000 in
theorem tab_get (i : Nat) (h : i < LTAB.size) : (LTAB[i]'h).toNat = L8 i := by
  have h2 : i < 256 := h
  have := tab_list i h2
  rw [List.getD_eq_getElem?_getD, List.getElem?_eq_getElem (by exact h)] at this
  exact this
theorem L8_le (i : Nat) : L8 i ≤ 8 := by unfold L8; repeat' split <;> try omega
theorem L8_span (i : Nat) (h0 : i ≠ 0) (h : i < 256) : 1 ≤ L8 i ∧ 2 ^ (L8 i - 1) ≤ i ∧ i < 2 ^ L8 i := by
  unfold L8
  repeat' split
  all_goals (try omega)
theorem len_sum (n i : Nat) (hn : n ≤ 56) : wrap64 ((n : Int) + wrap64 ((L8 i : Nat) : Int)) = ((n + L8 i : Nat) : Int) := by
  have := L8_le i
  unfold wrap64
  omega
theorem len_zero (i : Nat) : wrap64 (wrap64 ((L8 i : Nat) : Int)) = ((L8 i : Nat) : Int) := by
  have := L8_le i
  unfold wrap64
  omega
/-- how many bits X takes. -/
def LEN (X : Nat) : Nat :=
  if 4294967296 ≤ X then (if 281474976710656 ≤ X then (if 72057594037927936 ≤ X then 56 + L8 (X / 72057594037927936) else 48 + L8 (X / 281474976710656)) else (if 1099511627776 ≤ X then 40 + L8 (X / 1099511627776) else 32 + L8 (X / 4294967296)))
  else (if 65536 ≤ X then (if 16777216 ≤ X then 24 + L8 (X / 16777216) else 16 + L8 (X / 65536)) else (if 256 ≤ X then 8 + L8 (X / 256) else L8 X))
theorem len_ok000 (X : Nat) (hX : X < 2 ^ 64) (h0 : ¬ 4294967296 ≤ X) (h1 : ¬ 65536 ≤ X) (h2 : ¬ 256 ≤ X) (w : World) : Calls Tryd.prog 25 #[.int .u64 (X : Int)] w fun e w' => e = .returned (.int .i64 ((0 + L8 (X / 1) : Nat) : Int)) ∧ w = w' := by
  have e : ((X : Int)).toNat = X / 1 := by omega
  refine len_raw000 X _ w (by omega) (by omega) (by omega) (by omega) (by omega) fun h => ?_
  rw [tab_get _ h, e]
  exact (len_zero _).trans (by rw [Nat.zero_add])
theorem len_ok001 (X : Nat) (hX : X < 2 ^ 64) (h0 : ¬ 4294967296 ≤ X) (h1 : ¬ 65536 ≤ X) (h2 : 256 ≤ X) (w : World) : Calls Tryd.prog 25 #[.int .u64 (X : Int)] w fun e w' => e = .returned (.int .i64 ((8 + L8 (X / 256) : Nat) : Int)) ∧ w = w' := by
  have e : ((X : Int) / 256).toNat = X / 256 := by omega
  refine len_raw001 X _ w (by omega) (by omega) (by omega) (by omega) (by omega) fun h => ?_
  rw [tab_get _ h, e]
  exact len_sum 8 _ (by decide)
theorem len_ok010 (X : Nat) (hX : X < 2 ^ 64) (h0 : ¬ 4294967296 ≤ X) (h1 : 65536 ≤ X) (h2 : ¬ 16777216 ≤ X) (w : World) : Calls Tryd.prog 25 #[.int .u64 (X : Int)] w fun e w' => e = .returned (.int .i64 ((16 + L8 (X / 65536) : Nat) : Int)) ∧ w = w' := by
  have e : ((X : Int) / 65536).toNat = X / 65536 := by omega
  refine len_raw010 X _ w (by omega) (by omega) (by omega) (by omega) (by omega) fun h => ?_
  rw [tab_get _ h, e]
  exact len_sum 16 _ (by decide)
theorem len_ok011 (X : Nat) (hX : X < 2 ^ 64) (h0 : ¬ 4294967296 ≤ X) (h1 : 65536 ≤ X) (h2 : 16777216 ≤ X) (w : World) : Calls Tryd.prog 25 #[.int .u64 (X : Int)] w fun e w' => e = .returned (.int .i64 ((24 + L8 (X / 16777216) : Nat) : Int)) ∧ w = w' := by
  have e : ((X : Int) / 65536 / 256).toNat = X / 16777216 := by omega
  refine len_raw011 X _ w (by omega) (by omega) (by omega) (by omega) (by omega) fun h => ?_
  rw [tab_get _ h, e]
  exact len_sum 24 _ (by decide)
theorem len_ok100 (X : Nat) (hX : X < 2 ^ 64) (h0 : 4294967296 ≤ X) (h1 : ¬ 281474976710656 ≤ X) (h2 : ¬ 1099511627776 ≤ X) (w : World) : Calls Tryd.prog 25 #[.int .u64 (X : Int)] w fun e w' => e = .returned (.int .i64 ((32 + L8 (X / 4294967296) : Nat) : Int)) ∧ w = w' := by
  have e : ((X : Int) / 4294967296).toNat = X / 4294967296 := by omega
  refine len_raw100 X _ w (by omega) (by omega) (by omega) (by omega) (by omega) fun h => ?_
  rw [tab_get _ h, e]
  exact len_sum 32 _ (by decide)
theorem len_ok101 (X : Nat) (hX : X < 2 ^ 64) (h0 : 4294967296 ≤ X) (h1 : ¬ 281474976710656 ≤ X) (h2 : 1099511627776 ≤ X) (w : World) : Calls Tryd.prog 25 #[.int .u64 (X : Int)] w fun e w' => e = .returned (.int .i64 ((40 + L8 (X / 1099511627776) : Nat) : Int)) ∧ w = w' := by
  have e : ((X : Int) / 4294967296 / 256).toNat = X / 1099511627776 := by omega
  refine len_raw101 X _ w (by omega) (by omega) (by omega) (by omega) (by omega) fun h => ?_
  rw [tab_get _ h, e]
  exact len_sum 40 _ (by decide)
theorem len_ok110 (X : Nat) (hX : X < 2 ^ 64) (h0 : 4294967296 ≤ X) (h1 : 281474976710656 ≤ X) (h2 : ¬ 72057594037927936 ≤ X) (w : World) : Calls Tryd.prog 25 #[.int .u64 (X : Int)] w fun e w' => e = .returned (.int .i64 ((48 + L8 (X / 281474976710656) : Nat) : Int)) ∧ w = w' := by
  have e : ((X : Int) / 4294967296 / 65536).toNat = X / 281474976710656 := by omega
  refine len_raw110 X _ w (by omega) (by omega) (by omega) (by omega) (by omega) fun h => ?_
  rw [tab_get _ h, e]
  exact len_sum 48 _ (by decide)
theorem len_ok111 (X : Nat) (hX : X < 2 ^ 64) (h0 : 4294967296 ≤ X) (h1 : 281474976710656 ≤ X) (h2 : 72057594037927936 ≤ X) (w : World) : Calls Tryd.prog 25 #[.int .u64 (X : Int)] w fun e w' => e = .returned (.int .i64 ((56 + L8 (X / 72057594037927936) : Nat) : Int)) ∧ w = w' := by
  have e : ((X : Int) / 4294967296 / 65536 / 256).toNat = X / 72057594037927936 := by omega
  refine len_raw111 X _ w (by omega) (by omega) (by omega) (by omega) (by omega) fun h => ?_
  rw [tab_get _ h, e]
  exact len_sum 56 _ (by decide)
theorem len_ok (X : Nat) (hX : X < 2 ^ 64) (w : World) : Calls Tryd.prog 25 #[.int .u64 (X : Int)] w fun e w' => e = .returned (.int .i64 ((LEN X : Nat) : Int)) ∧ w = w' := by
  unfold LEN
  split
  · split
    · split
      · exact len_ok111 X hX (by omega) (by omega) (by omega) w
      · exact len_ok110 X hX (by omega) (by omega) (by omega) w
    · split
      · exact len_ok101 X hX (by omega) (by omega) (by omega) w
      · exact len_ok100 X hX (by omega) (by omega) (by omega) w
  · split
    · split
      · exact len_ok011 X hX (by omega) (by omega) (by omega) w
      · exact len_ok010 X hX (by omega) (by omega) (by omega) w
    · split
      · exact len_ok001 X hX (by omega) (by omega) (by omega) w
      · have k := len_ok000 X hX (by omega) (by omega) (by omega) w
        rw [Nat.div_one, Nat.zero_add] at k
        exact k
theorem span_up {X n : Nat} (h0 : X / 2 ^ n ≠ 0) (h : X / 2 ^ n < 256) : 1 ≤ n + L8 (X / 2 ^ n) ∧ 2 ^ (n + L8 (X / 2 ^ n) - 1) ≤ X ∧ X < 2 ^ (n + L8 (X / 2 ^ n)) := by
  obtain ⟨a, b, c⟩ := L8_span _ h0 h
  have hp := Nat.two_pow_pos n
  refine ⟨by omega, ?_, ?_⟩
  · rw [show n + L8 (X / 2 ^ n) - 1 = n + (L8 (X / 2 ^ n) - 1) by omega, Nat.pow_add]
    exact Nat.le_trans (Nat.mul_le_mul_left _ b) (Nat.mul_div_le X (2 ^ n))
  · rw [Nat.pow_add, Nat.mul_comm]
    exact (Nat.div_lt_iff_lt_mul hp).1 c
theorem LEN_span (X : Nat) (hX : X < 2 ^ 64) (h0 : X ≠ 0) : 1 ≤ LEN X ∧ 2 ^ (LEN X - 1) ≤ X ∧ X < 2 ^ LEN X := by
  unfold LEN
  split
  · split
    · split
      · exact span_up (n := 56) (by omega) (by omega)
      · exact span_up (n := 48) (by omega) (by omega)
    · split
      · exact span_up (n := 40) (by omega) (by omega)
      · exact span_up (n := 32) (by omega) (by omega)
  · split
    · split
      · exact span_up (n := 24) (by omega) (by omega)
      · exact span_up (n := 16) (by omega) (by omega)
    · split
      · exact span_up (n := 8) (by omega) (by omega)
      · exact L8_span X h0 (by omega)
theorem high_raw (x r : Int) (w : World) (c : ∀ w, Calls Tryd.prog 25 #[.int .u64 x] w fun e w' => e = .returned (.int .i64 r) ∧ w = w') (h0 : 0 ≤ r) (h1 : r ≤ 64) :
    Calls Tryd.prog 47 #[.int .u64 x] w fun e w' => e = .returned (.int .i64 (r - 1)) ∧ w = w' := by
  go_enter Tryd.func47, Tryd.ntmps47
  go_wp2_with fail
  refine (c _).mono ?_
  rintro e w' ⟨rfl, rfl⟩
  go_wp2
  go_ret
  exact ⟨rfl, rfl⟩
end Go.Proofs.YtnplhejopmoopaaDoor

/- What the small functions of package pos answer: tree, ahead, Nodes, over, beside, Leaf. -/
namespace Go.Proofs.YtnplhejopmoopaaDoor
open Go.RowKit

theorem MASK_TREE {h : Nat} (hh : h ≤ 63) : MASK ((h : Int) + 1) = TREE h := by
  unfold MASK TREE
  rw [show min ((h : Int) + 1).toNat 64 = h + 1 by omega]
theorem tree_raw (h r : Int) (w : World) (e : wrap64 (h + 1) = h + 1) (c : ∀ w, Calls Tryd.prog 53 #[.int .i64 (h + 1)] w fun e w' => e = .returned (.int .u64 r) ∧ w = w') :
    Calls Tryd.prog 38 #[.int .i64 h] w fun e w' => e = .returned (.int .u64 r) ∧ w = w' := by
  go_enter Tryd.func38, Tryd.ntmps38
  go_wp2_with fail
  refine (c _).mono ?_
  rintro e w' ⟨rfl, rfl⟩
  go_wp2
  go_ret
  exact ⟨rfl, rfl⟩
theorem tree_ok (h : Nat) (hh : h ≤ 63) (w : World) : Calls Tryd.prog 38 #[.int .i64 (h : Int)] w fun e w' => e = .returned (.int .u64 ((TREE h : Nat) : Int)) ∧ w = w' := by
  refine tree_raw h _ w (by unfold wrap64; omega) (fun w => ?_)
  rw [← MASK_TREE hh]
  exact mask_ok ((h : Int) + 1) (by omega) w
theorem ahead_raw (n c r : Int) (w : World) (e : IntKind.u64.wrap (IntKind.u64.wrap (n * 2) - IntKind.u64.wrap c) = r) (k : ∀ w, Calls Tryd.prog 45 #[.int .u64 n] w fun e w' => e = .returned (.int .i64 c) ∧ w = w') :
    Calls Tryd.prog 28 #[.int .u64 n] w fun e w' => e = .returned (.int .u64 r) ∧ w = w' := by
  go_enter Tryd.func28, Tryd.ntmps28
  go_wp2_with fail
  refine (k _).mono ?_
  rintro e w' ⟨rfl, rfl⟩
  go_wp2
  go_ret
  exact ⟨rfl, rfl⟩
theorem ahead_ok (n : Nat) (hn : n < 2 ^ 63) (w : World) : Calls Tryd.prog 28 #[.int .u64 (n : Int)] w fun e w' => e = .returned (.int .u64 ((NODES n : Nat) : Int)) ∧ w = w' := by
  refine ahead_raw n (POP n : Nat) _ w ?_ (fun w => ones_ok n (by omega) w)
  rw [POP_PC (by omega), wrapU, wrapU, wrapU]
  have := NODES_add n
  have := PC_le n
  omega
theorem leaf_raw (n r : Int) (w : World) (h' : ¬ 4611686018427387904 ≤ n) (c : ∀ w, Calls Tryd.prog 28 #[.int .u64 n] w fun e w' => e = .returned (.int .u64 r) ∧ w = w') :
    Calls Tryd.prog 14 #[.int .u64 n] w fun e w' => e = .returned (.tuple #[.int .u64 r, .bool true]) ∧ w = w' := by
  go_enter Tryd.func14, Tryd.ntmps14
  go_wp2_with fail
  refine (c _).mono ?_
  rintro e w' ⟨rfl, rfl⟩
  go_wp2
  go_ret2
  exact ⟨rfl, rfl⟩
theorem leaf_ok (n : Nat) (hn : n < 4611686018427387904) (w : World) : Calls Tryd.prog 14 #[.int .u64 (n : Int)] w fun e w' => e = .returned (.tuple #[.int .u64 ((NODES n : Nat) : Int), .bool true]) ∧ w = w' :=
  leaf_raw n _ w (by omega) (fun w => ahead_ok n (by omega) w)
theorem beside_right (p h t : Int) (w : World) (c : ∀ w, Calls Tryd.prog 38 #[.int .i64 h] w fun e w' => e = .returned (.int .u64 t) ∧ w = w') :
    Calls Tryd.prog 39 #[.int .u64 p, .int .i64 h, .bool true] w fun e w' => e = .returned (.int .u64 (IntKind.u64.wrap (p - t))) ∧ w = w' := by
  go_enter Tryd.func39, Tryd.ntmps39
  go_wp2_with fail
  refine (c _).mono ?_
  rintro e w' ⟨rfl, rfl⟩
  go_wp2
  go_ret
  exact ⟨rfl, rfl⟩
theorem beside_left (p h t : Int) (w : World) (c : ∀ w, Calls Tryd.prog 38 #[.int .i64 h] w fun e w' => e = .returned (.int .u64 t) ∧ w = w') :
    Calls Tryd.prog 39 #[.int .u64 p, .int .i64 h, .bool false] w fun e w' => e = .returned (.int .u64 (IntKind.u64.wrap (p + t))) ∧ w = w' := by
  go_enter Tryd.func39, Tryd.ntmps39
  go_wp2_with fail
  refine (c _).mono ?_
  rintro e w' ⟨rfl, rfl⟩
  go_wp2
  go_ret
  exact ⟨rfl, rfl⟩
end Go.Proofs.YtnplhejopmoopaaDoor

/- The places of the set bits, in plain numbers. -/
namespace Go.Proofs.YtnplhejopmoopaaDoor
open Go.RowKit

/-- the places of the set bits among the lowest k ones, o added to each. -/
def PL : Nat → Nat → Nat → List Nat
  | 0, _, _ => []
  | k + 1, o, X => if X % 2 = 1 then o :: PL k (o + 1) (X / 2) else PL k (o + 1) (X / 2)
def PLACES (X : Nat) : List Nat := PL 64 0 X
theorem PL_zero : ∀ k o, PL k o 0 = []
  | 0, _ => rfl
  | k + 1, o => by
    have := PL_zero k (o + 1)
    simpa [PL] using this
theorem PL_length : ∀ k o X, (PL k o X).length = DSUM 1 k X
  | 0, _, _ => rfl
  | k + 1, o, X => by
    have ih := PL_length k (o + 1) (X / 2)
    unfold PL DSUM
    rw [Nat.pow_one]
    split
    · rw [List.length_cons, ih]; omega
    · rw [ih]; omega
theorem PLACES_length (X : Nat) : (PLACES X).length = POP X := PL_length 64 0 X
theorem PL_step : ∀ (t k o q : Nat), t < k → PL k o (2 ^ t * (2 * q + 1)) = (o + t) :: PL k o (2 ^ (t + 1) * q)
  | 0, 0, _, _, h => by omega
  | 0, k + 1, o, q, _ => by
    have h1 : (2 ^ 0 * (2 * q + 1)) = 2 * q + 1 := by simp
    have h2 : 2 ^ (0 + 1) * q = 2 * q := by simp
    rw [h1, h2]
    unfold PL
    rw [if_pos (by omega), if_neg (by omega), show (2 * q + 1) / 2 = q by omega, show 2 * q / 2 = q by omega]
    rfl
  | t + 1, 0, _, _, h => by omega
  | t + 1, k + 1, o, q, h => by
    have ih := PL_step t k (o + 1) q (by omega)
    have h1 : 2 ^ (t + 1) * (2 * q + 1) = 2 * (2 ^ t * (2 * q + 1)) := by rw [Nat.pow_succ, Nat.mul_comm (2 ^ t) 2, Nat.mul_assoc]
    have h2 : 2 ^ (t + 1 + 1) * q = 2 * (2 ^ (t + 1) * q) := by rw [Nat.pow_succ, Nat.mul_comm (2 ^ (t + 1)) 2, Nat.mul_assoc]
    rw [h1, h2]
    generalize 2 ^ t * (2 * q + 1) = a at ih ⊢
    generalize 2 ^ (t + 1) * q = b at ih ⊢
    unfold PL
    rw [if_neg (by omega), if_neg (by omega), show 2 * a / 2 = a by omega, show 2 * b / 2 = b by omega, ih, show o + (t + 1) = o + 1 + t by omega]
theorem POP_le (X : Nat) : POP X ≤ 64 := by
  have : ∀ k X, DSUM 1 k X ≤ k := fun k => by
    induction k with
    | zero => intro X; exact Nat.le_refl _
    | succ k ih =>
      intro X
      have := ih (X / 2)
      unfold DSUM
      rw [Nat.pow_one]
      omega
  exact this 64 X
theorem odd_less (q : Nat) : (2 * q + 1) &&& (2 * q) = 2 * q := by
  apply Nat.eq_of_testBit_eq
  intro i
  rw [Nat.testBit_and]
  cases i with
  | zero => simp [Nat.testBit_zero]
  | succ i =>
    rw [Nat.testBit_succ, Nat.testBit_succ, show (2 * q + 1) / 2 = q by omega, show 2 * q / 2 = q by omega]
    simp
theorem less_and : ∀ (t q : Nat), 2 ^ t * (2 * q + 1) &&& (2 ^ t * (2 * q + 1) - 1) = 2 ^ (t + 1) * q
  | 0, q => by
    have h1 : (2 ^ 0 * (2 * q + 1)) = 2 * q + 1 := by simp
    have h2 : 2 ^ (0 + 1) * q = 2 * q := by simp
    rw [h1, h2]
    exact odd_less q
  | t + 1, q => by
    have ih := less_and t q
    have h1 : 2 ^ (t + 1) * (2 * q + 1) = 2 * (2 ^ t * (2 * q + 1)) := by rw [Nat.pow_succ, Nat.mul_comm (2 ^ t) 2, Nat.mul_assoc]
    have h2 : 2 ^ (t + 1 + 1) * q = 2 * (2 ^ (t + 1) * q) := by rw [Nat.pow_succ, Nat.mul_comm (2 ^ (t + 1)) 2, Nat.mul_assoc]
    have hp : 0 < 2 ^ t * (2 * q + 1) := Nat.mul_pos (Nat.two_pow_pos t) (by omega)
    rw [h1, h2, ← ih]
    generalize 2 ^ t * (2 * q + 1) = a at hp ⊢
    apply Nat.eq_of_testBit_eq
    intro i
    rw [Nat.testBit_and]
    cases i with
    | zero => simp [Nat.testBit_zero]
    | succ i =>
      rw [Nat.testBit_succ, Nat.testBit_succ, Nat.testBit_succ, show 2 * a / 2 = a by omega, show (2 * a - 1) / 2 = a - 1 by omega, ← Nat.testBit_and, show 2 * (a &&& (a - 1)) / 2 = a &&& (a - 1) by omega]
end Go.Proofs.YtnplhejopmoopaaDoor

/- What Bits of package num answers: the places of the set bits, the lowest first. -/
namespace Go.Proofs.YtnplhejopmoopaaDoor
open Go.RowKit

/-- places as cells. -/
def ICELLS (l : List Nat) : List Value := l.map fun (x : Nat) => Value.int .i64 (x : Int)
theorem ICELLS_snoc (l : List Nat) (x : Nat) : ICELLS (l ++ [x]) = ICELLS l ++ [.int .i64 (x : Int)] := by simp [ICELLS]
theorem info_parts_int : ∃ i, Tryd.prog.info? 3 = some i ∧ i.zero = some (.int .i64 0) ∧ i.size = 1 ∧ i.bytes = 8 := by
  have h : (Tryd.prog.info? 3).map (fun i => (i.zero, i.size, i.bytes)) = some (some (.int .i64 0), 1, 8) := by kernel_rfl
  obtain ⟨i, hi, h⟩ := Option.map_eq_some_iff.1 h
  simp only [Prod.mk.injEq] at h
  exact ⟨i, hi, h.1, h.2.1, h.2.2⟩
theorem app_int {ops : Array Oper} {rest : List Oper} {o : Oper} {a : Act} {Q : Exit → Act → World → Prop} (w : World) (hgd : o.guard = none) (s x : Operand)
    (ho : o.op = .call { callee := .builtin .append, args := #[s, x], argTypes := #[83, 83] })
    (base : Nat) (v : Value) (n : Nat) (xs : List Nat) (hs : a.eval s = v) (hown : w.ownsRow base 3 1 v n (ICELLS xs))
    (b c : Nat) (y : Nat) (hx : a.eval x = .slice (some ⟨b, 0, none⟩) 1 c) (hc : w.cell? ⟨b, 0, none⟩ = some (.int .i64 (y : Int)))
    (hb : n ≤ 1000) (hbase : base ≤ w.heap.size)
    (h : ∀ g cap w', w'.ownsRow base 3 1 (.slice (some ⟨g, 0, none⟩) (n + 1) cap) (n + 1) (ICELLS (xs ++ [y])) → w.grownBy w' v.ownBlock → g < w'.heap.size → wpList Tryd.prog ops Q rest (a.put o.dst (.slice (some ⟨g, 0, none⟩) (n + 1) cap)) w') : wpList Tryd.prog ops Q (o :: rest) a w := by
  obtain ⟨i, hi, hz, hs1, hby⟩ := info_parts_int
  refine wpList_append_lies w hgd s x 83 ho base 3 i (.int .i64 0) 1 8 Tryd.underlying83 hi hz hs1 hby rfl (by decide) v n (ICELLS xs) hs hown ⟨b, 0, none⟩ 1 c [.int .i64 (y : Int)] hx rfl ?_ (fun u hu => by simp at hu; subst hu; rfl) (by decide) (by simp only [maxLen]; omega) (by omega) hbase w.heap.size rfl ?_
  · intro j u hj
    cases j with
    | zero =>
      simp only [List.getElem?_cons_zero, Option.some.injEq] at hj
      subst hj
      exact hc
    | succ j => simp at hj
  · intro g cap w' h1 h2 _ h4
    rw [← ICELLS_snoc] at h1
    exact h g cap w' h1 h2 h4
theorem make_ints (n : Nat) (hn : n ≤ 64) (w : World) : ∃ cur : Array Value, cur.size = n ∧ (Instr.makeSlice 83 (.int .i64 0) (.int .i64 (n : Int))).run Tryd.prog w = .ok (.slice (some ⟨w.heap.size, 0, none⟩) 0 n) (w.alloc (.cells cur 3)) := by
  obtain ⟨i, hi, hz, hs1, hby⟩ := info_parts_int
  have h := run_make (P := Tryd.prog) w 83 3 i (.int .i64 0) Tryd.underlying83 hi hz .i64 .i64 0 n (by omega) (by omega) (by rw [hby]; omega) (by omega)
  refine ⟨_, ?_, h⟩
  rw [size_madeCells, hs1]
  omega
theorem Tabled.below {w w' : World} (h : Tabled w) (_ : 0 < w.heap.size) (hb : Below w.heap.size w w') : Tabled w' := fun i hi => (hb.cell (by exact World.block_lt_of_cell? _ _ (h i hi))).trans (h i hi)
theorem bits_ok (X : Nat) (hX : X < 2 ^ 64) (w : World) (hT : Tabled w) (h0 : 0 < w.heap.size) : Calls Tryd.prog 36 #[.int .u64 (X : Int)] w fun e w' =>
    ∃ g cap, e = .returned (.slice (some ⟨g, 0, none⟩) (POP X) cap) ∧ w'.ownsRow w.heap.size 3 1 (.slice (some ⟨g, 0, none⟩) (POP X) cap) (POP X) (ICELLS (PLACES X)) ∧ g < w'.heap.size ∧ Below w.heap.size w w' := by
  obtain ⟨cur, hcs, hmk⟩ := make_ints (POP X) (POP_le X) w
  have HX : Aside (X < 2 ^ 64) := hX
  have HT : Aside (Tabled w ∧ 0 < w.heap.size ∧ cur.size = POP X) := ⟨hT, h0, hcs⟩
  have c1 := ones_ok X hX
  clear hX hT h0 hcs
  generalize hp : POP X = p at *
  have HP : Aside (POP X = p) := hp
  clear hp
  go_enter Tryd.func36, Tryd.ntmps36
  go_wp2_with fail
  refine (c1 _).mono ?_
  rintro e w' ⟨rfl, rfl⟩
  clear c1
  go_wp2
  go_loopg [0, 3] p (fun g s0 s2 wx => ∃ (x : Nat), Aside (∃ l : List Nat, l ++ PLACES x = PLACES X ∧ x < 2 ^ 64 ∧ g = POP x ∧ wx.ownsRow w.heap.size 3 1 s2 l.length (ICELLS l) ∧ (∃ b cap, s2 = .slice (some ⟨b, 0, none⟩) l.length cap ∧ b < wx.heap.size) ∧ Below w.heap.size w wx) ∧ s0 = .int .u64 (x : Int))
  case atStart => exact ⟨X, ⟨[], rfl, HX.out, HP.out.symm, World.ownsRow_made w cur p (Nat.le_refl _) (by have := POP_le X; rw [HP.out] at this; simp only [maxLen]; omega) (by rw [HT.out.2.2]; omega), ⟨_, _, rfl, by simp⟩, (Below.refl _ _).alloc (Nat.le_refl _) _⟩, rfl⟩
  case round =>
    obtain ⟨x, A, rfl⟩ := hrel
    clear hmk
    cases hx : ((x : Int) == 0) with
    | true =>
      obtain ⟨l, hl, hxl, hg, hown, ⟨b, cap, hs, hb⟩, hbel⟩ := A.out
      have hx0 : x = 0 := by simpa using hx
      have hl2 : l = PLACES X := by
        rw [hx0, show PLACES 0 = [] from PL_zero 64 0, List.append_nil] at hl
        exact hl
      have hlen : l.length = p := by rw [hl2, PLACES_length, HP.out]
      subst hs
      rw [hlen, hl2] at hown
      have R : Aside (wr.ownsRow w.heap.size 3 1 (.slice (some ⟨b, 0, none⟩) p cap) p (ICELLS (PLACES X)) ∧ b < wr.heap.size ∧ Below w.heap.size w wr ∧ l.length = p) := ⟨hown, hb, hbel, hlen⟩
      clear A hl hxl hg hown hb hbel hx0 hl2 hlen HX HT HP
      go_wp2
      go_ret
      obtain ⟨h1, h2, h3, h4⟩ := R.out
      refine ⟨b, cap, ?_, h1, h2, h3⟩
      rw [← h4]
      rfl
    | false =>
      obtain ⟨l, hl, hxl, hg, hown, ⟨b, cap, hs, hb⟩, hbel⟩ := A.out
      have hx0 : x ≠ 0 := by simpa using hx
      obtain ⟨t, q, e⟩ := low_split x hx0
      have ht : t < 64 := (neg_and hxl e).2
      have cl := low_raw x t wr (tz_ok x t q hxl e wr (HT.out.1.below HT.out.2.1 hbel))
      obtain ⟨y, hy⟩ : ∃ y, y = 2 ^ (t + 1) * q := ⟨_, rfl⟩
      have hya : x &&& (x - 1) = y := by rw [e, hy]; exact less_and t q
      have hstep : PLACES x = t :: PLACES y := by
        rw [e, hy]
        have := PL_step t 64 0 q ht
        rw [Nat.zero_add] at this
        exact this
      have hand : bits .and .u64 (x : Int) (IntKind.u64.wrap ((x : Int) - 1)) = (y : Int) := by
        have hm : IntKind.u64.wrap ((x : Int) - 1) = ((x - 1 : Nat) : Int) := by rw [wrapU]; omega
        rw [hm, and_eq hxl (by omega), hya]
      have hyx : y < 2 ^ 64 := Nat.lt_of_le_of_lt (by rw [← hya]; exact Nat.and_le_left) hxl
      have hlen : l.length ≤ 1000 := by
        have h1 := congrArg List.length hl
        have h2 := POP_le X
        rw [List.length_append, PLACES_length X] at h1
        omega
      have hPy : POP x = POP y + 1 := by
        rw [← PLACES_length, ← PLACES_length, hstep, List.length_cons]
      have R : Aside ((l ++ [t]) ++ PLACES y = PLACES X ∧ y < 2 ^ 64 ∧ gk = POP y + 1 ∧ wr.ownsRow w.heap.size 3 1 u3 l.length (ICELLS l) ∧ Below w.heap.size w wr ∧ l.length ≤ 1000) := ⟨by rw [List.append_assoc, List.singleton_append, ← hstep]; exact hl, hyx, by rw [hg, hPy], hown, hbel, hlen⟩
      clear A hl hxl hg hown hs hb hbel hx0 e ht hy hya hstep hyx hlen hPy HX HT HP
      go_wp2_with fail
      refine cl.mono ?_
      rintro e w' ⟨rfl, rfl⟩
      clear cl
      go_wp2_with (at_builtin; refine app_int _ rfl (.tmp 13) (.tmp 16) rfl w.heap.size u3 l.length l rfl (R.out.2.2.2.1.alloc _) wr.heap.size 1 t rfl (by rw [World.cell?_alloc_at _ _ _ _ rfl]; rfl) R.out.2.2.2.2.2 (by have := R.out.2.2.2.2.1.size; simp; omega) ?_; intro g cap w1 hown hgrow hg)
      obtain ⟨r1, r2, r3, r4, r5, r6⟩ := R.out
      have R2 : Aside ((l ++ [t]) ++ PLACES y = PLACES X ∧ y < 2 ^ 64 ∧ gk = POP y + 1 ∧ w1.ownsRow w.heap.size 3 1 (.slice (some ⟨g, 0, none⟩) (l.length + 1) cap) (l.length + 1) (ICELLS (l ++ [t])) ∧ g < w1.heap.size ∧ Below w.heap.size w w1) := ⟨r1, r2, r3, hown, hg, (r5.alloc r5.size _).grown hgrow (by have := r5.size; simp; omega) (fun k e => (r4.lt k e).1)⟩
      clear hown hgrow hg R r1 r2 r3 r4 r5 r6
      go_wp2
      go_roundg (gk - 1)
      case measure => have := R2.out.2.2.1; omega
      case rel =>
        obtain ⟨r1, r2, r3, r4, r5, r6⟩ := R2.out
        have e : (l ++ [t]).length = l.length + 1 := by simp
        exact ⟨y, ⟨l ++ [t], r1, r2, by omega, by rw [e]; exact r4, ⟨g, cap, by rw [e], r5⟩, r6⟩, by first | rfl | (rw [hand])⟩
end Go.Proofs.YtnplhejopmoopaaDoor

/- The places of the set bits: in order, and put together they are the number. -/
namespace Go.Proofs.YtnplhejopmoopaaDoor
open Go.RowKit

/-- numbers with one bit each, put together. -/
def SUMP (l : List Nat) : Nat := (l.map fun i => 2 ^ i).sum
theorem PL_range : ∀ k o X, ∀ i ∈ PL k o X, o ≤ i ∧ i < o + k
  | 0, _, _, i, h => by simp [PL] at h
  | k + 1, o, X, i, h => by
    have ih := PL_range k (o + 1) (X / 2) i
    unfold PL at h
    split at h
    · rcases List.mem_cons.1 h with rfl | h
      · omega
      · have := ih h
        omega
    · have := ih h
      omega
/-- the place of bit number i. -/
def PLACE (X i : Nat) : Nat := (PLACES X).getD i 0
theorem PLACE_at {X i : Nat} (h : i < POP X) : (PLACES X)[i]? = some (PLACE X i) := by
  rw [← PLACES_length] at h
  unfold PLACE
  rw [List.getD_eq_getElem?_getD, List.getElem?_eq_getElem h]
  rfl
theorem PLACE_le {X i : Nat} (h : i < POP X) : PLACE X i ≤ 63 := by
  have := PL_range 64 0 X _ (List.mem_of_getElem? (PLACE_at h))
  omega
/-- what the first i bits are, put together. -/
def PART (X i : Nat) : Nat := SUMP ((PLACES X).take i)
theorem places_at {w : World} {base g n cap : Nat} {X : Nat} (h : w.ownsRow base 3 1 (.slice (some ⟨g, 0, none⟩) n cap) n (ICELLS (PLACES X))) (i : Nat) (hi : i < POP X) : w.cell? ⟨g, i, none⟩ = some (.int .i64 (PLACE X i : Nat)) := by
  have hlen : (PLACES X).length = n := by have := h.1; simpa [ICELLS] using this
  rw [PLACES_length] at hlen
  rw [h.cellAt i (by omega)]
  unfold ICELLS
  rw [List.getElem?_map, PLACE_at hi]
  rfl
end Go.Proofs.YtnplhejopmoopaaDoor
