/- Texts of SpanRound, one behind the other: NumHighCalls, NumPlaces, NumListCalls, NumListPlain, PosPeaksPlain, CutPlain. -/
import Derived.WalkKit
import Derived.WalkLawsBesides
import Derived.Deep.LoopGhost
import Derived.Deep.OwnRows
import Derived.Deep.AppendLies
import Derived.Test.YtmkgldjocigffaaDoorSpanRoundP2
/- What Len64 and num's High answer. -/
namespace Go.Proofs.YtmkgldjocigffaaDoor
open Go.RowKit

/-- the lengths of bytes. -/
def LTAB : ByteArray := ⟨#[0, 1, 2, 2, 3, 3, 3, 3, 4, 4, 4, 4, 4, 4, 4, 4, 5, 5, 5, 5, 5, 5, 5, 5, 5, 5, 5, 5, 5, 5, 5, 5, 6, 6, 6, 6, 6, 6, 6, 6, 6, 6, 6, 6, 6, 6, 6, 6, 6, 6, 6, 6, 6, 6, 6, 6, 6, 6, 6, 6, 6, 6, 6, 6, 7, 7, 7, 7, 7, 7, 7, 7, 7, 7, 7, 7, 7, 7, 7, 7, 7, 7, 7, 7, 7, 7, 7, 7, 7, 7, 7, 7, 7, 7, 7, 7, 7, 7, 7, 7, 7, 7, 7, 7, 7, 7, 7, 7, 7, 7, 7, 7, 7, 7, 7, 7, 7, 7, 7, 7, 7, 7, 7, 7, 7, 7, 7, 7, 8, 8, 8, 8, 8, 8, 8, 8, 8, 8, 8, 8, 8, 8, 8, 8, 8, 8, 8, 8, 8, 8, 8, 8, 8, 8, 8, 8, 8, 8, 8, 8, 8, 8, 8, 8, 8, 8, 8, 8, 8, 8, 8, 8, 8, 8, 8, 8, 8, 8, 8, 8, 8, 8, 8, 8, 8, 8, 8, 8, 8, 8, 8, 8, 8, 8, 8, 8, 8, 8, 8, 8, 8, 8, 8, 8, 8, 8, 8, 8, 8, 8, 8, 8, 8, 8, 8, 8, 8, 8, 8, 8, 8, 8, 8, 8, 8, 8, 8, 8, 8, 8, 8, 8, 8, 8, 8, 8, 8, 8, 8, 8, 8, 8, 8, 8, 8, 8, 8, 8, 8, 8, 8, 8, 8, 8, 8, 8]⟩
set_option maxRecDepth 100000 in
theorem len_raw000 (x v : Int) (w : World) (h0 : (¬ 4294967296 ≤ x)) (h1 : (¬ 65536 ≤ x)) (h2 : (¬ 256 ≤ x)) (hx : 0 ≤ x) (hx' : x < 256)
    (hv : Aside (∀ h : (x).toNat < LTAB.size, wrap64 (wrap64 (LTAB[(x).toNat]'h).toNat) = v)) : Calls Tryd.prog 67 #[.int .u64 x] w fun e w' => e = .returned (.int .i64 v) ∧ w = w' := by
  go_enter Tryd.func67, Tryd.ntmps67
  go_wp2
  go_ret
  exact ⟨congrArg (fun z => Ending.returned (Value.int .i64 z)) (hv.out _), rfl⟩
set_option maxRecDepth 100000 in
theorem len_raw001 (x v : Int) (w : World) (h0 : (¬ 4294967296 ≤ x)) (h1 : (¬ 65536 ≤ x)) (h2 : (256 ≤ x)) (hx : 0 ≤ x / 256) (hx' : x / 256 < 256)
    (hv : Aside (∀ h : (x / 256).toNat < LTAB.size, wrap64 (8 + wrap64 (LTAB[(x / 256).toNat]'h).toNat) = v)) : Calls Tryd.prog 67 #[.int .u64 x] w fun e w' => e = .returned (.int .i64 v) ∧ w = w' := by
  go_enter Tryd.func67, Tryd.ntmps67
  go_wp2
  go_ret
  exact ⟨congrArg (fun z => Ending.returned (Value.int .i64 z)) (hv.out _), rfl⟩
set_option maxRecDepth 100000 in
theorem len_raw010 (x v : Int) (w : World) (h0 : (¬ 4294967296 ≤ x)) (h1 : (65536 ≤ x)) (h2 : (¬ 256 ≤ x / 65536)) (hx : 0 ≤ x / 65536) (hx' : x / 65536 < 256)
    (hv : Aside (∀ h : (x / 65536).toNat < LTAB.size, wrap64 (16 + wrap64 (LTAB[(x / 65536).toNat]'h).toNat) = v)) : Calls Tryd.prog 67 #[.int .u64 x] w fun e w' => e = .returned (.int .i64 v) ∧ w = w' := by
  go_enter Tryd.func67, Tryd.ntmps67
  go_wp2
  go_ret
  exact ⟨congrArg (fun z => Ending.returned (Value.int .i64 z)) (hv.out _), rfl⟩
set_option maxRecDepth 100000 in
theorem len_raw011 (x v : Int) (w : World) (h0 : (¬ 4294967296 ≤ x)) (h1 : (65536 ≤ x)) (h2 : (256 ≤ x / 65536)) (hx : 0 ≤ x / 65536 / 256) (hx' : x / 65536 / 256 < 256)
    (hv : Aside (∀ h : (x / 65536 / 256).toNat < LTAB.size, wrap64 (24 + wrap64 (LTAB[(x / 65536 / 256).toNat]'h).toNat) = v)) : Calls Tryd.prog 67 #[.int .u64 x] w fun e w' => e = .returned (.int .i64 v) ∧ w = w' := by
  go_enter Tryd.func67, Tryd.ntmps67
  go_wp2
  go_ret
  exact ⟨congrArg (fun z => Ending.returned (Value.int .i64 z)) (hv.out _), rfl⟩
set_option maxRecDepth 100000 in
theorem len_raw100 (x v : Int) (w : World) (h0 : (4294967296 ≤ x)) (h1 : (¬ 65536 ≤ x / 4294967296)) (h2 : (¬ 256 ≤ x / 4294967296)) (hx : 0 ≤ x / 4294967296) (hx' : x / 4294967296 < 256)
    (hv : Aside (∀ h : (x / 4294967296).toNat < LTAB.size, wrap64 (32 + wrap64 (LTAB[(x / 4294967296).toNat]'h).toNat) = v)) : Calls Tryd.prog 67 #[.int .u64 x] w fun e w' => e = .returned (.int .i64 v) ∧ w = w' := by
  go_enter Tryd.func67, Tryd.ntmps67
  go_wp2
  go_ret
  exact ⟨congrArg (fun z => Ending.returned (Value.int .i64 z)) (hv.out _), rfl⟩
set_option maxRecDepth 100000 in
theorem len_raw101 (x v : Int) (w : World) (h0 : (4294967296 ≤ x)) (h1 : (¬ 65536 ≤ x / 4294967296)) (h2 : (256 ≤ x / 4294967296)) (hx : 0 ≤ x / 4294967296 / 256) (hx' : x / 4294967296 / 256 < 256)
    (hv : Aside (∀ h : (x / 4294967296 / 256).toNat < LTAB.size, wrap64 (40 + wrap64 (LTAB[(x / 4294967296 / 256).toNat]'h).toNat) = v)) : Calls Tryd.prog 67 #[.int .u64 x] w fun e w' => e = .returned (.int .i64 v) ∧ w = w' := by
  go_enter Tryd.func67, Tryd.ntmps67
  go_wp2
  go_ret
  exact ⟨congrArg (fun z => Ending.returned (Value.int .i64 z)) (hv.out _), rfl⟩
set_option maxRecDepth 100000 in
theorem len_raw110 (x v : Int) (w : World) (h0 : (4294967296 ≤ x)) (h1 : (65536 ≤ x / 4294967296)) (h2 : (¬ 256 ≤ x / 4294967296 / 65536)) (hx : 0 ≤ x / 4294967296 / 65536) (hx' : x / 4294967296 / 65536 < 256)
    (hv : Aside (∀ h : (x / 4294967296 / 65536).toNat < LTAB.size, wrap64 (48 + wrap64 (LTAB[(x / 4294967296 / 65536).toNat]'h).toNat) = v)) : Calls Tryd.prog 67 #[.int .u64 x] w fun e w' => e = .returned (.int .i64 v) ∧ w = w' := by
  go_enter Tryd.func67, Tryd.ntmps67
  go_wp2
  go_ret
  exact ⟨congrArg (fun z => Ending.returned (Value.int .i64 z)) (hv.out _), rfl⟩
set_option maxRecDepth 100000 in
theorem len_raw111 (x v : Int) (w : World) (h0 : (4294967296 ≤ x)) (h1 : (65536 ≤ x / 4294967296)) (h2 : (256 ≤ x / 4294967296 / 65536)) (hx : 0 ≤ x / 4294967296 / 65536 / 256) (hx' : x / 4294967296 / 65536 / 256 < 256)
    (hv : Aside (∀ h : (x / 4294967296 / 65536 / 256).toNat < LTAB.size, wrap64 (56 + wrap64 (LTAB[(x / 4294967296 / 65536 / 256).toNat]'h).toNat) = v)) : Calls Tryd.prog 67 #[.int .u64 x] w fun e w' => e = .returned (.int .i64 v) ∧ w = w' := by
  go_enter Tryd.func67, Tryd.ntmps67
  go_wp2
  go_ret
  exact ⟨congrArg (fun z => Ending.returned (Value.int .i64 z)) (hv.out _), rfl⟩

/-- the length of a byte's number. -/
def L8 (i : Nat) : Nat := if i = 0 then 0 else if i < 2 then 1 else if i < 4 then 2 else if i < 8 then 3 else if i < 16 then 4 else if i < 32 then 5 else if i < 64 then 6 else if i < 128 then 7 else 8
set_option maxRecDepth 100000 in
theorem tab_list : ∀ i, i < 256 → (([0, 1, 2, 2, 3, 3, 3, 3, 4, 4, 4, 4, 4, 4, 4, 4, 5, 5, 5, 5, 5, 5, 5, 5, 5, 5, 5, 5, 5, 5, 5, 5, 6, 6, 6, 6, 6, 6, 6, 6, 6, 6, 6, 6, 6, 6, 6, 6, 6, 6, 6, 6, 6, 6, 6, 6, 6, 6, 6, 6, 6, 6, 6, 6, 7, 7, 7, 7, 7, 7, 7, 7, 7, 7, 7, 7, 7, 7, 7, 7, 7, 7, 7, 7, 7, 7, 7, 7, 7, 7, 7, 7, 7, 7, 7, 7, 7, 7, 7, 7, 7, 7, 7, 7, 7, 7, 7, 7, 7, 7, 7, 7, 7, 7, 7, 7, 7, 7, 7, 7, 7, 7, 7, 7, 7, 7, 7, 7, 8, 8, 8, 8, 8, 8, 8, 8, 8, 8, 8, 8, 8, 8, 8, 8, 8, 8, 8, 8, 8, 8, 8, 8, 8, 8, 8, 8, 8, 8, 8, 8, 8, 8, 8, 8, 8, 8, 8, 8, 8, 8, 8, 8, 8, 8, 8, 8, 8, 8, 8, 8, 8, 8, 8, 8, 8, 8, 8, 8, 8, 8, 8, 8, 8, 8, 8, 8, 8, 8, 8, 8, 8, 8, 8, 8, 8, 8, 8, 8, 8, 8, 8, 8, 8, 8, 8, 8, 8, 8, 8, 8, 8, 8, 8, 8, 8, 8, 8, 8, 8, 8, 8, 8, 8, 8, 8, 8, 8, 8, 8, 8, 8, 8, 8, 8, 8, 8, 8, 8, 8, 8, 8, 8, 8, 8, 8, 8] : List UInt8).getD i 0).toNat = L8 i := by decide +kernel
set_option maxRecDepth 100000 in
theorem tab_get (i : Nat) (h : i < LTAB.size) : (LTAB[i]'h).toNat = L8 i := by
  have h2 : i < 256 := h
  have := tab_list i h2
  rw [List.getD_eq_getElem?_getD, List.getElem?_eq_getElem (by exact h)] at this
  exact this
theorem L8_le (i : Nat) : L8 i ≤ 8 := by unfold L8; repeat' split <;> try omega
theorem L8_span (i : Nat) (h0 : i ≠ 0) (h : i < 256) : 1 ≤ L8 i ∧ 2 ^ (L8 i - 1) ≤ i ∧ i < 2 ^ L8 i := by
  unfold L8
  repeat' split
  all_goals (try omega)
theorem len_sum (n i : Nat) (hn : n ≤ 56) : wrap64 ((n : Int) + wrap64 ((L8 i : Nat) : Int)) = ((n + L8 i : Nat) : Int) := by
  have := L8_le i
  unfold wrap64
  omega
theorem len_zero (i : Nat) : wrap64 (wrap64 ((L8 i : Nat) : Int)) = ((L8 i : Nat) : Int) := by
  have := L8_le i
  unfold wrap64
  omega
/-- how many bits X takes. -/
def LEN (X : Nat) : Nat :=
  if 4294967296 ≤ X then (if 281474976710656 ≤ X then (if 72057594037927936 ≤ X then 56 + L8 (X / 72057594037927936) else 48 + L8 (X / 281474976710656)) else (if 1099511627776 ≤ X then 40 + L8 (X / 1099511627776) else 32 + L8 (X / 4294967296)))
  else (if 65536 ≤ X then (if 16777216 ≤ X then 24 + L8 (X / 16777216) else 16 + L8 (X / 65536)) else (if 256 ≤ X then 8 + L8 (X / 256) else L8 X))
theorem len_ok000 (X : Nat) (hX : X < 2 ^ 64) (h0 : ¬ 4294967296 ≤ X) (h1 : ¬ 65536 ≤ X) (h2 : ¬ 256 ≤ X) (w : World) : Calls Tryd.prog 67 #[.int .u64 (X : Int)] w fun e w' => e = .returned (.int .i64 ((0 + L8 (X / 1) : Nat) : Int)) ∧ w = w' := by
  have e : ((X : Int)).toNat = X / 1 := by omega
  refine len_raw000 X _ w (by omega) (by omega) (by omega) (by omega) (by omega) fun h => ?_
  rw [tab_get _ h, e]
  exact (len_zero _).trans (by rw [Nat.zero_add])
theorem len_ok001 (X : Nat) (hX : X < 2 ^ 64) (h0 : ¬ 4294967296 ≤ X) (h1 : ¬ 65536 ≤ X) (h2 : 256 ≤ X) (w : World) : Calls Tryd.prog 67 #[.int .u64 (X : Int)] w fun e w' => e = .returned (.int .i64 ((8 + L8 (X / 256) : Nat) : Int)) ∧ w = w' := by
  have e : ((X : Int) / 256).toNat = X / 256 := by omega
  refine len_raw001 X _ w (by omega) (by omega) (by omega) (by omega) (by omega) fun h => ?_
  rw [tab_get _ h, e]
  exact len_sum 8 _ (by decide)
theorem len_ok010 (X : Nat) (hX : X < 2 ^ 64) (h0 : ¬ 4294967296 ≤ X) (h1 : 65536 ≤ X) (h2 : ¬ 16777216 ≤ X) (w : World) : Calls Tryd.prog 67 #[.int .u64 (X : Int)] w fun e w' => e = .returned (.int .i64 ((16 + L8 (X / 65536) : Nat) : Int)) ∧ w = w' := by
  have e : ((X : Int) / 65536).toNat = X / 65536 := by omega
  refine len_raw010 X _ w (by omega) (by omega) (by omega) (by omega) (by omega) fun h => ?_
  rw [tab_get _ h, e]
  exact len_sum 16 _ (by decide)
theorem len_ok011 (X : Nat) (hX : X < 2 ^ 64) (h0 : ¬ 4294967296 ≤ X) (h1 : 65536 ≤ X) (h2 : 16777216 ≤ X) (w : World) : Calls Tryd.prog 67 #[.int .u64 (X : Int)] w fun e w' => e = .returned (.int .i64 ((24 + L8 (X / 16777216) : Nat) : Int)) ∧ w = w' := by
  have e : ((X : Int) / 65536 / 256).toNat = X / 16777216 := by omega
  refine len_raw011 X _ w (by omega) (by omega) (by omega) (by omega) (by omega) fun h => ?_
  rw [tab_get _ h, e]
  exact len_sum 24 _ (by decide)
theorem len_ok100 (X : Nat) (hX : X < 2 ^ 64) (h0 : 4294967296 ≤ X) (h1 : ¬ 281474976710656 ≤ X) (h2 : ¬ 1099511627776 ≤ X) (w : World) : Calls Tryd.prog 67 #[.int .u64 (X : Int)] w fun e w' => e = .returned (.int .i64 ((32 + L8 (X / 4294967296) : Nat) : Int)) ∧ w = w' := by
  have e : ((X : Int) / 4294967296).toNat = X / 4294967296 := by omega
  refine len_raw100 X _ w (by omega) (by omega) (by omega) (by omega) (by omega) fun h => ?_
  rw [tab_get _ h, e]
  exact len_sum 32 _ (by decide)
theorem len_ok101 (X : Nat) (hX : X < 2 ^ 64) (h0 : 4294967296 ≤ X) (h1 : ¬ 281474976710656 ≤ X) (h2 : 1099511627776 ≤ X) (w : World) : Calls Tryd.prog 67 #[.int .u64 (X : Int)] w fun e w' => e = .returned (.int .i64 ((40 + L8 (X / 1099511627776) : Nat) : Int)) ∧ w = w' := by
  have e : ((X : Int) / 4294967296 / 256).toNat = X / 1099511627776 := by omega
  refine len_raw101 X _ w (by omega) (by omega) (by omega) (by omega) (by omega) fun h => ?_
  rw [tab_get _ h, e]
  exact len_sum 40 _ (by decide)
theorem len_ok110 (X : Nat) (hX : X < 2 ^ 64) (h0 : 4294967296 ≤ X) (h1 : 281474976710656 ≤ X) (h2 : ¬ 72057594037927936 ≤ X) (w : World) : Calls Tryd.prog 67 #[.int .u64 (X : Int)] w fun e w' => e = .returned (.int .i64 ((48 + L8 (X / 281474976710656) : Nat) : Int)) ∧ w = w' := by
  have e : ((X : Int) / 4294967296 / 65536).toNat = X / 281474976710656 := by omega
  refine len_raw110 X _ w (by omega) (by omega) (by omega) (by omega) (by omega) fun h => ?_
  rw [tab_get _ h, e]
  exact len_sum 48 _ (by decide)
theorem len_ok111 (X : Nat) (hX : X < 2 ^ 64) (h0 : 4294967296 ≤ X) (h1 : 281474976710656 ≤ X) (h2 : 72057594037927936 ≤ X) (w : World) : Calls Tryd.prog 67 #[.int .u64 (X : Int)] w fun e w' => e = .returned (.int .i64 ((56 + L8 (X / 72057594037927936) : Nat) : Int)) ∧ w = w' := by
  have e : ((X : Int) / 4294967296 / 65536 / 256).toNat = X / 72057594037927936 := by omega
  refine len_raw111 X _ w (by omega) (by omega) (by omega) (by omega) (by omega) fun h => ?_
  rw [tab_get _ h, e]
  exact len_sum 56 _ (by decide)
theorem len_ok (X : Nat) (hX : X < 2 ^ 64) (w : World) : Calls Tryd.prog 67 #[.int .u64 (X : Int)] w fun e w' => e = .returned (.int .i64 ((LEN X : Nat) : Int)) ∧ w = w' := by
  unfold LEN
  split
  · split
    · split
      · exact len_ok111 X hX (by omega) (by omega) (by omega) w
      · exact len_ok110 X hX (by omega) (by omega) (by omega) w
    · split
      · exact len_ok101 X hX (by omega) (by omega) (by omega) w
      · exact len_ok100 X hX (by omega) (by omega) (by omega) w
  · split
    · split
      · exact len_ok011 X hX (by omega) (by omega) (by omega) w
      · exact len_ok010 X hX (by omega) (by omega) (by omega) w
    · split
      · exact len_ok001 X hX (by omega) (by omega) (by omega) w
      · have k := len_ok000 X hX (by omega) (by omega) (by omega) w
        rw [Nat.div_one, Nat.zero_add] at k
        exact k
theorem span_up {X n : Nat} (h0 : X / 2 ^ n ≠ 0) (h : X / 2 ^ n < 256) : 1 ≤ n + L8 (X / 2 ^ n) ∧ 2 ^ (n + L8 (X / 2 ^ n) - 1) ≤ X ∧ X < 2 ^ (n + L8 (X / 2 ^ n)) := by
  obtain ⟨a, b, c⟩ := L8_span _ h0 h
  have hp := Nat.two_pow_pos n
  refine ⟨by omega, ?_, ?_⟩
  · rw [show n + L8 (X / 2 ^ n) - 1 = n + (L8 (X / 2 ^ n) - 1) by omega, Nat.pow_add]
    exact Nat.le_trans (Nat.mul_le_mul_left _ b) (Nat.mul_div_le X (2 ^ n))
  · rw [Nat.pow_add, Nat.mul_comm]
    exact (Nat.div_lt_iff_lt_mul hp).1 c
theorem LEN_span (X : Nat) (hX : X < 2 ^ 64) (h0 : X ≠ 0) : 1 ≤ LEN X ∧ 2 ^ (LEN X - 1) ≤ X ∧ X < 2 ^ LEN X := by
  unfold LEN
  split
  · split
    · split
      · exact span_up (n := 56) (by omega) (by omega)
      · exact span_up (n := 48) (by omega) (by omega)
    · split
      · exact span_up (n := 40) (by omega) (by omega)
      · exact span_up (n := 32) (by omega) (by omega)
  · split
    · split
      · exact span_up (n := 24) (by omega) (by omega)
      · exact span_up (n := 16) (by omega) (by omega)
    · split
      · exact span_up (n := 8) (by omega) (by omega)
      · exact L8_span X h0 (by omega)
theorem high_raw (x r : Int) (w : World) (c : ∀ w, Calls Tryd.prog 67 #[.int .u64 x] w fun e w' => e = .returned (.int .i64 r) ∧ w = w') (h0 : 0 ≤ r) (h1 : r ≤ 64) :
    Calls Tryd.prog 53 #[.int .u64 x] w fun e w' => e = .returned (.int .i64 (r - 1)) ∧ w = w' := by
  go_enter Tryd.func53, Tryd.ntmps53
  go_wp2_with fail
  refine (c _).mono ?_
  rintro e w' ⟨rfl, rfl⟩
  go_wp2
  go_ret
  exact ⟨rfl, rfl⟩
end Go.Proofs.YtmkgldjocigffaaDoor

/- The places of the set bits, in plain numbers. -/
namespace Go.Proofs.YtmkgldjocigffaaDoor
open Go.RowKit

/-- the places of the set bits among the lowest k ones, o added to each. -/
def PL : Nat → Nat → Nat → List Nat
  | 0, _, _ => []
  | k + 1, o, X => if X % 2 = 1 then o :: PL k (o + 1) (X / 2) else PL k (o + 1) (X / 2)
def PLACES (X : Nat) : List Nat := PL 64 0 X
theorem PL_zero : ∀ k o, PL k o 0 = []
  | 0, _ => rfl
  | k + 1, o => by
    have := PL_zero k (o + 1)
    simpa [PL] using this
theorem PL_length : ∀ k o X, (PL k o X).length = DSUM 1 k X
  | 0, _, _ => rfl
  | k + 1, o, X => by
    have ih := PL_length k (o + 1) (X / 2)
    unfold PL DSUM
    rw [Nat.pow_one]
    split
    · rw [List.length_cons, ih]; omega
    · rw [ih]; omega
theorem PLACES_length (X : Nat) : (PLACES X).length = POP X := PL_length 64 0 X
theorem PL_step : ∀ (t k o q : Nat), t < k → PL k o (2 ^ t * (2 * q + 1)) = (o + t) :: PL k o (2 ^ (t + 1) * q)
  | 0, 0, _, _, h => by omega
  | 0, k + 1, o, q, _ => by
    have h1 : (2 ^ 0 * (2 * q + 1)) = 2 * q + 1 := by simp
    have h2 : 2 ^ (0 + 1) * q = 2 * q := by simp
    rw [h1, h2]
    unfold PL
    rw [if_pos (by omega), if_neg (by omega), show (2 * q + 1) / 2 = q by omega, show 2 * q / 2 = q by omega]
    rfl
  | t + 1, 0, _, _, h => by omega
  | t + 1, k + 1, o, q, h => by
    have ih := PL_step t k (o + 1) q (by omega)
    have h1 : 2 ^ (t + 1) * (2 * q + 1) = 2 * (2 ^ t * (2 * q + 1)) := by rw [Nat.pow_succ, Nat.mul_comm (2 ^ t) 2, Nat.mul_assoc]
    have h2 : 2 ^ (t + 1 + 1) * q = 2 * (2 ^ (t + 1) * q) := by rw [Nat.pow_succ, Nat.mul_comm (2 ^ (t + 1)) 2, Nat.mul_assoc]
    rw [h1, h2]
    generalize 2 ^ t * (2 * q + 1) = a at ih ⊢
    generalize 2 ^ (t + 1) * q = b at ih ⊢
    unfold PL
    rw [if_neg (by omega), if_neg (by omega), show 2 * a / 2 = a by omega, show 2 * b / 2 = b by omega, ih, show o + (t + 1) = o + 1 + t by omega]
theorem POP_le (X : Nat) : POP X ≤ 64 := by
  have : ∀ k X, DSUM 1 k X ≤ k := fun k => by
    induction k with
    | zero => intro X; exact Nat.le_refl _
    | succ k ih =>
      intro X
      have := ih (X / 2)
      unfold DSUM
      rw [Nat.pow_one]
      omega
  exact this 64 X
theorem odd_less (q : Nat) : (2 * q + 1) &&& (2 * q) = 2 * q := by
  apply Nat.eq_of_testBit_eq
  intro i
  rw [Nat.testBit_and]
  cases i with
  | zero => simp [Nat.testBit_zero]
  | succ i =>
    rw [Nat.testBit_succ, Nat.testBit_succ, show (2 * q + 1) / 2 = q by omega, show 2 * q / 2 = q by omega]
    simp
theorem less_and : ∀ (t q : Nat), 2 ^ t * (2 * q + 1) &&& (2 ^ t * (2 * q + 1) - 1) = 2 ^ (t + 1) * q
  | 0, q => by
    have h1 : (2 ^ 0 * (2 * q + 1)) = 2 * q + 1 := by simp
    have h2 : 2 ^ (0 + 1) * q = 2 * q := by simp
    rw [h1, h2]
    exact odd_less q
  | t + 1, q => by
    have ih := less_and t q
    have h1 : 2 ^ (t + 1) * (2 * q + 1) = 2 * (2 ^ t * (2 * q + 1)) := by rw [Nat.pow_succ, Nat.mul_comm (2 ^ t) 2, Nat.mul_assoc]
    have h2 : 2 ^ (t + 1 + 1) * q = 2 * (2 ^ (t + 1) * q) := by rw [Nat.pow_succ, Nat.mul_comm (2 ^ (t + 1)) 2, Nat.mul_assoc]
    have hp : 0 < 2 ^ t * (2 * q + 1) := Nat.mul_pos (Nat.two_pow_pos t) (by omega)
    rw [h1, h2, ← ih]
    generalize 2 ^ t * (2 * q + 1) = a at hp ⊢
    apply Nat.eq_of_testBit_eq
    intro i
    rw [Nat.testBit_and]
    cases i with
    | zero => simp [Nat.testBit_zero]
    | succ i =>
      rw [Nat.testBit_succ, Nat.testBit_succ, Nat.testBit_succ, show 2 * a / 2 = a by omega, show (2 * a - 1) / 2 = a - 1 by omega, ← Nat.testBit_and, show 2 * (a &&& (a - 1)) / 2 = a &&& (a - 1) by omega]
end Go.Proofs.YtmkgldjocigffaaDoor

/- What Bits of package num answers: the places of the set bits, the lowest first. -/
namespace Go.Proofs.YtmkgldjocigffaaDoor
open Go.RowKit

/-- places as cells. -/
def ICELLS (l : List Nat) : List Value := l.map fun (x : Nat) => Value.int .i64 (x : Int)
theorem ICELLS_snoc (l : List Nat) (x : Nat) : ICELLS (l ++ [x]) = ICELLS l ++ [.int .i64 (x : Int)] := by simp [ICELLS]
theorem info_parts_int : ∃ i, Tryd.prog.info? 3 = some i ∧ i.zero = some (.int .i64 0) ∧ i.size = 1 ∧ i.bytes = 8 := by
  have h : (Tryd.prog.info? 3).map (fun i => (i.zero, i.size, i.bytes)) = some (some (.int .i64 0), 1, 8) := by kernel_rfl
  obtain ⟨i, hi, h⟩ := Option.map_eq_some_iff.1 h
  simp only [Prod.mk.injEq] at h
  exact ⟨i, hi, h.1, h.2.1, h.2.2⟩
theorem app_int {ops : Array Oper} {rest : List Oper} {o : Oper} {a : Act} {Q : Exit → Act → World → Prop} (w : World) (hgd : o.guard = none) (s x : Operand)
    (ho : o.op = .call { callee := .builtin .append, args := #[s, x], argTypes := #[90, 90] })
    (base : Nat) (v : Value) (n : Nat) (xs : List Nat) (hs : a.eval s = v) (hown : w.ownsRow base 3 1 v n (ICELLS xs))
    (b c : Nat) (y : Nat) (hx : a.eval x = .slice (some ⟨b, 0, none⟩) 1 c) (hc : w.cell? ⟨b, 0, none⟩ = some (.int .i64 (y : Int)))
    (hb : n ≤ 1000) (hbase : base ≤ w.heap.size)
    (h : ∀ g cap w', w'.ownsRow base 3 1 (.slice (some ⟨g, 0, none⟩) (n + 1) cap) (n + 1) (ICELLS (xs ++ [y])) → w.grownBy w' v.ownBlock → g < w'.heap.size → wpList Tryd.prog ops Q rest (a.put o.dst (.slice (some ⟨g, 0, none⟩) (n + 1) cap)) w') : wpList Tryd.prog ops Q (o :: rest) a w := by
  obtain ⟨i, hi, hz, hs1, hby⟩ := info_parts_int
  refine wpList_append_lies w hgd s x 90 ho base 3 i (.int .i64 0) 1 8 Tryd.underlying90 hi hz hs1 hby rfl (by decide) v n (ICELLS xs) hs hown ⟨b, 0, none⟩ 1 c [.int .i64 (y : Int)] hx rfl ?_ (fun u hu => by simp at hu; subst hu; rfl) (by decide) (by simp only [maxLen]; omega) (by omega) hbase w.heap.size rfl ?_
  · intro j u hj
    cases j with
    | zero =>
      simp only [List.getElem?_cons_zero, Option.some.injEq] at hj
      subst hj
      exact hc
    | succ j => simp at hj
  · intro g cap w' h1 h2 _ h4
    rw [← ICELLS_snoc] at h1
    exact h g cap w' h1 h2 h4
theorem make_ints (n : Nat) (hn : n ≤ 64) (w : World) : ∃ cur : Array Value, cur.size = n ∧ (Instr.makeSlice 90 (.int .i64 0) (.int .i64 (n : Int))).run Tryd.prog w = .ok (.slice (some ⟨w.heap.size, 0, none⟩) 0 n) (w.alloc (.cells cur 3)) := by
  obtain ⟨i, hi, hz, hs1, hby⟩ := info_parts_int
  have h := run_make (P := Tryd.prog) w 90 3 i (.int .i64 0) Tryd.underlying90 hi hz .i64 .i64 0 n (by omega) (by omega) (by rw [hby]; omega) (by omega)
  refine ⟨_, ?_, h⟩
  rw [size_madeCells, hs1]
  omega
theorem Tabled.below {w w' : World} (h : Tabled w) (_ : 0 < w.heap.size) (hb : Below w.heap.size w w') : Tabled w' := fun i hi => (hb.cell (by exact World.block_lt_of_cell? _ _ (h i hi))).trans (h i hi)
theorem bits_ok (X : Nat) (hX : X < 2 ^ 64) (w : World) (hT : Tabled w) (h0 : 0 < w.heap.size) : Calls Tryd.prog 62 #[.int .u64 (X : Int)] w fun e w' =>
    ∃ g cap, e = .returned (.slice (some ⟨g, 0, none⟩) (POP X) cap) ∧ w'.ownsRow w.heap.size 3 1 (.slice (some ⟨g, 0, none⟩) (POP X) cap) (POP X) (ICELLS (PLACES X)) ∧ g < w'.heap.size ∧ Below w.heap.size w w' := by
  obtain ⟨cur, hcs, hmk⟩ := make_ints (POP X) (POP_le X) w
  have HX : Aside (X < 2 ^ 64) := hX
  have HT : Aside (Tabled w ∧ 0 < w.heap.size ∧ cur.size = POP X) := ⟨hT, h0, hcs⟩
  have c1 := ones_ok X hX
  clear hX hT h0 hcs
  generalize hp : POP X = p at *
  have HP : Aside (POP X = p) := hp
  clear hp
  go_enter Tryd.func62, Tryd.ntmps62
  go_wp2_with fail
  refine (c1 _).mono ?_
  rintro e w' ⟨rfl, rfl⟩
  clear c1
  go_wp2
  go_loopg [0, 3] p (fun g s0 s2 wx => ∃ (x : Nat), Aside (∃ l : List Nat, l ++ PLACES x = PLACES X ∧ x < 2 ^ 64 ∧ g = POP x ∧ wx.ownsRow w.heap.size 3 1 s2 l.length (ICELLS l) ∧ (∃ b cap, s2 = .slice (some ⟨b, 0, none⟩) l.length cap ∧ b < wx.heap.size) ∧ Below w.heap.size w wx) ∧ s0 = .int .u64 (x : Int))
  case atStart => exact ⟨X, ⟨[], rfl, HX.out, HP.out.symm, World.ownsRow_made w cur p (Nat.le_refl _) (by have := POP_le X; rw [HP.out] at this; simp only [maxLen]; omega) (by rw [HT.out.2.2]; omega), ⟨_, _, rfl, by simp⟩, (Below.refl _ _).alloc (Nat.le_refl _) _⟩, rfl⟩
  case round =>
    obtain ⟨x, A, rfl⟩ := hrel
    clear hmk
    cases hx : ((x : Int) == 0) with
    | true =>
      obtain ⟨l, hl, hxl, hg, hown, ⟨b, cap, hs, hb⟩, hbel⟩ := A.out
      have hx0 : x = 0 := by simpa using hx
      have hl2 : l = PLACES X := by
        rw [hx0, show PLACES 0 = [] from PL_zero 64 0, List.append_nil] at hl
        exact hl
      have hlen : l.length = p := by rw [hl2, PLACES_length, HP.out]
      subst hs
      rw [hlen, hl2] at hown
      have R : Aside (wr.ownsRow w.heap.size 3 1 (.slice (some ⟨b, 0, none⟩) p cap) p (ICELLS (PLACES X)) ∧ b < wr.heap.size ∧ Below w.heap.size w wr ∧ l.length = p) := ⟨hown, hb, hbel, hlen⟩
      clear A hl hxl hg hown hb hbel hx0 hl2 hlen HX HT HP
      go_wp2
      go_ret
      obtain ⟨h1, h2, h3, h4⟩ := R.out
      refine ⟨b, cap, ?_, h1, h2, h3⟩
      rw [← h4]
      rfl
    | false =>
      obtain ⟨l, hl, hxl, hg, hown, ⟨b, cap, hs, hb⟩, hbel⟩ := A.out
      have hx0 : x ≠ 0 := by simpa using hx
      obtain ⟨t, q, e⟩ := low_split x hx0
      have ht : t < 64 := (neg_and hxl e).2
      have cl := low_raw x t wr (tz_ok x t q hxl e wr (HT.out.1.below HT.out.2.1 hbel))
      obtain ⟨y, hy⟩ : ∃ y, y = 2 ^ (t + 1) * q := ⟨_, rfl⟩
      have hya : x &&& (x - 1) = y := by rw [e, hy]; exact less_and t q
      have hstep : PLACES x = t :: PLACES y := by
        rw [e, hy]
        have := PL_step t 64 0 q ht
        rw [Nat.zero_add] at this
        exact this
      have hand : bits .and .u64 (x : Int) (IntKind.u64.wrap ((x : Int) - 1)) = (y : Int) := by
        have hm : IntKind.u64.wrap ((x : Int) - 1) = ((x - 1 : Nat) : Int) := by rw [wrapU]; omega
        rw [hm, and_eq hxl (by omega), hya]
      have hyx : y < 2 ^ 64 := Nat.lt_of_le_of_lt (by rw [← hya]; exact Nat.and_le_left) hxl
      have hlen : l.length ≤ 1000 := by
        have h1 := congrArg List.length hl
        have h2 := POP_le X
        rw [List.length_append, PLACES_length X] at h1
        omega
      have hPy : POP x = POP y + 1 := by
        rw [← PLACES_length, ← PLACES_length, hstep, List.length_cons]
      have R : Aside ((l ++ [t]) ++ PLACES y = PLACES X ∧ y < 2 ^ 64 ∧ gk = POP y + 1 ∧ wr.ownsRow w.heap.size 3 1 u3 l.length (ICELLS l) ∧ Below w.heap.size w wr ∧ l.length ≤ 1000) := ⟨by rw [List.append_assoc, List.singleton_append, ← hstep]; exact hl, hyx, by rw [hg, hPy], hown, hbel, hlen⟩
      clear A hl hxl hg hown hs hb hbel hx0 e ht hy hya hstep hyx hlen hPy HX HT HP
      go_wp2_with fail
      refine cl.mono ?_
      rintro e w' ⟨rfl, rfl⟩
      clear cl
      go_wp2_with (at_builtin; refine app_int _ rfl (.tmp 13) (.tmp 16) rfl w.heap.size u3 l.length l rfl (R.out.2.2.2.1.alloc _) wr.heap.size 1 t rfl (by rw [World.cell?_alloc_at _ _ _ _ rfl]; rfl) R.out.2.2.2.2.2 (by have := R.out.2.2.2.2.1.size; simp; omega) ?_; intro g cap w1 hown hgrow hg)
      obtain ⟨r1, r2, r3, r4, r5, r6⟩ := R.out
      have R2 : Aside ((l ++ [t]) ++ PLACES y = PLACES X ∧ y < 2 ^ 64 ∧ gk = POP y + 1 ∧ w1.ownsRow w.heap.size 3 1 (.slice (some ⟨g, 0, none⟩) (l.length + 1) cap) (l.length + 1) (ICELLS (l ++ [t])) ∧ g < w1.heap.size ∧ Below w.heap.size w w1) := ⟨r1, r2, r3, hown, hg, (r5.alloc r5.size _).grown hgrow (by have := r5.size; simp; omega) (fun k e => (r4.lt k e).1)⟩
      clear hown hgrow hg R r1 r2 r3 r4 r5 r6
      go_wp2
      go_roundg (gk - 1)
      case measure => have := R2.out.2.2.1; omega
      case rel =>
        obtain ⟨r1, r2, r3, r4, r5, r6⟩ := R2.out
        have e : (l ++ [t]).length = l.length + 1 := by simp
        exact ⟨y, ⟨l ++ [t], r1, r2, by omega, by rw [e]; exact r4, ⟨g, cap, by rw [e], r5⟩, r6⟩, by first | rfl | (rw [hand])⟩
end Go.Proofs.YtmkgldjocigffaaDoor

/- The places of the set bits: in order, and put together they are the number. -/
namespace Go.Proofs.YtmkgldjocigffaaDoor
open Go.RowKit

theorem PL_range : ∀ k o X, ∀ i ∈ PL k o X, o ≤ i ∧ i < o + k
  | 0, _, _, i, h => by simp [PL] at h
  | k + 1, o, X, i, h => by
    have ih := PL_range k (o + 1) (X / 2) i
    unfold PL at h
    split at h
    · rcases List.mem_cons.1 h with rfl | h
      · omega
      · have := ih h
        omega
    · have := ih h
      omega
/-- the place of bit number i. -/
def PLACE (X i : Nat) : Nat := (PLACES X).getD i 0
theorem PLACE_at {X i : Nat} (h : i < POP X) : (PLACES X)[i]? = some (PLACE X i) := by
  rw [← PLACES_length] at h
  unfold PLACE
  rw [List.getD_eq_getElem?_getD, List.getElem?_eq_getElem h]
  rfl
theorem PLACE_le {X i : Nat} (h : i < POP X) : PLACE X i ≤ 63 := by
  have := PL_range 64 0 X _ (List.mem_of_getElem? (PLACE_at h))
  omega
theorem places_at {w : World} {base g n cap : Nat} {X : Nat} (h : w.ownsRow base 3 1 (.slice (some ⟨g, 0, none⟩) n cap) n (ICELLS (PLACES X))) (i : Nat) (hi : i < POP X) : w.cell? ⟨g, i, none⟩ = some (.int .i64 (PLACE X i : Nat)) := by
  have hlen : (PLACES X).length = n := by have := h.1; simpa [ICELLS] using this
  rw [PLACES_length] at hlen
  rw [h.cellAt i (by omega)]
  unfold ICELLS
  rw [List.getElem?_map, PLACE_at hi]
  rfl
end Go.Proofs.YtmkgldjocigffaaDoor

/- Peaks in plain numbers: the heights of the peaks of n leaves, their places, which one stands over a leaf, the way there. -/
namespace Go.Proofs.YtmkgldjocigffaaDoor

/-- the places of the bits of n that are set, from h on. -/
def UP (h n : Nat) : List Nat := PL (64 - h) h (n / 2 ^ h)
theorem UP_step {h n : Nat} (hh : h < 64) : UP h n = if n / 2 ^ h % 2 = 1 then h :: UP (h + 1) n else UP (h + 1) n := by
  unfold UP
  rw [show 64 - h = (64 - (h + 1)) + 1 by omega, PL, Nat.div_div_eq_div_mul, ← Nat.pow_succ]
theorem UP_zero (n : Nat) : UP 0 n = PLACES n := by
  unfold UP PLACES
  simp
theorem UP_top {h n : Nat} (hn : n < 2 ^ h) : UP h n = [] := by
  unfold UP
  rw [Nat.div_eq_of_lt hn, PL_zero]
/-- the heights of the peaks of n leaves that are at least h, from the left. -/
def HS (h n : Nat) : List Nat := (UP h n).reverse
theorem HS_set {h n : Nat} (hh : h < 64) (hb : n / 2 ^ h % 2 = 1) : HS h n = HS (h + 1) n ++ [h] := by
  unfold HS
  rw [UP_step hh, if_pos hb, List.reverse_cons]
theorem HS_clear {h n : Nat} (hh : h < 64) (hb : ¬ n / 2 ^ h % 2 = 1) : HS h n = HS (h + 1) n := by
  unfold HS
  rw [UP_step hh, if_neg hb]
theorem HS_top {h n : Nat} (hn : n < 2 ^ h) : HS h n = [] := by
  unfold HS
  rw [UP_top hn]
  rfl
theorem HS_zero (n : Nat) : HS 0 n = (PLACES n).reverse := by
  unfold HS
  rw [UP_zero]
theorem HS_length {n : Nat} (hn : n < 2 ^ 64) : ∀ h, h ≤ 64 → (HS h n).length = PC (n / 2 ^ h) := by
  have key : ∀ d h, h + d = 64 → (HS h n).length = PC (n / 2 ^ h) := by
    intro d
    induction d with
    | zero =>
      intro h e
      obtain rfl : h = 64 := by omega
      rw [HS_top hn, Nat.div_eq_of_lt hn, PC_zero]
      rfl
    | succ d ih =>
      intro h e
      have ih := ih (h + 1) (by omega)
      rw [PC_step, Nat.div_div_eq_div_mul, ← Nat.pow_succ, ← ih]
      by_cases hb : n / 2 ^ h % 2 = 1
      · rw [HS_set (by omega) hb, List.length_append, List.length_singleton]
        omega
      · rw [HS_clear (by omega) hb]
        omega
  intro h hh
  exact key (64 - h) h (by omega)
theorem HS_set_of {n : Nat} : ∀ h x, h ≤ 64 → x ∈ HS h n → h ≤ x ∧ x < 64 ∧ n / 2 ^ x % 2 = 1 := by
  have key : ∀ d h, h + d = 64 → ∀ x, x ∈ HS h n → h ≤ x ∧ x < 64 ∧ n / 2 ^ x % 2 = 1 := by
    intro d
    induction d with
    | zero =>
      intro h e x hx
      obtain rfl : h = 64 := by omega
      simp [HS, UP, PL] at hx
    | succ d ih =>
      intro h e x hx
      by_cases hb : n / 2 ^ h % 2 = 1
      · rw [HS_set (by omega) hb, List.mem_append, List.mem_singleton] at hx
        rcases hx with hx | rfl
        · have := ih (h + 1) (by omega) x hx
          exact ⟨by omega, this.2⟩
        · exact ⟨Nat.le_refl _, by omega, hb⟩
      · rw [HS_clear (by omega) hb] at hx
        have := ih (h + 1) (by omega) x hx
        exact ⟨by omega, this.2⟩
  intro h x hh
  exact key (64 - h) h (by omega) x

/-- the place of the peak of height h of n leaves. -/
def PKP (n h : Nat) : Nat := PLC h (2 * (n / 2 ^ (h + 1)))
/-- the places of the peaks of n leaves, from the left. -/
def PEAKS (n : Nat) : List Nat := (HS 0 n).map (PKP n)
theorem half_pow (n h : Nat) : n / 2 ^ (h + 1) = n / 2 ^ h / 2 := by rw [Nat.div_div_eq_div_mul, ← Nat.pow_succ]
theorem NODES_plus (m h : Nat) : NODES ((2 * m + 1) * 2 ^ h) = NODES (2 * m * 2 ^ h) + TREE h := by
  have h1 := NODES_add ((2 * m + 1) * 2 ^ h)
  have h2 := NODES_add (2 * m * 2 ^ h)
  rw [PC_shift, PC_odd, Nat.add_mul, Nat.one_mul] at h1
  rw [PC_shift, PC_even] at h2
  have h3 := two_le h
  rw [Nat.pow_succ] at h3
  rw [Nat.add_mul, Nat.one_mul]
  unfold TREE
  rw [Nat.pow_succ]
  omega
theorem at_set {n h : Nat} (hb : n / 2 ^ h % 2 = 1) : n / 2 ^ h = 2 * (n / 2 ^ (h + 1)) + 1 := by
  rw [half_pow]
  omega
theorem at_clear {n h : Nat} (hb : ¬ n / 2 ^ h % 2 = 1) : n / 2 ^ h = 2 * (n / 2 ^ (h + 1)) := by
  rw [half_pow]
  omega
theorem double_pow (m h : Nat) : 2 * m * 2 ^ h = m * 2 ^ (h + 1) := by
  rw [Nat.pow_succ, Nat.mul_comm 2 m, Nat.mul_assoc, Nat.mul_comm 2]
/-- what the loop over the heights makes: how many nodes, and the places. -/
def ST (l : List Nat) : Nat × List Nat := l.foldl (fun s h => ((s.1 + TREE h) % 2 ^ 64, s.2 ++ [((s.1 + TREE h) % 2 ^ 64 + (2 ^ 64 - 1)) % 2 ^ 64])) (0, [])
theorem ST_snoc (l : List Nat) (h : Nat) : ST (l ++ [h]) = (((ST l).1 + TREE h) % 2 ^ 64, (ST l).2 ++ [(((ST l).1 + TREE h) % 2 ^ 64 + (2 ^ 64 - 1)) % 2 ^ 64]) := by
  unfold ST
  rw [List.foldl_append]
  rfl
theorem NODES_top {n : Nat} (hn : n ≤ 4611686018427387904) : NODES n ≤ 9223372036854775807 := by
  rw [← NODES_most]
  exact NODES_le hn
theorem ST_HS {n : Nat} (hn : n ≤ 4611686018427387904) : ∀ h, h ≤ 64 → ST (HS h n) = (NODES (n / 2 ^ h * 2 ^ h), (HS h n).map (PKP n)) := by
  have key : ∀ d h, h + d = 64 → ST (HS h n) = (NODES (n / 2 ^ h * 2 ^ h), (HS h n).map (PKP n)) := by
    intro d
    induction d with
    | zero =>
      intro h e
      obtain rfl : h = 64 := by omega
      rw [HS_top (by omega), Nat.div_eq_of_lt (by omega), Nat.zero_mul, NODES_zero]
      rfl
    | succ d ih =>
      intro h e
      have ih := ih (h + 1) (by omega)
      by_cases hb : n / 2 ^ h % 2 = 1
      · have e1 := at_set hb
        have h2 : NODES (n / 2 ^ h * 2 ^ h) = NODES (n / 2 ^ (h + 1) * 2 ^ (h + 1)) + TREE h := by
          rw [e1, NODES_plus, double_pow]
        have h3 : NODES (n / 2 ^ h * 2 ^ h) ≤ 9223372036854775807 := NODES_top (Nat.le_trans (Nat.div_mul_le_self _ _) hn)
        have h4 := two_le h
        have hs : (NODES (n / 2 ^ (h + 1) * 2 ^ (h + 1)) + TREE h) % 2 ^ 64 = NODES (n / 2 ^ h * 2 ^ h) := by
          rw [← h2]
          omega
        have hp : (NODES (n / 2 ^ h * 2 ^ h) + (2 ^ 64 - 1)) % 2 ^ 64 = PKP n h := by
          unfold PKP PLC
          rw [double_pow]
          unfold TREE at h2
          omega
        rw [HS_set (by omega) hb, ST_snoc, ih]
        dsimp only
        rw [hs, hp, List.map_append]
        rfl
      · rw [HS_clear (by omega) hb, ih, at_clear hb, double_pow]
  intro h hh
  exact key (64 - h) h (by omega)
theorem ST_all {n : Nat} (hn : n ≤ 4611686018427387904) : ST (HS 0 n) = (NODES n, PEAKS n) := by
  have := ST_HS hn 0 (by omega)
  unfold PEAKS
  simpa using this

theorem Node.peak {n h : Nat} (hn : n ≤ 4611686018427387904) (hb : n / 2 ^ h % 2 = 1) : Node h (2 * (n / 2 ^ (h + 1))) := by
  have h62 : h ≤ 62 := by
    rcases Nat.lt_or_ge 62 h with h1 | h1
    · have : 2 ^ 63 ≤ 2 ^ h := Nat.pow_le_pow_right (by decide) h1
      rw [Nat.div_eq_of_lt (by omega)] at hb
      omega
    · exact h1
  refine ⟨h62, ?_⟩
  have h1 : n / 2 ^ h ≤ 2 ^ (62 - h) := by
    have : n / 2 ^ h ≤ 2 ^ 62 / 2 ^ h := Nat.div_le_div_right (by simpa using hn)
    rw [Nat.pow_div h62 (by decide)] at this
    exact this
  rw [at_set hb] at h1
  omega
end Go.Proofs.YtmkgldjocigffaaDoor

/- Spans of leaves as perfect trees, in plain numbers. -/
namespace Go.Proofs.YtmkgldjocigffaaDoor

/-- a perfect tree of height h begins at a and does not reach beyond b. -/
abbrev Fit (a h b : Nat) : Prop := a % 2 ^ h = 0 ∧ a + 2 ^ h ≤ b
theorem Fit.down {a h b : Nat} (f : Fit a (h + 1) b) : Fit a h b := by
  have h1 : 2 ^ (h + 1) = 2 ^ h * 2 := Nat.pow_succ 2 h
  have h2 := f.2
  refine ⟨?_, by omega⟩
  have h3 := f.1
  have h4 : 2 ^ h ∣ 2 ^ (h + 1) := ⟨2, h1⟩
  exact Nat.mod_eq_zero_of_dvd (Nat.dvd_trans h4 (Nat.dvd_of_mod_eq_zero h3))
theorem Fit.le {a g b : Nat} : ∀ h, h ≤ g → Fit a g b → Fit a h b := by
  intro h hg f
  induction g with
  | zero => obtain rfl : h = 0 := by omega
            exact f
  | succ g ih =>
    rcases Nat.lt_or_ge h (g + 1) with h1 | h1
    · exact ih (by omega) f.down
    · obtain rfl : h = g + 1 := by omega
      exact f
theorem Fit.zero {a b : Nat} (h : a < b) : Fit a 0 b := ⟨Nat.mod_one a, by simp; omega⟩
/-- the greatest height up to f that fits. -/
def HTF : Nat → Nat → Nat → Nat
  | 0, _, _ => 0
  | f + 1, a, b => if Fit a (f + 1) b then f + 1 else HTF f a b
/-- the height of the greatest tree that begins at a and does not reach beyond b. -/
def HT (a b : Nat) : Nat := HTF 62 a b
/-- spots that lie over the leaves from a to b - 1, one behind the other. -/
def Tile : Nat → List (Nat × Nat) → Nat → Prop
  | a, [], b => a = b
  | a, s :: l, b => Node s.1 s.2 ∧ s.2 * 2 ^ s.1 = a ∧ Tile ((s.2 + 1) * 2 ^ s.1) l b
/-- two neighbours that are siblings. -/
abbrev Sibs (x y : Nat × Nat) : Prop := x.1 = y.1 ∧ x.2 % 2 = 0 ∧ y.2 = x.2 + 1
/-- no two neighbours are siblings. -/
def Irr : List (Nat × Nat) → Prop
  | [] => True
  | x :: l => (∀ y, l.head? = some y → ¬ Sibs x y) ∧ Irr l
theorem Fit.node {a h b : Nat} (f : Fit a h b) (hh : h ≤ 62) (hb : b ≤ 4611686018427387904) : Node h (a / 2 ^ h) ∧ a / 2 ^ h * 2 ^ h = a ∧ (a / 2 ^ h + 1) * 2 ^ h = a + 2 ^ h := by
  have h1 : a / 2 ^ h * 2 ^ h = a := Nat.div_mul_cancel (Nat.dvd_of_mod_eq_zero f.1)
  have h2 : (a / 2 ^ h + 1) * 2 ^ h = a + 2 ^ h := by rw [Nat.add_mul, Nat.one_mul, h1]
  refine ⟨⟨hh, ?_⟩, h1, h2⟩
  have h3 : (a / 2 ^ h + 1) * 2 ^ h ≤ 2 ^ (62 - h) * 2 ^ h := by
    rw [h2, ← Nat.pow_add, show 62 - h + h = 62 by omega]
    have := f.2
    simp
    omega
  exact Nat.le_of_mul_le_mul_right h3 (Nat.two_pow_pos h)
theorem Tile.bound {l : List (Nat × Nat)} : ∀ {a b : Nat}, Tile a l b → a ≤ b ∧ (l ≠ [] → a < b ∧ b ≤ 4611686018427387904) := by
  induction l with
  | nil => intro a b h; exact ⟨by have : a = b := h; omega, fun h => absurd rfl h⟩
  | cons s l ih =>
    intro a b ⟨h1, h2, h3⟩
    have i := ih h3
    have := Nat.two_pow_pos s.1
    have e : (s.2 + 1) * 2 ^ s.1 = s.2 * 2 ^ s.1 + 2 ^ s.1 := by rw [Nat.add_mul, Nat.one_mul]
    refine ⟨by omega, fun _ => ⟨by omega, ?_⟩⟩
    cases l with
    | nil =>
      have h4 : (s.2 + 1) * 2 ^ s.1 = b := h3
      have := h1.span
      simp at this
      omega
    | cons t l => exact (i.2 (by simp)).2
theorem Tile.append {l m : List (Nat × Nat)} : ∀ {a b c : Nat}, Tile a l b → Tile b m c → Tile a (l ++ m) c := by
  induction l with
  | nil => intro a b c h h2; have : a = b := h; rw [this]; exact h2
  | cons s l ih => intro a b c ⟨h1, h2, h3⟩ h4; exact ⟨h1, h2, ih h3 h4⟩
theorem Tile.node {l : List (Nat × Nat)} : ∀ {a b i h k : Nat}, Tile a l b → l[i]? = some (h, k) → Node h k := by
  induction l with
  | nil => intro a b i h k _ e; simp at e
  | cons s l ih =>
    intro a b i h k ⟨h1, h2, h3⟩ e
    cases i with
    | zero => simp at e; subst e; exact h1
    | succ i => exact ih h3 (by simpa using e)
theorem Tile.one {s : Nat × Nat} {a b : Nat} : Tile a [s] b ↔ Node s.1 s.2 ∧ s.2 * 2 ^ s.1 = a ∧ (s.2 + 1) * 2 ^ s.1 = b := Iff.rfl
end Go.Proofs.YtmkgldjocigffaaDoor
