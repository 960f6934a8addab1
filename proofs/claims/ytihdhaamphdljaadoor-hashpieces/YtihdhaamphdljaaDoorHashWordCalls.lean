/- What the small functions of package hash on words answer. -/
import Derived.Test.YtihdhaamphdljaaDoorProg
import Derived.Test.YtihdhaamphdljaaDoorHashPlain
import Derived.Test.YtihdhaamphdljaaDoorNumSlice
namespace Go.Proofs.YtihdhaamphdljaaDoor
open Go.RowKit

theorem wrap32U (z : Int) : IntKind.u32.wrap z = z % 2 ^ 32 := by rw [IntKind.wrap_u32]; rfl
theorem xor32 {a b : Nat} (ha : a < 2 ^ 32) (hb : b < 2 ^ 32) : bits .xor .u32 (a : Int) (b : Int) = ((a ^^^ b : Nat) : Int) := u32_xor_nat a b ha hb
theorem and32 {a b : Nat} (ha : a < 2 ^ 32) (hb : b < 2 ^ 32) : bits .and .u32 (a : Int) (b : Int) = ((a &&& b : Nat) : Int) := u32_and_nat a b ha hb
theorem or32 {a b : Nat} (ha : a < 2 ^ 32) (hb : b < 2 ^ 32) : bits .or .u32 (a : Int) (b : Int) = ((a ||| b : Nat) : Int) := u32_or_nat a b ha hb

theorem rotl_raw (x n s a b r : Int) (w : World) (hs : bits .and .u64 (IntKind.u64.wrap n) 31 = s) (h0 : 0 ≤ s) (h1 : 0 ≤ IntKind.u64.wrap (32 - s)) (ha : IntKind.u32.wrap (x * 2 ^ min s.toNat 32) = a) (hb : x / 2 ^ min (IntKind.u64.wrap (32 - s)).toNat 32 = b) (hr : bits .or .u32 a b = r) :
    Calls Tryd.prog 50 #[.int .u32 x, .int .i64 n] w fun e w' => e = .returned (.int .u32 r) ∧ w = w' := by
  go_enter Tryd.func50, Tryd.ntmps50
  go_wp2
  go_ret
  exact ⟨rfl, rfl⟩
theorem and31 (n : Nat) (h1 : 1 ≤ n) (h2 : n < 32) : bits .and .u64 (IntKind.u64.wrap (wrap64 (-(n : Int)))) 31 = ((32 - n : Nat) : Int) := by
  have e : IntKind.u64.wrap (wrap64 (-(n : Int))) = ((18446744073709551616 - n : Nat) : Int) := by
    rw [wrapU]
    unfold wrap64
    omega
  have f : (31 : Int) = ((31 : Nat) : Int) := rfl
  rw [e, f, and_eq (by omega) (by decide)]
  congr 1
  have : (31 : Nat) = 2 ^ 5 - 1 := rfl
  rw [this, Nat.and_two_pow_sub_one_eq_mod]
  omega
theorem rotl_ok (X n : Nat) (hX : X < 2 ^ 32) (h1 : 1 ≤ n) (h2 : n < 32) (w : World) : Calls Tryd.prog 50 #[.int .u32 (X : Int), .int .i64 (wrap64 (-(n : Int)))] w fun e w' => e = .returned (.int .u32 ((ROTR n X : Nat) : Int)) ∧ w = w' := by
  have e : IntKind.u64.wrap (32 - ((32 - n : Nat) : Int)) = (n : Int) := by rw [wrapU]; omega
  refine rotl_raw X _ ((32 - n : Nat) : Int) ((X * 2 ^ (32 - n) % 2 ^ 32 : Nat) : Int) ((X / 2 ^ n : Nat) : Int) _ w (and31 n h1 h2) (by omega) (by rw [e]; omega) ?_ ?_ ?_
  · rw [Int.toNat_natCast, show min (32 - n) 32 = 32 - n by omega, wrap32U]
    simp
  · rw [e, Int.toNat_natCast, show min n 32 = n by omega, div_cast]
  · rw [or32 (Nat.mod_lt _ (by decide)) (Nat.lt_of_le_of_lt (Nat.div_le_self _ _) hX), rot_or (by omega) hX]
theorem right_raw (x n r : Int) (w : World) (c : ∀ w, Calls Tryd.prog 50 #[.int .u32 x, .int .i64 (wrap64 (-n))] w fun e w' => e = .returned (.int .u32 r) ∧ w = w') :
    Calls Tryd.prog 40 #[.int .u32 x, .int .i64 n] w fun e w' => e = .returned (.int .u32 r) ∧ w = w' := by
  go_enter Tryd.func40, Tryd.ntmps40
  go_wp2_with fail
  refine (c _).mono ?_
  rintro e w' ⟨rfl, rfl⟩
  go_wp2
  go_ret
  exact ⟨rfl, rfl⟩
theorem right_ok (X n : Nat) (hX : X < 2 ^ 32) (h1 : 1 ≤ n) (h2 : n < 32) (w : World) : Calls Tryd.prog 40 #[.int .u32 (X : Int), .int .i64 (n : Int)] w fun e w' => e = .returned (.int .u32 ((ROTR n X : Nat) : Int)) ∧ w = w' :=
  right_raw X n _ w (fun w => rotl_ok X n hX h1 h2 w)
theorem mix_raw (x i j k a b c p r : Int) (w : World) (e1 : bits .xor .u32 a b = p) (e2 : bits .xor .u32 p c = r)
    (ca : ∀ w, Calls Tryd.prog 40 #[.int .u32 x, .int .i64 i] w fun e w' => e = .returned (.int .u32 a) ∧ w = w')
    (cb : ∀ w, Calls Tryd.prog 40 #[.int .u32 x, .int .i64 j] w fun e w' => e = .returned (.int .u32 b) ∧ w = w')
    (cc : ∀ w, Calls Tryd.prog 40 #[.int .u32 x, .int .i64 k] w fun e w' => e = .returned (.int .u32 c) ∧ w = w') :
    Calls Tryd.prog 32 #[.int .u32 x, .int .i64 i, .int .i64 j, .int .i64 k] w fun e w' => e = .returned (.int .u32 r) ∧ w = w' := by
  go_enter Tryd.func32, Tryd.ntmps32
  go_wp2_with fail
  refine (ca _).mono ?_
  rintro e w' ⟨rfl, rfl⟩
  clear ca
  go_wp2_with fail
  refine (cb _).mono ?_
  rintro e w' ⟨rfl, rfl⟩
  clear cb
  go_wp2_with fail
  refine (cc _).mono ?_
  rintro e w' ⟨rfl, rfl⟩
  clear cc
  go_wp2
  go_ret
  exact ⟨rfl, rfl⟩
theorem mix_ok (X i j k : Nat) (hX : X < 2 ^ 32) (hi : 1 ≤ i ∧ i < 32) (hj : 1 ≤ j ∧ j < 32) (hk : 1 ≤ k ∧ k < 32) (w : World) : Calls Tryd.prog 32 #[.int .u32 (X : Int), .int .i64 (i : Int), .int .i64 (j : Int), .int .i64 (k : Int)] w fun e w' => e = .returned (.int .u32 ((MIX i j k X : Nat) : Int)) ∧ w = w' :=
  mix_raw X i j k _ _ _ _ _ w (xor32 (ROTR_lt (by omega) hX) (ROTR_lt (by omega) hX)) (xor32 (Nat.xor_lt_two_pow (ROTR_lt (by omega) hX) (ROTR_lt (by omega) hX)) (ROTR_lt (by omega) hX)) (fun w => right_ok X i hX hi.1 hi.2 w) (fun w => right_ok X j hX hj.1 hj.2 w) (fun w => right_ok X k hX hk.1 hk.2 w)
theorem ones_xor {X : Nat} (hX : X < 2 ^ 32) : 4294967295 ^^^ X = 4294967295 - X := by
  apply Nat.eq_of_testBit_eq
  intro i
  have e : (4294967295 : Nat) = 2 ^ 32 - 1 := rfl
  have e2 : 4294967295 - X = 2 ^ 32 - (X + 1) := by omega
  rw [e2, Nat.testBit_two_pow_sub_succ hX, Nat.testBit_xor, e, Nat.testBit_two_pow_sub_one]
  by_cases h : i < 32
  · simp [h]
  · have : X.testBit i = false := Nat.testBit_lt_two_pow (Nat.lt_of_lt_of_le hX (Nat.pow_le_pow_right (by decide) (by omega)))
    simp [h, this]
theorem not32 {X : Nat} (hX : X < 2 ^ 32) : bits .xor .u32 IntKind.u32.max (X : Int) = ((4294967295 - X : Nat) : Int) := by
  rw [← ones_xor hX]
  exact xor32 (a := 4294967295) (by decide) hX
theorem choose_raw (x y z p q s r : Int) (w : World) (e1 : bits .and .u32 x y = p) (e2 : bits .xor .u32 IntKind.u32.max x = q) (e3 : bits .and .u32 q z = s) (e4 : bits .xor .u32 p s = r) :
    Calls Tryd.prog 33 #[.int .u32 x, .int .u32 y, .int .u32 z] w fun e w' => e = .returned (.int .u32 r) ∧ w = w' := by
  go_enter Tryd.func33, Tryd.ntmps33
  go_wp2
  go_ret
  exact ⟨rfl, rfl⟩
theorem choose_ok (X Y Z : Nat) (hX : X < 2 ^ 32) (hY : Y < 2 ^ 32) (hZ : Z < 2 ^ 32) (w : World) : Calls Tryd.prog 33 #[.int .u32 (X : Int), .int .u32 (Y : Int), .int .u32 (Z : Int)] w fun e w' => e = .returned (.int .u32 ((CHO X Y Z : Nat) : Int)) ∧ w = w' :=
  choose_raw X Y Z _ ((4294967295 - X : Nat) : Int) _ _ w (and32 hX hY) (not32 hX) (and32 (by omega) hZ) (xor32 (Nat.lt_of_le_of_lt Nat.and_le_left hX) (Nat.lt_of_le_of_lt Nat.and_le_right hZ))
theorem majority_raw (x y z p q s t r : Int) (w : World) (e1 : bits .and .u32 x y = p) (e2 : bits .and .u32 x z = q) (e3 : bits .xor .u32 p q = s) (e4 : bits .and .u32 y z = t) (e5 : bits .xor .u32 s t = r) :
    Calls Tryd.prog 34 #[.int .u32 x, .int .u32 y, .int .u32 z] w fun e w' => e = .returned (.int .u32 r) ∧ w = w' := by
  go_enter Tryd.func34, Tryd.ntmps34
  go_wp2
  go_ret
  exact ⟨rfl, rfl⟩
theorem majority_ok (X Y Z : Nat) (hX : X < 2 ^ 32) (hY : Y < 2 ^ 32) (hZ : Z < 2 ^ 32) (w : World) : Calls Tryd.prog 34 #[.int .u32 (X : Int), .int .u32 (Y : Int), .int .u32 (Z : Int)] w fun e w' => e = .returned (.int .u32 ((MAJ X Y Z : Nat) : Int)) ∧ w = w' :=
  majority_raw X Y Z _ _ _ _ _ w (and32 hX hY) (and32 hX hZ) (xor32 (Nat.lt_of_le_of_lt Nat.and_le_left hX) (Nat.lt_of_le_of_lt Nat.and_le_left hX)) (and32 hY hZ) (xor32 (Nat.xor_lt_two_pow (Nat.lt_of_le_of_lt Nat.and_le_left hX) (Nat.lt_of_le_of_lt Nat.and_le_left hX)) (Nat.lt_of_le_of_lt Nat.and_le_left hY))
/-- a callee that leaves the world as it was, in a region that only reads. -/
theorem quiet_eq {P : Program} {f : FuncId} {args : Array Value} {w : World} {n : Nat} {v : Value}
    (h : Calls P f args (w.drewN n) fun e w' => e = .returned v ∧ w.drewN n = w') : Calls P f args (w.drewN n) fun e w'' => e = .returned v ∧ ∃ m, w'' = w.drewN m :=
  h.mono fun _ _ ⟨he, hm⟩ => ⟨he, n, hm.symm⟩
theorem spill_raw (x i j k c p r : Int) (R : Int → Int) (w : World) (hi : 1 ≤ i ∧ i < 32) (hj : 1 ≤ j ∧ j < 32) (hk : 0 ≤ k) (e1 : bits .xor .u32 (R i) (R j) = p) (e2 : bits .xor .u32 p c = r) (e3 : x / 2 ^ min k.toNat 32 = c)
    (ca : ∀ n : Int, 1 ≤ n ∧ n < 32 → ∀ w, Calls Tryd.prog 40 #[.int .u32 x, .int .i64 n] w fun e w' => e = .returned (.int .u32 (R n)) ∧ w = w') :
    Calls Tryd.prog 39 #[.int .u32 x, .int .i64 i, .int .i64 j, .int .i64 k] w fun e w' => e = .returned (.int .u32 r) ∧ ∃ m, w' = w.drewN m := by
  go_enter Tryd.func39, Tryd.ntmps39
  go_wp2
  go_quiet ((go_at_call 40; exact quiet_eq (ca _ (by assumption) _)))
  go_wp2
  go_ret
  exact ⟨rfl, _, rfl⟩
theorem spill_ok (X i j k : Nat) (hX : X < 2 ^ 32) (hi : 1 ≤ i ∧ i < 32) (hj : 1 ≤ j ∧ j < 32) (hk : k < 32) (w : World) : Calls Tryd.prog 39 #[.int .u32 (X : Int), .int .i64 (i : Int), .int .i64 (j : Int), .int .i64 (k : Int)] w fun e w' => e = .returned (.int .u32 ((SPILL i j k X : Nat) : Int)) ∧ ∃ m, w' = w.drewN m := by
  refine spill_raw X i j k ((X / 2 ^ k : Nat) : Int) ((ROTR i X ^^^ ROTR j X : Nat) : Int) _ (fun n => ((ROTR n.toNat X : Nat) : Int)) w (by omega) (by omega) (by omega) ?_ ?_ ?_ ?_
  · simp only [Int.toNat_natCast]
    exact xor32 (ROTR_lt (by omega) hX) (ROTR_lt (by omega) hX)
  · exact xor32 (Nat.xor_lt_two_pow (ROTR_lt (by omega) hX) (ROTR_lt (by omega) hX)) (Nat.lt_of_le_of_lt (Nat.div_le_self _ _) hX)
  · rw [Int.toNat_natCast, show min k 32 = k by omega, div_cast]
  · intro n hn w
    obtain ⟨N, rfl⟩ : ∃ N : Nat, n = (N : Int) := ⟨n.toNat, by omega⟩
    exact right_ok X N hX (by omega) (by omega) w
theorem word_raw (b o n c : Nat) (v0 v1 v2 v3 x0 x1 x2 y1 y2 r : Int) (w : World) (hn : 4 ≤ n) (c0 : w.cell? ⟨b, o, none⟩ = some (.int .u8 v0)) (c1 : w.cell? ⟨b, o + 1, none⟩ = some (.int .u8 v1)) (c2 : w.cell? ⟨b, o + 2, none⟩ = some (.int .u8 v2)) (c3 : w.cell? ⟨b, o + 3, none⟩ = some (.int .u8 v3))
    (e0 : v0 % 4294967296 * 16777216 % 4294967296 = x0) (e1 : v1 % 4294967296 * 65536 % 4294967296 = x1) (e2 : v2 % 4294967296 * 256 % 4294967296 = x2) (f1 : bits .or .u32 x0 x1 = y1) (f2 : bits .or .u32 y1 x2 = y2) (f3 : bits .or .u32 y2 (v3 % 4294967296) = r) :
    Calls Tryd.prog 38 #[.slice (some ⟨b, o, none⟩) n c] w fun e w' => e = .returned (.int .u32 r) ∧ ∃ m, w' = w.drewN m := by
  have h0 : (0 : Int) < (n : Int) := by omega
  have h1 : (1 : Int) < (n : Int) := by omega
  have h2 : (2 : Int) < (n : Int) := by omega
  have h3 : (3 : Int) < (n : Int) := by omega
  clear hn
  go_enter Tryd.func38, Tryd.ntmps38
  go_wp2
  go_quiet (fail)
  go_wp2
  go_ret
  exact ⟨rfl, _, rfl⟩
theorem or_up {a b k : Nat} (ha : a % 2 ^ k = 0) (hb : b < 2 ^ k) (h1 : a < 2 ^ 32) (h2 : b < 2 ^ 32) : bits .or .u32 (a : Int) (b : Int) = ((a + b : Nat) : Int) := by
  rw [or32 h1 h2, nat_join k a b ha hb]
theorem word_ok (b o n c : Nat) (s : Nat → Nat) (h : ∀ i, s i < 256) (i : Nat) (w : World) (hn : 4 ≤ n) (hc : ∀ j, j < 4 → w.cell? ⟨b, o + j, none⟩ = some (.int .u8 (s (i + j) : Int))) :
    Calls Tryd.prog 38 #[.slice (some ⟨b, o, none⟩) n c] w fun e w' => e = .returned (.int .u32 ((WORDAT s i : Nat) : Int)) ∧ ∃ m, w' = w.drewN m := by
  have h0 := h i; have h1 := h (i + 1); have h2 := h (i + 2); have h3 := h (i + 3)
  have w3 : ((s (i + 3) : Nat) : Int) % 4294967296 = ((s (i + 3) : Nat) : Int) := by omega
  refine word_raw b o n c (s i : Nat) (s (i + 1) : Nat) (s (i + 2) : Nat) (s (i + 3) : Nat) ((s i * 16777216 : Nat) : Int) ((s (i + 1) * 65536 : Nat) : Int) ((s (i + 2) * 256 : Nat) : Int) _ _ _ w hn (hc 0 (by omega)) (hc 1 (by omega)) (hc 2 (by omega)) (hc 3 (by omega)) ?_ ?_ ?_ (or_up (k := 24) ?_ ?_ ?_ ?_) (or_up (k := 16) ?_ ?_ ?_ ?_) (by rw [w3]; exact or_up (k := 8) (by omega) (by omega) (by omega) (by omega))
  all_goals omega
end Go.Proofs.YtihdhaamphdljaaDoor
