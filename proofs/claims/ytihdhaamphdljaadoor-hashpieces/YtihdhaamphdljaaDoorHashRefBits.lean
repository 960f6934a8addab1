/- What the small functions of the document's answers for layer 2 give. -/
import Derived.Test.YtihdhaamphdljaaDoorHashWordCalls
import Derived.Deep.LoopGhost
namespace Go.Proofs.YtihdhaamphdljaaDoor
open Go.RowKit

theorem wrap_small {k : Nat} (h : k < 2 ^ 64) : IntKind.u64.wrap (k : Int) = (k : Int) := by rw [wrapU]; omega
theorem power_ok (n : Nat) (hn : n < 64) (w : World) : Calls Tryd.prog 53 #[.int .i64 (n : Int)] w fun e w' => e = .returned (.int .u64 ((2 ^ n : Nat) : Int)) ∧ w = w' := by
  have HN : Aside (n < 64) := hn
  clear hn
  go_enter Tryd.func53, Tryd.ntmps53
  go_wp2
  go_loopg [3, 4] n (fun g s3 s4 wx => ∃ (i : Nat) (p : Int), i + g = n ∧ Aside (p = ((2 ^ i : Nat) : Int)) ∧ s3 = .int .u64 p ∧ s4 = .int .i64 i ∧ wx = w)
  case atStart => exact ⟨0, 1, by omega, rfl, rfl, rfl, rfl⟩
  case round =>
    obtain ⟨i, p, hig, A, rfl, rfl, rfl⟩ := hrel
    cases gk with
    | zero =>
      obtain rfl : i = n := by omega
      go_wp2
      go_ret
      exact ⟨by rw [← A.out]; rfl, rfl⟩
    | succ g =>
      have hlt : (i : Int) < (n : Int) := by omega
      have hlt2 : (i : Int) < 64 := by have := HN.out; omega
      obtain ⟨p', hp'⟩ : ∃ p', IntKind.u64.wrap (2 * p) = p' := ⟨_, rfl⟩
      have B : Aside (IntKind.u64.wrap (2 * p) = p') := hp'
      go_wp2
      go_roundg g
      case measure => omega
      case rel =>
        refine ⟨i + 1, p', by omega, ?_, rfl, by go_num, rfl⟩
        show p' = _
        have h1 : (2 ^ i : Nat) ≤ 2 ^ 62 := Nat.pow_le_pow_right (by decide) (by have := HN.out; omega)
        rw [← B.out, A.out, wrapU, Nat.pow_succ]
        omega
theorem rotr_raw (x n : Int) (P : Int → Int) (q r t v : Int) (w : World) (h1 : 0 ≤ n ∧ n < 64) (h2 : 0 ≤ 32 - n ∧ 32 - n < 64) (hw : wrap64 (32 - n) = 32 - n) (hp : ¬ P n = 0) (hq : IntKind.u64.wrap (x.tdiv (P n)) = q) (hr : x.tmod (P n) = r) (ht : IntKind.u64.wrap (r * P (32 - n)) = t) (hv : IntKind.u64.wrap (q + t) = v)
    (c : ∀ k : Int, 0 ≤ k ∧ k < 64 → ∀ w, Calls Tryd.prog 53 #[.int .i64 k] w fun e w' => e = .returned (.int .u64 (P k)) ∧ w = w') :
    Calls Tryd.prog 46 #[.int .u64 x, .int .i64 n] w fun e w' => e = .returned (.int .u64 v) ∧ ∃ m, w' = w.drewN m := by
  go_enter Tryd.func46, Tryd.ntmps46
  go_wp2
  go_quiet ((go_at_call 53; exact quiet_eq (c _ (by assumption) _)))
  go_wp2
  go_ret
  exact ⟨rfl, _, rfl⟩
theorem rotr_ok (X n : Nat) (hX : X < 2 ^ 32) (h1 : 1 ≤ n) (h2 : n < 32) (w : World) : Calls Tryd.prog 46 #[.int .u64 (X : Int), .int .i64 (n : Int)] w fun e w' => e = .returned (.int .u64 ((ROTR n X : Nat) : Int)) ∧ ∃ m, w' = w.drewN m := by
  have hp := Nat.two_pow_pos n
  have hR := ROTR_lt (n := n) (by omega) hX
  have hq : X / 2 ^ n < 2 ^ 32 := Nat.lt_of_le_of_lt (Nat.div_le_self _ _) hX
  have hm : X % 2 ^ n * 2 ^ (32 - n) < 2 ^ 32 := Nat.lt_of_le_of_lt (Nat.le_add_left _ _) hR
  refine rotr_raw X n (fun k => ((2 ^ k.toNat : Nat) : Int)) ((X / 2 ^ n : Nat) : Int) ((X % 2 ^ n : Nat) : Int) ((X % 2 ^ n * 2 ^ (32 - n) : Nat) : Int) _ w (by omega) (by omega) (by unfold wrap64; omega) ?_ ?_ ?_ ?_ ?_ ?_
  · simp only [Int.toNat_natCast]
    omega
  · simp only [Int.toNat_natCast]
    rw [Int.tdiv_eq_ediv_of_nonneg (by omega), ← Int.natCast_ediv]
    exact wrap_small (by omega)
  · simp only [Int.toNat_natCast]
    rw [Int.tmod_eq_emod_of_nonneg (by omega), ← Int.natCast_emod]
  · rw [show ((32 : Int) - (n : Int)).toNat = 32 - n by omega, ← Int.natCast_mul]
    exact wrap_small (by omega)
  · rw [← Int.natCast_add]
    exact wrap_small (by unfold ROTR at hR; omega)
  · intro k hk w
    obtain ⟨K, rfl⟩ : ∃ K : Nat, k = (K : Int) := ⟨k.toNat, by omega⟩
    exact power_ok K (by omega) w
theorem shr_raw2 (x n p q : Int) (w : World) (hp : ¬ p = 0) (hq : IntKind.u64.wrap (x.tdiv p) = q)
    (c : ∀ w, Calls Tryd.prog 53 #[.int .i64 n] w fun e w' => e = .returned (.int .u64 p) ∧ w = w') :
    Calls Tryd.prog 47 #[.int .u64 x, .int .i64 n] w fun e w' => e = .returned (.int .u64 q) ∧ w = w' := by
  go_enter Tryd.func47, Tryd.ntmps47
  go_wp2_with fail
  refine (c _).mono ?_
  rintro e w' ⟨rfl, rfl⟩
  clear c
  go_wp2
  go_ret
  exact ⟨rfl, rfl⟩
theorem shr2_ok (X n : Nat) (hX : X < 2 ^ 32) (h2 : n < 32) (w : World) : Calls Tryd.prog 47 #[.int .u64 (X : Int), .int .i64 (n : Int)] w fun e w' => e = .returned (.int .u64 ((X / 2 ^ n : Nat) : Int)) ∧ w = w' := by
  have hp := Nat.two_pow_pos n
  have hq : X / 2 ^ n < 2 ^ 32 := Nat.lt_of_le_of_lt (Nat.div_le_self _ _) hX
  refine shr_raw2 X n ((2 ^ n : Nat) : Int) _ w (by omega) ?_ (fun w => power_ok n (by omega) w)
  rw [Int.tdiv_eq_ediv_of_nonneg (by omega), ← Int.natCast_ediv]
  exact wrap_small (by omega)
/-- the i-th bit. -/
theorem bit_eq (V i : Nat) : V / 2 ^ i % 2 = (V.testBit i).toNat := (Nat.toNat_testBit V i).symm
theorem half_pow (X i : Nat) : X / 2 ^ i / 2 = X / 2 ^ (i + 1) := by rw [Nat.div_div_eq_div_mul, ← Nat.pow_succ]
theorem bits_next {V i x : Nat} (hx : x = V / 2 ^ i % 2) : V % 2 ^ i + 2 ^ i * x = V % 2 ^ (i + 1) := by rw [hx, Nat.mod_pow_succ]
theorem bit_xor3 (X Y Z i : Nat) : (X / 2 ^ i % 2 + Y / 2 ^ i % 2 + Z / 2 ^ i) % 2 = (X ^^^ Y ^^^ Z) / 2 ^ i % 2 := by
  have e : (X / 2 ^ i % 2 + Y / 2 ^ i % 2 + Z / 2 ^ i) % 2 = (X / 2 ^ i % 2 + Y / 2 ^ i % 2 + Z / 2 ^ i % 2) % 2 := by omega
  rw [e, bit_eq, bit_eq, bit_eq, bit_eq, Nat.testBit_xor, Nat.testBit_xor]
  cases X.testBit i <;> cases Y.testBit i <;> cases Z.testBit i <;> rfl
theorem bit_maj (X Y Z i : Nat) : (X / 2 ^ i % 2 + Y / 2 ^ i % 2 + Z / 2 ^ i % 2) / 2 = MAJ X Y Z / 2 ^ i % 2 := by
  unfold MAJ
  rw [bit_eq, bit_eq, bit_eq, bit_eq, Nat.testBit_xor, Nat.testBit_xor, Nat.testBit_and, Nat.testBit_and, Nat.testBit_and]
  cases X.testBit i <;> cases Y.testBit i <;> cases Z.testBit i <;> rfl
theorem bit_cho (X Y Z i : Nat) (hX : X < 2 ^ 32) (hi : i < 32) : (if X / 2 ^ i % 2 = 1 then Y / 2 ^ i % 2 else Z / 2 ^ i % 2) = CHO X Y Z / 2 ^ i % 2 := by
  unfold CHO
  have e : 4294967295 - X = 2 ^ 32 - (X + 1) := by omega
  rw [bit_eq, bit_eq, bit_eq, bit_eq, Nat.testBit_xor, Nat.testBit_and, Nat.testBit_and, e, Nat.testBit_two_pow_sub_succ hX]
  cases X.testBit i <;> cases Y.testBit i <;> cases Z.testBit i <;> simp [hi]
theorem pow32_le {i : Nat} (h : i < 32) : 2 ^ i ≤ 2147483648 := by
  have : (2 : Nat) ^ i ≤ 2 ^ 31 := Nat.pow_le_pow_right (by decide) (by omega)
  omega
theorem xor_ok (X Y Z : Nat) (hX : X < 2 ^ 32) (hY : Y < 2 ^ 32) (hZ : Z < 2 ^ 32) (w : World) : Calls Tryd.prog 45 #[.int .u64 (X : Int), .int .u64 (Y : Int), .int .u64 (Z : Int)] w fun e w' => e = .returned (.int .u64 ((X ^^^ Y ^^^ Z : Nat) : Int)) ∧ w = w' := by
  have H : Aside (X < 2 ^ 32 ∧ Y < 2 ^ 32 ∧ Z < 2 ^ 32) := ⟨hX, hY, hZ⟩
  clear hX hY hZ
  go_enter Tryd.func45, Tryd.ntmps45
  go_wp2
  go_loopg [0, 1, 2, 7, 8, 9] 32 (fun g s0 s1 s2 s7 s8 s9 wx => ∃ (i x y z o p : Nat), i + g = 32 ∧ Aside (x = X / 2 ^ i ∧ y = Y / 2 ^ i ∧ z = Z / 2 ^ i ∧ o = (X ^^^ Y ^^^ Z) % 2 ^ i ∧ p = 2 ^ i) ∧ s0 = .int .u64 (x : Int) ∧ s1 = .int .u64 (y : Int) ∧ s2 = .int .u64 (z : Int) ∧ s7 = .int .u64 (o : Int) ∧ s8 = .int .u64 (p : Int) ∧ s9 = .int .i64 i ∧ wx = w)
  case atStart => exact ⟨0, X, Y, Z, 0, 1, by omega, ⟨by simp, by simp, by simp, by simp [Nat.mod_one], rfl⟩, rfl, rfl, rfl, rfl, rfl, rfl, rfl⟩
  case round =>
    obtain ⟨i, x, y, z, o, p, hig, A, rfl, rfl, rfl, rfl, rfl, rfl, rfl⟩ := hrel
    cases gk with
    | zero =>
      obtain rfl : i = 32 := by omega
      go_wp2
      go_ret
      have e : o = X ^^^ Y ^^^ Z := by rw [A.out.2.2.2.1]; exact Nat.mod_eq_of_lt (Nat.xor_lt_two_pow (Nat.xor_lt_two_pow H.out.1 H.out.2.1) H.out.2.2)
      exact ⟨by rw [← e]; rfl, rfl⟩
    | succ g =>
      have hlt : (i : Int) < 32 := by omega
      go_wp2
      go_roundg g
      case measure => omega
      case rel =>
        obtain ⟨a1, a2, a3, a4, a5⟩ := A.out
        have hp := pow32_le (i := i) (by omega)
        have ho : o < 2 ^ i := by rw [a4]; exact Nat.mod_lt _ (Nat.two_pow_pos i)
        have hx : x < 2 ^ 32 := by rw [a1]; exact Nat.lt_of_le_of_lt (Nat.div_le_self _ _) H.out.1
        have hy : y < 2 ^ 32 := by rw [a2]; exact Nat.lt_of_le_of_lt (Nat.div_le_self _ _) H.out.2.1
        have hz : z < 2 ^ 32 := by rw [a3]; exact Nat.lt_of_le_of_lt (Nat.div_le_self _ _) H.out.2.2
        have hpb : p * ((x % 2 + y % 2 + z) % 2) ≤ p * 1 := Nat.mul_le_mul_left p (by omega)
        refine ⟨i + 1, x / 2, y / 2, z / 2, o + p * ((x % 2 + y % 2 + z) % 2), 2 * p, by omega, ⟨by rw [a1, half_pow], by rw [a2, half_pow], by rw [a3, half_pow], ?_, by rw [a5, Nat.pow_succ]; omega⟩, ?_, ?_, ?_, ?_, ?_, by go_num, rfl⟩
        · rw [a4, a5]
          exact bits_next (by rw [a1, a2, a3]; exact bit_xor3 X Y Z i)
        · exact congrArg (Value.int .u64) (wrap_small (k := x / 2) (by omega))
        · exact congrArg (Value.int .u64) (wrap_small (k := y / 2) (by omega))
        · exact congrArg (Value.int .u64) (wrap_small (k := z / 2) (by omega))
        · have e1 : IntKind.u64.wrap ((p : Int) * ((((x : Int) % 2 + (y : Int) % 2 + (z : Int)) % 2))) = ((p * ((x % 2 + y % 2 + z) % 2) : Nat) : Int) := wrap_small (Nat.lt_of_le_of_lt hpb (by omega))
          rw [e1]
          exact congrArg (Value.int .u64) (wrap_small (k := o + p * ((x % 2 + y % 2 + z) % 2)) (by omega))
        · exact congrArg (Value.int .u64) (wrap_small (k := 2 * p) (by omega))
theorem maj_ok (X Y Z : Nat) (hX : X < 2 ^ 32) (hY : Y < 2 ^ 32) (hZ : Z < 2 ^ 32) (w : World) : Calls Tryd.prog 49 #[.int .u64 (X : Int), .int .u64 (Y : Int), .int .u64 (Z : Int)] w fun e w' => e = .returned (.int .u64 ((MAJ X Y Z : Nat) : Int)) ∧ w = w' := by
  have H : Aside (X < 2 ^ 32 ∧ Y < 2 ^ 32 ∧ Z < 2 ^ 32) := ⟨hX, hY, hZ⟩
  clear hX hY hZ
  go_enter Tryd.func49, Tryd.ntmps49
  go_wp2
  go_loopg [0, 1, 2, 7, 8, 9] 32 (fun g s0 s1 s2 s7 s8 s9 wx => ∃ (i x y z o p : Nat), i + g = 32 ∧ Aside (x = X / 2 ^ i ∧ y = Y / 2 ^ i ∧ z = Z / 2 ^ i ∧ o = (MAJ X Y Z) % 2 ^ i ∧ p = 2 ^ i) ∧ s0 = .int .u64 (x : Int) ∧ s1 = .int .u64 (y : Int) ∧ s2 = .int .u64 (z : Int) ∧ s7 = .int .u64 (o : Int) ∧ s8 = .int .u64 (p : Int) ∧ s9 = .int .i64 i ∧ wx = w)
  case atStart => exact ⟨0, X, Y, Z, 0, 1, by omega, ⟨by simp, by simp, by simp, by simp [Nat.mod_one], rfl⟩, rfl, rfl, rfl, rfl, rfl, rfl, rfl⟩
  case round =>
    obtain ⟨i, x, y, z, o, p, hig, A, rfl, rfl, rfl, rfl, rfl, rfl, rfl⟩ := hrel
    cases gk with
    | zero =>
      obtain rfl : i = 32 := by omega
      go_wp2
      go_ret
      have e : o = MAJ X Y Z := by rw [A.out.2.2.2.1]; exact Nat.mod_eq_of_lt (MAJ_lt H.out.1 H.out.2.1)
      exact ⟨by rw [← e]; rfl, rfl⟩
    | succ g =>
      have hlt : (i : Int) < 32 := by omega
      go_wp2
      go_roundg g
      case measure => omega
      case rel =>
        obtain ⟨a1, a2, a3, a4, a5⟩ := A.out
        have hp := pow32_le (i := i) (by omega)
        have ho : o < 2 ^ i := by rw [a4]; exact Nat.mod_lt _ (Nat.two_pow_pos i)
        have hx : x < 2 ^ 32 := by rw [a1]; exact Nat.lt_of_le_of_lt (Nat.div_le_self _ _) H.out.1
        have hy : y < 2 ^ 32 := by rw [a2]; exact Nat.lt_of_le_of_lt (Nat.div_le_self _ _) H.out.2.1
        have hz : z < 2 ^ 32 := by rw [a3]; exact Nat.lt_of_le_of_lt (Nat.div_le_self _ _) H.out.2.2
        have hpb : p * ((x % 2 + y % 2 + z % 2) / 2) ≤ p * 1 := Nat.mul_le_mul_left p (by omega)
        refine ⟨i + 1, x / 2, y / 2, z / 2, o + p * ((x % 2 + y % 2 + z % 2) / 2), 2 * p, by omega, ⟨by rw [a1, half_pow], by rw [a2, half_pow], by rw [a3, half_pow], ?_, by rw [a5, Nat.pow_succ]; omega⟩, ?_, ?_, ?_, ?_, ?_, by go_num, rfl⟩
        · rw [a4, a5]
          exact bits_next (by rw [a1, a2, a3]; exact bit_maj X Y Z i)
        · exact congrArg (Value.int .u64) (wrap_small (k := x / 2) (by omega))
        · exact congrArg (Value.int .u64) (wrap_small (k := y / 2) (by omega))
        · exact congrArg (Value.int .u64) (wrap_small (k := z / 2) (by omega))
        · have e1 : IntKind.u64.wrap ((p : Int) * ((((x : Int) % 2 + (y : Int) % 2 + (z : Int) % 2) / 2))) = ((p * ((x % 2 + y % 2 + z % 2) / 2) : Nat) : Int) := wrap_small (Nat.lt_of_le_of_lt hpb (by omega))
          rw [e1]
          exact congrArg (Value.int .u64) (wrap_small (k := o + p * ((x % 2 + y % 2 + z % 2) / 2)) (by omega))
        · exact congrArg (Value.int .u64) (wrap_small (k := 2 * p) (by omega))
theorem ch_ok (X Y Z : Nat) (hX : X < 2 ^ 32) (hY : Y < 2 ^ 32) (hZ : Z < 2 ^ 32) (w : World) : Calls Tryd.prog 48 #[.int .u64 (X : Int), .int .u64 (Y : Int), .int .u64 (Z : Int)] w fun e w' => e = .returned (.int .u64 ((CHO X Y Z : Nat) : Int)) ∧ w = w' := by
  have H : Aside (X < 2 ^ 32 ∧ Y < 2 ^ 32 ∧ Z < 2 ^ 32) := ⟨hX, hY, hZ⟩
  clear hX hY hZ
  go_enter Tryd.func48, Tryd.ntmps48
  go_wp2
  go_loopg [0, 1, 2, 7, 8, 9] 32 (fun g s0 s1 s2 s7 s8 s9 wx => ∃ (i x y z o p : Nat), i + g = 32 ∧ Aside (x = X / 2 ^ i ∧ y = Y / 2 ^ i ∧ z = Z / 2 ^ i ∧ o = (CHO X Y Z) % 2 ^ i ∧ p = 2 ^ i) ∧ s0 = .int .u64 (x : Int) ∧ s1 = .int .u64 (y : Int) ∧ s2 = .int .u64 (z : Int) ∧ s7 = .int .u64 (o : Int) ∧ s8 = .int .u64 (p : Int) ∧ s9 = .int .i64 i ∧ wx = w)
  case atStart => exact ⟨0, X, Y, Z, 0, 1, by omega, ⟨by simp, by simp, by simp, by simp [Nat.mod_one], rfl⟩, rfl, rfl, rfl, rfl, rfl, rfl, rfl⟩
  case round =>
    obtain ⟨i, x, y, z, o, p, hig, A, rfl, rfl, rfl, rfl, rfl, rfl, rfl⟩ := hrel
    cases gk with
    | zero =>
      obtain rfl : i = 32 := by omega
      go_wp2
      go_ret
      have e : o = CHO X Y Z := by rw [A.out.2.2.2.1]; exact Nat.mod_eq_of_lt (CHO_lt H.out.1 H.out.2.2)
      exact ⟨by rw [← e]; rfl, rfl⟩
    | succ g =>
      have hlt : (i : Int) < 32 := by omega
      cases hb : ((x : Int) % 2 == 1) with
      | true =>
        have hb1 : x % 2 = 1 := by have := eq_of_beq hb; omega
        have HB : Aside (x % 2 = 1) := hb1
        clear hb1
        go_wp2
        go_roundg g
        case measure => omega
        case rel =>
          obtain ⟨a1, a2, a3, a4, a5⟩ := A.out
          have hp := pow32_le (i := i) (by omega)
          have ho : o < 2 ^ i := by rw [a4]; exact Nat.mod_lt _ (Nat.two_pow_pos i)
          have hx : x < 2 ^ 32 := by rw [a1]; exact Nat.lt_of_le_of_lt (Nat.div_le_self _ _) H.out.1
          have hy : y < 2 ^ 32 := by rw [a2]; exact Nat.lt_of_le_of_lt (Nat.div_le_self _ _) H.out.2.1
          have hz : z < 2 ^ 32 := by rw [a3]; exact Nat.lt_of_le_of_lt (Nat.div_le_self _ _) H.out.2.2
          have hpb : p * (y % 2) ≤ p * 1 := Nat.mul_le_mul_left p (by omega)
          refine ⟨i + 1, x / 2, y / 2, z / 2, o + p * (y % 2), 2 * p, by omega, ⟨by rw [a1, half_pow], by rw [a2, half_pow], by rw [a3, half_pow], ?_, by rw [a5, Nat.pow_succ]; omega⟩, ?_, ?_, ?_, ?_, ?_, by go_num, rfl⟩
          · rw [a4, a5]
            exact bits_next (by have := bit_cho X Y Z i H.out.1 (by omega); rw [← this, ← a1, if_pos HB.out, ← a2])
          · exact congrArg (Value.int .u64) (wrap_small (k := x / 2) (by omega))
          · exact congrArg (Value.int .u64) (wrap_small (k := y / 2) (by omega))
          · exact congrArg (Value.int .u64) (wrap_small (k := z / 2) (by omega))
          · have e1 : IntKind.u64.wrap ((p : Int) * ((y : Int) % 2)) = ((p * (y % 2) : Nat) : Int) := wrap_small (Nat.lt_of_le_of_lt hpb (by omega))
            rw [e1]
            exact congrArg (Value.int .u64) (wrap_small (k := o + p * (y % 2)) (by omega))
          · exact congrArg (Value.int .u64) (wrap_small (k := 2 * p) (by omega))
      | false =>
        have hb1 : ¬ x % 2 = 1 := by have := beq_eq_false_iff_ne.1 hb; omega
        have HB : Aside (¬ x % 2 = 1) := hb1
        clear hb1
        go_wp2
        go_roundg g
        case measure => omega
        case rel =>
          obtain ⟨a1, a2, a3, a4, a5⟩ := A.out
          have hp := pow32_le (i := i) (by omega)
          have ho : o < 2 ^ i := by rw [a4]; exact Nat.mod_lt _ (Nat.two_pow_pos i)
          have hx : x < 2 ^ 32 := by rw [a1]; exact Nat.lt_of_le_of_lt (Nat.div_le_self _ _) H.out.1
          have hy : y < 2 ^ 32 := by rw [a2]; exact Nat.lt_of_le_of_lt (Nat.div_le_self _ _) H.out.2.1
          have hz : z < 2 ^ 32 := by rw [a3]; exact Nat.lt_of_le_of_lt (Nat.div_le_self _ _) H.out.2.2
          have hpb : p * (z % 2) ≤ p * 1 := Nat.mul_le_mul_left p (by omega)
          refine ⟨i + 1, x / 2, y / 2, z / 2, o + p * (z % 2), 2 * p, by omega, ⟨by rw [a1, half_pow], by rw [a2, half_pow], by rw [a3, half_pow], ?_, by rw [a5, Nat.pow_succ]; omega⟩, ?_, ?_, ?_, ?_, ?_, by go_num, rfl⟩
          · rw [a4, a5]
            exact bits_next (by have := bit_cho X Y Z i H.out.1 (by omega); rw [← this, ← a1, if_neg HB.out, ← a3])
          · exact congrArg (Value.int .u64) (wrap_small (k := x / 2) (by omega))
          · exact congrArg (Value.int .u64) (wrap_small (k := y / 2) (by omega))
          · exact congrArg (Value.int .u64) (wrap_small (k := z / 2) (by omega))
          · have e1 : IntKind.u64.wrap ((p : Int) * ((z : Int) % 2)) = ((p * (z % 2) : Nat) : Int) := wrap_small (Nat.lt_of_le_of_lt hpb (by omega))
            rw [e1]
            exact congrArg (Value.int .u64) (wrap_small (k := o + p * (z % 2)) (by omega))
          · exact congrArg (Value.int .u64) (wrap_small (k := 2 * p) (by omega))
end Go.Proofs.YtihdhaamphdljaaDoor
