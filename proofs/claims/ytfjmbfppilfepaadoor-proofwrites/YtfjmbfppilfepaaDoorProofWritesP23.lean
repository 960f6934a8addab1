/- Texts of ProofWrites, one behind the other: NumLongPlain, ProofMark, ProofHashes. -/
import Derived.Deep.RegionLaw
import Derived.Laws.CopyOwn
import Derived.Test.YtfjmbfppilfepaaDoorProofWritesP2
import Derived.Test.YtfjmbfppilfepaaDoorProofWritesP15
import Derived.Test.YtfjmbfppilfepaaDoorProofWritesP22
/- Short and Long, as lists; no Go in sight. -/
namespace Go.Proofs.YtfjmbfppilfepaaDoor
open Go.RowKit

/-- the number of the m lowest groups. -/
def VAL (d : Nat → Nat) : Nat → Nat
  | 0 => 0
  | m + 1 => VAL d m + d m * 128 ^ m
theorem VAL_lt {d : Nat → Nat} (hd : ∀ i, d i < 128) : ∀ m, VAL d m < 128 ^ m
  | 0 => by simp [VAL]
  | m + 1 => by
    have := VAL_lt hd m
    have h2 : d m * 128 ^ m ≤ 127 * 128 ^ m := Nat.mul_le_mul_right _ (by have := hd m; omega)
    simp only [VAL, Nat.pow_succ]
    omega
theorem VAL_digit {d : Nat → Nat} (hd : ∀ i, d i < 128) : ∀ (m t i : Nat), i < m → (VAL d m + t * 128 ^ m) / 128 ^ i % 128 = d i
  | 0, _, _, h => by omega
  | m + 1, t, i, h => by
    have e : VAL d (m + 1) + t * 128 ^ (m + 1) = VAL d m + (d m + t * 128) * 128 ^ m := by
      simp only [VAL]
      rw [Nat.add_mul, Nat.pow_succ, Nat.mul_assoc, Nat.mul_comm 128, ← Nat.add_assoc]
    rw [e]
    by_cases hi : i = m
    · subst hi
      rw [Nat.add_mul_div_right _ _ (Nat.pow_pos (by decide)), Nat.div_eq_of_lt (VAL_lt hd i)]
      have := hd i
      omega
    · exact VAL_digit hd m _ i (by omega)
theorem VAL_top {d : Nat → Nat} (hd : ∀ i, d i < 128) (m t : Nat) : (VAL d m + t * 128 ^ m) / 128 ^ m = t := by
  rw [Nat.add_mul_div_right _ _ (Nat.pow_pos (by decide)), Nat.div_eq_of_lt (VAL_lt hd m), Nat.zero_add]
theorem VAL_mod (X : Nat) : ∀ m, VAL (fun i => X / 128 ^ i % 128) m = X % 128 ^ m
  | 0 => by simp [VAL, Nat.mod_one]
  | m + 1 => by rw [VAL, VAL_mod X m, Nat.mod_pow_succ, Nat.mul_comm]
theorem VAL_congr {d e : Nat → Nat} : ∀ m, (∀ i, i < m → d i = e i) → VAL d m = VAL e m
  | 0, _ => rfl
  | m + 1, h => by rw [VAL, VAL, VAL_congr m (fun i hi => h i (by omega)), h m (by omega)]
/-- the groups of a list. -/
def DIG (l : List Int) : Nat → Nat := fun i => (l.getD i 0 % 128).toNat
theorem DIG_lt (l : List Int) (i : Nat) : DIG l i < 128 := by unfold DIG; omega

theorem LG_run {l : List Int} {n : Nat} : ∀ (m f : Nat), (∀ i, i < m → 128 ≤ l.getD i 0) → (∀ i, i < m → i ≠ n) → LG l n (f + m) 0 0 = LG l n f m (VAL (DIG l) m : Nat)
  | 0, f, _, _ => rfl
  | m + 1, f, h, hn => by
    rw [show f + (m + 1) = f + 1 + m by omega, LG_run m (f + 1) (fun i hi => h i (by omega)) (fun i hi => hn i (by omega)), LG_more (hn m (by omega)) (h m (by omega))]
    congr 1
    simp only [VAL, DIG]
    rw [Int.natCast_add, Int.natCast_mul, Int.natCast_pow, Int.toNat_of_nonneg (by omega)]
    rfl
theorem LG_found {l : List Int} {n : Nat} : ∀ (f k : Nat) (x : Int), k ≤ n → (LG l n f k x).2.2 = 0 → ∃ m, k ≤ m ∧ m < k + f ∧ m < n ∧ (∀ i, k ≤ i → i < m → 128 ≤ l.getD i 0) ∧ ¬ 128 ≤ l.getD m 0 ∧ ¬ (m = 9 ∧ 1 < l.getD m 0) ∧ ¬ (l.getD m 0 = 0 ∧ 0 < m)
  | 0, k, x, _, h => by simp [LG] at h
  | f + 1, k, x, hkn, h => by
    by_cases h1 : k = n
    · rw [LG_end h1] at h
      simp at h
    · by_cases h2 : 128 ≤ l.getD k 0
      · rw [LG_more h1 h2] at h
        obtain ⟨m, a, b, c, d, e, g, i⟩ := LG_found f (k + 1) _ (by omega) h
        refine ⟨m, by omega, by omega, c, fun j hj1 hj2 => ?_, e, g, i⟩
        by_cases hj : j = k
        · rw [hj]; exact h2
        · exact d j (by omega) hj2
      · rw [LG_hit h1 h2] at h
        by_cases h3 : k = 9 ∧ 1 < l.getD k 0
        · rw [if_pos h3] at h
          simp at h
        · rw [if_neg h3] at h
          by_cases h4 : l.getD k 0 = 0 ∧ 0 < k
          · rw [if_pos h4] at h
            simp at h
          · exact ⟨k, Nat.le_refl _, by omega, by omega, fun j hj1 hj2 => by omega, h2, h3, h4⟩
theorem LG_at {l : List Int} {n m : Nat} (hm : m ≤ 9) (hmn : m < n) (h : ∀ i, i < m → 128 ≤ l.getD i 0) (h1 : ¬ 128 ≤ l.getD m 0) (h2 : ¬ (m = 9 ∧ 1 < l.getD m 0)) (h3 : ¬ (l.getD m 0 = 0 ∧ 0 < m)) :
    LG l n 10 0 0 = ((VAL (DIG l) m : Nat) + l.getD m 0 * 128 ^ m, (m : Int) + 1, 0) := by
  rw [show 10 = 9 - m + 1 + m by omega, LG_run m (9 - m + 1) h (fun i hi => by omega), LG_hit (by omega) h1, if_neg h2, if_neg h3]

theorem getD_left {a b : List Int} {i : Nat} (h : i < a.length) : (a ++ b).getD i 0 = a.getD i 0 := by
  rw [List.getD_eq_getElem?_getD, List.getElem?_append_left h, ← List.getD_eq_getElem?_getD]
theorem SHORT_get {X i : Nat} (h : i < NTOP X) : (SHORT X).getD i 0 = ((X / 128 ^ i % 128 + 128 : Nat) : Int) := by
  unfold SHORT
  rw [getD_left (by rw [GROUPS_length]; exact h), List.getD_eq_getElem?_getD]
  simp [GROUPS, h]
theorem SHORT_last (X : Nat) : (SHORT X).getD (NTOP X) 0 = ((X / 128 ^ NTOP X : Nat) : Int) := by
  unfold SHORT
  rw [List.getD_eq_getElem?_getD, List.getElem?_append_right (by rw [GROUPS_length]; exact Nat.le_refl _), GROUPS_length]
  simp
/-- written and read back. -/
theorem LG_SHORT {X : Nat} (hX : X < 2 ^ 64) (more : List Int) (n : Nat) (hn : n = NTOP X + 1 + more.length) : LG (SHORT X ++ more) n 10 0 0 = ((X : Int), (NTOP X : Int) + 1, 0) := by
  have hlen := SHORT_length X
  have hget : ∀ i, i ≤ NTOP X → (SHORT X ++ more).getD i 0 = (SHORT X).getD i 0 := fun i hi => getD_left (by omega)
  have htop := hget (NTOP X) (Nat.le_refl _)
  rw [SHORT_last] at htop
  have hlow : ∀ i, i < NTOP X → (SHORT X ++ more).getD i 0 = ((X / 128 ^ i % 128 + 128 : Nat) : Int) := fun i hi => by rw [hget i (by omega), SHORT_get hi]
  have h128 := NTOP_at hX
  have h9 : NTOP X = 9 → X / 128 ^ NTOP X < 2 := fun h => by rw [h]; exact Nat.div_lt_of_lt_mul (Nat.lt_of_lt_of_le hX (by decide))
  have hpos : 0 < NTOP X → 1 ≤ X / 128 ^ NTOP X := fun h => by
    have := TOPG_below 9 X (NTOP X - 1) (by show NTOP X - 1 < NTOP X; omega)
    rw [show NTOP X = NTOP X - 1 + 1 by omega, Nat.pow_succ, ← Nat.div_div_eq_div_mul]
    omega
  have hv : VAL (DIG (SHORT X ++ more)) (NTOP X) = X % 128 ^ NTOP X := by
    rw [← VAL_mod]
    refine VAL_congr _ fun i hi => ?_
    unfold DIG
    rw [hlow i hi]
    omega
  rw [LG_at (NTOP_le X) (by omega) (fun i hi => by rw [hlow i hi]; omega) (by rw [htop]; omega) (by rw [htop]; omega) (by rw [htop]; omega), htop, hv]
  have := Nat.mod_add_div X (128 ^ NTOP X)
  rw [Nat.mul_comm] at this
  have e : (((X % 128 ^ NTOP X : Nat) : Int) + ((X / 128 ^ NTOP X : Nat) : Int) * 128 ^ NTOP X) = (X : Int) := by
    have h2 : ((X % 128 ^ NTOP X + X / 128 ^ NTOP X * 128 ^ NTOP X : Nat) : Int) = (X : Int) := by rw [this]
    rw [← h2, Int.natCast_add, Int.natCast_mul, Int.natCast_pow]
    rfl
  rw [e]
/-- what is read is written the same. -/
theorem LG_back {l : List Int} {n : Nat} (hl : l.length = n) (hr : ∀ i, 0 ≤ l.getD i 0 ∧ l.getD i 0 ≤ 255) (h : (LG l n 10 0 0).2.2 = 0) :
    ∃ Z m : Nat, Z < 2 ^ 64 ∧ m < n ∧ m ≤ 9 ∧ LG l n 10 0 0 = ((Z : Int), (m : Int) + 1, 0) ∧ NTOP Z = m ∧ SHORT Z = l.take (m + 1) := by
  obtain ⟨m, _, hm, hmn, hlow, h1, h2, h3⟩ := LG_found 10 0 0 (by omega) h
  have hlow' : ∀ i, i < m → 128 ≤ l.getD i 0 := fun i hi => hlow i (by omega) hi
  have hat := LG_at (show m ≤ 9 by omega) hmn hlow' h1 h2 h3
  obtain ⟨t, ht⟩ : ∃ t : Nat, l.getD m 0 = (t : Int) := ⟨(l.getD m 0).toNat, by have := hr m; omega⟩
  have hd := DIG_lt l
  have hvl := VAL_lt hd m
  obtain ⟨Z, hZ⟩ : ∃ Z : Nat, Z = VAL (DIG l) m + t * 128 ^ m := ⟨_, rfl⟩
  have hZ64 : Z < 2 ^ 64 := by
    by_cases h9 : m = 9
    · subst h9
      omega
    · have h8 := Nat.pow_le_pow_right (n := 128) (by decide) (show m ≤ 8 by omega)
      have h5 : t * 128 ^ m ≤ 127 * 128 ^ 8 := Nat.mul_le_mul (by omega) h8
      omega
  have htop : Z / 128 ^ m = t := by rw [hZ, VAL_top hd]
  have hdig : ∀ i, i < m → Z / 128 ^ i % 128 = DIG l i := fun i hi => by rw [hZ, VAL_digit hd m t i hi]
  have hN : NTOP Z = m := by
    refine NTOP_eq hZ64 (fun i hi => ?_) (by rw [htop]; omega)
    have ht1 : 1 ≤ t := by omega
    have h6 : Z / 128 ^ i / 128 ^ (m - i) = t := by rw [Nat.div_div_eq_div_mul, ← Nat.pow_add, show i + (m - i) = m by omega, htop]
    have h7 : 128 ^ (m - i) ≤ Z / 128 ^ i := by
      rcases Nat.lt_or_ge (Z / 128 ^ i) (128 ^ (m - i)) with h8 | h8
      · rw [Nat.div_eq_of_lt h8] at h6
        omega
      · exact h8
    have h8 := Nat.pow_le_pow_right (n := 128) (by decide) (show 1 ≤ m - i by omega)
    omega
  refine ⟨Z, m, hZ64, hmn, by omega, ?_, hN, ?_⟩
  · rw [hat, ht, hZ, Int.natCast_add, Int.natCast_mul, Int.natCast_pow]
    rfl
  · apply List.ext_getElem?
    intro i
    by_cases hi : i < m + 1
    · rw [List.getElem?_take_of_lt hi]
      have e1 : (SHORT Z)[i]? = some ((SHORT Z).getD i 0) := by
        rw [List.getD_eq_getElem?_getD, List.getElem?_eq_getElem (by rw [SHORT_length, hN]; exact hi)]
        rfl
      have e2 : l[i]? = some (l.getD i 0) := by
        rw [List.getD_eq_getElem?_getD, List.getElem?_eq_getElem (by omega)]
        rfl
      rw [e1, e2]
      congr 1
      by_cases him : i = m
      · subst him
        rw [← hN, SHORT_last, hN, htop, ht]
      · rw [SHORT_get (by omega), hdig i (by omega)]
        have := hlow' i (by omega)
        have := hr i
        unfold DIG
        omega
    · rw [List.getElem?_eq_none (by rw [SHORT_length, hN]; omega), List.getElem?_eq_none (by rw [List.length_take]; omega)]
end Go.Proofs.YtfjmbfppilfepaaDoor

/- What the readers of package proof do with the bytes that are left: the mark, a number. -/
namespace Go.Proofs.YtfjmbfppilfepaaDoor
open Go.RowKit
set_option maxRecDepth 100000

/-- s[k:], of bytes: what is behind. -/
theorem Bytes.rest {w : World} {b off n : Nat} {l : List Int} (h : Bytes w (some ⟨b, off, none⟩) n l) (k : Nat) (hk : k ≤ n) : Bytes w (some ⟨b, off + k, none⟩) (n - k) (l.drop k) := by
  refine ⟨by rw [List.length_drop, h.1], fun hn => ?_, fun x hx => h.2.2 x (List.mem_of_mem_drop hx)⟩
  obtain ⟨b', o', e, hl, hc⟩ := h.2.1 (by omega)
  simp only [Option.some.injEq, Addr.mk.injEq] at e
  obtain ⟨rfl, rfl, _⟩ := e
  refine ⟨b, off + k, rfl, hl, fun i hi => ?_⟩
  rw [show off + k + i = off + (k + i) by omega, hc (k + i) (by omega)]
  congr 2
  rw [List.getD_eq_getElem?_getD, List.getD_eq_getElem?_getD, List.getElem?_drop]
theorem mark_none (rb : Nat) (k : Int) (a : Option Addr) (c : Nat) (w : World) (h0 : w.cell? ⟨rb, 0, none⟩ = some (.slice a 0 c)) :
    Calls Tryd.prog 59 #[.pointer (some ⟨rb, 0, none⟩), .int .u8 k] w fun e w' => e = .returned (.int .i64 11) ∧ w = w' := by
  go_enter Tryd.func59, Tryd.ntmps59
  go_wp2
  go_ret
  exact ⟨rfl, rfl⟩
theorem mark_other (rb : Nat) (k x : Int) (b off n c : Nat) (w : World) (hx : ¬ x = k) (hn : ¬ (n : Int) = 0) (h0 : w.cell? ⟨rb, 0, none⟩ = some (.slice (some ⟨b, off, none⟩) n c)) (hc : w.cell? ⟨b, off, none⟩ = some (.int .u8 x)) :
    Calls Tryd.prog 59 #[.pointer (some ⟨rb, 0, none⟩), .int .u8 k] w fun e w' => e = .returned (.int .i64 14) ∧ w = w' := by
  have hn1 : (0 : Int) < (n : Int) := by omega
  have hn2 : 0 < n := by omega
  go_enter Tryd.func59, Tryd.ntmps59
  go_wp2
  go_ret
  exact ⟨rfl, rfl⟩
/-- where s[k:] begins: where no room is left, the address stays. -/
def REST (b off c k : Nat) : Option Addr := if c = k then some ⟨b, off, none⟩ else some ⟨b, off + k, none⟩
theorem Bytes.behind {w : World} {b off n c : Nat} {l : List Int} (h : Bytes w (some ⟨b, off, none⟩) n l) (k : Nat) (hk : k ≤ n) (hc : n ≤ c) : Bytes w (REST b off c k) (n - k) (l.drop k) := by
  unfold REST
  split
  · have h0 : n - k = 0 := by omega
    rw [h0]
    refine ⟨?_, fun h => by omega, fun x hx => h.2.2 x (List.mem_of_mem_drop hx)⟩
    rw [List.length_drop, h.1, h0]
  · exact h.rest k hk
theorem mark_ok (rb : Nat) (k : Int) (b off n c : Nat) (hcap : n + 1 ≤ c) (w : World) (h0 : w.cell? ⟨rb, 0, none⟩ = some (.slice (some ⟨b, off, none⟩) (n + 1) c)) (hf : w.frozen? ⟨rb, 0, none⟩ = false) (hc : w.cell? ⟨b, off, none⟩ = some (.int .u8 k)) :
    Calls Tryd.prog 59 #[.pointer (some ⟨rb, 0, none⟩), .int .u8 k] w fun e w' => e = .returned (.int .i64 0) ∧ w' = w.setCell ⟨rb, 0, none⟩ (.slice (REST b off c 1) n (c - 1)) := by
  have hn1 : (0 : Int) < (n : Int) + 1 := by omega
  have hn2 : ¬ (n : Int) + 1 = 0 := by omega
  have hcap' : (n : Int) + 1 ≤ (c : Int) := by omega
  obtain ⟨a', ha'⟩ : ∃ a', REST b off c 1 = a' := ⟨_, rfl⟩
  rw [ha']
  by_cases h1 : c = 1
  · have HA : Aside (some ⟨b, off, none⟩ = a') := by
      rw [← ha']
      simp [REST, h1, Aside]
    have hn0 : n = 0 := by omega
    subst h1 hn0
    clear ha' hcap
    go_enter Tryd.func59, Tryd.ntmps59
    go_wp2
    go_ret
    rw [← HA.out]
    exact ⟨rfl, rfl⟩
  · have HA : Aside (some ⟨b, off + 1, none⟩ = a') := by
      rw [← ha']
      simp [REST, h1, Aside]
    have hc1 : ¬ c - 1 = 0 := by omega
    clear ha' hcap
    go_enter Tryd.func59, Tryd.ntmps59
    go_wp2
    go_ret
    rw [← HA.out]
    exact ⟨rfl, rfl⟩
theorem number_err (rb f : Nat) (r1 r2 r3 : Int) (v : Value) (w : World) (hr : ¬ r3 = 0) (h0 : w.cell? ⟨rb, 0, none⟩ = some v)
    (c : Calls Tryd.prog 83 #[v] w fun e w' => e = .returned (.tuple #[.int .u64 r1, .int .i64 r2, .int .i64 r3]) ∧ w = w') :
    Calls Tryd.prog 60 #[.pointer (some ⟨rb, 0, none⟩), .pointer (some ⟨rb, f, none⟩)] w fun e w' => e = .returned (.int .i64 r3) ∧ w = w' := by
  have hr' : (r3 != 0) = true := by simp [hr]
  go_enter Tryd.func60, Tryd.ntmps60
  go_wp2_with fail
  refine c.mono ?_
  rintro e w' ⟨rfl, rfl⟩
  clear c
  go_wp2
  go_ret
  exact ⟨rfl, rfl⟩
set_option maxHeartbeats 2000000 in
theorem number_raw (rb f : Nat) (hf0 : f ≠ 0) (r1 : Int) (b off n c m : Nat) (hm : m ≤ n) (hcap : n ≤ c) (hcm : c ≠ m) (x1 : Value) (w : World) (h0 : w.cell? ⟨rb, 0, none⟩ = some (.slice (some ⟨b, off, none⟩) n c)) (h1 : w.cell? ⟨rb, f, none⟩ = some x1) (z0 : w.frozen? ⟨rb, 0, none⟩ = false) (z1 : w.frozen? ⟨rb, f, none⟩ = false)
    (cl : Calls Tryd.prog 83 #[.slice (some ⟨b, off, none⟩) n c] w fun e w' => e = .returned (.tuple #[.int .u64 r1, .int .i64 (m : Int), .int .i64 0]) ∧ w = w') :
    Calls Tryd.prog 60 #[.pointer (some ⟨rb, 0, none⟩), .pointer (some ⟨rb, f, none⟩)] w fun e w' => e = .returned (.int .i64 0) ∧ w' = (w.drew.setCell ⟨rb, f, none⟩ (.int .u64 r1)).setCell ⟨rb, 0, none⟩ (.slice (some ⟨b, off + m, none⟩) (n - m) (c - m)) := by
  have k1 : (m : Int) ≤ (n : Int) := by omega
  have k2 : (n : Int) ≤ (c : Int) := by omega
  have k3 : ¬ c - m = 0 := by omega
  have g0 : (w.drew.setCell ⟨rb, f, none⟩ (.int .u64 r1)).cell? ⟨rb, 0, none⟩ = some (.slice (some ⟨b, off, none⟩) n c) := by rw [set_off hf0]; exact h0
  go_enter Tryd.func60, Tryd.ntmps60
  go_wp2_with fail
  refine cl.mono ?_
  rintro e w' ⟨rfl, rfl⟩
  clear cl
  go_wp2
  go_region
  all_goals go_wp2
  all_goals go_ret
  all_goals exact ⟨rfl, rfl⟩
set_option maxHeartbeats 2000000 in
theorem number_end (rb f : Nat) (hf0 : f ≠ 0) (r1 : Int) (b off m : Nat) (x1 : Value) (w : World) (h0 : w.cell? ⟨rb, 0, none⟩ = some (.slice (some ⟨b, off, none⟩) m m)) (h1 : w.cell? ⟨rb, f, none⟩ = some x1) (z0 : w.frozen? ⟨rb, 0, none⟩ = false) (z1 : w.frozen? ⟨rb, f, none⟩ = false)
    (cl : Calls Tryd.prog 83 #[.slice (some ⟨b, off, none⟩) m m] w fun e w' => e = .returned (.tuple #[.int .u64 r1, .int .i64 (m : Int), .int .i64 0]) ∧ w = w') :
    Calls Tryd.prog 60 #[.pointer (some ⟨rb, 0, none⟩), .pointer (some ⟨rb, f, none⟩)] w fun e w' => e = .returned (.int .i64 0) ∧ w' = (w.drew.setCell ⟨rb, f, none⟩ (.int .u64 r1)).setCell ⟨rb, 0, none⟩ (.slice (some ⟨b, off, none⟩) 0 0) := by
  have g0 : (w.drew.setCell ⟨rb, f, none⟩ (.int .u64 r1)).cell? ⟨rb, 0, none⟩ = some (.slice (some ⟨b, off, none⟩) m m) := by rw [set_off hf0]; exact h0
  go_enter Tryd.func60, Tryd.ntmps60
  go_wp2_with fail
  refine cl.mono ?_
  rintro e w' ⟨rfl, rfl⟩
  clear cl
  go_wp2
  go_region
  all_goals go_wp2
  all_goals go_ret
  all_goals exact ⟨rfl, rfl⟩
theorem number_ok (rb f : Nat) (hf0 : f ≠ 0) (r1 : Int) (b off n c m : Nat) (hm : m ≤ n) (hcap : n ≤ c) (x1 : Value) (w : World) (h0 : w.cell? ⟨rb, 0, none⟩ = some (.slice (some ⟨b, off, none⟩) n c)) (h1 : w.cell? ⟨rb, f, none⟩ = some x1) (z0 : w.frozen? ⟨rb, 0, none⟩ = false) (z1 : w.frozen? ⟨rb, f, none⟩ = false)
    (cl : Calls Tryd.prog 83 #[.slice (some ⟨b, off, none⟩) n c] w fun e w' => e = .returned (.tuple #[.int .u64 r1, .int .i64 (m : Int), .int .i64 0]) ∧ w = w') :
    Calls Tryd.prog 60 #[.pointer (some ⟨rb, 0, none⟩), .pointer (some ⟨rb, f, none⟩)] w fun e w' => e = .returned (.int .i64 0) ∧ w' = (w.drew.setCell ⟨rb, f, none⟩ (.int .u64 r1)).setCell ⟨rb, 0, none⟩ (.slice (REST b off c m) (n - m) (c - m)) := by
  by_cases h : c = m
  · obtain rfl : c = n := by omega
    subst h
    have := number_end rb f hf0 r1 b off c x1 w h0 h1 z0 z1 cl
    simpa [REST] using this
  · have := number_raw rb f hf0 r1 b off n c m hm hcap h x1 w h0 h1 z0 z1 cl
    simpa [REST, h] using this
end Go.Proofs.YtfjmbfppilfepaaDoor

/- What the readers of package proof do with the bytes that are left: the nodes. -/
namespace Go.Proofs.YtfjmbfppilfepaaDoor
open Go.RowKit
set_option maxRecDepth 100000

theorem hashes_cut (rb f N n c : Nat) (a : Option Addr) (hN : N ≤ 1000) (hn : n < 32 * N) (w : World) (h0 : w.cell? ⟨rb, 0, none⟩ = some (.slice a n c)) :
    Calls Tryd.prog 61 #[.pointer (some ⟨rb, 0, none⟩), .pointer (some ⟨rb, f, none⟩), .int .i64 (N : Int)] w fun e w' => e = .returned (.int .i64 11) ∧ w = w' := by
  have e1 : wrap64 ((N : Int) * 32) = (N : Int) * 32 := by unfold wrap64; omega
  have h1 : (n : Int) < (N : Int) * 32 := by omega
  clear hN hn
  go_enter Tryd.func61, Tryd.ntmps61
  go_wp2
  go_ret
  exact ⟨rfl, rfl⟩
theorem hashes_tail (rb f N n c : Nat) (a : Option Addr) (hN : N ≤ 1000) (hn : 32 * N < n) (w : World) (h0 : w.cell? ⟨rb, 0, none⟩ = some (.slice a n c)) :
    Calls Tryd.prog 61 #[.pointer (some ⟨rb, 0, none⟩), .pointer (some ⟨rb, f, none⟩), .int .i64 (N : Int)] w fun e w' => e = .returned (.int .i64 13) ∧ w = w' := by
  have e1 : wrap64 ((N : Int) * 32) = (N : Int) * 32 := by unfold wrap64; omega
  have h1 : ¬ (n : Int) < (N : Int) * 32 := by omega
  have h2 : (N : Int) * 32 < (n : Int) := by omega
  clear hN hn
  go_enter Tryd.func61, Tryd.ntmps61
  go_wp2
  go_ret
  exact ⟨rfl, rfl⟩
theorem info_hashz : (Tryd.prog.info? 53).map (fun i => (i.size, i.bytes, i.zero.isSome)) = some (32, 32, true) := by kernel_rfl
theorem make_hashes (N : Nat) (hN : N ≤ 1000) (w : World) : ∃ Z : List Value, Z.length = 32 * N ∧ (Instr.makeSlice 23 (.int .i64 (N : Int)) (.int .i64 (N : Int))).run Tryd.prog w = .ok (.slice (some ⟨w.heap.size, 0, none⟩) N N) (w.alloc (.cells Z.toArray 53)) := by
  obtain ⟨i, hi, h⟩ := Option.map_eq_some_iff.1 info_hashz
  simp only [Prod.mk.injEq] at h
  obtain ⟨h1, h2, h3⟩ := h
  obtain ⟨z, hz⟩ := Option.isSome_iff_exists.1 h3
  have h := run_make (P := Tryd.prog) w 23 53 i z Tryd.underlying23 hi hz .i64 .i64 N N (by omega) (by omega) (by rw [h2]; omega) (by omega)
  refine ⟨(madeCells z.cells (N * i.size)).toList, ?_, ?_⟩
  · rw [Array.length_toList, size_madeCells, h1]
    omega
  · simpa using h
/-- the first i nodes are there. -/
def PARTH (l : List Int) (Z : List Value) (i : Nat) : List Value := CELLS (l.take (32 * i)) ++ Z.drop (32 * i)
theorem PARTH_zero (l : List Int) (Z : List Value) : PARTH l Z 0 = Z := by simp [PARTH, CELLS]
theorem PARTH_all {l : List Int} {Z : List Value} {N : Nat} (hl : l.length = 32 * N) (hZ : Z.length = 32 * N) : PARTH l Z N = CELLS l := by
  unfold PARTH
  rw [List.take_of_length_le (by omega), List.drop_of_length_le (by omega), List.append_nil]
theorem PARTH_length {l : List Int} {Z : List Value} {N i : Nat} (hl : l.length = 32 * N) (hZ : Z.length = 32 * N) (hi : i ≤ N) : (PARTH l Z i).length = 32 * N := by
  unfold PARTH
  rw [List.length_append, List.length_drop, CELLS, List.length_map, List.length_take]
  omega
theorem PARTH_next {l : List Int} (Z : List Value) {N i : Nat} (hl : l.length = 32 * N) (hi : i < N) : splice (PARTH l Z i) (i * 32) (CELLS (HSH l i)) = PARTH l Z (i + 1) := by
  have h1 : (CELLS (l.take (32 * i))).length = i * 32 := by
    rw [CELLS, List.length_map, List.length_take]
    omega
  have h2 : (CELLS (HSH l i)).length = 32 := by
    rw [CELLS, List.length_map]
    exact HSH_length hl hi
  unfold splice PARTH
  rw [List.take_append_of_le_length (by omega), List.take_of_length_le (by omega), HSH_next, CELLS_append, h2, List.append_assoc]
  congr 2
  rw [List.drop_append, List.drop_of_length_le (by omega), List.nil_append, h1, List.drop_drop]
  congr 1
  omega
/-- the nodes stand in a block of their own, and the reader has them. -/
def HASHED (w : World) (rb f N : Nat) (l : List Int) (w' : World) : Prop := ∃ wx, Below w.heap.size w wx ∧ w.heap.size < wx.heap.size ∧ Has wx w.heap.size (CELLS l).toArray 53 ∧ w' = wx.setCell ⟨rb, f, none⟩ (.slice (some ⟨w.heap.size, 0, none⟩) N N)
set_option maxHeartbeats 4000000 in
theorem hashes_ok (rb f N c : Nat) (a : Option Addr) (hN : N ≤ 1000) (l : List Int) (w : World) (hB : Bytes w a (32 * N) l) (hc : 32 * N ≤ c) (hrb : rb < w.heap.size) (h0 : w.cell? ⟨rb, 0, none⟩ = some (.slice a (32 * N) c)) (x1 : Value) (h1 : w.cell? ⟨rb, f, none⟩ = some x1) (z1 : w.frozen? ⟨rb, f, none⟩ = false) :
    Calls Tryd.prog 61 #[.pointer (some ⟨rb, 0, none⟩), .pointer (some ⟨rb, f, none⟩), .int .i64 (N : Int)] w fun e w' => e = .returned (.int .i64 0) ∧ HASHED w rb f N l w' := by
  have e1 : wrap64 ((N : Int) * 32) = (N : Int) * 32 := by unfold wrap64; omega
  have k1 : ¬ ((32 * N : Nat) : Int) < (N : Int) * 32 := by omega
  have k2 : ¬ (N : Int) * 32 < ((32 * N : Nat) : Int) := by omega
  obtain ⟨M, hM⟩ : ∃ M, 32 * N = M := ⟨_, rfl⟩
  rw [hM] at h0 k1 k2 hB hc
  obtain ⟨Z, hZ, hmk⟩ := make_hashes N hN w
  have HA : Aside (l.length = 32 * N ∧ Z.length = 32 * N ∧ N ≤ 1000 ∧ 32 * N = M ∧ M ≤ c ∧ Bytes w a M l ∧ rb < w.heap.size ∧ w.cell? ⟨rb, 0, none⟩ = some (.slice a M c) ∧ w.cell? ⟨rb, f, none⟩ = some x1 ∧ w.frozen? ⟨rb, f, none⟩ = false) := ⟨by rw [hM]; exact hB.1, hZ, hN, hM, hc, hB, hrb, h0, h1, z1⟩
  clear hN hZ hB hc hM hrb h1 z1
  go_enter Tryd.func61, Tryd.ntmps61
  go_wp2
  clear e1 hmk h0
  go_loopg [30] N (fun q s30 wx => ∃ i : Nat, s30 = .int .i64 (i : Int) ∧ Aside (i + q = N ∧ Below w.heap.size w wx ∧ w.heap.size < wx.heap.size ∧ Has wx w.heap.size (PARTH l Z i).toArray 53))
  case atStart => exact ⟨0, rfl, by omega, (Below.refl _ _).alloc (Nat.le_refl _) _, by simp, by rw [PARTH_zero]; exact Has.new _ _ _⟩
  case round =>
    obtain ⟨i, rfl, A⟩ := hrel
    obtain ⟨hi, hbel, hsz, hhas⟩ := A.out
    obtain ⟨a1, a2, a3, a4, a5, a6, a7, a8, a9, a10⟩ := HA.out
    cases gk with
    | zero =>
      obtain rfl : i = N := by omega
      have hlt : ¬ (i : Int) < (i : Int) := by omega
      have y1 : wr.cell? ⟨rb, f, none⟩ = some x1 := (hbel.cell (p := ⟨rb, f, none⟩) a7).trans a9
      have y2 : wr.frozen? ⟨rb, f, none⟩ = false := (hbel.frozen (p := ⟨rb, f, none⟩) a7).trans a10
      have R : Aside (Below w.heap.size w wr ∧ w.heap.size < wr.heap.size ∧ Has wr w.heap.size (CELLS l).toArray 53) := by
        rw [PARTH_all a1 a2] at hhas
        exact ⟨hbel, hsz, hhas⟩
      clear hi hbel hsz hhas a1 a2 a3 a4 a5 a6 a7 a8 a9 a10 A HA
      go_wp2
      go_ret
      exact ⟨rfl, wr, R.out.1, R.out.2.1, R.out.2.2, rfl⟩
    | succ q =>
      have hlt : (i : Int) < (N : Int) := by omega
      obtain ⟨b, o, rfl, hbl, hcs⟩ := a6.2.1 (by omega)
      have y0 : wr.cell? ⟨rb, 0, none⟩ = some (.slice (some ⟨b, o, none⟩) M c) := (hbel.cell (p := ⟨rb, 0, none⟩) a7).trans a8
      obtain ⟨I, hI⟩ : ∃ I, i * 32 = I := ⟨_, rfl⟩
      have m2 : (I : Int) ≤ (M : Int) := by omega
      have m3 : (M : Int) ≤ (c : Int) := by omega
      have m4 : ¬ c = I := by omega
      have h32 : (CELLS (HSH l i)).length = 32 := by
        rw [CELLS, List.length_map]
        exact HSH_length a1 (by omega)
      have hsrc : ∀ j v, (CELLS (HSH l i))[j]? = some v → wr.cell? ((⟨b, o + I, none⟩ : Addr).add j) = some v := by
        intro j v hv
        have hj : j < 32 := by
          have := (List.getElem?_eq_some_iff.1 hv).1
          omega
        rw [CELLS_get _ _ (by rw [HSH_length a1 (by omega)]; exact hj), HSH_at hj] at hv
        rw [addr_add, show o + I + j = o + (32 * i + j) by omega]
        exact ((hbel.cell (p := ⟨b, o + (32 * i + j), none⟩) hbl).trans (hcs (32 * i + j) (by omega))).trans hv
      have hpl := PARTH_length a1 a2 (show i ≤ N by omega)
      have hnx := PARTH_next Z a1 (show i < N by omega)
      have hone := CELLS_one (HSH l i)
      have R : Aside (i + 1 + q = N ∧ Below w.heap.size w wr ∧ w.heap.size < wr.heap.size ∧ Has wr w.heap.size (PARTH l Z i).toArray 53 ∧ splice (PARTH l Z i) (i * 32) (CELLS (HSH l i)) = PARTH l Z (i + 1)) := ⟨by omega, hbel, hsz, hhas, hnx⟩
      have S : Aside ((CELLS (HSH l i)).length = Nat.min (M - I) 32 ∧ i * 32 + (CELLS (HSH l i)).length ≤ (PARTH l Z i).length) := ⟨by rw [h32]; exact (Nat.min_eq_right (show 32 ≤ M - I by omega)).symm, by omega⟩
      have E2 : Aside (wrap64 ((i : Int) * 32) = (I : Int)) := by show wrap64 ((i : Int) * 32) = (I : Int); unfold wrap64; omega
      have E3 : Aside (IntKind.i64.wrap ((i : Int) * 32) = (I : Int)) := by show IntKind.i64.wrap ((i : Int) * 32) = (I : Int); rw [IntKind.wrap_i64]; omega
      have E1 : Aside (wrap64 ((i : Int) + 1) = ((i + 1 : Nat) : Int)) := by show wrap64 ((i : Int) + 1) = ((i + 1 : Nat) : Int); unfold wrap64; omega
      clear hi hbel hsz hhas a1 a2 a3 a4 a5 a6 a7 a8 a9 a10 A HA hbl hcs hpl hnx hI
      generalize CELLS (HSH l i) = H at *
      have hu8 : (Tryd.prog.info? 5).map (·.size) = some 1 := by kernel_rfl
      have m1 := E2.out
      have m5 := E3.out
      go_wp2
      go_region_law (refine step_copy_splice rfl (.tmp 36) (.tmp 43) 28 28 rfl 5 Tryd.underlying28 hu8 (some ⟨w.heap.size, i * 32, none⟩) (some ⟨b, o + I, none⟩) 32 32 (M - I) (c - I) (by simp [Act.eval, Act.put]) (by simp [Act.eval, Act.put]) w.heap.size (i * 32) (PARTH l Z i) 53 (by exact R.out.2.2.2.1) H S.out.1 (fun _ => ⟨rfl, _, rfl, hsrc⟩) S.out.2 hone w.heap.size w (by exact R.out.2.1.drew) (Nat.le_refl _) ?_; intro w4 hg4 hb4)
      have R2 : Aside (i + 1 + q = N ∧ Below w.heap.size w w4 ∧ w.heap.size < w4.heap.size ∧ Has w4 w.heap.size (PARTH l Z (i + 1)).toArray 53) := by
        obtain ⟨r1, r2, r3, r4, r5⟩ := R.out
        have hg5 : w4.heap[w.heap.size]? = some (.cells (splice (PARTH l Z i) (i * 32) H).toArray 53 (0, 0)) := hg4
        rw [r5] at hg5
        exact ⟨r1, hb4, (Array.getElem?_eq_some_iff.1 hg5).1, hg5⟩
      clear R S hg4 hb4 hsrc hone h32 m1 m5 y0
      have e1 := E1.out
      go_wp2
      go_roundg q
      case measure => exact Nat.lt_succ_self _
      case rel => exact ⟨i + 1, by first | rfl | (rw [E1.out]), R2.out⟩
end Go.Proofs.YtfjmbfppilfepaaDoor
