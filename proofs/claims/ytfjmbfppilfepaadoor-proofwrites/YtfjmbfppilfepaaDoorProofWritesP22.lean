/- Texts of ProofWrites, one behind the other: NumLongCalls. -/
import Derived.Test.YtfjmbfppilfepaaDoorProofWritesP2
/- What Long of package num answers. -/
namespace Go.Proofs.YtfjmbfppilfepaaDoor
open Go.RowKit

/-- what a number in groups of 7 bits reads as, from the k-th byte on: the number, how many bytes, what is wrong. -/
def LG (l : List Int) (n : Nat) : Nat → Nat → Int → Int × Int × Int
  | 0, _, _ => (0, 0, 10)
  | f + 1, k, x => if k = n then (0, 0, 11) else if 128 ≤ l.getD k 0 then LG l n f (k + 1) (x + l.getD k 0 % 128 * 128 ^ k)
    else if k = 9 ∧ 1 < l.getD k 0 then (0, 0, 10) else if l.getD k 0 = 0 ∧ 0 < k then (0, 0, 12) else (x + l.getD k 0 * 128 ^ k, (k : Int) + 1, 0)
theorem LG_end {l : List Int} {n f k : Nat} {x : Int} (h : k = n) : LG l n (f + 1) k x = (0, 0, 11) := by
  show (if k = n then _ else _) = _
  rw [if_pos h]
theorem LG_more {l : List Int} {n f k : Nat} {x : Int} (h : k ≠ n) (hc : 128 ≤ l.getD k 0) : LG l n (f + 1) k x = LG l n f (k + 1) (x + l.getD k 0 % 128 * 128 ^ k) := by
  show (if k = n then _ else _) = _
  rw [if_neg h, if_pos hc]
theorem LG_hit {l : List Int} {n f k : Nat} {x : Int} (h : k ≠ n) (hc : ¬ 128 ≤ l.getD k 0) : LG l n (f + 1) k x = if k = 9 ∧ 1 < l.getD k 0 then (0, 0, 10) else if l.getD k 0 = 0 ∧ 0 < k then (0, 0, 12) else (x + l.getD k 0 * 128 ^ k, (k : Int) + 1, 0) := by
  show (if k = n then _ else _) = _
  rw [if_neg h, if_neg hc]

/-! shifts by whole groups -/
theorem pow7 (k : Nat) : (2 : Nat) ^ (7 * k) = 128 ^ k := by rw [Nat.pow_mul]
theorem group_shl (L k : Nat) : SHL L (7 * (k : Int)) = L * 128 ^ k % 2 ^ 64 := by
  unfold SHL
  rw [if_neg (by omega), show (7 * (k : Int)).toNat = 7 * k by omega, pow7]
theorem group_shr (L k : Nat) : SHR L (7 * (k : Int)) = L / 128 ^ k := by
  unfold SHR
  rw [if_neg (by omega), show (7 * (k : Int)).toNat = 7 * k by omega, pow7]
theorem group_small {L k : Nat} (hL : L < 128) (hk : k ≤ 8) : L * 128 ^ k % 2 ^ 64 = L * 128 ^ k := by
  have h := Nat.pow_le_pow_right (n := 128) (by decide) hk
  have h2 : L * 128 ^ k ≤ 127 * 128 ^ 8 := Nat.mul_le_mul (by omega) h
  exact Nat.mod_eq_of_lt (Nat.lt_of_le_of_lt h2 (by decide))
theorem group_back {L k : Nat} (hL : L < 128) (hk : k ≤ 9) : L * 128 ^ k % 2 ^ 64 / 128 ^ k = if k = 9 then L % 2 else L := by
  by_cases h : k = 9
  · subst h
    rw [if_pos rfl]
    omega
  · rw [if_neg h, group_small hL (by omega), Nat.mul_div_cancel _ (Nat.pow_pos (by decide))]
theorem group_or {x L k : Nat} (hx : x < 128 ^ k) (hL : L < 128) (hk : k ≤ 8) : bits .or .u64 (x : Int) ((L * 128 ^ k % 2 ^ 64 : Nat) : Int) = ((x + L * 128 ^ k : Nat) : Int) := by
  have h8 := Nat.pow_le_pow_right (n := 128) (by decide) hk
  have hx2 : x < 2 ^ 64 := Nat.lt_of_lt_of_le hx (Nat.le_trans h8 (by decide))
  rw [or_eq hx2 (Nat.mod_lt _ (by decide)), group_small hL hk, Nat.or_comm, nat_join (7 * k) _ x (by rw [pow7]; exact Nat.mul_mod_left _ _) (by rw [pow7]; exact hx), Nat.add_comm]
theorem group_or9 {x L : Nat} (hx : x < 128 ^ 9) (hL : L < 2) : bits .or .u64 (x : Int) ((L * 128 ^ 9 % 2 ^ 64 : Nat) : Int) = ((x + L * 128 ^ 9 : Nat) : Int) := by
  have h1 : L * 128 ^ 9 % 2 ^ 64 = L * 128 ^ 9 := Nat.mod_eq_of_lt (by omega)
  rw [or_eq (Nat.lt_of_lt_of_le hx (by decide)) (Nat.mod_lt _ (by decide)), h1, Nat.or_comm, nat_join (7 * 9) _ x (by omega) (by omega), Nat.add_comm]

/-- what holds of the number that has been gathered ahead of the k-th byte. -/
def Gath (l : List Int) (n k : Nat) (y : Int) (R : Int × Int × Int) : Prop := ∃ x : Nat, LG l n (10 - k) k (x : Int) = R ∧ (k ≤ 9 → y = (x : Int) ∧ x < 128 ^ k)
theorem Gath.start (l : List Int) (n : Nat) : Gath l n 0 0 (LG l n 10 0 0) := ⟨0, rfl, fun _ => ⟨rfl, by decide⟩⟩
theorem Gath.next {l : List Int} {n k : Nat} {y v p : Int} {R : Int × Int × Int} (A : Gath l n k y R) (hk : k ≤ 9) (hkn : k ≠ n) (hv : l.getD k 0 = v) (h0 : 128 ≤ v)
    (hp : p = ((SHL (v % 128).toNat (7 * (k : Int)) : Nat) : Int)) : Gath l n (k + 1) (bits .or .u64 y p) R := by
  obtain ⟨x, hx, hy⟩ := A
  obtain ⟨rfl, hlt⟩ := hy hk
  obtain ⟨L, hL⟩ : ∃ L : Nat, v % 128 = (L : Int) := ⟨(v % 128).toNat, by omega⟩
  rw [show 10 - k = 10 - (k + 1) + 1 by omega, LG_more hkn (by rw [hv]; exact h0), hv, hL] at hx
  have hL128 : L < 128 := by omega
  rw [hL, Int.toNat_natCast, group_shl] at hp
  refine ⟨x + L * 128 ^ k, ?_, fun h => ?_⟩
  · rw [← hx]
    congr 1
  · rw [hp, group_or hlt hL128 (by omega)]
    refine ⟨rfl, ?_⟩
    have : L * 128 ^ k ≤ 127 * 128 ^ k := Nat.mul_le_mul_right _ (by omega)
    rw [Nat.pow_succ]
    omega
theorem Gath.hit {l : List Int} {n k : Nat} {y v : Int} {R : Int × Int × Int} (A : Gath l n k y R) (hk : k ≤ 9) (hkn : k ≠ n) (hv : l.getD k 0 = v) (h1 : ¬ 128 ≤ v) :
    R = if k = 9 ∧ 1 < v then (0, 0, 10) else if v = 0 ∧ 0 < k then (0, 0, 12) else (y + v * 128 ^ k, (k : Int) + 1, 0) := by
  obtain ⟨x, hx, hy⟩ := A
  obtain ⟨rfl, hlt⟩ := hy hk
  rw [show 10 - k = 9 - k + 1 by omega, LG_hit hkn (by rw [hv]; exact h1), hv] at hx
  exact hx.symm
theorem Gath.val {l : List Int} {n k : Nat} {y v p : Int} {R : Int × Int × Int} (A : Gath l n k y R) (hk : k ≤ 9) (h0 : 0 ≤ v) (h1 : ¬ 128 ≤ v) (h9 : ¬ (k = 9 ∧ 1 < v))
    (hp : p = ((SHL (v % 128).toNat (7 * (k : Int)) : Nat) : Int)) : bits .or .u64 y p = y + v * 128 ^ k := by
  obtain ⟨x, _, hy⟩ := A
  obtain ⟨rfl, hlt⟩ := hy hk
  obtain ⟨L, rfl⟩ : ∃ L : Nat, v = (L : Int) := ⟨v.toNat, by omega⟩
  rw [show (((L : Int) % 128).toNat) = L by omega, group_shl] at hp
  by_cases h : k = 9
  · subst h
    rw [hp, group_or9 hlt (by omega)]
    simp
  · rw [hp, group_or hlt (by omega) (by omega)]
    simp
theorem shr_val {v p q : Int} {k : Nat} (hk : k ≤ 9) (h0 : 0 ≤ v) (h1 : ¬ 128 ≤ v) (hp : p = ((SHL (v % 128).toNat (7 * (k : Int)) : Nat) : Int)) (hq : q = ((SHR p.toNat (7 * (k : Int)) : Nat) : Int)) :
    (q != v % 128) = decide (k = 9 ∧ 1 < v) := by
  obtain ⟨L, rfl⟩ : ∃ L : Nat, v = (L : Int) := ⟨v.toNat, by omega⟩
  rw [show (((L : Int) % 128).toNat) = L by omega, group_shl] at hp
  rw [hp, Int.toNat_natCast, group_shr, group_back (by omega) hk] at hq
  rw [hq, Bool.eq_iff_iff, bne_iff_ne, decide_eq_true_iff]
  split <;> omega

set_option maxHeartbeats 2000000 in
theorem long_short (b off n c : Nat) (l : List Int) (R : Int × Int × Int) (r1 r2 r3 : Int) (hR : Aside (LG l n 10 0 0 = R ∧ R = (r1, r2, r3))) (w : World) (hB : Bytes w (some ⟨b, off, none⟩) n l) (h0 : 0 < n) (hn : (n : Int) < 10) (hcap : (n : Int) ≤ (c : Int)) (hmax : n ≤ 140737488355328) :
    Calls Tryd.prog 83 #[.slice (some ⟨b, off, none⟩) n c] w fun e w' => e = .returned (.tuple #[.int .u64 r1, .int .i64 r2, .int .i64 r3]) ∧ w = w' := by
  obtain ⟨b', off', e, _, hc0⟩ := hB.2.1 h0
  simp only [Option.some.injEq, Addr.mk.injEq] at e
  obtain ⟨rfl, rfl, _⟩ := e
  have HC : Aside ((∀ i, i < n → w.cell? ⟨b, off + i, none⟩ = some (.int .u8 (l.getD i 0))) ∧ ∀ i, 0 ≤ l.getD i 0 ∧ l.getD i 0 ≤ 255) := ⟨hc0, hB.get⟩
  have hcap0 : 0 < (c : Int) := by omega
  clear hB hc0
  go_enter Tryd.func83, Tryd.ntmps83
  go_wp2
  go_loop [5, 16] (fun s5 s16 => ∃ (k : Nat) (y : Int), (k : Int) ≤ (n : Int) ∧ Aside (Gath l n k y R) ∧ s5 = .int .u64 y ∧ s16 = .int .i64 k) (fun _ i => n - (intOf i).toNat)
  case atStart => exact ⟨0, 0, by omega, hR.out.1 ▸ Gath.start l n, rfl, rfl⟩
  case round =>
    obtain ⟨k, y, hk, A, rfl, rfl⟩ := hrel
    by_cases hlt : (k : Int) < (n : Int)
    · have hc := HC.out.1 k (by omega)
      have hcb := HC.out.2 k
      generalize hv : l.getD k 0 = v at hc hcb
      have Hv : Aside (l.getD k 0 = v) := hv
      clear hv
      have hv0 := hcb.1
      have hv1 := hcb.2
      clear hcb
      obtain ⟨p, hp⟩ : ∃ p : Int, p = ((SHL (v % 128).toNat (7 * (k : Int)) : Nat) : Int) := ⟨_, rfl⟩
      have hpl : 0 ≤ p ∧ p < 2 ^ 64 := by
        have := SHL_lt (show (v % 128).toNat < 2 ^ 64 by omega) (7 * (k : Int))
        omega
      have c1 : ∀ w, Calls Tryd.prog 102 #[.int .u64 (v % 128), .int .i64 (7 * (k : Int))] w fun e w' => e = .returned (.int .u64 p) ∧ w = w' := fun w => by
        have h := shl_ok (v % 128).toNat (7 * (k : Int)) (by omega) (by omega) (by omega) w
        rw [← hp, Int.toNat_of_nonneg (by omega)] at h
        exact h
      by_cases h128 : 128 ≤ v
      · have HP : Aside (p = ((SHL (v % 128).toNat (7 * (k : Int)) : Nat) : Int)) := hp
        clear hp hpl
        go_wp2_with fail
        refine (c1 _).mono ?_
        rintro e w' ⟨rfl, rfl⟩
        go_wp2
        go_round
        case rel => exact ⟨k + 1, _, by omega, A.out.next (by omega) (by omega) Hv.out h128 HP.out, rfl, by go_num⟩
        case measure => simp [intOf]; omega
      · obtain ⟨q, hq⟩ : ∃ q : Int, q = ((SHR p.toNat (7 * (k : Int)) : Nat) : Int) := ⟨_, rfl⟩
        have c2 : ∀ w, Calls Tryd.prog 103 #[.int .u64 p, .int .i64 (7 * (k : Int))] w fun e w' => e = .returned (.int .u64 q) ∧ w = w' := fun w => by
          have h := shr_ok p.toNat (7 * (k : Int)) (by omega) (by omega) (by omega) w
          rw [← hq, Int.toNat_of_nonneg hpl.1] at h
          exact h
        have hs := shr_val (show k ≤ 9 by omega) hv0 h128 hp hq
        have hit := A.out.hit (by omega) (by omega) Hv.out h128
        rw [hR.out.2] at hit
        have hval := fun h9 => A.out.val (by omega) hv0 h128 h9 hp
        clear hp hpl hq
        by_cases hr : k = 9 ∧ 1 < v
        · rw [if_pos hr] at hit
          simp only [Prod.mk.injEq] at hit
          obtain ⟨rfl, rfl, rfl⟩ := hit
          have hs' : (q != v % 128) = true := by rw [hs]; simp [hr]
          clear hs hval hr
          go_wp2_with fail
          refine (c1 _).mono ?_
          rintro e w' ⟨rfl, rfl⟩
          go_wp2_with fail
          refine (c2 _).mono ?_
          rintro e w' ⟨rfl, rfl⟩
          go_wp2
          go_ret3
          exact ⟨rfl, rfl⟩
        · rw [if_neg hr] at hit
          have hs' : (q != v % 128) = false := by rw [hs]; simp only [decide_eq_false_iff_not]; exact hr
          have hval' := hval hr
          clear hs hval hr
          by_cases hz : v = 0 ∧ 0 < k
          · rw [if_pos hz] at hit
            simp only [Prod.mk.injEq] at hit
            obtain ⟨rfl, rfl, rfl⟩ := hit
            obtain ⟨rfl, hk0⟩ := hz
            have hk0' : 0 < (k : Int) := by omega
            clear hval'
            go_wp2_with fail
            refine (c1 _).mono ?_
            rintro e w' ⟨rfl, rfl⟩
            go_wp2_with fail
            refine (c2 _).mono ?_
            rintro e w' ⟨rfl, rfl⟩
            go_wp2
            go_ret3
            exact ⟨rfl, rfl⟩
          · rw [if_neg hz] at hit
            simp only [Prod.mk.injEq] at hit
            obtain ⟨e1, rfl, rfl⟩ := hit
            rw [← e1] at hval'
            have HE : Aside (bits .or .u64 y p = r1) := hval'
            clear hval' e1
            by_cases hv00 : v = 0
            · have hk0 : ¬ 0 < (k : Int) := by omega
              have hvb : (v == 0) = true := by simp [hv00]
              clear hz hv00
              go_wp2_with fail
              refine (c1 _).mono ?_
              rintro e w' ⟨rfl, rfl⟩
              go_wp2_with fail
              refine (c2 _).mono ?_
              rintro e w' ⟨rfl, rfl⟩
              go_wp2
              go_ret3
              exact ⟨by rw [← HE.out]; rfl, rfl⟩
            · have hvb : (v == 0) = false := by simp [hv00]
              clear hz hv00
              go_wp2_with fail
              refine (c1 _).mono ?_
              rintro e w' ⟨rfl, rfl⟩
              go_wp2_with fail
              refine (c2 _).mono ?_
              rintro e w' ⟨rfl, rfl⟩
              go_wp2
              go_ret3
              exact ⟨by rw [← HE.out]; rfl, rfl⟩
    · have hk' : k = n := by omega
      subst hk'
      have hit := A.out
      obtain ⟨x, hx, _⟩ := hit
      rw [show 10 - k = 9 - k + 1 by omega, LG_end rfl, hR.out.2] at hx
      simp only [Prod.mk.injEq] at hx
      obtain ⟨rfl, rfl, rfl⟩ := hx
      clear A
      go_wp2
      go_ret3
      exact ⟨rfl, rfl⟩
set_option maxHeartbeats 2000000 in
theorem long_long (b off n c : Nat) (l : List Int) (R : Int × Int × Int) (r1 r2 r3 : Int) (hR : Aside (LG l n 10 0 0 = R ∧ R = (r1, r2, r3))) (w : World) (hB : Bytes w (some ⟨b, off, none⟩) n l) (h0 : 0 < n) (hn : 10 < (n : Int)) (hcap : (n : Int) ≤ (c : Int)) (hmax : n ≤ 140737488355328) :
    Calls Tryd.prog 83 #[.slice (some ⟨b, off, none⟩) n c] w fun e w' => e = .returned (.tuple #[.int .u64 r1, .int .i64 r2, .int .i64 r3]) ∧ w = w' := by
  obtain ⟨b', off', e, _, hc0⟩ := hB.2.1 h0
  simp only [Option.some.injEq, Addr.mk.injEq] at e
  obtain ⟨rfl, rfl, _⟩ := e
  have HC : Aside ((∀ i, i < n → w.cell? ⟨b, off + i, none⟩ = some (.int .u8 (l.getD i 0))) ∧ ∀ i, 0 ≤ l.getD i 0 ∧ l.getD i 0 ≤ 255) := ⟨hc0, hB.get⟩
  have hcap0 : 0 < (c : Int) := by omega
  have h10c : (10 : Int) ≤ (c : Int) := by omega
  clear hB hc0
  go_enter Tryd.func83, Tryd.ntmps83
  go_wp2
  go_loop [5, 16] (fun s5 s16 => ∃ (k : Nat) (y : Int), (k : Int) ≤ 10 ∧ Aside (Gath l n k y R) ∧ s5 = .int .u64 y ∧ s16 = .int .i64 k) (fun _ i => 10 - (intOf i).toNat)
  case atStart => exact ⟨0, 0, by omega, hR.out.1 ▸ Gath.start l n, rfl, rfl⟩
  case round =>
    obtain ⟨k, y, hk, A, rfl, rfl⟩ := hrel
    by_cases hlt : (k : Int) < 10
    · have hc := HC.out.1 k (by omega)
      have hcb := HC.out.2 k
      generalize hv : l.getD k 0 = v at hc hcb
      have Hv : Aside (l.getD k 0 = v) := hv
      clear hv
      have hv0 := hcb.1
      have hv1 := hcb.2
      clear hcb
      obtain ⟨p, hp⟩ : ∃ p : Int, p = ((SHL (v % 128).toNat (7 * (k : Int)) : Nat) : Int) := ⟨_, rfl⟩
      have hpl : 0 ≤ p ∧ p < 2 ^ 64 := by
        have := SHL_lt (show (v % 128).toNat < 2 ^ 64 by omega) (7 * (k : Int))
        omega
      have c1 : ∀ w, Calls Tryd.prog 102 #[.int .u64 (v % 128), .int .i64 (7 * (k : Int))] w fun e w' => e = .returned (.int .u64 p) ∧ w = w' := fun w => by
        have h := shl_ok (v % 128).toNat (7 * (k : Int)) (by omega) (by omega) (by omega) w
        rw [← hp, Int.toNat_of_nonneg (by omega)] at h
        exact h
      by_cases h128 : 128 ≤ v
      · have HP : Aside (p = ((SHL (v % 128).toNat (7 * (k : Int)) : Nat) : Int)) := hp
        clear hp hpl
        go_wp2_with fail
        refine (c1 _).mono ?_
        rintro e w' ⟨rfl, rfl⟩
        go_wp2
        go_round
        case rel => exact ⟨k + 1, _, by omega, A.out.next (by omega) (by omega) Hv.out h128 HP.out, rfl, by go_num⟩
        case measure => simp [intOf]; omega
      · obtain ⟨q, hq⟩ : ∃ q : Int, q = ((SHR p.toNat (7 * (k : Int)) : Nat) : Int) := ⟨_, rfl⟩
        have c2 : ∀ w, Calls Tryd.prog 103 #[.int .u64 p, .int .i64 (7 * (k : Int))] w fun e w' => e = .returned (.int .u64 q) ∧ w = w' := fun w => by
          have h := shr_ok p.toNat (7 * (k : Int)) (by omega) (by omega) (by omega) w
          rw [← hq, Int.toNat_of_nonneg hpl.1] at h
          exact h
        have hs := shr_val (show k ≤ 9 by omega) hv0 h128 hp hq
        have hit := A.out.hit (by omega) (by omega) Hv.out h128
        rw [hR.out.2] at hit
        have hval := fun h9 => A.out.val (by omega) hv0 h128 h9 hp
        clear hp hpl hq
        by_cases hr : k = 9 ∧ 1 < v
        · rw [if_pos hr] at hit
          simp only [Prod.mk.injEq] at hit
          obtain ⟨rfl, rfl, rfl⟩ := hit
          have hs' : (q != v % 128) = true := by rw [hs]; simp [hr]
          clear hs hval hr
          go_wp2_with fail
          refine (c1 _).mono ?_
          rintro e w' ⟨rfl, rfl⟩
          go_wp2_with fail
          refine (c2 _).mono ?_
          rintro e w' ⟨rfl, rfl⟩
          go_wp2
          go_ret3
          exact ⟨rfl, rfl⟩
        · rw [if_neg hr] at hit
          have hs' : (q != v % 128) = false := by rw [hs]; simp only [decide_eq_false_iff_not]; exact hr
          have hval' := hval hr
          clear hs hval hr
          by_cases hz : v = 0 ∧ 0 < k
          · rw [if_pos hz] at hit
            simp only [Prod.mk.injEq] at hit
            obtain ⟨rfl, rfl, rfl⟩ := hit
            obtain ⟨rfl, hk0⟩ := hz
            have hk0' : 0 < (k : Int) := by omega
            clear hval'
            go_wp2_with fail
            refine (c1 _).mono ?_
            rintro e w' ⟨rfl, rfl⟩
            go_wp2_with fail
            refine (c2 _).mono ?_
            rintro e w' ⟨rfl, rfl⟩
            go_wp2
            go_ret3
            exact ⟨rfl, rfl⟩
          · rw [if_neg hz] at hit
            simp only [Prod.mk.injEq] at hit
            obtain ⟨e1, rfl, rfl⟩ := hit
            rw [← e1] at hval'
            have HE : Aside (bits .or .u64 y p = r1) := hval'
            clear hval' e1
            by_cases hv00 : v = 0
            · have hk0 : ¬ 0 < (k : Int) := by omega
              have hvb : (v == 0) = true := by simp [hv00]
              clear hz hv00
              go_wp2_with fail
              refine (c1 _).mono ?_
              rintro e w' ⟨rfl, rfl⟩
              go_wp2_with fail
              refine (c2 _).mono ?_
              rintro e w' ⟨rfl, rfl⟩
              go_wp2
              go_ret3
              exact ⟨by rw [← HE.out]; rfl, rfl⟩
            · have hvb : (v == 0) = false := by simp [hv00]
              clear hz hv00
              go_wp2_with fail
              refine (c1 _).mono ?_
              rintro e w' ⟨rfl, rfl⟩
              go_wp2_with fail
              refine (c2 _).mono ?_
              rintro e w' ⟨rfl, rfl⟩
              go_wp2
              go_ret3
              exact ⟨by rw [← HE.out]; rfl, rfl⟩
    · have hk' : k = 10 := by omega
      subst hk'
      have hit := A.out
      obtain ⟨x, hx, _⟩ := hit
      rw [show 10 - 10 = 0 by omega, hR.out.2] at hx
      have hx : (0, 0, 10) = (r1, r2, r3) := hx
      simp only [Prod.mk.injEq] at hx
      obtain ⟨rfl, rfl, rfl⟩ := hx
      clear A
      go_wp2
      go_ret3
      exact ⟨rfl, rfl⟩
set_option maxHeartbeats 2000000 in
theorem long_ten (b off c : Nat) (l : List Int) (R : Int × Int × Int) (r1 r2 r3 : Int) (hR : Aside (LG l 10 10 0 0 = R ∧ R = (r1, r2, r3))) (w : World) (hB : Bytes w (some ⟨b, off, none⟩) 10 l) (hcap : (10 : Int) ≤ (c : Int)) :
    Calls Tryd.prog 83 #[.slice (some ⟨b, off, none⟩) 10 c] w fun e w' => e = .returned (.tuple #[.int .u64 r1, .int .i64 r2, .int .i64 r3]) ∧ w = w' := by
  obtain ⟨b', off', e, _, hc0⟩ := hB.2.1 (by decide)
  simp only [Option.some.injEq, Addr.mk.injEq] at e
  obtain ⟨rfl, rfl, _⟩ := e
  have HC : Aside ((∀ i, i < 10 → w.cell? ⟨b, off + i, none⟩ = some (.int .u8 (l.getD i 0))) ∧ ∀ i, 0 ≤ l.getD i 0 ∧ l.getD i 0 ≤ 255) := ⟨hc0, hB.get⟩
  have hcap0 : 0 < (c : Int) := by omega
  clear hB hc0
  go_enter Tryd.func83, Tryd.ntmps83
  go_wp2
  go_loop [5, 16] (fun s5 s16 => ∃ (k : Nat) (y : Int), (k : Int) ≤ 10 ∧ Aside (Gath l 10 k y R) ∧ s5 = .int .u64 y ∧ s16 = .int .i64 k) (fun _ i => 10 - (intOf i).toNat)
  case atStart => exact ⟨0, 0, by omega, hR.out.1 ▸ Gath.start l 10, rfl, rfl⟩
  case round =>
    obtain ⟨k, y, hk, A, rfl, rfl⟩ := hrel
    by_cases hlt : (k : Int) < 10
    · have hc := HC.out.1 k (by omega)
      have hcb := HC.out.2 k
      generalize hv : l.getD k 0 = v at hc hcb
      have Hv : Aside (l.getD k 0 = v) := hv
      clear hv
      have hv0 := hcb.1
      have hv1 := hcb.2
      clear hcb
      obtain ⟨p, hp⟩ : ∃ p : Int, p = ((SHL (v % 128).toNat (7 * (k : Int)) : Nat) : Int) := ⟨_, rfl⟩
      have hpl : 0 ≤ p ∧ p < 2 ^ 64 := by
        have := SHL_lt (show (v % 128).toNat < 2 ^ 64 by omega) (7 * (k : Int))
        omega
      have c1 : ∀ w, Calls Tryd.prog 102 #[.int .u64 (v % 128), .int .i64 (7 * (k : Int))] w fun e w' => e = .returned (.int .u64 p) ∧ w = w' := fun w => by
        have h := shl_ok (v % 128).toNat (7 * (k : Int)) (by omega) (by omega) (by omega) w
        rw [← hp, Int.toNat_of_nonneg (by omega)] at h
        exact h
      by_cases h128 : 128 ≤ v
      · have HP : Aside (p = ((SHL (v % 128).toNat (7 * (k : Int)) : Nat) : Int)) := hp
        clear hp hpl
        go_wp2_with fail
        refine (c1 _).mono ?_
        rintro e w' ⟨rfl, rfl⟩
        go_wp2
        go_round
        case rel => exact ⟨k + 1, _, by omega, A.out.next (by omega) (by omega) Hv.out h128 HP.out, rfl, by go_num⟩
        case measure => simp [intOf]; omega
      · obtain ⟨q, hq⟩ : ∃ q : Int, q = ((SHR p.toNat (7 * (k : Int)) : Nat) : Int) := ⟨_, rfl⟩
        have c2 : ∀ w, Calls Tryd.prog 103 #[.int .u64 p, .int .i64 (7 * (k : Int))] w fun e w' => e = .returned (.int .u64 q) ∧ w = w' := fun w => by
          have h := shr_ok p.toNat (7 * (k : Int)) (by omega) (by omega) (by omega) w
          rw [← hq, Int.toNat_of_nonneg hpl.1] at h
          exact h
        have hs := shr_val (show k ≤ 9 by omega) hv0 h128 hp hq
        have hit := A.out.hit (by omega) (by omega) Hv.out h128
        rw [hR.out.2] at hit
        have hval := fun h9 => A.out.val (by omega) hv0 h128 h9 hp
        clear hp hpl hq
        by_cases hr : k = 9 ∧ 1 < v
        · rw [if_pos hr] at hit
          simp only [Prod.mk.injEq] at hit
          obtain ⟨rfl, rfl, rfl⟩ := hit
          have hs' : (q != v % 128) = true := by rw [hs]; simp [hr]
          clear hs hval hr
          go_wp2_with fail
          refine (c1 _).mono ?_
          rintro e w' ⟨rfl, rfl⟩
          go_wp2_with fail
          refine (c2 _).mono ?_
          rintro e w' ⟨rfl, rfl⟩
          go_wp2
          go_ret3
          exact ⟨rfl, rfl⟩
        · rw [if_neg hr] at hit
          have hs' : (q != v % 128) = false := by rw [hs]; simp only [decide_eq_false_iff_not]; exact hr
          have hval' := hval hr
          clear hs hval hr
          by_cases hz : v = 0 ∧ 0 < k
          · rw [if_pos hz] at hit
            simp only [Prod.mk.injEq] at hit
            obtain ⟨rfl, rfl, rfl⟩ := hit
            obtain ⟨rfl, hk0⟩ := hz
            have hk0' : 0 < (k : Int) := by omega
            clear hval'
            go_wp2_with fail
            refine (c1 _).mono ?_
            rintro e w' ⟨rfl, rfl⟩
            go_wp2_with fail
            refine (c2 _).mono ?_
            rintro e w' ⟨rfl, rfl⟩
            go_wp2
            go_ret3
            exact ⟨rfl, rfl⟩
          · rw [if_neg hz] at hit
            simp only [Prod.mk.injEq] at hit
            obtain ⟨e1, rfl, rfl⟩ := hit
            rw [← e1] at hval'
            have HE : Aside (bits .or .u64 y p = r1) := hval'
            clear hval' e1
            by_cases hv00 : v = 0
            · have hk0 : ¬ 0 < (k : Int) := by omega
              have hvb : (v == 0) = true := by simp [hv00]
              clear hz hv00
              go_wp2_with fail
              refine (c1 _).mono ?_
              rintro e w' ⟨rfl, rfl⟩
              go_wp2_with fail
              refine (c2 _).mono ?_
              rintro e w' ⟨rfl, rfl⟩
              go_wp2
              go_ret3
              exact ⟨by rw [← HE.out]; rfl, rfl⟩
            · have hvb : (v == 0) = false := by simp [hv00]
              clear hz hv00
              go_wp2_with fail
              refine (c1 _).mono ?_
              rintro e w' ⟨rfl, rfl⟩
              go_wp2_with fail
              refine (c2 _).mono ?_
              rintro e w' ⟨rfl, rfl⟩
              go_wp2
              go_ret3
              exact ⟨by rw [← HE.out]; rfl, rfl⟩
    · have hk' : k = 10 := by omega
      subst hk'
      have hit := A.out
      obtain ⟨x, hx, _⟩ := hit
      rw [show 10 - 10 = 0 by omega, hR.out.2] at hx
      have hx : (0, 0, 10) = (r1, r2, r3) := hx
      simp only [Prod.mk.injEq] at hx
      obtain ⟨rfl, rfl, rfl⟩ := hx
      clear A
      go_wp2
      go_ret3
      exact ⟨rfl, rfl⟩
theorem long_empty (a : Option Addr) (c : Nat) (w : World) : Calls Tryd.prog 83 #[.slice a 0 c] w fun e w' => e = .returned (.tuple #[.int .u64 0, .int .i64 0, .int .i64 11]) ∧ w = w' := by
  go_enter Tryd.func83, Tryd.ntmps83
  go_wp2
  refine wp_loop_rounds 1 ?_
  rw [rounds_succ]
  go_wp2
  go_ret3
  exact ⟨rfl, rfl⟩
theorem long_ok (a : Option Addr) (n c : Nat) (l : List Int) (w : World) (hB : Bytes w a n l) (hcap : n ≤ c) (hmax : n ≤ 140737488355328) :
    Calls Tryd.prog 83 #[.slice a n c] w fun e w' => e = .returned (.tuple #[.int .u64 (LG l n 10 0 0).1, .int .i64 (LG l n 10 0 0).2.1, .int .i64 (LG l n 10 0 0).2.2]) ∧ w = w' := by
  rcases Nat.eq_zero_or_pos n with h | h
  · subst h
    exact long_empty a c w
  · obtain ⟨b, off, rfl, _, _⟩ := hB.2.1 h
    by_cases h10 : (n : Int) < 10
    · exact long_short b off n c l _ _ _ _ ⟨rfl, rfl⟩ w hB h h10 (by omega) hmax
    · by_cases h10' : n = 10
      · subst h10'
        exact long_ten b off c l _ _ _ _ ⟨rfl, rfl⟩ w hB (by omega)
      · exact long_long b off n c l _ _ _ _ ⟨rfl, rfl⟩ w hB h (by omega) (by omega) hmax
end Go.Proofs.YtfjmbfppilfepaaDoor
