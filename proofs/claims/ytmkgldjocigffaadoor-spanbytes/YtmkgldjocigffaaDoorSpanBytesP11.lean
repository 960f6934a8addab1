/- Texts of SpanBytes, one behind the other: NumLongCalls, NumLongPlain, ProofMark, ProofHashPlain, ProofHashes, ProofLong, ProofDecodePlain, ProofRoundPlain, CutRefSpan, ProofRefPlaces. -/
import Derived.Deep.RegionLaw
import Derived.Laws.CopyOwn
import Derived.Test.YtmkgldjocigffaaDoorSpanBytesP10
/- What Long of package num answers. -/
namespace Go.Proofs.YtmkgldjocigffaaDoor
open Go.RowKit

/-- what a number in groups of 7 bits reads as, from the k-th byte on: the number, how many bytes, what is wrong. -/
def LG (l : List Int) (n : Nat) : Nat → Nat → Int → Int × Int × Int
  | 0, _, _ => (0, 0, 10)
  | f + 1, k, x => if k = n then (0, 0, 11) else if 128 ≤ l.getD k 0 then LG l n f (k + 1) (x + l.getD k 0 % 128 * 128 ^ k)
    else if k = 9 ∧ 1 < l.getD k 0 then (0, 0, 10) else if l.getD k 0 = 0 ∧ 0 < k then (0, 0, 12) else (x + l.getD k 0 * 128 ^ k, (k : Int) + 1, 0)
theorem LG_end {l : List Int} {n f k : Nat} {x : Int} (h : k = n) : LG l n (f + 1) k x = (0, 0, 11) := by
  show (if k = n then _ else _) = _
  rw [if_pos h]
theorem LG_more {l : List Int} {n f k : Nat} {x : Int} (h : k ≠ n) (hc : 128 ≤ l.getD k 0) : LG l n (f + 1) k x = LG l n f (k + 1) (x + l.getD k 0 % 128 * 128 ^ k) := by
  show (if k = n then _ else _) = _
  rw [if_neg h, if_pos hc]
theorem LG_hit {l : List Int} {n f k : Nat} {x : Int} (h : k ≠ n) (hc : ¬ 128 ≤ l.getD k 0) : LG l n (f + 1) k x = if k = 9 ∧ 1 < l.getD k 0 then (0, 0, 10) else if l.getD k 0 = 0 ∧ 0 < k then (0, 0, 12) else (x + l.getD k 0 * 128 ^ k, (k : Int) + 1, 0) := by
  show (if k = n then _ else _) = _
  rw [if_neg h, if_neg hc]

/-! shifts by whole groups -/
theorem pow7 (k : Nat) : (2 : Nat) ^ (7 * k) = 128 ^ k := by rw [Nat.pow_mul]
theorem group_shl (L k : Nat) : SHL L (7 * (k : Int)) = L * 128 ^ k % 2 ^ 64 := by
  unfold SHL
  rw [if_neg (by omega), show (7 * (k : Int)).toNat = 7 * k by omega, pow7]
theorem group_shr (L k : Nat) : SHR L (7 * (k : Int)) = L / 128 ^ k := by
  unfold SHR
  rw [if_neg (by omega), show (7 * (k : Int)).toNat = 7 * k by omega, pow7]
theorem group_small {L k : Nat} (hL : L < 128) (hk : k ≤ 8) : L * 128 ^ k % 2 ^ 64 = L * 128 ^ k := by
  have h := Nat.pow_le_pow_right (n := 128) (by decide) hk
  have h2 : L * 128 ^ k ≤ 127 * 128 ^ 8 := Nat.mul_le_mul (by omega) h
  exact Nat.mod_eq_of_lt (Nat.lt_of_le_of_lt h2 (by decide))
theorem group_back {L k : Nat} (hL : L < 128) (hk : k ≤ 9) : L * 128 ^ k % 2 ^ 64 / 128 ^ k = if k = 9 then L % 2 else L := by
  by_cases h : k = 9
  · subst h
    rw [if_pos rfl]
    omega
  · rw [if_neg h, group_small hL (by omega), Nat.mul_div_cancel _ (Nat.pow_pos (by decide))]
theorem group_or {x L k : Nat} (hx : x < 128 ^ k) (hL : L < 128) (hk : k ≤ 8) : bits .or .u64 (x : Int) ((L * 128 ^ k % 2 ^ 64 : Nat) : Int) = ((x + L * 128 ^ k : Nat) : Int) := by
  have h8 := Nat.pow_le_pow_right (n := 128) (by decide) hk
  have hx2 : x < 2 ^ 64 := Nat.lt_of_lt_of_le hx (Nat.le_trans h8 (by decide))
  rw [or_eq hx2 (Nat.mod_lt _ (by decide)), group_small hL hk, Nat.or_comm, nat_join (7 * k) _ x (by rw [pow7]; exact Nat.mul_mod_left _ _) (by rw [pow7]; exact hx), Nat.add_comm]
theorem group_or9 {x L : Nat} (hx : x < 128 ^ 9) (hL : L < 2) : bits .or .u64 (x : Int) ((L * 128 ^ 9 % 2 ^ 64 : Nat) : Int) = ((x + L * 128 ^ 9 : Nat) : Int) := by
  have h1 : L * 128 ^ 9 % 2 ^ 64 = L * 128 ^ 9 := Nat.mod_eq_of_lt (by omega)
  rw [or_eq (Nat.lt_of_lt_of_le hx (by decide)) (Nat.mod_lt _ (by decide)), h1, Nat.or_comm, nat_join (7 * 9) _ x (by omega) (by omega), Nat.add_comm]

/-- what holds of the number that has been gathered ahead of the k-th byte. -/
def Gath (l : List Int) (n k : Nat) (y : Int) (R : Int × Int × Int) : Prop := ∃ x : Nat, LG l n (10 - k) k (x : Int) = R ∧ (k ≤ 9 → y = (x : Int) ∧ x < 128 ^ k)
theorem Gath.start (l : List Int) (n : Nat) : Gath l n 0 0 (LG l n 10 0 0) := ⟨0, rfl, fun _ => ⟨rfl, by decide⟩⟩
theorem Gath.next {l : List Int} {n k : Nat} {y v p : Int} {R : Int × Int × Int} (A : Gath l n k y R) (hk : k ≤ 9) (hkn : k ≠ n) (hv : l.getD k 0 = v) (h0 : 128 ≤ v)
    (hp : p = ((SHL (v % 128).toNat (7 * (k : Int)) : Nat) : Int)) : Gath l n (k + 1) (bits .or .u64 y p) R := by
  obtain ⟨x, hx, hy⟩ := A
  obtain ⟨rfl, hlt⟩ := hy hk
  obtain ⟨L, hL⟩ : ∃ L : Nat, v % 128 = (L : Int) := ⟨(v % 128).toNat, by omega⟩
  rw [show 10 - k = 10 - (k + 1) + 1 by omega, LG_more hkn (by rw [hv]; exact h0), hv, hL] at hx
  have hL128 : L < 128 := by omega
  rw [hL, Int.toNat_natCast, group_shl] at hp
  refine ⟨x + L * 128 ^ k, ?_, fun h => ?_⟩
  · rw [← hx]
    congr 1
  · rw [hp, group_or hlt hL128 (by omega)]
    refine ⟨rfl, ?_⟩
    have : L * 128 ^ k ≤ 127 * 128 ^ k := Nat.mul_le_mul_right _ (by omega)
    rw [Nat.pow_succ]
    omega
theorem Gath.hit {l : List Int} {n k : Nat} {y v : Int} {R : Int × Int × Int} (A : Gath l n k y R) (hk : k ≤ 9) (hkn : k ≠ n) (hv : l.getD k 0 = v) (h1 : ¬ 128 ≤ v) :
    R = if k = 9 ∧ 1 < v then (0, 0, 10) else if v = 0 ∧ 0 < k then (0, 0, 12) else (y + v * 128 ^ k, (k : Int) + 1, 0) := by
  obtain ⟨x, hx, hy⟩ := A
  obtain ⟨rfl, hlt⟩ := hy hk
  rw [show 10 - k = 9 - k + 1 by omega, LG_hit hkn (by rw [hv]; exact h1), hv] at hx
  exact hx.symm
theorem Gath.val {l : List Int} {n k : Nat} {y v p : Int} {R : Int × Int × Int} (A : Gath l n k y R) (hk : k ≤ 9) (h0 : 0 ≤ v) (h1 : ¬ 128 ≤ v) (h9 : ¬ (k = 9 ∧ 1 < v))
    (hp : p = ((SHL (v % 128).toNat (7 * (k : Int)) : Nat) : Int)) : bits .or .u64 y p = y + v * 128 ^ k := by
  obtain ⟨x, _, hy⟩ := A
  obtain ⟨rfl, hlt⟩ := hy hk
  obtain ⟨L, rfl⟩ : ∃ L : Nat, v = (L : Int) := ⟨v.toNat, by omega⟩
  rw [show (((L : Int) % 128).toNat) = L by omega, group_shl] at hp
  by_cases h : k = 9
  · subst h
    rw [hp, group_or9 hlt (by omega)]
    simp
  · rw [hp, group_or hlt (by omega) (by omega)]
    simp
theorem shr_val {v p q : Int} {k : Nat} (hk : k ≤ 9) (h0 : 0 ≤ v) (h1 : ¬ 128 ≤ v) (hp : p = ((SHL (v % 128).toNat (7 * (k : Int)) : Nat) : Int)) (hq : q = ((SHR p.toNat (7 * (k : Int)) : Nat) : Int)) :
    (q != v % 128) = decide (k = 9 ∧ 1 < v) := by
  obtain ⟨L, rfl⟩ : ∃ L : Nat, v = (L : Int) := ⟨v.toNat, by omega⟩
  rw [show (((L : Int) % 128).toNat) = L by omega, group_shl] at hp
  rw [hp, Int.toNat_natCast, group_shr, group_back (by omega) hk] at hq
  rw [hq, Bool.eq_iff_iff, bne_iff_ne, decide_eq_true_iff]
  split <;> omega

set_option maxHeartbeats 2000000 in
theorem long_short (b off n c : Nat) (l : List Int) (R : Int × Int × Int) (r1 r2 r3 : Int) (hR : Aside (LG l n 10 0 0 = R ∧ R = (r1, r2, r3))) (w : World) (hB : Bytes w (some ⟨b, off, none⟩) n l) (h0 : 0 < n) (hn : (n : Int) < 10) (hcap : (n : Int) ≤ (c : Int)) (hmax : n ≤ 140737488355328) :
    Calls Tryd.prog 70 #[.slice (some ⟨b, off, none⟩) n c] w fun e w' => e = .returned (.tuple #[.int .u64 r1, .int .i64 r2, .int .i64 r3]) ∧ w = w' := by
  obtain ⟨b', off', e, _, hc0⟩ := hB.2.1 h0
  simp only [Option.some.injEq, Addr.mk.injEq] at e
  obtain ⟨rfl, rfl, _⟩ := e
  have HC : Aside ((∀ i, i < n → w.cell? ⟨b, off + i, none⟩ = some (.int .u8 (l.getD i 0))) ∧ ∀ i, 0 ≤ l.getD i 0 ∧ l.getD i 0 ≤ 255) := ⟨hc0, hB.get⟩
  have hcap0 : 0 < (c : Int) := by omega
  clear hB hc0
  go_enter Tryd.func70, Tryd.ntmps70
  go_wp2
  go_loop [5, 16] (fun s5 s16 => ∃ (k : Nat) (y : Int), (k : Int) ≤ (n : Int) ∧ Aside (Gath l n k y R) ∧ s5 = .int .u64 y ∧ s16 = .int .i64 k) (fun _ i => n - (intOf i).toNat)
  case atStart => exact ⟨0, 0, by omega, hR.out.1 ▸ Gath.start l n, rfl, rfl⟩
  case round =>
    obtain ⟨k, y, hk, A, rfl, rfl⟩ := hrel
    by_cases hlt : (k : Int) < (n : Int)
    · have hc := HC.out.1 k (by omega)
      have hcb := HC.out.2 k
      generalize hv : l.getD k 0 = v at hc hcb
      have Hv : Aside (l.getD k 0 = v) := hv
      clear hv
      have hv0 := hcb.1
      have hv1 := hcb.2
      clear hcb
      obtain ⟨p, hp⟩ : ∃ p : Int, p = ((SHL (v % 128).toNat (7 * (k : Int)) : Nat) : Int) := ⟨_, rfl⟩
      have hpl : 0 ≤ p ∧ p < 2 ^ 64 := by
        have := SHL_lt (show (v % 128).toNat < 2 ^ 64 by omega) (7 * (k : Int))
        omega
      have c1 : ∀ w, Calls Tryd.prog 76 #[.int .u64 (v % 128), .int .i64 (7 * (k : Int))] w fun e w' => e = .returned (.int .u64 p) ∧ w = w' := fun w => by
        have h := shl_ok (v % 128).toNat (7 * (k : Int)) (by omega) (by omega) (by omega) w
        rw [← hp, Int.toNat_of_nonneg (by omega)] at h
        exact h
      by_cases h128 : 128 ≤ v
      · have HP : Aside (p = ((SHL (v % 128).toNat (7 * (k : Int)) : Nat) : Int)) := hp
        clear hp hpl
        go_wp2_with fail
        refine (c1 _).mono ?_
        rintro e w' ⟨rfl, rfl⟩
        go_wp2
        go_round
        case rel => exact ⟨k + 1, _, by omega, A.out.next (by omega) (by omega) Hv.out h128 HP.out, rfl, by go_num⟩
        case measure => simp [intOf]; omega
      · obtain ⟨q, hq⟩ : ∃ q : Int, q = ((SHR p.toNat (7 * (k : Int)) : Nat) : Int) := ⟨_, rfl⟩
        have c2 : ∀ w, Calls Tryd.prog 77 #[.int .u64 p, .int .i64 (7 * (k : Int))] w fun e w' => e = .returned (.int .u64 q) ∧ w = w' := fun w => by
          have h := shr_ok p.toNat (7 * (k : Int)) (by omega) (by omega) (by omega) w
          rw [← hq, Int.toNat_of_nonneg hpl.1] at h
          exact h
        have hs := shr_val (show k ≤ 9 by omega) hv0 h128 hp hq
        have hit := A.out.hit (by omega) (by omega) Hv.out h128
        rw [hR.out.2] at hit
        have hval := fun h9 => A.out.val (by omega) hv0 h128 h9 hp
        clear hp hpl hq
        by_cases hr : k = 9 ∧ 1 < v
        · rw [if_pos hr] at hit
          simp only [Prod.mk.injEq] at hit
          obtain ⟨rfl, rfl, rfl⟩ := hit
          have hs' : (q != v % 128) = true := by rw [hs]; simp [hr]
          clear hs hval hr
          go_wp2_with fail
          refine (c1 _).mono ?_
          rintro e w' ⟨rfl, rfl⟩
          go_wp2_with fail
          refine (c2 _).mono ?_
          rintro e w' ⟨rfl, rfl⟩
          go_wp2
          go_ret3
          exact ⟨rfl, rfl⟩
        · rw [if_neg hr] at hit
          have hs' : (q != v % 128) = false := by rw [hs]; simp only [decide_eq_false_iff_not]; exact hr
          have hval' := hval hr
          clear hs hval hr
          by_cases hz : v = 0 ∧ 0 < k
          · rw [if_pos hz] at hit
            simp only [Prod.mk.injEq] at hit
            obtain ⟨rfl, rfl, rfl⟩ := hit
            obtain ⟨rfl, hk0⟩ := hz
            have hk0' : 0 < (k : Int) := by omega
            clear hval'
            go_wp2_with fail
            refine (c1 _).mono ?_
            rintro e w' ⟨rfl, rfl⟩
            go_wp2_with fail
            refine (c2 _).mono ?_
            rintro e w' ⟨rfl, rfl⟩
            go_wp2
            go_ret3
            exact ⟨rfl, rfl⟩
          · rw [if_neg hz] at hit
            simp only [Prod.mk.injEq] at hit
            obtain ⟨e1, rfl, rfl⟩ := hit
            rw [← e1] at hval'
            have HE : Aside (bits .or .u64 y p = r1) := hval'
            clear hval' e1
            by_cases hv00 : v = 0
            · have hk0 : ¬ 0 < (k : Int) := by omega
              have hvb : (v == 0) = true := by simp [hv00]
              clear hz hv00
              go_wp2_with fail
              refine (c1 _).mono ?_
              rintro e w' ⟨rfl, rfl⟩
              go_wp2_with fail
              refine (c2 _).mono ?_
              rintro e w' ⟨rfl, rfl⟩
              go_wp2
              go_ret3
              exact ⟨by rw [← HE.out]; rfl, rfl⟩
            · have hvb : (v == 0) = false := by simp [hv00]
              clear hz hv00
              go_wp2_with fail
              refine (c1 _).mono ?_
              rintro e w' ⟨rfl, rfl⟩
              go_wp2_with fail
              refine (c2 _).mono ?_
              rintro e w' ⟨rfl, rfl⟩
              go_wp2
              go_ret3
              exact ⟨by rw [← HE.out]; rfl, rfl⟩
    · have hk' : k = n := by omega
      subst hk'
      have hit := A.out
      obtain ⟨x, hx, _⟩ := hit
      rw [show 10 - k = 9 - k + 1 by omega, LG_end rfl, hR.out.2] at hx
      simp only [Prod.mk.injEq] at hx
      obtain ⟨rfl, rfl, rfl⟩ := hx
      clear A
      go_wp2
      go_ret3
      exact ⟨rfl, rfl⟩
set_option maxHeartbeats 2000000 in
theorem long_long (b off n c : Nat) (l : List Int) (R : Int × Int × Int) (r1 r2 r3 : Int) (hR : Aside (LG l n 10 0 0 = R ∧ R = (r1, r2, r3))) (w : World) (hB : Bytes w (some ⟨b, off, none⟩) n l) (h0 : 0 < n) (hn : 10 < (n : Int)) (hcap : (n : Int) ≤ (c : Int)) (hmax : n ≤ 140737488355328) :
    Calls Tryd.prog 70 #[.slice (some ⟨b, off, none⟩) n c] w fun e w' => e = .returned (.tuple #[.int .u64 r1, .int .i64 r2, .int .i64 r3]) ∧ w = w' := by
  obtain ⟨b', off', e, _, hc0⟩ := hB.2.1 h0
  simp only [Option.some.injEq, Addr.mk.injEq] at e
  obtain ⟨rfl, rfl, _⟩ := e
  have HC : Aside ((∀ i, i < n → w.cell? ⟨b, off + i, none⟩ = some (.int .u8 (l.getD i 0))) ∧ ∀ i, 0 ≤ l.getD i 0 ∧ l.getD i 0 ≤ 255) := ⟨hc0, hB.get⟩
  have hcap0 : 0 < (c : Int) := by omega
  have h10c : (10 : Int) ≤ (c : Int) := by omega
  clear hB hc0
  go_enter Tryd.func70, Tryd.ntmps70
  go_wp2
  go_loop [5, 16] (fun s5 s16 => ∃ (k : Nat) (y : Int), (k : Int) ≤ 10 ∧ Aside (Gath l n k y R) ∧ s5 = .int .u64 y ∧ s16 = .int .i64 k) (fun _ i => 10 - (intOf i).toNat)
  case atStart => exact ⟨0, 0, by omega, hR.out.1 ▸ Gath.start l n, rfl, rfl⟩
  case round =>
    obtain ⟨k, y, hk, A, rfl, rfl⟩ := hrel
    by_cases hlt : (k : Int) < 10
    · have hc := HC.out.1 k (by omega)
      have hcb := HC.out.2 k
      generalize hv : l.getD k 0 = v at hc hcb
      have Hv : Aside (l.getD k 0 = v) := hv
      clear hv
      have hv0 := hcb.1
      have hv1 := hcb.2
      clear hcb
      obtain ⟨p, hp⟩ : ∃ p : Int, p = ((SHL (v % 128).toNat (7 * (k : Int)) : Nat) : Int) := ⟨_, rfl⟩
      have hpl : 0 ≤ p ∧ p < 2 ^ 64 := by
        have := SHL_lt (show (v % 128).toNat < 2 ^ 64 by omega) (7 * (k : Int))
        omega
      have c1 : ∀ w, Calls Tryd.prog 76 #[.int .u64 (v % 128), .int .i64 (7 * (k : Int))] w fun e w' => e = .returned (.int .u64 p) ∧ w = w' := fun w => by
        have h := shl_ok (v % 128).toNat (7 * (k : Int)) (by omega) (by omega) (by omega) w
        rw [← hp, Int.toNat_of_nonneg (by omega)] at h
        exact h
      by_cases h128 : 128 ≤ v
      · have HP : Aside (p = ((SHL (v % 128).toNat (7 * (k : Int)) : Nat) : Int)) := hp
        clear hp hpl
        go_wp2_with fail
        refine (c1 _).mono ?_
        rintro e w' ⟨rfl, rfl⟩
        go_wp2
        go_round
        case rel => exact ⟨k + 1, _, by omega, A.out.next (by omega) (by omega) Hv.out h128 HP.out, rfl, by go_num⟩
        case measure => simp [intOf]; omega
      · obtain ⟨q, hq⟩ : ∃ q : Int, q = ((SHR p.toNat (7 * (k : Int)) : Nat) : Int) := ⟨_, rfl⟩
        have c2 : ∀ w, Calls Tryd.prog 77 #[.int .u64 p, .int .i64 (7 * (k : Int))] w fun e w' => e = .returned (.int .u64 q) ∧ w = w' := fun w => by
          have h := shr_ok p.toNat (7 * (k : Int)) (by omega) (by omega) (by omega) w
          rw [← hq, Int.toNat_of_nonneg hpl.1] at h
          exact h
        have hs := shr_val (show k ≤ 9 by omega) hv0 h128 hp hq
        have hit := A.out.hit (by omega) (by omega) Hv.out h128
        rw [hR.out.2] at hit
        have hval := fun h9 => A.out.val (by omega) hv0 h128 h9 hp
        clear hp hpl hq
        by_cases hr : k = 9 ∧ 1 < v
        · rw [if_pos hr] at hit
          simp only [Prod.mk.injEq] at hit
          obtain ⟨rfl, rfl, rfl⟩ := hit
          have hs' : (q != v % 128) = true := by rw [hs]; simp [hr]
          clear hs hval hr
          go_wp2_with fail
          refine (c1 _).mono ?_
          rintro e w' ⟨rfl, rfl⟩
          go_wp2_with fail
          refine (c2 _).mono ?_
          rintro e w' ⟨rfl, rfl⟩
          go_wp2
          go_ret3
          exact ⟨rfl, rfl⟩
        · rw [if_neg hr] at hit
          have hs' : (q != v % 128) = false := by rw [hs]; simp only [decide_eq_false_iff_not]; exact hr
          have hval' := hval hr
          clear hs hval hr
          by_cases hz : v = 0 ∧ 0 < k
          · rw [if_pos hz] at hit
            simp only [Prod.mk.injEq] at hit
            obtain ⟨rfl, rfl, rfl⟩ := hit
            obtain ⟨rfl, hk0⟩ := hz
            have hk0' : 0 < (k : Int) := by omega
            clear hval'
            go_wp2_with fail
            refine (c1 _).mono ?_
            rintro e w' ⟨rfl, rfl⟩
            go_wp2_with fail
            refine (c2 _).mono ?_
            rintro e w' ⟨rfl, rfl⟩
            go_wp2
            go_ret3
            exact ⟨rfl, rfl⟩
          · rw [if_neg hz] at hit
            simp only [Prod.mk.injEq] at hit
            obtain ⟨e1, rfl, rfl⟩ := hit
            rw [← e1] at hval'
            have HE : Aside (bits .or .u64 y p = r1) := hval'
            clear hval' e1
            by_cases hv00 : v = 0
            · have hk0 : ¬ 0 < (k : Int) := by omega
              have hvb : (v == 0) = true := by simp [hv00]
              clear hz hv00
              go_wp2_with fail
              refine (c1 _).mono ?_
              rintro e w' ⟨rfl, rfl⟩
              go_wp2_with fail
              refine (c2 _).mono ?_
              rintro e w' ⟨rfl, rfl⟩
              go_wp2
              go_ret3
              exact ⟨by rw [← HE.out]; rfl, rfl⟩
            · have hvb : (v == 0) = false := by simp [hv00]
              clear hz hv00
              go_wp2_with fail
              refine (c1 _).mono ?_
              rintro e w' ⟨rfl, rfl⟩
              go_wp2_with fail
              refine (c2 _).mono ?_
              rintro e w' ⟨rfl, rfl⟩
              go_wp2
              go_ret3
              exact ⟨by rw [← HE.out]; rfl, rfl⟩
    · have hk' : k = 10 := by omega
      subst hk'
      have hit := A.out
      obtain ⟨x, hx, _⟩ := hit
      rw [show 10 - 10 = 0 by omega, hR.out.2] at hx
      have hx : (0, 0, 10) = (r1, r2, r3) := hx
      simp only [Prod.mk.injEq] at hx
      obtain ⟨rfl, rfl, rfl⟩ := hx
      clear A
      go_wp2
      go_ret3
      exact ⟨rfl, rfl⟩
set_option maxHeartbeats 2000000 in
theorem long_ten (b off c : Nat) (l : List Int) (R : Int × Int × Int) (r1 r2 r3 : Int) (hR : Aside (LG l 10 10 0 0 = R ∧ R = (r1, r2, r3))) (w : World) (hB : Bytes w (some ⟨b, off, none⟩) 10 l) (hcap : (10 : Int) ≤ (c : Int)) :
    Calls Tryd.prog 70 #[.slice (some ⟨b, off, none⟩) 10 c] w fun e w' => e = .returned (.tuple #[.int .u64 r1, .int .i64 r2, .int .i64 r3]) ∧ w = w' := by
  obtain ⟨b', off', e, _, hc0⟩ := hB.2.1 (by decide)
  simp only [Option.some.injEq, Addr.mk.injEq] at e
  obtain ⟨rfl, rfl, _⟩ := e
  have HC : Aside ((∀ i, i < 10 → w.cell? ⟨b, off + i, none⟩ = some (.int .u8 (l.getD i 0))) ∧ ∀ i, 0 ≤ l.getD i 0 ∧ l.getD i 0 ≤ 255) := ⟨hc0, hB.get⟩
  have hcap0 : 0 < (c : Int) := by omega
  clear hB hc0
  go_enter Tryd.func70, Tryd.ntmps70
  go_wp2
  go_loop [5, 16] (fun s5 s16 => ∃ (k : Nat) (y : Int), (k : Int) ≤ 10 ∧ Aside (Gath l 10 k y R) ∧ s5 = .int .u64 y ∧ s16 = .int .i64 k) (fun _ i => 10 - (intOf i).toNat)
  case atStart => exact ⟨0, 0, by omega, hR.out.1 ▸ Gath.start l 10, rfl, rfl⟩
  case round =>
    obtain ⟨k, y, hk, A, rfl, rfl⟩ := hrel
    by_cases hlt : (k : Int) < 10
    · have hc := HC.out.1 k (by omega)
      have hcb := HC.out.2 k
      generalize hv : l.getD k 0 = v at hc hcb
      have Hv : Aside (l.getD k 0 = v) := hv
      clear hv
      have hv0 := hcb.1
      have hv1 := hcb.2
      clear hcb
      obtain ⟨p, hp⟩ : ∃ p : Int, p = ((SHL (v % 128).toNat (7 * (k : Int)) : Nat) : Int) := ⟨_, rfl⟩
      have hpl : 0 ≤ p ∧ p < 2 ^ 64 := by
        have := SHL_lt (show (v % 128).toNat < 2 ^ 64 by omega) (7 * (k : Int))
        omega
      have c1 : ∀ w, Calls Tryd.prog 76 #[.int .u64 (v % 128), .int .i64 (7 * (k : Int))] w fun e w' => e = .returned (.int .u64 p) ∧ w = w' := fun w => by
        have h := shl_ok (v % 128).toNat (7 * (k : Int)) (by omega) (by omega) (by omega) w
        rw [← hp, Int.toNat_of_nonneg (by omega)] at h
        exact h
      by_cases h128 : 128 ≤ v
      · have HP : Aside (p = ((SHL (v % 128).toNat (7 * (k : Int)) : Nat) : Int)) := hp
        clear hp hpl
        go_wp2_with fail
        refine (c1 _).mono ?_
        rintro e w' ⟨rfl, rfl⟩
        go_wp2
        go_round
        case rel => exact ⟨k + 1, _, by omega, A.out.next (by omega) (by omega) Hv.out h128 HP.out, rfl, by go_num⟩
        case measure => simp [intOf]; omega
      · obtain ⟨q, hq⟩ : ∃ q : Int, q = ((SHR p.toNat (7 * (k : Int)) : Nat) : Int) := ⟨_, rfl⟩
        have c2 : ∀ w, Calls Tryd.prog 77 #[.int .u64 p, .int .i64 (7 * (k : Int))] w fun e w' => e = .returned (.int .u64 q) ∧ w = w' := fun w => by
          have h := shr_ok p.toNat (7 * (k : Int)) (by omega) (by omega) (by omega) w
          rw [← hq, Int.toNat_of_nonneg hpl.1] at h
          exact h
        have hs := shr_val (show k ≤ 9 by omega) hv0 h128 hp hq
        have hit := A.out.hit (by omega) (by omega) Hv.out h128
        rw [hR.out.2] at hit
        have hval := fun h9 => A.out.val (by omega) hv0 h128 h9 hp
        clear hp hpl hq
        by_cases hr : k = 9 ∧ 1 < v
        · rw [if_pos hr] at hit
          simp only [Prod.mk.injEq] at hit
          obtain ⟨rfl, rfl, rfl⟩ := hit
          have hs' : (q != v % 128) = true := by rw [hs]; simp [hr]
          clear hs hval hr
          go_wp2_with fail
          refine (c1 _).mono ?_
          rintro e w' ⟨rfl, rfl⟩
          go_wp2_with fail
          refine (c2 _).mono ?_
          rintro e w' ⟨rfl, rfl⟩
          go_wp2
          go_ret3
          exact ⟨rfl, rfl⟩
        · rw [if_neg hr] at hit
          have hs' : (q != v % 128) = false := by rw [hs]; simp only [decide_eq_false_iff_not]; exact hr
          have hval' := hval hr
          clear hs hval hr
          by_cases hz : v = 0 ∧ 0 < k
          · rw [if_pos hz] at hit
            simp only [Prod.mk.injEq] at hit
            obtain ⟨rfl, rfl, rfl⟩ := hit
            obtain ⟨rfl, hk0⟩ := hz
            have hk0' : 0 < (k : Int) := by omega
            clear hval'
            go_wp2_with fail
            refine (c1 _).mono ?_
            rintro e w' ⟨rfl, rfl⟩
            go_wp2_with fail
            refine (c2 _).mono ?_
            rintro e w' ⟨rfl, rfl⟩
            go_wp2
            go_ret3
            exact ⟨rfl, rfl⟩
          · rw [if_neg hz] at hit
            simp only [Prod.mk.injEq] at hit
            obtain ⟨e1, rfl, rfl⟩ := hit
            rw [← e1] at hval'
            have HE : Aside (bits .or .u64 y p = r1) := hval'
            clear hval' e1
            by_cases hv00 : v = 0
            · have hk0 : ¬ 0 < (k : Int) := by omega
              have hvb : (v == 0) = true := by simp [hv00]
              clear hz hv00
              go_wp2_with fail
              refine (c1 _).mono ?_
              rintro e w' ⟨rfl, rfl⟩
              go_wp2_with fail
              refine (c2 _).mono ?_
              rintro e w' ⟨rfl, rfl⟩
              go_wp2
              go_ret3
              exact ⟨by rw [← HE.out]; rfl, rfl⟩
            · have hvb : (v == 0) = false := by simp [hv00]
              clear hz hv00
              go_wp2_with fail
              refine (c1 _).mono ?_
              rintro e w' ⟨rfl, rfl⟩
              go_wp2_with fail
              refine (c2 _).mono ?_
              rintro e w' ⟨rfl, rfl⟩
              go_wp2
              go_ret3
              exact ⟨by rw [← HE.out]; rfl, rfl⟩
    · have hk' : k = 10 := by omega
      subst hk'
      have hit := A.out
      obtain ⟨x, hx, _⟩ := hit
      rw [show 10 - 10 = 0 by omega, hR.out.2] at hx
      have hx : (0, 0, 10) = (r1, r2, r3) := hx
      simp only [Prod.mk.injEq] at hx
      obtain ⟨rfl, rfl, rfl⟩ := hx
      clear A
      go_wp2
      go_ret3
      exact ⟨rfl, rfl⟩
theorem long_empty (a : Option Addr) (c : Nat) (w : World) : Calls Tryd.prog 70 #[.slice a 0 c] w fun e w' => e = .returned (.tuple #[.int .u64 0, .int .i64 0, .int .i64 11]) ∧ w = w' := by
  go_enter Tryd.func70, Tryd.ntmps70
  go_wp2
  refine wp_loop_rounds 1 ?_
  rw [rounds_succ]
  go_wp2
  go_ret3
  exact ⟨rfl, rfl⟩
theorem long_ok (a : Option Addr) (n c : Nat) (l : List Int) (w : World) (hB : Bytes w a n l) (hcap : n ≤ c) (hmax : n ≤ 140737488355328) :
    Calls Tryd.prog 70 #[.slice a n c] w fun e w' => e = .returned (.tuple #[.int .u64 (LG l n 10 0 0).1, .int .i64 (LG l n 10 0 0).2.1, .int .i64 (LG l n 10 0 0).2.2]) ∧ w = w' := by
  rcases Nat.eq_zero_or_pos n with h | h
  · subst h
    exact long_empty a c w
  · obtain ⟨b, off, rfl, _, _⟩ := hB.2.1 h
    by_cases h10 : (n : Int) < 10
    · exact long_short b off n c l _ _ _ _ ⟨rfl, rfl⟩ w hB h h10 (by omega) hmax
    · by_cases h10' : n = 10
      · subst h10'
        exact long_ten b off c l _ _ _ _ ⟨rfl, rfl⟩ w hB (by omega)
      · exact long_long b off n c l _ _ _ _ ⟨rfl, rfl⟩ w hB h (by omega) (by omega) hmax
end Go.Proofs.YtmkgldjocigffaaDoor

/- Short and Long, as lists; no Go in sight. -/
namespace Go.Proofs.YtmkgldjocigffaaDoor
open Go.RowKit

/-- the number of the m lowest groups. -/
def VAL (d : Nat → Nat) : Nat → Nat
  | 0 => 0
  | m + 1 => VAL d m + d m * 128 ^ m
theorem VAL_lt {d : Nat → Nat} (hd : ∀ i, d i < 128) : ∀ m, VAL d m < 128 ^ m
  | 0 => by simp [VAL]
  | m + 1 => by
    have := VAL_lt hd m
    have h2 : d m * 128 ^ m ≤ 127 * 128 ^ m := Nat.mul_le_mul_right _ (by have := hd m; omega)
    simp only [VAL, Nat.pow_succ]
    omega
theorem VAL_digit {d : Nat → Nat} (hd : ∀ i, d i < 128) : ∀ (m t i : Nat), i < m → (VAL d m + t * 128 ^ m) / 128 ^ i % 128 = d i
  | 0, _, _, h => by omega
  | m + 1, t, i, h => by
    have e : VAL d (m + 1) + t * 128 ^ (m + 1) = VAL d m + (d m + t * 128) * 128 ^ m := by
      simp only [VAL]
      rw [Nat.add_mul, Nat.pow_succ, Nat.mul_assoc, Nat.mul_comm 128, ← Nat.add_assoc]
    rw [e]
    by_cases hi : i = m
    · subst hi
      rw [Nat.add_mul_div_right _ _ (Nat.pow_pos (by decide)), Nat.div_eq_of_lt (VAL_lt hd i)]
      have := hd i
      omega
    · exact VAL_digit hd m _ i (by omega)
theorem VAL_top {d : Nat → Nat} (hd : ∀ i, d i < 128) (m t : Nat) : (VAL d m + t * 128 ^ m) / 128 ^ m = t := by
  rw [Nat.add_mul_div_right _ _ (Nat.pow_pos (by decide)), Nat.div_eq_of_lt (VAL_lt hd m), Nat.zero_add]
/-- the groups of a list. -/
def DIG (l : List Int) : Nat → Nat := fun i => (l.getD i 0 % 128).toNat
theorem DIG_lt (l : List Int) (i : Nat) : DIG l i < 128 := by unfold DIG; omega

theorem LG_run {l : List Int} {n : Nat} : ∀ (m f : Nat), (∀ i, i < m → 128 ≤ l.getD i 0) → (∀ i, i < m → i ≠ n) → LG l n (f + m) 0 0 = LG l n f m (VAL (DIG l) m : Nat)
  | 0, f, _, _ => rfl
  | m + 1, f, h, hn => by
    rw [show f + (m + 1) = f + 1 + m by omega, LG_run m (f + 1) (fun i hi => h i (by omega)) (fun i hi => hn i (by omega)), LG_more (hn m (by omega)) (h m (by omega))]
    congr 1
    simp only [VAL, DIG]
    rw [Int.natCast_add, Int.natCast_mul, Int.natCast_pow, Int.toNat_of_nonneg (by omega)]
    rfl
theorem LG_found {l : List Int} {n : Nat} : ∀ (f k : Nat) (x : Int), k ≤ n → (LG l n f k x).2.2 = 0 → ∃ m, k ≤ m ∧ m < k + f ∧ m < n ∧ (∀ i, k ≤ i → i < m → 128 ≤ l.getD i 0) ∧ ¬ 128 ≤ l.getD m 0 ∧ ¬ (m = 9 ∧ 1 < l.getD m 0) ∧ ¬ (l.getD m 0 = 0 ∧ 0 < m)
  | 0, k, x, _, h => by simp [LG] at h
  | f + 1, k, x, hkn, h => by
    by_cases h1 : k = n
    · rw [LG_end h1] at h
      simp at h
    · by_cases h2 : 128 ≤ l.getD k 0
      · rw [LG_more h1 h2] at h
        obtain ⟨m, a, b, c, d, e, g, i⟩ := LG_found f (k + 1) _ (by omega) h
        refine ⟨m, by omega, by omega, c, fun j hj1 hj2 => ?_, e, g, i⟩
        by_cases hj : j = k
        · rw [hj]; exact h2
        · exact d j (by omega) hj2
      · rw [LG_hit h1 h2] at h
        by_cases h3 : k = 9 ∧ 1 < l.getD k 0
        · rw [if_pos h3] at h
          simp at h
        · rw [if_neg h3] at h
          by_cases h4 : l.getD k 0 = 0 ∧ 0 < k
          · rw [if_pos h4] at h
            simp at h
          · exact ⟨k, Nat.le_refl _, by omega, by omega, fun j hj1 hj2 => by omega, h2, h3, h4⟩
theorem LG_at {l : List Int} {n m : Nat} (hm : m ≤ 9) (hmn : m < n) (h : ∀ i, i < m → 128 ≤ l.getD i 0) (h1 : ¬ 128 ≤ l.getD m 0) (h2 : ¬ (m = 9 ∧ 1 < l.getD m 0)) (h3 : ¬ (l.getD m 0 = 0 ∧ 0 < m)) :
    LG l n 10 0 0 = ((VAL (DIG l) m : Nat) + l.getD m 0 * 128 ^ m, (m : Int) + 1, 0) := by
  rw [show 10 = 9 - m + 1 + m by omega, LG_run m (9 - m + 1) h (fun i hi => by omega), LG_hit (by omega) h1, if_neg h2, if_neg h3]

theorem getD_left {a b : List Int} {i : Nat} (h : i < a.length) : (a ++ b).getD i 0 = a.getD i 0 := by
  rw [List.getD_eq_getElem?_getD, List.getElem?_append_left h, ← List.getD_eq_getElem?_getD]
theorem SHORT_get {X i : Nat} (h : i < NTOP X) : (SHORT X).getD i 0 = ((X / 128 ^ i % 128 + 128 : Nat) : Int) := by
  unfold SHORT
  rw [getD_left (by rw [GROUPS_length]; exact h), List.getD_eq_getElem?_getD]
  simp [GROUPS, h]
theorem SHORT_last (X : Nat) : (SHORT X).getD (NTOP X) 0 = ((X / 128 ^ NTOP X : Nat) : Int) := by
  unfold SHORT
  rw [List.getD_eq_getElem?_getD, List.getElem?_append_right (by rw [GROUPS_length]; exact Nat.le_refl _), GROUPS_length]
  simp
/-- what is read is written the same. -/
theorem LG_back {l : List Int} {n : Nat} (hl : l.length = n) (hr : ∀ i, 0 ≤ l.getD i 0 ∧ l.getD i 0 ≤ 255) (h : (LG l n 10 0 0).2.2 = 0) :
    ∃ Z m : Nat, Z < 2 ^ 64 ∧ m < n ∧ m ≤ 9 ∧ LG l n 10 0 0 = ((Z : Int), (m : Int) + 1, 0) ∧ NTOP Z = m ∧ SHORT Z = l.take (m + 1) := by
  obtain ⟨m, _, hm, hmn, hlow, h1, h2, h3⟩ := LG_found 10 0 0 (by omega) h
  have hlow' : ∀ i, i < m → 128 ≤ l.getD i 0 := fun i hi => hlow i (by omega) hi
  have hat := LG_at (show m ≤ 9 by omega) hmn hlow' h1 h2 h3
  obtain ⟨t, ht⟩ : ∃ t : Nat, l.getD m 0 = (t : Int) := ⟨(l.getD m 0).toNat, by have := hr m; omega⟩
  have hd := DIG_lt l
  have hvl := VAL_lt hd m
  obtain ⟨Z, hZ⟩ : ∃ Z : Nat, Z = VAL (DIG l) m + t * 128 ^ m := ⟨_, rfl⟩
  have hZ64 : Z < 2 ^ 64 := by
    by_cases h9 : m = 9
    · subst h9
      omega
    · have h8 := Nat.pow_le_pow_right (n := 128) (by decide) (show m ≤ 8 by omega)
      have h5 : t * 128 ^ m ≤ 127 * 128 ^ 8 := Nat.mul_le_mul (by omega) h8
      omega
  have htop : Z / 128 ^ m = t := by rw [hZ, VAL_top hd]
  have hdig : ∀ i, i < m → Z / 128 ^ i % 128 = DIG l i := fun i hi => by rw [hZ, VAL_digit hd m t i hi]
  have hN : NTOP Z = m := by
    refine NTOP_eq hZ64 (fun i hi => ?_) (by rw [htop]; omega)
    have ht1 : 1 ≤ t := by omega
    have h6 : Z / 128 ^ i / 128 ^ (m - i) = t := by rw [Nat.div_div_eq_div_mul, ← Nat.pow_add, show i + (m - i) = m by omega, htop]
    have h7 : 128 ^ (m - i) ≤ Z / 128 ^ i := by
      rcases Nat.lt_or_ge (Z / 128 ^ i) (128 ^ (m - i)) with h8 | h8
      · rw [Nat.div_eq_of_lt h8] at h6
        omega
      · exact h8
    have h8 := Nat.pow_le_pow_right (n := 128) (by decide) (show 1 ≤ m - i by omega)
    omega
  refine ⟨Z, m, hZ64, hmn, by omega, ?_, hN, ?_⟩
  · rw [hat, ht, hZ, Int.natCast_add, Int.natCast_mul, Int.natCast_pow]
    rfl
  · apply List.ext_getElem?
    intro i
    by_cases hi : i < m + 1
    · rw [List.getElem?_take_of_lt hi]
      have e1 : (SHORT Z)[i]? = some ((SHORT Z).getD i 0) := by
        rw [List.getD_eq_getElem?_getD, List.getElem?_eq_getElem (by rw [SHORT_length, hN]; exact hi)]
        rfl
      have e2 : l[i]? = some (l.getD i 0) := by
        rw [List.getD_eq_getElem?_getD, List.getElem?_eq_getElem (by omega)]
        rfl
      rw [e1, e2]
      congr 1
      by_cases him : i = m
      · subst him
        rw [← hN, SHORT_last, hN, htop, ht]
      · rw [SHORT_get (by omega), hdig i (by omega)]
        have := hlow' i (by omega)
        have := hr i
        unfold DIG
        omega
    · rw [List.getElem?_eq_none (by rw [SHORT_length, hN]; omega), List.getElem?_eq_none (by rw [List.length_take]; omega)]
end Go.Proofs.YtmkgldjocigffaaDoor

/- What the readers of package proof do with the bytes that are left: the mark, a number. -/
namespace Go.Proofs.YtmkgldjocigffaaDoor
open Go.RowKit
set_option maxRecDepth 100000

/-- s[k:], of bytes: what is behind. -/
theorem Bytes.rest {w : World} {b off n : Nat} {l : List Int} (h : Bytes w (some ⟨b, off, none⟩) n l) (k : Nat) (hk : k ≤ n) : Bytes w (some ⟨b, off + k, none⟩) (n - k) (l.drop k) := by
  refine ⟨by rw [List.length_drop, h.1], fun hn => ?_, fun x hx => h.2.2 x (List.mem_of_mem_drop hx)⟩
  obtain ⟨b', o', e, hl, hc⟩ := h.2.1 (by omega)
  simp only [Option.some.injEq, Addr.mk.injEq] at e
  obtain ⟨rfl, rfl, _⟩ := e
  refine ⟨b, off + k, rfl, hl, fun i hi => ?_⟩
  rw [show off + k + i = off + (k + i) by omega, hc (k + i) (by omega)]
  congr 2
  rw [List.getD_eq_getElem?_getD, List.getD_eq_getElem?_getD, List.getElem?_drop]
/-- where s[k:] begins: where no room is left, the address stays. -/
def REST (b off c k : Nat) : Option Addr := if c = k then some ⟨b, off, none⟩ else some ⟨b, off + k, none⟩
theorem Bytes.behind {w : World} {b off n c : Nat} {l : List Int} (h : Bytes w (some ⟨b, off, none⟩) n l) (k : Nat) (hk : k ≤ n) (hc : n ≤ c) : Bytes w (REST b off c k) (n - k) (l.drop k) := by
  unfold REST
  split
  · have h0 : n - k = 0 := by omega
    rw [h0]
    refine ⟨?_, fun h => by omega, fun x hx => h.2.2 x (List.mem_of_mem_drop hx)⟩
    rw [List.length_drop, h.1, h0]
  · exact h.rest k hk
end Go.Proofs.YtmkgldjocigffaaDoor

/- A list of hashes that is made, and filled node by node. -/
namespace Go.Proofs.YtmkgldjocigffaaDoor
open Go.RowKit
set_option maxRecDepth 100000

theorem info_hashz : (Tryd.prog.info? 60).map (fun i => (i.size, i.bytes, i.zero.isSome)) = some (32, 32, true) := by kernel_rfl
theorem make_hashes (N : Nat) (hN : N ≤ 1000) (w : World) : ∃ Z : List Value, Z.length = 32 * N ∧ (Instr.makeSlice 35 (.int .i64 (N : Int)) (.int .i64 (N : Int))).run Tryd.prog w = .ok (.slice (some ⟨w.heap.size, 0, none⟩) N N) (w.alloc (.cells Z.toArray 60)) := by
  obtain ⟨i, hi, h⟩ := Option.map_eq_some_iff.1 info_hashz
  simp only [Prod.mk.injEq] at h
  obtain ⟨h1, h2, h3⟩ := h
  obtain ⟨z, hz⟩ := Option.isSome_iff_exists.1 h3
  have h := run_make (P := Tryd.prog) w 35 60 i z Tryd.underlying35 hi hz .i64 .i64 N N (by omega) (by omega) (by rw [h2]; omega) (by omega)
  refine ⟨(madeCells z.cells (N * i.size)).toList, ?_, ?_⟩
  · rw [Array.length_toList, size_madeCells, h1]
    omega
  · simpa using h
/-- the first i nodes are there. -/
def PARTH (l : List Int) (Z : List Value) (i : Nat) : List Value := CELLS (l.take (32 * i)) ++ Z.drop (32 * i)
theorem PARTH_zero (l : List Int) (Z : List Value) : PARTH l Z 0 = Z := by simp [PARTH, CELLS]
theorem PARTH_all {l : List Int} {Z : List Value} {N : Nat} (hl : l.length = 32 * N) (hZ : Z.length = 32 * N) : PARTH l Z N = CELLS l := by
  unfold PARTH
  rw [List.take_of_length_le (by omega), List.drop_of_length_le (by omega), List.append_nil]
theorem PARTH_length {l : List Int} {Z : List Value} {N i : Nat} (hl : l.length = 32 * N) (hZ : Z.length = 32 * N) (hi : i ≤ N) : (PARTH l Z i).length = 32 * N := by
  unfold PARTH
  rw [List.length_append, List.length_drop, CELLS, List.length_map, List.length_take]
  omega
theorem PARTH_next {l : List Int} (Z : List Value) {N i : Nat} (hl : l.length = 32 * N) (hi : i < N) : splice (PARTH l Z i) (i * 32) (CELLS (HSH l i)) = PARTH l Z (i + 1) := by
  have h1 : (CELLS (l.take (32 * i))).length = i * 32 := by
    rw [CELLS, List.length_map, List.length_take]
    omega
  have h2 : (CELLS (HSH l i)).length = 32 := by
    rw [CELLS, List.length_map]
    exact HSH_length hl hi
  unfold splice PARTH
  rw [List.take_append_of_le_length (by omega), List.take_of_length_le (by omega), HSH_next, CELLS_append, h2, List.append_assoc]
  congr 2
  rw [List.drop_append, List.drop_of_length_le (by omega), List.nil_append, h1, List.drop_drop]
  congr 1
  omega
end Go.Proofs.YtmkgldjocigffaaDoor

/- What the readers of package proof do with the bytes that are left: the nodes. -/
namespace Go.Proofs.YtmkgldjocigffaaDoor
open Go.RowKit
set_option maxRecDepth 100000

end Go.Proofs.YtmkgldjocigffaaDoor

/- A number in front of bytes. -/
namespace Go.Proofs.YtmkgldjocigffaaDoor
open Go.RowKit

/-- a number in front of bytes: it, how many bytes it has, or what is wrong. -/
def LNG (t : List Int) : Int × Int × Int := LG t t.length 10 0 0
theorem LNG_back {t : List Int} (hr : ∀ x ∈ t, 0 ≤ x ∧ x ≤ 255) (h : (LNG t).2.2 = 0) : ∃ Z m : Nat, Z < 2 ^ 64 ∧ 1 ≤ m ∧ m ≤ t.length ∧ LNG t = ((Z : Int), (m : Int), 0) ∧ SHORT Z = t.take m := by
  have hr' : ∀ i, 0 ≤ t.getD i 0 ∧ t.getD i 0 ≤ 255 := fun i => by
    by_cases hi : i < t.length
    · rw [List.getD_eq_getElem?_getD, List.getElem?_eq_getElem hi]
      exact hr _ (List.getElem_mem hi)
    · rw [List.getD_eq_getElem?_getD, List.getElem?_eq_none (by omega)]
      simp
  obtain ⟨Z, m, h1, h2, h3, h4, h5, h6⟩ := LG_back (l := t) rfl hr' h
  exact ⟨Z, m + 1, h1, by omega, by omega, by unfold LNG; rw [h4]; simp, h6⟩
end Go.Proofs.YtmkgldjocigffaaDoor

/- What Decode and DecodePrefix answer, of any bytes. -/
namespace Go.Proofs.YtmkgldjocigffaaDoor
open Go.RowKit

end Go.Proofs.YtmkgldjocigffaaDoor

/- There and back: what Encode writes is what Decode reads, and the other way round. -/
namespace Go.Proofs.YtmkgldjocigffaaDoor
open Go.RowKit

end Go.Proofs.YtmkgldjocigffaaDoor

/- What the document's Span answers. -/
namespace Go.Proofs.YtmkgldjocigffaaDoor
open Go.RowKit

end Go.Proofs.YtmkgldjocigffaaDoor

/- What the document's Places and PrefixPlaces answer; two lists of numbers that read the same or not. -/
namespace Go.Proofs.YtmkgldjocigffaaDoor
open Go.RowKit
set_option maxRecDepth 100000

end Go.Proofs.YtmkgldjocigffaaDoor
