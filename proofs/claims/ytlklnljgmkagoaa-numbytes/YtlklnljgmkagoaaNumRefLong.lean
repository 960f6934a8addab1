/- What the document's Long gives. -/
import Derived.Test.YtlklnljgmkagoaaNumRefBytes
namespace Go.Proofs.Ytlklnljgmkagoaa
open Go.RowKit

theorem reflong_empty (a : Option Addr) (c : Nat) (w : World) : Calls Try.prog 37 #[.slice a 0 c] w fun e w' => e = .returned (.tuple #[.int .u64 0, .int .i64 0, .int .i64 11]) ∧ w = w' := by
  go_enter Try.func37, Try.ntmps37
  go_wp2
  refine wp_loop_rounds 1 ?_
  rw [rounds_succ]
  go_wp2
  go_ret3
  exact ⟨rfl, rfl⟩
/-- the groups from j on, put together from the highest one down. -/
def Tops (d : Nat → Nat) (j : Nat) (x : Int) (V : Nat) : Prop := ∃ y : Nat, x = (y : Int) ∧ VAL d j + y * 128 ^ j = V
theorem Tops.down {d : Nat → Nat} {j V : Nat} {x v : Int} (A : Tops d (j + 1) x V) (hV : V < 2 ^ 64) (hv : (v % 128).toNat = d j) : Tops d j (IntKind.u64.wrap (IntKind.u64.wrap (128 * x) + v % 128)) V := by
  obtain ⟨y, rfl, hy⟩ := A
  have e : VAL d j + (128 * y + d j) * 128 ^ j = V := by
    rw [← hy, VAL, Nat.add_mul, Nat.pow_succ, Nat.mul_comm 128 y, Nat.mul_assoc, Nat.mul_comm 128 (128 ^ j)]
    omega
  have hl : 128 * y + d j ≤ V := by
    have h1 : (128 * y + d j) * 1 ≤ (128 * y + d j) * 128 ^ j := Nat.mul_le_mul_left _ (Nat.pow_pos (by decide))
    omega
  refine ⟨128 * y + d j, ?_, e⟩
  rw [wrapU, wrapU, ← hv]
  omega

theorem LG_all {l : List Int} {n : Nat} (hn : 10 ≤ n) (h : ∀ i, i < 10 → 128 ≤ l.getD i 0) : LG l n 10 0 0 = (0, 0, 10) := by
  have := LG_run 10 0 h (fun i hi => by omega) (n := n)
  simpa [LG] using this
theorem LG_cutoff {l : List Int} {n : Nat} (hn : n < 10) (h : ∀ i, i < n → 128 ≤ l.getD i 0) : LG l n 10 0 0 = (0, 0, 11) := by
  have := LG_run n (9 - n + 1) h (fun i hi => by omega) (n := n)
  rw [show 9 - n + 1 + n = 10 by omega, LG_end rfl] at this
  exact this
theorem LG_stop {l : List Int} {n m : Nat} (hm : m ≤ 9) (hmn : m < n) (h : ∀ i, i < m → 128 ≤ l.getD i 0) (h1 : ¬ 128 ≤ l.getD m 0) :
    LG l n 10 0 0 = if m = 9 ∧ 1 < l.getD m 0 then (0, 0, 10) else if l.getD m 0 = 0 ∧ 0 < m then (0, 0, 12) else ((VAL (DIG l) m : Nat) + l.getD m 0 * 128 ^ m, (m : Int) + 1, 0) := by
  rw [show 10 = 9 - m + 1 + m by omega, LG_run m (9 - m + 1) h (fun i hi => by omega), LG_hit (by omega) h1]

theorem ok_val {l : List Int} {k : Nat} {v r1 : Int} (hr : ∀ i, 0 ≤ l.getD i 0 ∧ l.getD i 0 ≤ 255) (hv : l.getD k 0 = v) (hk : k ≤ 9) (h1 : v < 128) (h9 : k = 9 → v ≤ 1) (he : r1 = (VAL (DIG l) k : Nat) + v * 128 ^ k) :
    Tops (DIG l) (k + 1) 0 (VAL (DIG l) (k + 1)) ∧ VAL (DIG l) (k + 1) < 2 ^ 64 ∧ r1 = ((VAL (DIG l) (k + 1) : Nat) : Int) := by
  have hd : ((DIG l k : Nat) : Int) = v := by
    have := hr k
    unfold DIG
    rw [hv] at this ⊢
    omega
  have hvl := VAL_lt (DIG_lt l) k
  refine ⟨⟨0, rfl, by simp⟩, ?_, ?_⟩
  · rw [VAL]
    by_cases h : k = 9
    · subst h
      have := h9 rfl
      have hd1 : DIG l 9 ≤ 1 := by omega
      have h3 : DIG l 9 * 128 ^ 9 ≤ 1 * 128 ^ 9 := Nat.mul_le_mul_right _ hd1
      omega
    · have h8 := Nat.pow_le_pow_right (n := 128) (by decide) (show k ≤ 8 by omega)
      have h5 : DIG l k * 128 ^ k ≤ 127 * 128 ^ 8 := Nat.mul_le_mul (by have := DIG_lt l k; omega) h8
      omega
  · rw [he, VAL, Int.natCast_add, Int.natCast_mul, Int.natCast_pow, hd]
    rfl

set_option maxHeartbeats 4000000 in
theorem reflong_raw (b off n c : Nat) (l : List Int) (r1 r2 r3 : Int) (hR : Aside (LG l n 10 0 0 = (r1, r2, r3))) (w : World) (hB : Bytes w (some ⟨b, off, none⟩) n l) (h0 : 0 < n) (hmax : n ≤ 140737488355328) :
    Calls Try.prog 37 #[.slice (some ⟨b, off, none⟩) n c] w fun e w' => e = .returned (.tuple #[.int .u64 r1, .int .i64 r2, .int .i64 r3]) ∧ w = w' := by
  obtain ⟨b', off', e, _, hc0⟩ := hB.2.1 h0
  simp only [Option.some.injEq, Addr.mk.injEq] at e
  obtain ⟨rfl, rfl, _⟩ := e
  have HC : Aside ((∀ i, i < n → w.cell? ⟨b, off + i, none⟩ = some (.int .u8 (l.getD i 0))) ∧ ∀ i, 0 ≤ l.getD i 0 ∧ l.getD i 0 ≤ 255) := ⟨hc0, hB.get⟩
  clear hB hc0
  go_enter Try.func37, Try.ntmps37
  go_wp2
  go_loop [5] (fun s5 => ∃ k : Nat, k ≤ n ∧ k ≤ 10 ∧ Aside (∀ i, i < k → 128 ≤ l.getD i 0) ∧ s5 = .int .i64 k) (fun i => 10 - (intOf i).toNat)
  case atStart => exact ⟨0, by omega, by omega, fun i hi => by omega, rfl⟩
  case round =>
    obtain ⟨k, hkn, hk10, A, rfl⟩ := hrel
    by_cases hlt : (k : Int) < (n : Int)
    · by_cases h10 : (k : Int) < 10
      · have hc := HC.out.1 k (by omega)
        have hcb := HC.out.2 k
        generalize hv : l.getD k 0 = v at hc hcb
        have Hv : Aside (l.getD k 0 = v) := hv
        clear hv
        have hv0 := hcb.1
        have hv1 := hcb.2
        clear hcb
        by_cases h128 : 128 ≤ v
        · go_wp2
          go_round
          case rel =>
            refine ⟨k + 1, by omega, by omega, fun i hi => ?_, by go_num⟩
            by_cases e : i = k
            · rw [e, Hv.out]; exact h128
            · exact A.out i (by omega)
          case measure => first | (simp [intOf]; done) | (simp [intOf]; omega)
        · have hst := LG_stop (l := l) (n := n) (m := k) (by omega) (by omega) A.out (by rw [Hv.out]; exact h128)
          rw [Hv.out, hR.out] at hst
          have hk10' : ((k : Int) == 10) = false := by simp; omega
          have hkn' : ((k : Int) == (n : Int)) = false := by simp; omega
          by_cases h9 : k = 9
          · subst h9
            by_cases hr : 1 < v
            · rw [if_pos ⟨rfl, hr⟩] at hst
              simp only [Prod.mk.injEq] at hst
              obtain ⟨rfl, rfl, rfl⟩ := hst
              clear A
              go_wp2
              go_ret3
              exact ⟨rfl, rfl⟩
            · rw [if_neg (fun h => hr h.2)] at hst
              by_cases hz : v = 0
              · subst hz
                rw [if_pos ⟨rfl, by decide⟩] at hst
                simp only [Prod.mk.injEq] at hst
                obtain ⟨rfl, rfl, rfl⟩ := hst
                clear A
                go_wp2
                go_ret3
                exact ⟨rfl, rfl⟩
              · rw [if_neg (fun h => hz h.1)] at hst
                simp only [Prod.mk.injEq] at hst
                have hvb : (v == 0) = false := by simp [hz]
                clear hz
                have HV : Aside (Tops (DIG l) (9 + 1) 0 (VAL (DIG l) (9 + 1)) ∧ VAL (DIG l) (9 + 1) < 2 ^ 64 ∧ r1 = ((VAL (DIG l) (9 + 1) : Nat) : Int)) := ok_val (HC.out.2) Hv.out (by omega) (by omega) (by omega) hst.1
                obtain ⟨_, rfl, rfl⟩ := hst
                clear A
                go_wp2
                go_loop [6, 7] (fun s6 s7 => ∃ (j : Nat) (x : Int), j ≤ 9 + 1 ∧ Aside (Tops (DIG l) j x (VAL (DIG l) (9 + 1))) ∧ s6 = .int .u64 x ∧ s7 = .int .i64 ((j : Int) - 1)) (fun _ s => (intOf s + 1).toNat)
                case atStart => exact ⟨9 + 1, 0, Nat.le_refl _, HV.out.1, rfl, by first | rfl | go_num⟩
                case round =>
                  obtain ⟨j, x, hj, B, rfl, rfl⟩ := hrel
                  cases j with
                  | zero =>
                    obtain rfl : x = r1 := by
                      obtain ⟨y, rfl, hy⟩ := B.out
                      rw [HV.out.2.2, ← hy]
                      simp [VAL]
                    clear B HV
                    go_wp2
                    go_ret3
                    exact ⟨rfl, rfl⟩
                  | succ i =>
                    have hi1 : ((i + 1 : Nat) : Int) - 1 = (i : Int) := by omega
                    rw [hi1]
                    have hi0 : (0 : Int) ≤ (i : Int) := by omega
                    have hin : (i : Int) < (n : Int) := by omega
                    have hci := HC.out.1 i (by omega)
                    have hcbi := HC.out.2 i
                    generalize hvi : l.getD i 0 = u at hci hcbi
                    have Hu : Aside (l.getD i 0 = u) := hvi
                    clear hvi hi1
                    have hu0 := hcbi.1
                    have hu1 := hcbi.2
                    clear hcbi
                    go_wp2
                    go_round
                    case rel => exact ⟨i, _, by omega, B.out.down HV.out.2.1 (by unfold DIG; rw [Hu.out]), rfl, by go_num⟩
                    case measure => first | (simp [intOf]; done) | (simp [intOf]; omega)
          · rw [if_neg (fun h => h9 h.1)] at hst
            have h9' : ((k : Int) == 9) = false := by simp; omega
            by_cases hk0 : k = 0
            · subst hk0
              rw [if_neg (fun h => by omega)] at hst
              rw [Nat.add_zero] at hc
              simp only [Prod.mk.injEq] at hst
              have HV : Aside (Tops (DIG l) (0 + 1) 0 (VAL (DIG l) (0 + 1)) ∧ VAL (DIG l) (0 + 1) < 2 ^ 64 ∧ r1 = ((VAL (DIG l) (0 + 1) : Nat) : Int)) := ok_val (HC.out.2) Hv.out (by omega) (by omega) (by omega) hst.1
              obtain ⟨_, rfl, rfl⟩ := hst
              clear A
              go_wp2
              go_loop [6, 7] (fun s6 s7 => ∃ (j : Nat) (x : Int), j ≤ 0 + 1 ∧ Aside (Tops (DIG l) j x (VAL (DIG l) (0 + 1))) ∧ s6 = .int .u64 x ∧ s7 = .int .i64 ((j : Int) - 1)) (fun _ s => (intOf s + 1).toNat)
              case atStart => exact ⟨0 + 1, 0, Nat.le_refl _, HV.out.1, rfl, by first | rfl | go_num⟩
              case round =>
                obtain ⟨j, x, hj, B, rfl, rfl⟩ := hrel
                cases j with
                | zero =>
                  obtain rfl : x = r1 := by
                    obtain ⟨y, rfl, hy⟩ := B.out
                    rw [HV.out.2.2, ← hy]
                    simp [VAL]
                  clear B HV
                  go_wp2
                  go_ret3
                  exact ⟨rfl, rfl⟩
                | succ i =>
                  have hi1 : ((i + 1 : Nat) : Int) - 1 = (i : Int) := by omega
                  rw [hi1]
                  have hi0 : (0 : Int) ≤ (i : Int) := by omega
                  have hin : (i : Int) < (n : Int) := by omega
                  have hci := HC.out.1 i (by omega)
                  have hcbi := HC.out.2 i
                  generalize hvi : l.getD i 0 = u at hci hcbi
                  have Hu : Aside (l.getD i 0 = u) := hvi
                  clear hvi hi1
                  have hu0 := hcbi.1
                  have hu1 := hcbi.2
                  clear hcbi
                  go_wp2
                  go_round
                  case rel => exact ⟨i, _, by omega, B.out.down HV.out.2.1 (by unfold DIG; rw [Hu.out]), rfl, by go_num⟩
                  case measure => first | (simp [intOf]; done) | (simp [intOf]; omega)
            · have hkp : 0 < (k : Int) := by omega
              by_cases hz : v = 0
              · subst hz
                rw [if_pos ⟨rfl, by omega⟩] at hst
                simp only [Prod.mk.injEq] at hst
                obtain ⟨rfl, rfl, rfl⟩ := hst
                clear A
                go_wp2
                go_ret3
                exact ⟨rfl, rfl⟩
              · rw [if_neg (fun h => hz h.1)] at hst
                simp only [Prod.mk.injEq] at hst
                have hvb : (v == 0) = false := by simp [hz]
                clear hz
                have HV : Aside (Tops (DIG l) (k + 1) 0 (VAL (DIG l) (k + 1)) ∧ VAL (DIG l) (k + 1) < 2 ^ 64 ∧ r1 = ((VAL (DIG l) (k + 1) : Nat) : Int)) := ok_val (HC.out.2) Hv.out (by omega) (by omega) (by omega) hst.1
                obtain ⟨_, rfl, rfl⟩ := hst
                clear A
                go_wp2
                go_loop [6, 7] (fun s6 s7 => ∃ (j : Nat) (x : Int), j ≤ k + 1 ∧ Aside (Tops (DIG l) j x (VAL (DIG l) (k + 1))) ∧ s6 = .int .u64 x ∧ s7 = .int .i64 ((j : Int) - 1)) (fun _ s => (intOf s + 1).toNat)
                case atStart => exact ⟨k + 1, 0, Nat.le_refl _, HV.out.1, rfl, by first | rfl | go_num⟩
                case round =>
                  obtain ⟨j, x, hj, B, rfl, rfl⟩ := hrel
                  cases j with
                  | zero =>
                    obtain rfl : x = r1 := by
                      obtain ⟨y, rfl, hy⟩ := B.out
                      rw [HV.out.2.2, ← hy]
                      simp [VAL]
                    clear B HV
                    go_wp2
                    go_ret3
                    exact ⟨rfl, rfl⟩
                  | succ i =>
                    have hi1 : ((i + 1 : Nat) : Int) - 1 = (i : Int) := by omega
                    rw [hi1]
                    have hi0 : (0 : Int) ≤ (i : Int) := by omega
                    have hin : (i : Int) < (n : Int) := by omega
                    have hci := HC.out.1 i (by omega)
                    have hcbi := HC.out.2 i
                    generalize hvi : l.getD i 0 = u at hci hcbi
                    have Hu : Aside (l.getD i 0 = u) := hvi
                    clear hvi hi1
                    have hu0 := hcbi.1
                    have hu1 := hcbi.2
                    clear hcbi
                    go_wp2
                    go_round
                    case rel => exact ⟨i, _, by omega, B.out.down HV.out.2.1 (by unfold DIG; rw [Hu.out]), rfl, by go_num⟩
                    case measure => first | (simp [intOf]; done) | (simp [intOf]; omega)
      · obtain rfl : k = 10 := by omega
        have hall := LG_all (n := n) (by omega) A.out
        rw [hR.out] at hall
        simp only [Prod.mk.injEq] at hall
        obtain ⟨rfl, rfl, rfl⟩ := hall
        clear A
        go_wp2
        go_ret3
        exact ⟨rfl, rfl⟩
    · obtain rfl : k = n := by omega
      by_cases h10 : k = 10
      · subst h10
        have hall := LG_all (n := 10) (by omega) A.out
        rw [hR.out] at hall
        simp only [Prod.mk.injEq] at hall
        obtain ⟨rfl, rfl, rfl⟩ := hall
        clear A
        go_wp2
        go_ret3
        exact ⟨rfl, rfl⟩
      · have hall := LG_cutoff (l := l) (n := k) (by omega) A.out
        rw [hR.out] at hall
        simp only [Prod.mk.injEq] at hall
        obtain ⟨rfl, rfl, rfl⟩ := hall
        have hk10' : ((k : Int) == 10) = false := by simp; omega
        clear A
        go_wp2
        go_ret3
        exact ⟨rfl, rfl⟩
theorem reflong_ok (a : Option Addr) (n c : Nat) (l : List Int) (w : World) (hB : Bytes w a n l) (hmax : n ≤ 140737488355328) :
    Calls Try.prog 37 #[.slice a n c] w fun e w' => e = .returned (.tuple #[.int .u64 (LG l n 10 0 0).1, .int .i64 (LG l n 10 0 0).2.1, .int .i64 (LG l n 10 0 0).2.2]) ∧ w = w' := by
  rcases Nat.eq_zero_or_pos n with h | h
  · subst h
    exact reflong_empty a c w
  · obtain ⟨b, off, rfl, _, _⟩ := hB.2.1 h
    exact reflong_raw b off n c l _ _ _ rfl w hB h hmax
end Go.Proofs.Ytlklnljgmkagoaa
