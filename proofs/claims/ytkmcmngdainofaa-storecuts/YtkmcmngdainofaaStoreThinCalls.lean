/- What chunk.thin calls: rows in which nothing lives, slices.IndexFunc of them; below. -/
import Derived.Test.YtkmcmngdainofaaStoreRowThin
namespace Go.Proofs.Ytkmcmngdainofaa
open Go.RowKit
set_option maxRecDepth 100000

/-- a row in which nothing lives. -/
theorem gone_ok (x lv : Nat) (a : Option Addr) (n c : Nat) (w : World) : Calls Try.prog 38 #[.agg #[.int .u64 (x : Int), .int .u64 (lv : Int), .slice a n c]] w fun e w' => e = .returned (.bool (decide (lv = 0))) ∧ Below w.heap.size w w' := by
  obtain ⟨d, hd⟩ : ∃ d, decide (lv = 0) = d := ⟨_, rfl⟩
  have hd2 : ((lv : Int) == 0) = d := by rw [← hd]; by_cases h : lv = 0 <;> simp [h]
  rw [hd]
  clear hd
  go_enter Try.func38, Try.ntmps38
  go_wp2
  go_ret
  exact ⟨rfl, (Below.refl _ _).alloc (Nat.le_refl _) _⟩
/-- the first row in which nothing lives. -/
def INDEXED (rs : List RW) (w : World) (e : Ending) (w' : World) : Prop := Below w.heap.size w w' ∧ ((∃ (i : Nat) (r : RW), e = .returned (.int .i64 (i : Int)) ∧ rs[i]? = some r ∧ r.live = 0 ∧ ∀ (k : Nat) (s : RW), k < i → rs[k]? = some s → s.live ≠ 0) ∨ (e = .returned (.int .i64 (-1)) ∧ ∀ (k : Nat) (s : RW), rs[k]? = some s → s.live ≠ 0))
set_option maxHeartbeats 1000000 in
theorem indexgone_ok (a : Option Addr) (n cap : Nat) (rs : List RW) (hl : rs.length = n) (hn : n < 2 ^ 40) (w : World) (hL : RowsLie w a rs) : Calls Try.prog 48 #[.slice a n cap, .func (.func 38) #[] #[]] w fun e w' => INDEXED rs w e w' := by
  have H : Aside (rs.length = n ∧ n < 2 ^ 40 ∧ RowsLie w a rs) := ⟨hl, hn, hL⟩
  clear hl hn hL
  go_enter Try.func48, Try.ntmps48
  go_wp2
  go_loopg [8] n (fun gg s8 wx => ∃ i : Nat, i + gg = n ∧ s8 = .int .i64 (i : Int) ∧ Aside ((∀ (k : Nat) (s : RW), k < i → rs[k]? = some s → s.live ≠ 0) ∧ Below w.heap.size w wx))
  case atStart => exact ⟨0, by omega, rfl, fun k s h => by omega, Below.refl _ _⟩
  case round =>
    obtain ⟨i, hi, rfl, Z⟩ := hrel
    cases gk with
    | zero =>
      obtain rfl : i = n := by omega
      have hlt : ¬ (i : Int) < (i : Int) := by omega
      go_wp2
      go_ret
      exact ⟨Z.out.2, .inr ⟨rfl, fun k s hs => Z.out.1 k s (by have := (List.getElem?_eq_some_iff.1 hs).1; have := H.out.1; omega) hs⟩⟩
    | succ gg =>
      have hlt : (i : Int) < (n : Int) := by omega
      have hi1 : wrap64 ((i : Int) + 1) = ((i + 1 : Nat) : Int) := by have := H.out.2.1; unfold wrap64; omega
      obtain ⟨h1, h2, h4⟩ := H.out
      obtain ⟨r, er⟩ : ∃ r, rs[i]? = some r := ⟨_, List.getElem?_eq_getElem (by omega)⟩
      obtain ⟨g, o, rfl, hg, hc⟩ := h4 (by omega)
      obtain ⟨y0, y1, y2⟩ := hc i r er
      have i5 := Z.out.2
      have x0 := (i5.cell (p := ⟨g, o + i * 3, none⟩) hg).trans y0
      have x1 := (i5.cell (p := ⟨g, o + i * 3 + 1, none⟩) hg).trans y1
      have x2 := (i5.cell (p := ⟨g, o + i * 3 + 2, none⟩) hg).trans y2
      have cc := gone_ok r.num r.live r.a r.n r.c
      have R : Aside (rs[i]? = some r ∧ (∀ (k : Nat) (s : RW), k < i → rs[k]? = some s → s.live ≠ 0) ∧ Below w.heap.size w wr ∧ i + 1 + gg = n) := ⟨er, Z.out.1, i5, by omega⟩
      clear h1 h2 h4 y0 y1 y2 hc er i5 Z
      by_cases hz : r.live = 0
      · rw [decide_eq_true hz] at cc
        have HZ : Aside (r.live = 0) := hz
        clear hz
        go_wp2_with fail
        refine (cc _).mono ?_
        rintro e w2 ⟨rfl, hb⟩
        have R2 : Aside (Below w.heap.size w w2) := R.out.2.2.1.trans (hb.mono R.out.2.2.1.size)
        clear hb cc
        go_wp2
        go_ret
        exact ⟨R2.out, .inl ⟨i, r, rfl, R.out.1, HZ.out, R.out.2.1⟩⟩
      · rw [decide_eq_false hz] at cc
        have HZ : Aside (r.live ≠ 0) := hz
        clear hz
        go_wp2_with fail
        refine (cc _).mono ?_
        rintro e w2 ⟨rfl, hb⟩
        have R2 : Aside (Below w.heap.size w w2) := R.out.2.2.1.trans (hb.mono R.out.2.2.1.size)
        clear hb cc
        go_wp2
        go_roundg gg
        case measure => omega
        case rel =>
          refine ⟨i + 1, R.out.2.2.2, by first | rfl | (rw [hi1]), fun k s hk hs => ?_, R2.out⟩
          by_cases e : k = i
          · subst e
            rw [R.out.1] at hs
            cases hs
            exact HZ.out
          · exact R.out.2.1 k s (by omega) hs
/-- the bits of a row's places that are below n. -/
def BLW (n row : Nat) : Nat := if row < n / 64 then 2 ^ 64 - 1 else if n / 64 < row then 0 else 2 ^ (n % 64) - 1
theorem BLW_lt (n row : Nat) : BLW n row < 2 ^ 64 := by
  unfold BLW
  split
  · decide
  · split
    · decide
    · have : 2 ^ (n % 64) ≤ 2 ^ 63 := Nat.pow_le_pow_right (by decide) (by omega)
      have : (2 : Nat) ^ 63 < 2 ^ 64 := by decide
      omega
theorem BLW_bit {n row k : Nat} (hk : k < 64) : (BLW n row).testBit k = decide (row * 64 + k < n) := by
  unfold BLW
  split
  · rw [Nat.testBit_two_pow_sub_one]
    simp [hk]
    omega
  · split
    · rw [Nat.zero_testBit]
      simp
      omega
    · rw [Nat.testBit_two_pow_sub_one]
      have : row = n / 64 := by omega
      subst this
      simp
      omega
theorem below_ok (n row : Nat) (hn : n < 2 ^ 64) (w : World) : Calls Try.prog 25 #[.int .u64 (n : Int), .int .u64 (row : Int)] w fun e w' => e = .returned (.int .u64 (BLW n row : Int)) ∧ w = w' := by
  have c1 := rowof_ok n w
  have c2 := compare_ok row (n / 64) w
  have c3 := bitof_ok n hn w
  unfold CMP at c2
  unfold BLW
  by_cases h1 : row < n / 64
  · rw [if_pos h1] at c2
    rw [if_pos h1]
    clear h1 c3
    go_enter Try.func25, Try.ntmps25
    go_wp2_with (first
      | (refine c1.mono ?_; rintro e w' ⟨rfl, rfl⟩)
      | (refine c2.mono ?_; rintro e w' ⟨rfl, rfl⟩)
      | fail)
    go_ret
    exact ⟨rfl, rfl⟩
  · by_cases h2 : n / 64 < row
    · rw [if_neg h1, if_pos h2] at c2
      rw [if_neg h1, if_pos h2]
      clear h1 h2 c3
      go_enter Try.func25, Try.ntmps25
      go_wp2_with (first
        | (refine c1.mono ?_; rintro e w' ⟨rfl, rfl⟩)
        | (refine c2.mono ?_; rintro e w' ⟨rfl, rfl⟩)
        | fail)
      go_ret
      exact ⟨rfl, rfl⟩
    · rw [if_neg h1, if_neg h2] at c2
      rw [if_neg h1, if_neg h2]
      have hp := Nat.two_pow_pos (n % 64)
      have hp2 : 2 ^ (n % 64) < 2 ^ 64 := Nat.pow_lt_pow_right (by decide) (by omega)
      have e1 : IntKind.u64.wrap (((2 ^ (n % 64) : Nat) : Int) - 1) = ((2 ^ (n % 64) - 1 : Nat) : Int) := wrap_nat (by omega) (by omega)
      clear h1 h2 hp hp2
      generalize 2 ^ (n % 64) = bx at *
      go_enter Try.func25, Try.ntmps25
      go_wp2_with (first
        | (refine c1.mono ?_; rintro e w' ⟨rfl, rfl⟩)
        | (refine c2.mono ?_; rintro e w' ⟨rfl, rfl⟩)
        | (refine c3.mono ?_; rintro e w' ⟨rfl, rfl⟩)
        | fail)
      go_ret
      exact ⟨by first | rfl | (rw [e1]; rfl), rfl⟩
end Go.Proofs.Ytkmcmngdainofaa
