/- What the document's Big, FromBig, Short and Long give. -/
import Derived.Test.YtlklnljgmkagoaaNumLongPlain
namespace Go.Proofs.Ytlklnljgmkagoaa
open Go.RowKit

theorem refbig_arg (x n : Int) (h : n < 0 ∨ 8 < n) (w : World) : Calls Try.prog 32 #[.int .u64 x, .int .i64 n] w fun e w' => e = .returned (.tuple #[.slice none 0 0, .int .i64 1]) ∧ w = w' := by
  by_cases h1 : n < 0
  · clear h
    go_enter Try.func32, Try.ntmps32
    go_wp2
    go_ret2
    exact ⟨rfl, rfl⟩
  · have h2 : 8 < n := by omega
    clear h
    go_enter Try.func32, Try.ntmps32
    go_wp2
    go_ret2
    exact ⟨rfl, rfl⟩
theorem pow8 (t : Nat) : (2 : Nat) ^ (8 * t) = 256 ^ t := by rw [Nat.pow_mul]
/-- an array that is filled from its end on. -/
theorem bback_put {X n t i : Nat} {f : Nat → Int} {v : Int} (A : ∀ j, j < n → f j = if n - t ≤ j then BYTE X n j else 0) (hi : i + t + 1 = n) (hv : v = ((X / 256 ^ t % 256 : Nat) : Int)) :
    ∀ j, j < n → (if j = i then v else f j) = if n - (t + 1) ≤ j then BYTE X n j else 0 := fun j hj => by
  by_cases e : j = i
  · subst e
    rw [if_pos rfl, if_pos (by omega), hv]
    unfold BYTE
    rw [show n - 1 - j = t by omega, pow8]
  · rw [if_neg e, A j hj]
    by_cases e2 : n - t ≤ j
    · rw [if_pos e2, if_pos (by omega)]
    · rw [if_neg e2, if_neg (by omega)]
theorem refbig_any (X n : Nat) (hX : X < 2 ^ 64) (hn : (n : Int) ≤ 8) (r : Value) (e0 : Int) (w : World) (hr : Aside (∀ w0 : World, w0 = w → (X / 2 ^ (8 * n) = 0 → r = .slice (some ⟨w0.heap.size, 0, none⟩) n n ∧ e0 = 0) ∧ (X / 2 ^ (8 * n) ≠ 0 → r = .slice none 0 0 ∧ e0 = 10))) :
    Calls Try.prog 32 #[.int .u64 (X : Int), .int .i64 (n : Int)] w fun e w' => e = .returned (.tuple #[r, .int .i64 e0]) ∧ w.alloc (.cells (BARR n (BYTE X n)) 5) = w' := by
  have hmk := make_bytes n (by omega)
  have HX : Aside (X < 2 ^ 64) := hX
  clear hX
  go_enter Try.func32, Try.ntmps32
  go_wp2
  go_loopg [0, 7] n (fun g s0 s7 wx => ∃ (t x : Nat) (f : Nat → Int), t + g = n ∧ Aside (x = X / 256 ^ t ∧ ∀ j, j < n → f j = if n - t ≤ j then BYTE X n j else 0) ∧ s0 = .int .u64 (x : Int) ∧ s7 = .int .i64 ((n : Int) - 1 - (t : Int)) ∧ wx = w.alloc (.cells (BARR n f) 5))
  case atStart => exact ⟨0, X, fun _ => 0, by omega, ⟨by simp, fun j hj => by rw [if_neg (by omega)]⟩, rfl, by simp, rfl⟩
  case round =>
    obtain ⟨t, x, f, htg, A, rfl, rfl, rfl⟩ := hrel
    cases gk with
    | zero =>
      obtain rfl : t = n := by omega
      have hf : BARR t f = BARR t (BYTE X t) := BARR_ext fun j hj => by rw [A.out.2 j hj, if_pos (by omega)]
      rw [hf]
      have hx : x = X / 2 ^ (8 * t) := by rw [pow8]; exact A.out.1
      have hm1 : ¬ (0 : Int) ≤ (t : Int) - 1 - (t : Int) := by omega
      clear hf A
      by_cases h0 : X / 2 ^ (8 * t) = 0
      · have hx0 : ¬ (0 : Int) < (x : Int) := by omega
        obtain ⟨rfl, rfl⟩ := (hr.out w rfl).1 h0
        clear h0 hx
        go_wp2
        go_ret2
        exact ⟨rfl, rfl⟩
      · have hx0 : (0 : Int) < (x : Int) := by omega
        obtain ⟨rfl, rfl⟩ := (hr.out w rfl).2 h0
        clear h0 hx
        go_wp2
        go_ret2
        exact ⟨rfl, rfl⟩
    | succ g =>
      obtain ⟨i, hi⟩ : ∃ i : Nat, i + t + 1 = n := ⟨n - 1 - t, by omega⟩
      have hit : (n : Int) - 1 - (t : Int) = (i : Int) := by omega
      rw [hit]
      have hi0 : (0 : Int) ≤ (i : Int) := by omega
      have hin : (i : Int) < (n : Int) := by omega
      have hc : (BARR n f)[i]? = some (.int .u8 (f i)) := BARR_get n f i (by omega)
      have hs : ∀ v, (BARR n f).setIfInBounds i (.int .u8 v) = BARR n (fun j => if j = i then v else f j) := fun v => BARR_set n f i v
      have HI : Aside (i + t + 1 = n) := hi
      have hxl : Aside (x < 2 ^ 64) := by
        have := Nat.div_le_self X (256 ^ t)
        have h1 := A.out.1
        have h2 := HX.out
        show x < 2 ^ 64
        omega
      clear hit hi
      go_wp2
      go_roundg g
      case measure => omega
      case rel =>
        have hi := HI.out
        refine ⟨t + 1, x / 256, _, by omega, ⟨by rw [A.out.1, Nat.div_div_eq_div_mul, ← Nat.pow_succ], bback_put A.out.2 hi ?_⟩, by have := hxl.out; rw [show IntKind.u64.wrap ((x : Int) / 256) = ((x / 256 : Nat) : Int) by rw [wrapU]; omega], by go_num, rfl⟩
        rw [← A.out.1]
        simp

theorem reffrombig_long (a : Option Addr) (n c : Nat) (hn : 8 < (n : Int)) (w : World) : Calls Try.prog 35 #[.slice a n c] w fun e w' => e = .returned (.tuple #[.int .u64 0, .int .i64 2]) ∧ w = w' := by
  go_enter Try.func35, Try.ntmps35
  go_wp2
  go_ret2
  exact ⟨rfl, rfl⟩
theorem reffrombig_step {w : World} {a : Option Addr} {n k : Nat} {l : List Int} {x v : Int} (hB : Bytes w a n l) (hn : n ≤ 8) (hk : k < n) (hx : x = BIGV (l.take k)) (hv : l.getD k 0 = v) :
    IntKind.u64.wrap (IntKind.u64.wrap (256 * x) + IntKind.u64.wrap v) = BIGV (l.take (k + 1)) := by
  have hb := BIGV_bounds (l.take k) (fun y hy => hB.2.2 y (List.mem_of_mem_take hy))
  have hl : (l.take k).length = k := by rw [List.length_take, hB.1]; omega
  rw [hl] at hb
  have hp : (256 : Int) ^ k ≤ 72057594037927936 := by
    have h7 := Nat.pow_le_pow_right (n := 256) (by decide) (show k ≤ 7 by omega)
    have e : ((256 ^ k : Nat) : Int) = 256 ^ k := by rw [Int.natCast_pow]; rfl
    omega
  have hg := hB.get k
  rw [hv] at hg
  rw [take_next l k (by rw [hB.1]; exact hk), BIGV_snoc, hv, ← hx, wrapU, wrapU, wrapU]
  rw [← hx] at hb
  omega
theorem reffrombig_raw (a : Option Addr) (n c : Nat) (l : List Int) (v : Int) (hv : Aside (v = BIGV l)) (w : World) (hB : Bytes w a n l) (hn : n ≤ 8) : Calls Try.prog 35 #[.slice a n c] w fun e w' => e = .returned (.tuple #[.int .u64 v, .int .i64 0]) ∧ w = w' := by
  have hn8 : ¬ 8 < (n : Int) := by omega
  have HB : Aside (Bytes w a n l) := hB
  rcases Nat.eq_zero_or_pos n with h | h
  · subst h
    have hl : l = [] := by have := hB.1; simpa using this
    subst hl
    obtain rfl : v = 0 := hv.out
    clear hB
    go_enter Try.func35, Try.ntmps35
    go_wp2
    refine wp_loop_rounds 1 ?_
    rw [rounds_succ]
    go_wp2
    go_ret2
    exact ⟨rfl, rfl⟩
  · obtain ⟨b, off, rfl, _, hcell⟩ := hB.2.1 h
    have HC : Aside (∀ i, i < n → w.cell? ⟨b, off + i, none⟩ = some (.int .u8 (l.getD i 0))) := hcell
    clear hB hcell
    go_enter Try.func35, Try.ntmps35
    go_wp2
    go_loop [4, 5] (fun s4 s12 => ∃ (k : Nat) (x : Int), k ≤ n ∧ Aside (x = BIGV (l.take k)) ∧ s4 = .int .u64 x ∧ s12 = .int .i64 k) (fun _ i => n - (intOf i).toNat)
    case atStart => exact ⟨0, 0, Nat.zero_le _, by simp [BIGV, Aside], rfl, rfl⟩
    case round =>
      obtain ⟨k, x, hk, A, rfl, rfl⟩ := hrel
      by_cases hlt : (k : Int) < (n : Int)
      · have hc := HC.out k (by omega)
        generalize hb : l.getD k 0 = b0 at hc
        have Hv : Aside (l.getD k 0 = b0) := hb
        clear hb
        go_wp2
        go_round
        case rel => exact ⟨k + 1, _, by omega, reffrombig_step HB.out hn (by omega) A.out Hv.out, rfl, by go_num⟩
        case measure => simp [intOf]; omega
      · have hkn : k = n := by omega
        subst hkn
        obtain rfl : x = v := by rw [A.out, hv.out, List.take_of_length_le (by rw [HB.out.1]; exact Nat.le_refl _)]
        go_wp2
        go_ret2
        exact ⟨rfl, rfl⟩

set_option maxHeartbeats 1000000 in
theorem refshort_ok (X : Nat) (hX : X < 2 ^ 64) (w : World) : Calls Try.prog 39 #[.int .u64 (X : Int)] w fun e w' =>
    ∃ g cap, e = .returned (.slice (some ⟨g, 0, none⟩) (NTOP X + 1) cap) ∧ w'.ownsRow w.heap.size 5 1 (.slice (some ⟨g, 0, none⟩) (NTOP X + 1) cap) (NTOP X + 1) (CELLS (SHORT X)) ∧ g < w'.heap.size ∧ Below w.heap.size w w' := by
  have HX : Aside (X < 2 ^ 64) := hX
  clear hX
  go_enter Try.func39, Try.ntmps39
  go_wp2
  go_loopg [0, 3] 10 (fun g s0 s3 wx => ∃ (j x : Nat), j + g = 10 ∧ Aside (x = X / 128 ^ j ∧ (∀ i, i < j → 128 ≤ X / 128 ^ i) ∧ wx.ownsRow w.heap.size 5 1 s3 j (CELLS (GROUPS X j)) ∧ Below w.heap.size w wx) ∧ s0 = .int .u64 (x : Int))
  case atStart => exact ⟨0, X, by omega, ⟨by simp, fun i hi => by omega, World.ownsRow_nil _ _ _ _, Below.refl _ _⟩, rfl⟩
  case round =>
    obtain ⟨j, x, hjg, A, rfl⟩ := hrel
    have hxl : (x : Int) ≤ 18446744073709551615 := by
      have := Nat.div_le_self X (128 ^ j)
      have h1 := A.out.1
      have h2 := HX.out
      omega
    have HXL : Aside ((x : Int) ≤ 18446744073709551615) := hxl
    clear hxl
    by_cases hx : 128 ≤ (x : Int)
    · go_wp2_with (at_builtin; refine app_u8 _ rfl (.tmp 6) (.tmp 11) rfl w.heap.size u3 j (GROUPS X j) rfl (A.out.2.2.1.alloc _) wr.heap.size 0 1 1 [(x : Int) % 128 + 128] rfl (one_bytes wr _ (by omega) (by omega)) (by omega) (by omega) (by have := A.out.2.2.2.size; simp; omega) ?_; intro g cap w1 hown hgrow hg)
      have R : (x / 128 = X / 128 ^ (j + 1)) ∧ (∀ i, i < j + 1 → 128 ≤ X / 128 ^ i) ∧ w1.ownsRow w.heap.size 5 1 (.slice (some ⟨g, 0, none⟩) (j + 1) cap) (j + 1) (CELLS (GROUPS X (j + 1))) ∧ Below w.heap.size w w1 := by
        obtain ⟨hxe, hall, hown0, hb⟩ := A.out
        refine ⟨by rw [hxe, Nat.div_div_eq_div_mul, ← Nat.pow_succ], fun i hi => ?_, ?_, ?_⟩
        · by_cases e : i = j
          · rw [e, ← hxe]; omega
          · exact hall i (by omega)
        · rw [GROUPS_succ, show ((X / 128 ^ j % 128 + 128 : Nat) : Int) = (x : Int) % 128 + 128 by rw [← hxe]; omega]
          exact hown
        · exact (hb.alloc hb.size _).grown hgrow (by have := hb.size; simp; omega) (fun k e => (hown0.lt k e).1)
      have HR : Aside ((x / 128 = X / 128 ^ (j + 1)) ∧ (∀ i, i < j + 1 → 128 ≤ X / 128 ^ i) ∧ w1.ownsRow w.heap.size 5 1 (.slice (some ⟨g, 0, none⟩) (j + 1) cap) (j + 1) (CELLS (GROUPS X (j + 1))) ∧ Below w.heap.size w w1) := R
      have hj9 : j < 9 := by
        obtain ⟨hxe, hall, _, _⟩ := A.out
        rcases Nat.lt_or_ge j 9 with h | h
        · exact h
        · have h1 := div_anti X h
          have h2 : X / 128 ^ 9 < 2 := Nat.div_lt_of_lt_mul (Nat.lt_of_lt_of_le HX.out (by decide))
          omega
      clear hown hgrow hg R A
      go_wp2
      go_roundg (gk - 1)
      case measure => omega
      case rel => exact ⟨j + 1, x / 128, by omega, HR, by have := HXL.out; rw [show IntKind.u64.wrap ((x : Int) / 128) = ((x / 128 : Nat) : Int) by rw [wrapU]; omega]⟩
    · go_wp2_with (at_builtin; refine app_u8 _ rfl (.tmp 15) (.tmp 18) rfl w.heap.size u3 j (GROUPS X j) rfl (A.out.2.2.1.alloc _) wr.heap.size 0 1 1 [(x : Int)] rfl (one_bytes wr _ (by omega) (by omega)) (by omega) (by omega) (by have := A.out.2.2.2.size; simp; omega) ?_; intro g cap w1 hown hgrow hg)
      obtain ⟨hxe, hall, hown0, hb⟩ := A.out
      have hN : NTOP X = j := NTOP_eq HX.out hall (by rw [← hxe]; omega)
      have R : w1.ownsRow w.heap.size 5 1 (.slice (some ⟨g, 0, none⟩) (NTOP X + 1) cap) (NTOP X + 1) (CELLS (SHORT X)) ∧ g < w1.heap.size ∧ Below w.heap.size w w1 := by
        refine ⟨?_, hg, (hb.alloc hb.size _).grown hgrow (by have := hb.size; simp; omega) (fun k e => (hown0.lt k e).1)⟩
        unfold SHORT
        rw [hN, ← hxe]
        exact hown
      have HR : Aside (w1.ownsRow w.heap.size 5 1 (.slice (some ⟨g, 0, none⟩) (NTOP X + 1) cap) (NTOP X + 1) (CELLS (SHORT X)) ∧ g < w1.heap.size ∧ Below w.heap.size w w1) := R
      have HN : Aside (NTOP X = j) := hN
      clear hown hgrow hg R A hxe hall hown0 hb hN
      go_wp2
      go_ret
      obtain ⟨h1, h2, h3⟩ := HR.out
      refine ⟨g, cap, ?_, h1, h2, h3⟩
      rw [HN.out]
      rfl
end Go.Proofs.Ytlklnljgmkagoaa
