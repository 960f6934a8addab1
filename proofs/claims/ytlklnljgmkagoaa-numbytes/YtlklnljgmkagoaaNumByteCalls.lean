/- What FromBig and Big of package num and the law's same answer. -/
import Derived.Test.YtlklnljgmkagoaaNumCalls
import Derived.Test.YtlklnljgmkagoaaNumSlice
namespace Go.Proofs.Ytlklnljgmkagoaa
open Go.RowKit

theorem or_byte {x c : Int} (h0 : 0 ≤ x) (h1 : x < 2 ^ 56) (c0 : 0 ≤ c) (c1 : c ≤ 255) : bits .or .u64 (IntKind.u64.wrap (x * 256)) (IntKind.u64.wrap c) = x * 256 + c := by
  obtain ⟨X, rfl⟩ : ∃ X : Nat, x = (X : Int) := ⟨x.toNat, by omega⟩
  obtain ⟨C, rfl⟩ : ∃ C : Nat, c = (C : Int) := ⟨c.toNat, by omega⟩
  have e1 : IntKind.u64.wrap ((X : Int) * 256) = ((X * 256 : Nat) : Int) := by rw [wrapU]; omega
  have e2 : IntKind.u64.wrap (C : Int) = (C : Int) := by rw [wrapU]; omega
  rw [e1, e2, or_eq (by omega) (by omega), nat_join 8 (X * 256) C (by omega) (by omega)]
  simp

theorem frombig_long (a : Option Addr) (n c : Nat) (hn : 8 < (n : Int)) (w : World) : Calls Try.prog 34 #[.slice a n c] w fun e w' => e = .returned (.tuple #[.int .u64 0, .int .i64 2]) ∧ w = w' := by
  go_enter Try.func34, Try.ntmps34
  go_wp2
  go_ret2
  exact ⟨rfl, rfl⟩
theorem take_next (l : List Int) (k : Nat) (hk : k < l.length) : l.take (k + 1) = l.take k ++ [l.getD k 0] := by
  rw [List.take_add_one, List.getElem?_eq_getElem hk]
  simp [List.getD_eq_getElem?_getD, hk]
theorem frombig_step {w : World} {a : Option Addr} {n k : Nat} {l : List Int} {x v : Int} (hB : Bytes w a n l) (hn : n ≤ 8) (hk : k < n) (hx : x = BIGV (l.take k)) (hv : l.getD k 0 = v) :
    bits .or .u64 (IntKind.u64.wrap (x * 256)) (IntKind.u64.wrap v) = BIGV (l.take (k + 1)) := by
  have hb := BIGV_bounds (l.take k) (fun y hy => hB.2.2 y (List.mem_of_mem_take hy))
  have hl : (l.take k).length = k := by rw [List.length_take, hB.1]; omega
  rw [hl] at hb
  have hp : (256 : Int) ^ k ≤ 72057594037927936 := by
    have h7 := Nat.pow_le_pow_right (n := 256) (by decide) (show k ≤ 7 by omega)
    have e : ((256 ^ k : Nat) : Int) = 256 ^ k := by rw [Int.natCast_pow]; rfl
    omega
  have hg := hB.get k
  rw [hv] at hg
  rw [hx, or_byte hb.1 (by omega) hg.1 hg.2, take_next l k (by rw [hB.1]; exact hk), BIGV_snoc, hv]
theorem frombig_raw (a : Option Addr) (n c : Nat) (l : List Int) (v : Int) (hv : Aside (v = BIGV l)) (w : World) (hB : Bytes w a n l) (hn : n ≤ 8) : Calls Try.prog 34 #[.slice a n c] w fun e w' => e = .returned (.tuple #[.int .u64 v, .int .i64 0]) ∧ w = w' := by
  have hn8 : ¬ 8 < (n : Int) := by omega
  have HB : Aside (Bytes w a n l) := hB
  rcases Nat.eq_zero_or_pos n with h | h
  · subst h
    have hl : l = [] := by have := hB.1; simpa using this
    subst hl
    obtain rfl : v = 0 := hv.out
    clear hB
    go_enter Try.func34, Try.ntmps34
    go_wp2
    refine wp_loop_rounds 1 ?_
    rw [rounds_succ]
    go_wp2
    go_ret2
    exact ⟨rfl, rfl⟩
  · obtain ⟨b, off, rfl, _, hcell⟩ := hB.2.1 h
    have HC : Aside (∀ i, i < n → w.cell? ⟨b, off + i, none⟩ = some (.int .u8 (l.getD i 0))) := hcell
    clear hB hcell
    go_enter Try.func34, Try.ntmps34
    go_wp2
    go_loop [4, 12] (fun s4 s12 => ∃ (k : Nat) (x : Int), k ≤ n ∧ Aside (x = BIGV (l.take k)) ∧ s4 = .int .u64 x ∧ s12 = .int .i64 k) (fun _ i => n - (intOf i).toNat)
    case atStart => exact ⟨0, 0, Nat.zero_le _, by simp [BIGV, Aside], rfl, rfl⟩
    case round =>
      obtain ⟨k, x, hk, A, rfl, rfl⟩ := hrel
      by_cases hlt : (k : Int) < (n : Int)
      · have hc := HC.out k (by omega)
        generalize hb : l.getD k 0 = b0 at hc
        have Hv : Aside (l.getD k 0 = b0) := hb
        clear hb
        go_wp2
        go_round
        case rel => exact ⟨k + 1, _, by omega, frombig_step HB.out hn (by omega) A.out Hv.out, rfl, by go_num⟩
        case measure => simp [intOf]; omega
      · have hkn : k = n := by omega
        subst hkn
        obtain rfl : x = v := by rw [A.out, hv.out, List.take_of_length_le (by rw [HB.out.1]; exact Nat.le_refl _)]
        go_wp2
        go_ret2
        exact ⟨rfl, rfl⟩

theorem frombig_ok (a : Option Addr) (n c : Nat) (l : List Int) (w : World) (hB : Bytes w a n l) (hn : n ≤ 8) : Calls Try.prog 34 #[.slice a n c] w fun e w' => e = .returned (.tuple #[.int .u64 (BIGV l), .int .i64 0]) ∧ w = w' := frombig_raw a n c l _ rfl w hB hn

/-- two slices that read the same. -/
theorem same_ok (a b : Option Addr) (n ca cb : Nat) (l : List Int) (w : World) (hA : Bytes w a n l) (hB : Bytes w b n l) (hn : n ≤ 140737488355328) : Calls Try.prog 33 #[.slice a n ca, .slice b n cb] w fun e w' => e = .returned (.bool true) ∧ Below w.heap.size w w' ∧ w'.heap.size = w.heap.size := by
  rcases Nat.eq_zero_or_pos n with h | h
  · subst h
    clear hA hB
    go_enter Try.func33, Try.ntmps33
    go_wp2
    refine wp_loop_rounds 1 ?_
    rw [rounds_succ]
    go_wp2
    go_ret
    exact ⟨rfl, Below.refl _ _, rfl⟩
  · obtain ⟨ba, oa, rfl, la, hca⟩ := hA.2.1 h
    obtain ⟨bb, ob, rfl, lb, hcb⟩ := hB.2.1 h
    have HC : Aside ((∀ i, i < n → w.cell? ⟨ba, oa + i, none⟩ = some (.int .u8 (l.getD i 0))) ∧ (∀ i, i < n → w.cell? ⟨bb, ob + i, none⟩ = some (.int .u8 (l.getD i 0))) ∧ ba < w.heap.size ∧ bb < w.heap.size) := ⟨hca, hcb, la, lb⟩
    clear hA hB hca hcb la lb
    go_enter Try.func33, Try.ntmps33
    go_wp2
    go_loopg [5] n (fun g s5 wx => ∃ k : Nat, k + g = n ∧ s5 = .int .i64 k ∧ Aside (Below w.heap.size w wx ∧ wx.heap.size = w.heap.size))
    case atStart => exact ⟨0, by omega, rfl, Below.refl _ _, rfl⟩
    case round =>
      obtain ⟨k, hkg, rfl, A⟩ := hrel
      cases gk with
      | zero =>
        obtain rfl : k = n := by omega
        go_wp2
        go_ret
        exact ⟨rfl, A.out.1, A.out.2⟩
      | succ g =>
        have hlt : (k : Int) < (n : Int) := by omega
        have h1 : wr.cell? ⟨ba, oa + k, none⟩ = some (.int .u8 (l.getD k 0)) := (A.out.1.cell (by exact HC.out.2.2.1)).trans (HC.out.1 k (by omega))
        have h2 : wr.cell? ⟨bb, ob + k, none⟩ = some (.int .u8 (l.getD k 0)) := (A.out.1.cell (by exact HC.out.2.2.2)).trans (HC.out.2.1 k (by omega))
        generalize l.getD k 0 = v at h1 h2
        go_wp2
        go_quiet (fail)
        go_wp2
        go_roundg g
        case measure => omega
        case rel => exact ⟨k + 1, by omega, by go_num, below_drewN A.out.1 _, A.out.2⟩

theorem big_arg (x n : Int) (h : n < 0 ∨ 8 < n) (w : World) : Calls Try.prog 31 #[.int .u64 x, .int .i64 n] w fun e w' => e = .returned (.tuple #[.slice none 0 0, .int .i64 1]) ∧ w = w' := by
  by_cases h1 : n < 0
  · clear h
    go_enter Try.func31, Try.ntmps31
    go_wp2
    go_ret2
    exact ⟨rfl, rfl⟩
  · have h2 : 8 < n := by omega
    clear h
    go_enter Try.func31, Try.ntmps31
    go_wp2
    go_ret2
    exact ⟨rfl, rfl⟩
theorem big_range_raw (x s : Int) (n : Nat) (hn : (n : Int) ≤ 8) (hs : (s != 0) = true) (w : World) (c : ∀ w, Calls Try.prog 10 #[.int .u64 x, .int .i64 (8 * (n : Int))] w fun e w' => e = .returned (.int .u64 s) ∧ w = w') :
    Calls Try.prog 31 #[.int .u64 x, .int .i64 (n : Int)] w fun e w' => e = .returned (.tuple #[.slice none 0 0, .int .i64 10]) ∧ w = w' := by
  go_enter Try.func31, Try.ntmps31
  go_wp2_with fail
  refine (c _).mono ?_
  rintro e w' ⟨rfl, rfl⟩
  go_wp2
  go_ret2
  exact ⟨rfl, rfl⟩
/-- an array that is filled from 0 on. -/
theorem bfill_put {F f : Nat → Int} {i : Nat} {v : Int} (A : ∀ j, f j = if j < i then F j else 0) (hv : v = F i) : ∀ j, (if j = i then v else f j) = if j < i + 1 then F j else 0 := fun j => by
  by_cases e : j = i
  · subst e
    simp [hv]
  · rw [if_neg e, A j]
    by_cases e2 : j < i
    · rw [if_pos e2, if_pos (by omega)]
    · rw [if_neg e2, if_neg (by omega)]
theorem big_raw (x : Int) (n : Nat) (F : Nat → Int) (hn : (n : Int) ≤ 8) (w : World) (c : ∀ w, Calls Try.prog 10 #[.int .u64 x, .int .i64 (8 * (n : Int))] w fun e w' => e = .returned (.int .u64 0) ∧ w = w')
    (ci : ∀ i : Nat, i < n → ∃ s : Int, Aside (s % 256 = F i) ∧ ∀ w, Calls Try.prog 10 #[.int .u64 x, .int .i64 (8 * ((n : Int) - 1 - (i : Int)))] w fun e w' => e = .returned (.int .u64 s) ∧ w = w') :
    Calls Try.prog 31 #[.int .u64 x, .int .i64 (n : Int)] w fun e w' => e = .returned (.tuple #[.slice (some ⟨w.heap.size, 0, none⟩) n n, .int .i64 0]) ∧ w.alloc (.cells (BARR n F) 5) = w' := by
  have hmk := make_bytes n (by omega)
  have CI : Aside (∀ i : Nat, i < n → ∃ s : Int, Aside (s % 256 = F i) ∧ ∀ w, Calls Try.prog 10 #[.int .u64 x, .int .i64 (8 * ((n : Int) - 1 - (i : Int)))] w fun e w' => e = .returned (.int .u64 s) ∧ w = w') := ci
  clear ci
  go_enter Try.func31, Try.ntmps31
  go_wp2_with fail
  refine (c _).mono ?_
  rintro e w' ⟨rfl, rfl⟩
  go_wp2
  go_loopg [23] n (fun g s23 wx => ∃ (i : Nat) (f : Nat → Int), i + g = n ∧ Aside (∀ j, f j = if j < i then F j else 0) ∧ s23 = .int .i64 i ∧ wx = w.alloc (.cells (BARR n f) 5))
  case atStart => exact ⟨0, fun _ => 0, by omega, fun j => by simp, rfl, rfl⟩
  case round =>
    obtain ⟨i, f, hig, A, rfl, rfl⟩ := hrel
    cases gk with
    | zero =>
      obtain rfl : i = n := by omega
      have hf : BARR i f = BARR i F := BARR_ext fun j hj => by rw [A.out j, if_pos hj]
      rw [hf]
      clear hf A
      go_wp2
      go_ret2
      exact ⟨rfl, rfl⟩
    | succ g =>
      have hi : (i : Int) < (n : Int) := by omega
      have hc : (BARR n f)[i]? = some (.int .u8 (f i)) := BARR_get n f i (by omega)
      have hs : ∀ v, (BARR n f).setIfInBounds i (.int .u8 v) = BARR n (fun j => if j = i then v else f j) := fun v => BARR_set n f i v
      obtain ⟨s, hsF, cs⟩ := CI.out i (by omega)
      go_wp2_with fail
      refine (cs _).mono ?_
      rintro e w' ⟨rfl, rfl⟩
      go_wp2
      go_roundg g
      case measure => omega
      case rel => exact ⟨i + 1, _, by omega, bfill_put A.out hsF.out, by go_num, rfl⟩
/-- the i-th of n bytes of x, the highest first. -/
def BYTE (X n : Nat) : Nat → Int := fun i => ((X / 2 ^ (8 * (n - 1 - i)) % 256 : Nat) : Int)
theorem big_range (X n : Nat) (hX : X < 2 ^ 64) (hn : n ≤ 8) (h : X / 2 ^ (8 * n) ≠ 0) (w : World) :
    Calls Try.prog 31 #[.int .u64 (X : Int), .int .i64 (n : Int)] w fun e w' => e = .returned (.tuple #[.slice none 0 0, .int .i64 10]) ∧ w = w' := by
  have hs : SHR X (8 * (n : Int)) = X / 2 ^ (8 * n) := by
    unfold SHR
    rw [if_neg (by omega), show (8 * (n : Int)).toNat = 8 * n by omega]
  refine big_range_raw X (SHR X (8 * (n : Int)) : Nat) n (by omega) ?_ w (fun w => shr_ok X _ hX (by omega) (by omega) w)
  rw [hs]
  simp only [bne_iff_ne, ne_eq]
  omega
theorem big_ok (X n : Nat) (hX : X < 2 ^ 64) (hn : n ≤ 8) (h : X / 2 ^ (8 * n) = 0) (w : World) :
    Calls Try.prog 31 #[.int .u64 (X : Int), .int .i64 (n : Int)] w fun e w' => e = .returned (.tuple #[.slice (some ⟨w.heap.size, 0, none⟩) n n, .int .i64 0]) ∧ w.alloc (.cells (BARR n (BYTE X n)) 5) = w' := by
  refine big_raw X n (BYTE X n) (by omega) w (fun w => ?_) (fun i hi => ?_)
  · have k := shr_ok X (8 * (n : Int)) hX (by omega) (by omega) w
    have hs : SHR X (8 * (n : Int)) = 0 := by
      unfold SHR
      rw [if_neg (by omega), show (8 * (n : Int)).toNat = 8 * n by omega, h]
    rw [hs] at k
    exact k
  · refine ⟨(SHR X (8 * ((n : Int) - 1 - (i : Int))) : Nat), ?_, fun w => shr_ok X _ hX (by omega) (by omega) w⟩
    unfold SHR BYTE Aside
    rw [if_neg (by omega), show (8 * ((n : Int) - 1 - (i : Int))).toNat = 8 * (n - 1 - i) by omega]
    simp
end Go.Proofs.Ytlklnljgmkagoaa
