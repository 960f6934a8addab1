/- Texts of VerifyReaches, one behind the other: ProofMark, ProofHashes, ProofDecodePlain, ProofRoundPlain, NumRefBytes, NumRefLong, ProofRefDecode. -/
import Derived.Deep.RegionLaw
import Derived.Laws.CopyOwn
import Derived.Test.YtkcfhgflgkejoaaGreatDoorVerifyReachesP8
import Derived.Test.YtkcfhgflgkejoaaGreatDoorVerifyReachesP17
import Derived.Test.YtkcfhgflgkejoaaGreatDoorVerifyReachesP26
/- What the readers of package proof do with the bytes that are left: the mark, a number. -/
namespace Go.Proofs.YtkcfhgflgkejoaaGreatDoor
open Go.RowKit
set_option maxRecDepth 100000

/-- s[k:], of bytes: what is behind. -/
theorem Bytes.rest {w : World} {b off n : Nat} {l : List Int} (h : Bytes w (some ⟨b, off, none⟩) n l) (k : Nat) (hk : k ≤ n) : Bytes w (some ⟨b, off + k, none⟩) (n - k) (l.drop k) := by
  refine ⟨by rw [List.length_drop, h.1], fun hn => ?_, fun x hx => h.2.2 x (List.mem_of_mem_drop hx)⟩
  obtain ⟨b', o', e, hl, hc⟩ := h.2.1 (by omega)
  simp only [Option.some.injEq, Addr.mk.injEq] at e
  obtain ⟨rfl, rfl, _⟩ := e
  refine ⟨b, off + k, rfl, hl, fun i hi => ?_⟩
  rw [show off + k + i = off + (k + i) by omega, hc (k + i) (by omega)]
  congr 2
  rw [List.getD_eq_getElem?_getD, List.getD_eq_getElem?_getD, List.getElem?_drop]
theorem mark_none (rb : Nat) (k : Int) (a : Option Addr) (c : Nat) (w : World) (h0 : w.cell? ⟨rb, 0, none⟩ = some (.slice a 0 c)) :
    Calls Tryz.prog 81 #[.pointer (some ⟨rb, 0, none⟩), .int .u8 k] w fun e w' => e = .returned (.int .i64 11) ∧ w = w' := by
  go_enter Tryz.func81, Tryz.ntmps81
  go_wp2
  go_ret
  exact ⟨rfl, rfl⟩
theorem mark_other (rb : Nat) (k x : Int) (b off n c : Nat) (w : World) (hx : ¬ x = k) (hn : ¬ (n : Int) = 0) (h0 : w.cell? ⟨rb, 0, none⟩ = some (.slice (some ⟨b, off, none⟩) n c)) (hc : w.cell? ⟨b, off, none⟩ = some (.int .u8 x)) :
    Calls Tryz.prog 81 #[.pointer (some ⟨rb, 0, none⟩), .int .u8 k] w fun e w' => e = .returned (.int .i64 14) ∧ w = w' := by
  have hn1 : (0 : Int) < (n : Int) := by omega
  have hn2 : 0 < n := by omega
  go_enter Tryz.func81, Tryz.ntmps81
  go_wp2
  go_ret
  exact ⟨rfl, rfl⟩
/-- where s[k:] begins: where no room is left, the address stays. -/
def REST (b off c k : Nat) : Option Addr := if c = k then some ⟨b, off, none⟩ else some ⟨b, off + k, none⟩
theorem Bytes.behind {w : World} {b off n c : Nat} {l : List Int} (h : Bytes w (some ⟨b, off, none⟩) n l) (k : Nat) (hk : k ≤ n) (hc : n ≤ c) : Bytes w (REST b off c k) (n - k) (l.drop k) := by
  unfold REST
  split
  · have h0 : n - k = 0 := by omega
    rw [h0]
    refine ⟨?_, fun h => by omega, fun x hx => h.2.2 x (List.mem_of_mem_drop hx)⟩
    rw [List.length_drop, h.1, h0]
  · exact h.rest k hk
theorem mark_ok (rb : Nat) (k : Int) (b off n c : Nat) (hcap : n + 1 ≤ c) (w : World) (h0 : w.cell? ⟨rb, 0, none⟩ = some (.slice (some ⟨b, off, none⟩) (n + 1) c)) (hf : w.frozen? ⟨rb, 0, none⟩ = false) (hc : w.cell? ⟨b, off, none⟩ = some (.int .u8 k)) :
    Calls Tryz.prog 81 #[.pointer (some ⟨rb, 0, none⟩), .int .u8 k] w fun e w' => e = .returned (.int .i64 0) ∧ w' = w.setCell ⟨rb, 0, none⟩ (.slice (REST b off c 1) n (c - 1)) := by
  have hn1 : (0 : Int) < (n : Int) + 1 := by omega
  have hn2 : ¬ (n : Int) + 1 = 0 := by omega
  have hcap' : (n : Int) + 1 ≤ (c : Int) := by omega
  obtain ⟨a', ha'⟩ : ∃ a', REST b off c 1 = a' := ⟨_, rfl⟩
  rw [ha']
  by_cases h1 : c = 1
  · have HA : Aside (some ⟨b, off, none⟩ = a') := by
      rw [← ha']
      simp [REST, h1, Aside]
    have hn0 : n = 0 := by omega
    subst h1 hn0
    clear ha' hcap
    go_enter Tryz.func81, Tryz.ntmps81
    go_wp2
    go_ret
    rw [← HA.out]
    exact ⟨rfl, rfl⟩
  · have HA : Aside (some ⟨b, off + 1, none⟩ = a') := by
      rw [← ha']
      simp [REST, h1, Aside]
    have hc1 : ¬ c - 1 = 0 := by omega
    clear ha' hcap
    go_enter Tryz.func81, Tryz.ntmps81
    go_wp2
    go_ret
    rw [← HA.out]
    exact ⟨rfl, rfl⟩
theorem number_err (rb f : Nat) (r1 r2 r3 : Int) (v : Value) (w : World) (hr : ¬ r3 = 0) (h0 : w.cell? ⟨rb, 0, none⟩ = some v)
    (c : Calls Tryz.prog 107 #[v] w fun e w' => e = .returned (.tuple #[.int .u64 r1, .int .i64 r2, .int .i64 r3]) ∧ w = w') :
    Calls Tryz.prog 82 #[.pointer (some ⟨rb, 0, none⟩), .pointer (some ⟨rb, f, none⟩)] w fun e w' => e = .returned (.int .i64 r3) ∧ w = w' := by
  have hr' : (r3 != 0) = true := by simp [hr]
  go_enter Tryz.func82, Tryz.ntmps82
  go_wp2_with fail
  refine c.mono ?_
  rintro e w' ⟨rfl, rfl⟩
  clear c
  go_wp2
  go_ret
  exact ⟨rfl, rfl⟩
set_option maxHeartbeats 2000000 in
theorem number_raw (rb f : Nat) (hf0 : f ≠ 0) (r1 : Int) (b off n c m : Nat) (hm : m ≤ n) (hcap : n ≤ c) (hcm : c ≠ m) (x1 : Value) (w : World) (h0 : w.cell? ⟨rb, 0, none⟩ = some (.slice (some ⟨b, off, none⟩) n c)) (h1 : w.cell? ⟨rb, f, none⟩ = some x1) (z0 : w.frozen? ⟨rb, 0, none⟩ = false) (z1 : w.frozen? ⟨rb, f, none⟩ = false)
    (cl : Calls Tryz.prog 107 #[.slice (some ⟨b, off, none⟩) n c] w fun e w' => e = .returned (.tuple #[.int .u64 r1, .int .i64 (m : Int), .int .i64 0]) ∧ w = w') :
    Calls Tryz.prog 82 #[.pointer (some ⟨rb, 0, none⟩), .pointer (some ⟨rb, f, none⟩)] w fun e w' => e = .returned (.int .i64 0) ∧ w' = (w.drew.setCell ⟨rb, f, none⟩ (.int .u64 r1)).setCell ⟨rb, 0, none⟩ (.slice (some ⟨b, off + m, none⟩) (n - m) (c - m)) := by
  have k1 : (m : Int) ≤ (n : Int) := by omega
  have k2 : (n : Int) ≤ (c : Int) := by omega
  have k3 : ¬ c - m = 0 := by omega
  have g0 : (w.drew.setCell ⟨rb, f, none⟩ (.int .u64 r1)).cell? ⟨rb, 0, none⟩ = some (.slice (some ⟨b, off, none⟩) n c) := by rw [set_off hf0]; exact h0
  go_enter Tryz.func82, Tryz.ntmps82
  go_wp2_with fail
  refine cl.mono ?_
  rintro e w' ⟨rfl, rfl⟩
  clear cl
  go_wp2
  go_region
  all_goals go_wp2
  all_goals go_ret
  all_goals exact ⟨rfl, rfl⟩
set_option maxHeartbeats 2000000 in
theorem number_end (rb f : Nat) (hf0 : f ≠ 0) (r1 : Int) (b off m : Nat) (x1 : Value) (w : World) (h0 : w.cell? ⟨rb, 0, none⟩ = some (.slice (some ⟨b, off, none⟩) m m)) (h1 : w.cell? ⟨rb, f, none⟩ = some x1) (z0 : w.frozen? ⟨rb, 0, none⟩ = false) (z1 : w.frozen? ⟨rb, f, none⟩ = false)
    (cl : Calls Tryz.prog 107 #[.slice (some ⟨b, off, none⟩) m m] w fun e w' => e = .returned (.tuple #[.int .u64 r1, .int .i64 (m : Int), .int .i64 0]) ∧ w = w') :
    Calls Tryz.prog 82 #[.pointer (some ⟨rb, 0, none⟩), .pointer (some ⟨rb, f, none⟩)] w fun e w' => e = .returned (.int .i64 0) ∧ w' = (w.drew.setCell ⟨rb, f, none⟩ (.int .u64 r1)).setCell ⟨rb, 0, none⟩ (.slice (some ⟨b, off, none⟩) 0 0) := by
  have g0 : (w.drew.setCell ⟨rb, f, none⟩ (.int .u64 r1)).cell? ⟨rb, 0, none⟩ = some (.slice (some ⟨b, off, none⟩) m m) := by rw [set_off hf0]; exact h0
  go_enter Tryz.func82, Tryz.ntmps82
  go_wp2_with fail
  refine cl.mono ?_
  rintro e w' ⟨rfl, rfl⟩
  clear cl
  go_wp2
  go_region
  all_goals go_wp2
  all_goals go_ret
  all_goals exact ⟨rfl, rfl⟩
theorem number_ok (rb f : Nat) (hf0 : f ≠ 0) (r1 : Int) (b off n c m : Nat) (hm : m ≤ n) (hcap : n ≤ c) (x1 : Value) (w : World) (h0 : w.cell? ⟨rb, 0, none⟩ = some (.slice (some ⟨b, off, none⟩) n c)) (h1 : w.cell? ⟨rb, f, none⟩ = some x1) (z0 : w.frozen? ⟨rb, 0, none⟩ = false) (z1 : w.frozen? ⟨rb, f, none⟩ = false)
    (cl : Calls Tryz.prog 107 #[.slice (some ⟨b, off, none⟩) n c] w fun e w' => e = .returned (.tuple #[.int .u64 r1, .int .i64 (m : Int), .int .i64 0]) ∧ w = w') :
    Calls Tryz.prog 82 #[.pointer (some ⟨rb, 0, none⟩), .pointer (some ⟨rb, f, none⟩)] w fun e w' => e = .returned (.int .i64 0) ∧ w' = (w.drew.setCell ⟨rb, f, none⟩ (.int .u64 r1)).setCell ⟨rb, 0, none⟩ (.slice (REST b off c m) (n - m) (c - m)) := by
  by_cases h : c = m
  · obtain rfl : c = n := by omega
    subst h
    have := number_end rb f hf0 r1 b off c x1 w h0 h1 z0 z1 cl
    simpa [REST] using this
  · have := number_raw rb f hf0 r1 b off n c m hm hcap h x1 w h0 h1 z0 z1 cl
    simpa [REST, h] using this
end Go.Proofs.YtkcfhgflgkejoaaGreatDoor

/- What the readers of package proof do with the bytes that are left: the nodes. -/
namespace Go.Proofs.YtkcfhgflgkejoaaGreatDoor
open Go.RowKit
set_option maxRecDepth 100000

theorem hashes_cut (rb f N n c : Nat) (a : Option Addr) (hN : N ≤ 1000) (hn : n < 32 * N) (w : World) (h0 : w.cell? ⟨rb, 0, none⟩ = some (.slice a n c)) :
    Calls Tryz.prog 83 #[.pointer (some ⟨rb, 0, none⟩), .pointer (some ⟨rb, f, none⟩), .int .i64 (N : Int)] w fun e w' => e = .returned (.int .i64 11) ∧ w = w' := by
  have e1 : wrap64 ((N : Int) * 32) = (N : Int) * 32 := by unfold wrap64; omega
  have h1 : (n : Int) < (N : Int) * 32 := by omega
  clear hN hn
  go_enter Tryz.func83, Tryz.ntmps83
  go_wp2
  go_ret
  exact ⟨rfl, rfl⟩
theorem hashes_tail (rb f N n c : Nat) (a : Option Addr) (hN : N ≤ 1000) (hn : 32 * N < n) (w : World) (h0 : w.cell? ⟨rb, 0, none⟩ = some (.slice a n c)) :
    Calls Tryz.prog 83 #[.pointer (some ⟨rb, 0, none⟩), .pointer (some ⟨rb, f, none⟩), .int .i64 (N : Int)] w fun e w' => e = .returned (.int .i64 13) ∧ w = w' := by
  have e1 : wrap64 ((N : Int) * 32) = (N : Int) * 32 := by unfold wrap64; omega
  have h1 : ¬ (n : Int) < (N : Int) * 32 := by omega
  have h2 : (N : Int) * 32 < (n : Int) := by omega
  clear hN hn
  go_enter Tryz.func83, Tryz.ntmps83
  go_wp2
  go_ret
  exact ⟨rfl, rfl⟩
theorem info_hashz : (Tryz.prog.info? 23).map (fun i => (i.size, i.bytes, i.zero.isSome)) = some (32, 32, true) := by kernel_rfl
theorem make_hashes (N : Nat) (hN : N ≤ 1000) (w : World) : ∃ Z : List Value, Z.length = 32 * N ∧ (Instr.makeSlice 32 (.int .i64 (N : Int)) (.int .i64 (N : Int))).run Tryz.prog w = .ok (.slice (some ⟨w.heap.size, 0, none⟩) N N) (w.alloc (.cells Z.toArray 23)) := by
  obtain ⟨i, hi, h⟩ := Option.map_eq_some_iff.1 info_hashz
  simp only [Prod.mk.injEq] at h
  obtain ⟨h1, h2, h3⟩ := h
  obtain ⟨z, hz⟩ := Option.isSome_iff_exists.1 h3
  have h := run_make (P := Tryz.prog) w 32 23 i z Tryz.underlying32 hi hz .i64 .i64 N N (by omega) (by omega) (by rw [h2]; omega) (by omega)
  refine ⟨(madeCells z.cells (N * i.size)).toList, ?_, ?_⟩
  · rw [Array.length_toList, size_madeCells, h1]
    omega
  · simpa using h
/-- the first i nodes are there. -/
def PARTH (l : List Int) (Z : List Value) (i : Nat) : List Value := CELLS (l.take (32 * i)) ++ Z.drop (32 * i)
theorem PARTH_zero (l : List Int) (Z : List Value) : PARTH l Z 0 = Z := by simp [PARTH, CELLS]
theorem PARTH_all {l : List Int} {Z : List Value} {N : Nat} (hl : l.length = 32 * N) (hZ : Z.length = 32 * N) : PARTH l Z N = CELLS l := by
  unfold PARTH
  rw [List.take_of_length_le (by omega), List.drop_of_length_le (by omega), List.append_nil]
theorem PARTH_length {l : List Int} {Z : List Value} {N i : Nat} (hl : l.length = 32 * N) (hZ : Z.length = 32 * N) (hi : i ≤ N) : (PARTH l Z i).length = 32 * N := by
  unfold PARTH
  rw [List.length_append, List.length_drop, CELLS, List.length_map, List.length_take]
  omega
theorem PARTH_next {l : List Int} (Z : List Value) {N i : Nat} (hl : l.length = 32 * N) (hi : i < N) : splice (PARTH l Z i) (i * 32) (CELLS (HSH l i)) = PARTH l Z (i + 1) := by
  have h1 : (CELLS (l.take (32 * i))).length = i * 32 := by
    rw [CELLS, List.length_map, List.length_take]
    omega
  have h2 : (CELLS (HSH l i)).length = 32 := by
    rw [CELLS, List.length_map]
    exact HSH_length hl hi
  unfold splice PARTH
  rw [List.take_append_of_le_length (by omega), List.take_of_length_le (by omega), HSH_next, CELLS_append, h2, List.append_assoc]
  congr 2
  rw [List.drop_append, List.drop_of_length_le (by omega), List.nil_append, h1, List.drop_drop]
  congr 1
  omega
/-- the nodes stand in a block of their own, and the reader has them. -/
def HASHED (w : World) (rb f N : Nat) (l : List Int) (w' : World) : Prop := ∃ wx, Below w.heap.size w wx ∧ w.heap.size < wx.heap.size ∧ Has wx w.heap.size (CELLS l).toArray 23 ∧ w' = wx.setCell ⟨rb, f, none⟩ (.slice (some ⟨w.heap.size, 0, none⟩) N N)
set_option maxHeartbeats 4000000 in
theorem hashes_ok (rb f N c : Nat) (a : Option Addr) (hN : N ≤ 1000) (l : List Int) (w : World) (hB : Bytes w a (32 * N) l) (hc : 32 * N ≤ c) (hrb : rb < w.heap.size) (h0 : w.cell? ⟨rb, 0, none⟩ = some (.slice a (32 * N) c)) (x1 : Value) (h1 : w.cell? ⟨rb, f, none⟩ = some x1) (z1 : w.frozen? ⟨rb, f, none⟩ = false) :
    Calls Tryz.prog 83 #[.pointer (some ⟨rb, 0, none⟩), .pointer (some ⟨rb, f, none⟩), .int .i64 (N : Int)] w fun e w' => e = .returned (.int .i64 0) ∧ HASHED w rb f N l w' := by
  have e1 : wrap64 ((N : Int) * 32) = (N : Int) * 32 := by unfold wrap64; omega
  have k1 : ¬ ((32 * N : Nat) : Int) < (N : Int) * 32 := by omega
  have k2 : ¬ (N : Int) * 32 < ((32 * N : Nat) : Int) := by omega
  obtain ⟨M, hM⟩ : ∃ M, 32 * N = M := ⟨_, rfl⟩
  rw [hM] at h0 k1 k2 hB hc
  obtain ⟨Z, hZ, hmk⟩ := make_hashes N hN w
  have HA : Aside (l.length = 32 * N ∧ Z.length = 32 * N ∧ N ≤ 1000 ∧ 32 * N = M ∧ M ≤ c ∧ Bytes w a M l ∧ rb < w.heap.size ∧ w.cell? ⟨rb, 0, none⟩ = some (.slice a M c) ∧ w.cell? ⟨rb, f, none⟩ = some x1 ∧ w.frozen? ⟨rb, f, none⟩ = false) := ⟨by rw [hM]; exact hB.1, hZ, hN, hM, hc, hB, hrb, h0, h1, z1⟩
  clear hN hZ hB hc hM hrb h1 z1
  go_enter Tryz.func83, Tryz.ntmps83
  go_wp2
  clear e1 hmk h0
  go_loopg [30] N (fun q s30 wx => ∃ i : Nat, s30 = .int .i64 (i : Int) ∧ Aside (i + q = N ∧ Below w.heap.size w wx ∧ w.heap.size < wx.heap.size ∧ Has wx w.heap.size (PARTH l Z i).toArray 23))
  case atStart => exact ⟨0, rfl, by omega, (Below.refl _ _).alloc (Nat.le_refl _) _, by simp, by rw [PARTH_zero]; exact Has.new _ _ _⟩
  case round =>
    obtain ⟨i, rfl, A⟩ := hrel
    obtain ⟨hi, hbel, hsz, hhas⟩ := A.out
    obtain ⟨a1, a2, a3, a4, a5, a6, a7, a8, a9, a10⟩ := HA.out
    cases gk with
    | zero =>
      obtain rfl : i = N := by omega
      have hlt : ¬ (i : Int) < (i : Int) := by omega
      have y1 : wr.cell? ⟨rb, f, none⟩ = some x1 := (hbel.cell (p := ⟨rb, f, none⟩) a7).trans a9
      have y2 : wr.frozen? ⟨rb, f, none⟩ = false := (hbel.frozen (p := ⟨rb, f, none⟩) a7).trans a10
      have R : Aside (Below w.heap.size w wr ∧ w.heap.size < wr.heap.size ∧ Has wr w.heap.size (CELLS l).toArray 23) := by
        rw [PARTH_all a1 a2] at hhas
        exact ⟨hbel, hsz, hhas⟩
      clear hi hbel hsz hhas a1 a2 a3 a4 a5 a6 a7 a8 a9 a10 A HA
      go_wp2
      go_ret
      exact ⟨rfl, wr, R.out.1, R.out.2.1, R.out.2.2, rfl⟩
    | succ q =>
      have hlt : (i : Int) < (N : Int) := by omega
      obtain ⟨b, o, rfl, hbl, hcs⟩ := a6.2.1 (by omega)
      have y0 : wr.cell? ⟨rb, 0, none⟩ = some (.slice (some ⟨b, o, none⟩) M c) := (hbel.cell (p := ⟨rb, 0, none⟩) a7).trans a8
      obtain ⟨I, hI⟩ : ∃ I, i * 32 = I := ⟨_, rfl⟩
      have m2 : (I : Int) ≤ (M : Int) := by omega
      have m3 : (M : Int) ≤ (c : Int) := by omega
      have m4 : ¬ c = I := by omega
      have h32 : (CELLS (HSH l i)).length = 32 := by
        rw [CELLS, List.length_map]
        exact HSH_length a1 (by omega)
      have hsrc : ∀ j v, (CELLS (HSH l i))[j]? = some v → wr.cell? ((⟨b, o + I, none⟩ : Addr).add j) = some v := by
        intro j v hv
        have hj : j < 32 := by
          have := (List.getElem?_eq_some_iff.1 hv).1
          omega
        rw [CELLS_get _ _ (by rw [HSH_length a1 (by omega)]; exact hj), HSH_at hj] at hv
        rw [addr_add, show o + I + j = o + (32 * i + j) by omega]
        exact ((hbel.cell (p := ⟨b, o + (32 * i + j), none⟩) hbl).trans (hcs (32 * i + j) (by omega))).trans hv
      have hpl := PARTH_length a1 a2 (show i ≤ N by omega)
      have hnx := PARTH_next Z a1 (show i < N by omega)
      have hone := CELLS_one (HSH l i)
      have R : Aside (i + 1 + q = N ∧ Below w.heap.size w wr ∧ w.heap.size < wr.heap.size ∧ Has wr w.heap.size (PARTH l Z i).toArray 23 ∧ splice (PARTH l Z i) (i * 32) (CELLS (HSH l i)) = PARTH l Z (i + 1)) := ⟨by omega, hbel, hsz, hhas, hnx⟩
      have S : Aside ((CELLS (HSH l i)).length = Nat.min (M - I) 32 ∧ i * 32 + (CELLS (HSH l i)).length ≤ (PARTH l Z i).length) := ⟨by rw [h32]; exact (Nat.min_eq_right (show 32 ≤ M - I by omega)).symm, by omega⟩
      have E2 : Aside (wrap64 ((i : Int) * 32) = (I : Int)) := by show wrap64 ((i : Int) * 32) = (I : Int); unfold wrap64; omega
      have E3 : Aside (IntKind.i64.wrap ((i : Int) * 32) = (I : Int)) := by show IntKind.i64.wrap ((i : Int) * 32) = (I : Int); rw [IntKind.wrap_i64]; omega
      have E1 : Aside (wrap64 ((i : Int) + 1) = ((i + 1 : Nat) : Int)) := by show wrap64 ((i : Int) + 1) = ((i + 1 : Nat) : Int); unfold wrap64; omega
      clear hi hbel hsz hhas a1 a2 a3 a4 a5 a6 a7 a8 a9 a10 A HA hbl hcs hpl hnx hI
      generalize CELLS (HSH l i) = H at *
      have hu8 : (Tryz.prog.info? 5).map (·.size) = some 1 := by kernel_rfl
      have m1 := E2.out
      have m5 := E3.out
      go_wp2
      go_region_law (refine step_copy_splice rfl (.tmp 36) (.tmp 43) 25 25 rfl 5 Tryz.underlying25 hu8 (some ⟨w.heap.size, i * 32, none⟩) (some ⟨b, o + I, none⟩) 32 32 (M - I) (c - I) (by simp [Act.eval, Act.put]) (by simp [Act.eval, Act.put]) w.heap.size (i * 32) (PARTH l Z i) 23 (by exact R.out.2.2.2.1) H S.out.1 (fun _ => ⟨rfl, _, rfl, hsrc⟩) S.out.2 hone w.heap.size w (by exact R.out.2.1.drew) (Nat.le_refl _) ?_; intro w4 hg4 hb4)
      have R2 : Aside (i + 1 + q = N ∧ Below w.heap.size w w4 ∧ w.heap.size < w4.heap.size ∧ Has w4 w.heap.size (PARTH l Z (i + 1)).toArray 23) := by
        obtain ⟨r1, r2, r3, r4, r5⟩ := R.out
        have hg5 : w4.heap[w.heap.size]? = some (.cells (splice (PARTH l Z i) (i * 32) H).toArray 23 (0, 0)) := hg4
        rw [r5] at hg5
        exact ⟨r1, hb4, (Array.getElem?_eq_some_iff.1 hg5).1, hg5⟩
      clear R S hg4 hb4 hsrc hone h32 m1 m5 y0
      have e1 := E1.out
      go_wp2
      go_roundg q
      case measure => exact Nat.lt_succ_self _
      case rel => exact ⟨i + 1, by first | rfl | (rw [E1.out]), R2.out⟩
end Go.Proofs.YtkcfhgflgkejoaaGreatDoor

/- What Decode and DecodePrefix answer, of any bytes. -/
namespace Go.Proofs.YtkcfhgflgkejoaaGreatDoor
open Go.RowKit

/-- a number in front of bytes: it, how many bytes it has, or what is wrong. -/
def LNG (t : List Int) : Int × Int × Int := LG t t.length 10 0 0
/-- an error, two numbers, how many nodes, their bytes. -/
abbrev DANS := Int × Nat × Nat × Nat × List Int
def DERR (E : Int) : DANS := (E, 0, 0, 0, [])
/-- the nodes, behind the numbers X and Y; PF: how many there are to be. -/
def DC3 (PF : Nat → Nat → Int × List Nat) (X Y : Nat) (t : List Int) : DANS :=
  if (PF X Y).1 ≠ 0 then DERR (PF X Y).1 else if t.length < 32 * (PF X Y).2.length then DERR 11 else if 32 * (PF X Y).2.length < t.length then DERR 13 else (0, X, Y, (PF X Y).2.length, t)
/-- the second number. -/
def DC2 (PF : Nat → Nat → Int × List Nat) (X : Nat) (t : List Int) : DANS :=
  if (LNG t).2.2 ≠ 0 then DERR (LNG t).2.2 else DC3 PF X (LNG t).1.toNat (t.drop (LNG t).2.1.toNat)
/-- the first number; chk: is it too great? -/
def DC1 (chk : Nat → Bool) (PF : Nat → Nat → Int × List Nat) (t : List Int) : DANS :=
  if (LNG t).2.2 ≠ 0 then DERR (LNG t).2.2 else if chk (LNG t).1.toNat = true then DERR 30 else DC2 PF (LNG t).1.toNat (t.drop (LNG t).2.1.toNat)
/-- the mark. -/
def DC0 (K : Int) (chk : Nat → Bool) (PF : Nat → Nat → Int × List Nat) (l : List Int) : DANS :=
  if l.length = 0 then DERR 11 else if l.getD 0 0 ≠ K then DERR 14 else DC1 chk PF (l.drop 1)
def TOOBIG (n : Nat) : Bool := decide (4611686018427387904 < n)
/-- what Decode answers. -/
def DEC (l : List Int) : DANS := DC0 77 TOOBIG (fun S I => PLA I S) l
theorem LNG_back {t : List Int} (hr : ∀ x ∈ t, 0 ≤ x ∧ x ≤ 255) (h : (LNG t).2.2 = 0) : ∃ Z m : Nat, Z < 2 ^ 64 ∧ 1 ≤ m ∧ m ≤ t.length ∧ LNG t = ((Z : Int), (m : Int), 0) ∧ SHORT Z = t.take m := by
  have hr' : ∀ i, 0 ≤ t.getD i 0 ∧ t.getD i 0 ≤ 255 := fun i => by
    by_cases hi : i < t.length
    · rw [List.getD_eq_getElem?_getD, List.getElem?_eq_getElem hi]
      exact hr _ (List.getElem_mem hi)
    · rw [List.getD_eq_getElem?_getD, List.getElem?_eq_none (by omega)]
      simp
  obtain ⟨Z, m, h1, h2, h3, h4, h5, h6⟩ := LG_back (l := t) rfl hr' h
  exact ⟨Z, m + 1, h1, by omega, by omega, by unfold LNG; rw [h4]; simp, h6⟩
end Go.Proofs.YtkcfhgflgkejoaaGreatDoor

/- There and back: what Encode writes is what Decode reads, and the other way round. -/
namespace Go.Proofs.YtkcfhgflgkejoaaGreatDoor
open Go.RowKit

/-- what is read is written the same. -/
theorem DC_back {K : Int} {chk : Nat → Bool} {PF : Nat → Nat → Int × List Nat} {l : List Int} (hr : ∀ x ∈ l, 0 ≤ x ∧ x ≤ 255) {X Y N : Nat} {t : List Int} (h : DC0 K chk PF l = (0, X, Y, N, t)) :
    X < 2 ^ 64 ∧ Y < 2 ^ 64 ∧ chk X = false ∧ (PF X Y).1 = 0 ∧ N = (PF X Y).2.length ∧ t.length = 32 * N ∧ l = K :: (SHORT X ++ (SHORT Y ++ t)) ∧ (∀ x ∈ t, 0 ≤ x ∧ x ≤ 255) := by
  have bad : ∀ {E : Int}, DERR E = (0, X, Y, N, t) → E = 0 := fun h => congrArg Prod.fst h
  unfold DC0 at h
  split at h
  · exact absurd (bad h) (by decide)
  rename_i h0
  split at h
  · exact absurd (bad h) (by decide)
  rename_i hK
  have hr1 : ∀ x ∈ l.drop 1, 0 ≤ x ∧ x ≤ 255 := fun x hx => hr x (List.mem_of_mem_drop hx)
  have hl : l = K :: l.drop 1 := by
    cases l with
    | nil => simp at h0
    | cons a l =>
      have : a = K := by simpa using hK
      simp [this]
  unfold DC1 at h
  split at h
  · rename_i he
    exact absurd (bad h) he
  rename_i he
  obtain ⟨Z, m, hZ, _, hm, e1, s1⟩ := LNG_back hr1 (by simpa using he)
  rw [e1] at h
  dsimp only at h
  rw [Int.toNat_natCast, Int.toNat_natCast] at h
  split at h
  · exact absurd (bad h) (by decide)
  rename_i hchk
  have hr2 : ∀ x ∈ (l.drop 1).drop m, 0 ≤ x ∧ x ≤ 255 := fun x hx => hr1 x (List.mem_of_mem_drop hx)
  unfold DC2 at h
  split at h
  · rename_i he2
    exact absurd (bad h) he2
  rename_i he2
  obtain ⟨Z2, m2, hZ2, _, hm2, e2, s2⟩ := LNG_back hr2 (by simpa using he2)
  rw [e2] at h
  dsimp only at h
  rw [Int.toNat_natCast, Int.toNat_natCast] at h
  unfold DC3 at h
  split at h
  · rename_i he3
    exact absurd (bad h) he3
  rename_i he3
  split at h
  · exact absurd (bad h) (by decide)
  rename_i hlt
  split at h
  · exact absurd (bad h) (by decide)
  rename_i hgt
  simp only [Prod.mk.injEq, true_and] at h
  obtain ⟨rfl, rfl, rfl, rfl⟩ := h
  refine ⟨hZ, hZ2, by simpa using hchk, by simpa using he3, rfl, by omega, ?_, fun x hx => hr2 x (List.mem_of_mem_drop hx)⟩
  rw [s1, s2, List.take_append_drop, List.take_append_drop]
  exact hl
end Go.Proofs.YtkcfhgflgkejoaaGreatDoor

/- What the document's Big, FromBig, Short and Long give. -/
namespace Go.Proofs.YtkcfhgflgkejoaaGreatDoor
open Go.RowKit

set_option maxHeartbeats 1000000 in
theorem refshort_ok (X : Nat) (hX : X < 2 ^ 64) (w : World) : Calls Tryz.prog 62 #[.int .u64 (X : Int)] w fun e w' =>
    ∃ g cap, e = .returned (.slice (some ⟨g, 0, none⟩) (NTOP X + 1) cap) ∧ w'.ownsRow w.heap.size 5 1 (.slice (some ⟨g, 0, none⟩) (NTOP X + 1) cap) (NTOP X + 1) (CELLS (SHORT X)) ∧ g < w'.heap.size ∧ Below w.heap.size w w' := by
  have HX : Aside (X < 2 ^ 64) := hX
  clear hX
  go_enter Tryz.func62, Tryz.ntmps62
  go_wp2
  go_loopg [0, 3] 10 (fun g s0 s3 wx => ∃ (j x : Nat), j + g = 10 ∧ Aside (x = X / 128 ^ j ∧ (∀ i, i < j → 128 ≤ X / 128 ^ i) ∧ wx.ownsRow w.heap.size 5 1 s3 j (CELLS (GROUPS X j)) ∧ Below w.heap.size w wx) ∧ s0 = .int .u64 (x : Int))
  case atStart => exact ⟨0, X, by omega, ⟨by simp, fun i hi => by omega, World.ownsRow_nil _ _ _ _, Below.refl _ _⟩, rfl⟩
  case round =>
    obtain ⟨j, x, hjg, A, rfl⟩ := hrel
    have hxl : (x : Int) ≤ 18446744073709551615 := by
      have := Nat.div_le_self X (128 ^ j)
      have h1 := A.out.1
      have h2 := HX.out
      omega
    have HXL : Aside ((x : Int) ≤ 18446744073709551615) := hxl
    clear hxl
    by_cases hx : 128 ≤ (x : Int)
    · go_wp2_with (at_builtin; refine app_u8 _ rfl (.tmp 6) (.tmp 11) rfl w.heap.size u3 j (GROUPS X j) rfl (A.out.2.2.1.alloc _) wr.heap.size 0 1 1 [(x : Int) % 128 + 128] rfl (one_bytes wr _ (by omega) (by omega)) (by omega) (by omega) (by have := A.out.2.2.2.size; simp; omega) ?_; intro g cap w1 hown hgrow hg)
      have R : (x / 128 = X / 128 ^ (j + 1)) ∧ (∀ i, i < j + 1 → 128 ≤ X / 128 ^ i) ∧ w1.ownsRow w.heap.size 5 1 (.slice (some ⟨g, 0, none⟩) (j + 1) cap) (j + 1) (CELLS (GROUPS X (j + 1))) ∧ Below w.heap.size w w1 := by
        obtain ⟨hxe, hall, hown0, hb⟩ := A.out
        refine ⟨by rw [hxe, Nat.div_div_eq_div_mul, ← Nat.pow_succ], fun i hi => ?_, ?_, ?_⟩
        · by_cases e : i = j
          · rw [e, ← hxe]; omega
          · exact hall i (by omega)
        · rw [GROUPS_succ, show ((X / 128 ^ j % 128 + 128 : Nat) : Int) = (x : Int) % 128 + 128 by rw [← hxe]; omega]
          exact hown
        · exact (hb.alloc hb.size _).grown hgrow (by have := hb.size; simp; omega) (fun k e => (hown0.lt k e).1)
      have HR : Aside ((x / 128 = X / 128 ^ (j + 1)) ∧ (∀ i, i < j + 1 → 128 ≤ X / 128 ^ i) ∧ w1.ownsRow w.heap.size 5 1 (.slice (some ⟨g, 0, none⟩) (j + 1) cap) (j + 1) (CELLS (GROUPS X (j + 1))) ∧ Below w.heap.size w w1) := R
      have hj9 : j < 9 := by
        obtain ⟨hxe, hall, _, _⟩ := A.out
        rcases Nat.lt_or_ge j 9 with h | h
        · exact h
        · have h1 := div_anti X h
          have h2 : X / 128 ^ 9 < 2 := Nat.div_lt_of_lt_mul (Nat.lt_of_lt_of_le HX.out (by decide))
          omega
      clear hown hgrow hg R A
      go_wp2
      go_roundg (gk - 1)
      case measure => omega
      case rel => exact ⟨j + 1, x / 128, by omega, HR, by have := HXL.out; rw [show IntKind.u64.wrap ((x : Int) / 128) = ((x / 128 : Nat) : Int) by rw [wrapU]; omega]⟩
    · go_wp2_with (at_builtin; refine app_u8 _ rfl (.tmp 15) (.tmp 18) rfl w.heap.size u3 j (GROUPS X j) rfl (A.out.2.2.1.alloc _) wr.heap.size 0 1 1 [(x : Int)] rfl (one_bytes wr _ (by omega) (by omega)) (by omega) (by omega) (by have := A.out.2.2.2.size; simp; omega) ?_; intro g cap w1 hown hgrow hg)
      obtain ⟨hxe, hall, hown0, hb⟩ := A.out
      have hN : NTOP X = j := NTOP_eq HX.out hall (by rw [← hxe]; omega)
      have R : w1.ownsRow w.heap.size 5 1 (.slice (some ⟨g, 0, none⟩) (NTOP X + 1) cap) (NTOP X + 1) (CELLS (SHORT X)) ∧ g < w1.heap.size ∧ Below w.heap.size w w1 := by
        refine ⟨?_, hg, (hb.alloc hb.size _).grown hgrow (by have := hb.size; simp; omega) (fun k e => (hown0.lt k e).1)⟩
        unfold SHORT
        rw [hN, ← hxe]
        exact hown
      have HR : Aside (w1.ownsRow w.heap.size 5 1 (.slice (some ⟨g, 0, none⟩) (NTOP X + 1) cap) (NTOP X + 1) (CELLS (SHORT X)) ∧ g < w1.heap.size ∧ Below w.heap.size w w1) := R
      have HN : Aside (NTOP X = j) := hN
      clear hown hgrow hg R A hxe hall hown0 hb hN
      go_wp2
      go_ret
      obtain ⟨h1, h2, h3⟩ := HR.out
      refine ⟨g, cap, ?_, h1, h2, h3⟩
      rw [HN.out]
      rfl
end Go.Proofs.YtkcfhgflgkejoaaGreatDoor

/- What the document's Long gives. -/
namespace Go.Proofs.YtkcfhgflgkejoaaGreatDoor
open Go.RowKit

/-- the groups from j on, put together from the highest one down. -/
def Tops (d : Nat → Nat) (j : Nat) (x : Int) (V : Nat) : Prop := ∃ y : Nat, x = (y : Int) ∧ VAL d j + y * 128 ^ j = V
theorem Tops.down {d : Nat → Nat} {j V : Nat} {x v : Int} (A : Tops d (j + 1) x V) (hV : V < 2 ^ 64) (hv : (v % 128).toNat = d j) : Tops d j (IntKind.u64.wrap (IntKind.u64.wrap (128 * x) + v % 128)) V := by
  obtain ⟨y, rfl, hy⟩ := A
  have e : VAL d j + (128 * y + d j) * 128 ^ j = V := by
    rw [← hy, VAL, Nat.add_mul, Nat.pow_succ, Nat.mul_comm 128 y, Nat.mul_assoc, Nat.mul_comm 128 (128 ^ j)]
    omega
  have hl : 128 * y + d j ≤ V := by
    have h1 : (128 * y + d j) * 1 ≤ (128 * y + d j) * 128 ^ j := Nat.mul_le_mul_left _ (Nat.pow_pos (by decide))
    omega
  refine ⟨128 * y + d j, ?_, e⟩
  rw [wrapU, wrapU, ← hv]
  omega

end Go.Proofs.YtkcfhgflgkejoaaGreatDoor

/- What the document's Wants, Take and Decode answer, of any bytes. -/
namespace Go.Proofs.YtkcfhgflgkejoaaGreatDoor
open Go.RowKit
set_option maxRecDepth 100000

theorem prefixwants_ok (F S : Nat) (a : Option Addr) (n c : Nat) (w : World) : Calls Tryz.prog 61 #[.agg #[.int .u64 (F : Int), .int .u64 (S : Int), .slice a n c]] w fun e w' => e = .returned (.tuple #[.int .i64 ((PPA F S).2.length : Int), .int .i64 (PPA F S).1]) ∧ Below w.heap.size w w' := by
  have C : Aside (∀ W, Calls Tryz.prog 96 #[.int .u64 (F : Int), .int .u64 (S : Int)] W fun e w' => ∃ v, e = .returned (.tuple #[v, .int .i64 (PPA F S).1]) ∧ w'.ownsRow W.heap.size 24 1 v (PPA F S).2.length (UCELLS (PPA F S).2) ∧ Below W.heap.size W w') := fun W => refppa_ok F S W
  obtain ⟨E, hE⟩ : ∃ E, (PPA F S).1 = E := ⟨_, rfl⟩
  obtain ⟨N, hN⟩ : ∃ N, (PPA F S).2.length = N := ⟨_, rfl⟩
  rw [hE, hN] at C ⊢
  generalize (PPA F S).2 = L at *
  have Z : Aside (Below w.heap.size w (w.alloc (.cells #[.int .u64 (F : Int), .int .u64 (S : Int), .slice a n c] 34))) := (Below.refl _ _).alloc (Nat.le_refl _) _
  clear hE hN
  go_enter Tryz.func61, Tryz.ntmps61
  go_wp2_with fail
  refine (C.out _).mono ?_
  rintro e w1 ⟨v, rfl, hrow, hb⟩
  obtain ⟨av, cv, rfl, _⟩ := own_slice hrow
  have Z2 : Aside (Below w.heap.size w w1) := Z.out.trans (hb.mono Z.out.size)
  clear hrow hb C Z
  go_wp2
  go_ret2
  exact ⟨rfl, Z2.out⟩
end Go.Proofs.YtkcfhgflgkejoaaGreatDoor
