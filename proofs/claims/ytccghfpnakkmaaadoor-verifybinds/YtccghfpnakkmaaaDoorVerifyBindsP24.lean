/- Texts of VerifyBinds, one behind the other: ProofMark, ProofHashes, ProofReaders, ProofDecodePlain. -/
import Derived.Deep.RegionLaw
import Derived.Laws.CopyOwn
import Derived.Test.YtccghfpnakkmaaaDoorVerifyBindsP10
import Derived.Test.YtccghfpnakkmaaaDoorVerifyBindsP23
/- What the readers of package proof do with the bytes that are left: the mark, a number. -/
namespace Go.Proofs.YtccghfpnakkmaaaDoor
open Go.RowKit
set_option maxRecDepth 100000

/-- s[k:], of bytes: what is behind. -/
theorem Bytes.rest {w : World} {b off n : Nat} {l : List Int} (h : Bytes w (some ⟨b, off, none⟩) n l) (k : Nat) (hk : k ≤ n) : Bytes w (some ⟨b, off + k, none⟩) (n - k) (l.drop k) := by
  refine ⟨by rw [List.length_drop, h.1], fun hn => ?_, fun x hx => h.2.2 x (List.mem_of_mem_drop hx)⟩
  obtain ⟨b', o', e, hl, hc⟩ := h.2.1 (by omega)
  simp only [Option.some.injEq, Addr.mk.injEq] at e
  obtain ⟨rfl, rfl, _⟩ := e
  refine ⟨b, off + k, rfl, hl, fun i hi => ?_⟩
  rw [show off + k + i = off + (k + i) by omega, hc (k + i) (by omega)]
  congr 2
  rw [List.getD_eq_getElem?_getD, List.getD_eq_getElem?_getD, List.getElem?_drop]
theorem mark_none (rb : Nat) (k : Int) (a : Option Addr) (c : Nat) (w : World) (h0 : w.cell? ⟨rb, 0, none⟩ = some (.slice a 0 c)) :
    Calls Tryd.prog 88 #[.pointer (some ⟨rb, 0, none⟩), .int .u8 k] w fun e w' => e = .returned (.int .i64 11) ∧ w = w' := by
  go_enter Tryd.func88, Tryd.ntmps88
  go_wp2
  go_ret
  exact ⟨rfl, rfl⟩
theorem mark_other (rb : Nat) (k x : Int) (b off n c : Nat) (w : World) (hx : ¬ x = k) (hn : ¬ (n : Int) = 0) (h0 : w.cell? ⟨rb, 0, none⟩ = some (.slice (some ⟨b, off, none⟩) n c)) (hc : w.cell? ⟨b, off, none⟩ = some (.int .u8 x)) :
    Calls Tryd.prog 88 #[.pointer (some ⟨rb, 0, none⟩), .int .u8 k] w fun e w' => e = .returned (.int .i64 14) ∧ w = w' := by
  have hn1 : (0 : Int) < (n : Int) := by omega
  have hn2 : 0 < n := by omega
  go_enter Tryd.func88, Tryd.ntmps88
  go_wp2
  go_ret
  exact ⟨rfl, rfl⟩
/-- where s[k:] begins: where no room is left, the address stays. -/
def REST (b off c k : Nat) : Option Addr := if c = k then some ⟨b, off, none⟩ else some ⟨b, off + k, none⟩
theorem Bytes.behind {w : World} {b off n c : Nat} {l : List Int} (h : Bytes w (some ⟨b, off, none⟩) n l) (k : Nat) (hk : k ≤ n) (hc : n ≤ c) : Bytes w (REST b off c k) (n - k) (l.drop k) := by
  unfold REST
  split
  · have h0 : n - k = 0 := by omega
    rw [h0]
    refine ⟨?_, fun h => by omega, fun x hx => h.2.2 x (List.mem_of_mem_drop hx)⟩
    rw [List.length_drop, h.1, h0]
  · exact h.rest k hk
theorem mark_ok (rb : Nat) (k : Int) (b off n c : Nat) (hcap : n + 1 ≤ c) (w : World) (h0 : w.cell? ⟨rb, 0, none⟩ = some (.slice (some ⟨b, off, none⟩) (n + 1) c)) (hf : w.frozen? ⟨rb, 0, none⟩ = false) (hc : w.cell? ⟨b, off, none⟩ = some (.int .u8 k)) :
    Calls Tryd.prog 88 #[.pointer (some ⟨rb, 0, none⟩), .int .u8 k] w fun e w' => e = .returned (.int .i64 0) ∧ w' = w.setCell ⟨rb, 0, none⟩ (.slice (REST b off c 1) n (c - 1)) := by
  have hn1 : (0 : Int) < (n : Int) + 1 := by omega
  have hn2 : ¬ (n : Int) + 1 = 0 := by omega
  have hcap' : (n : Int) + 1 ≤ (c : Int) := by omega
  obtain ⟨a', ha'⟩ : ∃ a', REST b off c 1 = a' := ⟨_, rfl⟩
  rw [ha']
  by_cases h1 : c = 1
  · have HA : Aside (some ⟨b, off, none⟩ = a') := by
      rw [← ha']
      simp [REST, h1, Aside]
    have hn0 : n = 0 := by omega
    subst h1 hn0
    clear ha' hcap
    go_enter Tryd.func88, Tryd.ntmps88
    go_wp2
    go_ret
    rw [← HA.out]
    exact ⟨rfl, rfl⟩
  · have HA : Aside (some ⟨b, off + 1, none⟩ = a') := by
      rw [← ha']
      simp [REST, h1, Aside]
    have hc1 : ¬ c - 1 = 0 := by omega
    clear ha' hcap
    go_enter Tryd.func88, Tryd.ntmps88
    go_wp2
    go_ret
    rw [← HA.out]
    exact ⟨rfl, rfl⟩
theorem number_err (rb f : Nat) (r1 r2 r3 : Int) (v : Value) (w : World) (hr : ¬ r3 = 0) (h0 : w.cell? ⟨rb, 0, none⟩ = some v)
    (c : Calls Tryd.prog 111 #[v] w fun e w' => e = .returned (.tuple #[.int .u64 r1, .int .i64 r2, .int .i64 r3]) ∧ w = w') :
    Calls Tryd.prog 89 #[.pointer (some ⟨rb, 0, none⟩), .pointer (some ⟨rb, f, none⟩)] w fun e w' => e = .returned (.int .i64 r3) ∧ w = w' := by
  have hr' : (r3 != 0) = true := by simp [hr]
  go_enter Tryd.func89, Tryd.ntmps89
  go_wp2_with fail
  refine c.mono ?_
  rintro e w' ⟨rfl, rfl⟩
  clear c
  go_wp2
  go_ret
  exact ⟨rfl, rfl⟩
set_option maxHeartbeats 2000000 in
theorem number_raw (rb f : Nat) (hf0 : f ≠ 0) (r1 : Int) (b off n c m : Nat) (hm : m ≤ n) (hcap : n ≤ c) (hcm : c ≠ m) (x1 : Value) (w : World) (h0 : w.cell? ⟨rb, 0, none⟩ = some (.slice (some ⟨b, off, none⟩) n c)) (h1 : w.cell? ⟨rb, f, none⟩ = some x1) (z0 : w.frozen? ⟨rb, 0, none⟩ = false) (z1 : w.frozen? ⟨rb, f, none⟩ = false)
    (cl : Calls Tryd.prog 111 #[.slice (some ⟨b, off, none⟩) n c] w fun e w' => e = .returned (.tuple #[.int .u64 r1, .int .i64 (m : Int), .int .i64 0]) ∧ w = w') :
    Calls Tryd.prog 89 #[.pointer (some ⟨rb, 0, none⟩), .pointer (some ⟨rb, f, none⟩)] w fun e w' => e = .returned (.int .i64 0) ∧ w' = (w.drew.setCell ⟨rb, f, none⟩ (.int .u64 r1)).setCell ⟨rb, 0, none⟩ (.slice (some ⟨b, off + m, none⟩) (n - m) (c - m)) := by
  have k1 : (m : Int) ≤ (n : Int) := by omega
  have k2 : (n : Int) ≤ (c : Int) := by omega
  have k3 : ¬ c - m = 0 := by omega
  have g0 : (w.drew.setCell ⟨rb, f, none⟩ (.int .u64 r1)).cell? ⟨rb, 0, none⟩ = some (.slice (some ⟨b, off, none⟩) n c) := by rw [set_off hf0]; exact h0
  go_enter Tryd.func89, Tryd.ntmps89
  go_wp2_with fail
  refine cl.mono ?_
  rintro e w' ⟨rfl, rfl⟩
  clear cl
  go_wp2
  go_region
  all_goals go_wp2
  all_goals go_ret
  all_goals exact ⟨rfl, rfl⟩
set_option maxHeartbeats 2000000 in
theorem number_end (rb f : Nat) (hf0 : f ≠ 0) (r1 : Int) (b off m : Nat) (x1 : Value) (w : World) (h0 : w.cell? ⟨rb, 0, none⟩ = some (.slice (some ⟨b, off, none⟩) m m)) (h1 : w.cell? ⟨rb, f, none⟩ = some x1) (z0 : w.frozen? ⟨rb, 0, none⟩ = false) (z1 : w.frozen? ⟨rb, f, none⟩ = false)
    (cl : Calls Tryd.prog 111 #[.slice (some ⟨b, off, none⟩) m m] w fun e w' => e = .returned (.tuple #[.int .u64 r1, .int .i64 (m : Int), .int .i64 0]) ∧ w = w') :
    Calls Tryd.prog 89 #[.pointer (some ⟨rb, 0, none⟩), .pointer (some ⟨rb, f, none⟩)] w fun e w' => e = .returned (.int .i64 0) ∧ w' = (w.drew.setCell ⟨rb, f, none⟩ (.int .u64 r1)).setCell ⟨rb, 0, none⟩ (.slice (some ⟨b, off, none⟩) 0 0) := by
  have g0 : (w.drew.setCell ⟨rb, f, none⟩ (.int .u64 r1)).cell? ⟨rb, 0, none⟩ = some (.slice (some ⟨b, off, none⟩) m m) := by rw [set_off hf0]; exact h0
  go_enter Tryd.func89, Tryd.ntmps89
  go_wp2_with fail
  refine cl.mono ?_
  rintro e w' ⟨rfl, rfl⟩
  clear cl
  go_wp2
  go_region
  all_goals go_wp2
  all_goals go_ret
  all_goals exact ⟨rfl, rfl⟩
theorem number_ok (rb f : Nat) (hf0 : f ≠ 0) (r1 : Int) (b off n c m : Nat) (hm : m ≤ n) (hcap : n ≤ c) (x1 : Value) (w : World) (h0 : w.cell? ⟨rb, 0, none⟩ = some (.slice (some ⟨b, off, none⟩) n c)) (h1 : w.cell? ⟨rb, f, none⟩ = some x1) (z0 : w.frozen? ⟨rb, 0, none⟩ = false) (z1 : w.frozen? ⟨rb, f, none⟩ = false)
    (cl : Calls Tryd.prog 111 #[.slice (some ⟨b, off, none⟩) n c] w fun e w' => e = .returned (.tuple #[.int .u64 r1, .int .i64 (m : Int), .int .i64 0]) ∧ w = w') :
    Calls Tryd.prog 89 #[.pointer (some ⟨rb, 0, none⟩), .pointer (some ⟨rb, f, none⟩)] w fun e w' => e = .returned (.int .i64 0) ∧ w' = (w.drew.setCell ⟨rb, f, none⟩ (.int .u64 r1)).setCell ⟨rb, 0, none⟩ (.slice (REST b off c m) (n - m) (c - m)) := by
  by_cases h : c = m
  · obtain rfl : c = n := by omega
    subst h
    have := number_end rb f hf0 r1 b off c x1 w h0 h1 z0 z1 cl
    simpa [REST] using this
  · have := number_raw rb f hf0 r1 b off n c m hm hcap h x1 w h0 h1 z0 z1 cl
    simpa [REST, h] using this
end Go.Proofs.YtccghfpnakkmaaaDoor

/- What the readers of package proof do with the bytes that are left: the nodes. -/
namespace Go.Proofs.YtccghfpnakkmaaaDoor
open Go.RowKit
set_option maxRecDepth 100000

theorem hashes_cut (rb f N n c : Nat) (a : Option Addr) (hN : N ≤ 1000) (hn : n < 32 * N) (w : World) (h0 : w.cell? ⟨rb, 0, none⟩ = some (.slice a n c)) :
    Calls Tryd.prog 90 #[.pointer (some ⟨rb, 0, none⟩), .pointer (some ⟨rb, f, none⟩), .int .i64 (N : Int)] w fun e w' => e = .returned (.int .i64 11) ∧ w = w' := by
  have e1 : wrap64 ((N : Int) * 32) = (N : Int) * 32 := by unfold wrap64; omega
  have h1 : (n : Int) < (N : Int) * 32 := by omega
  clear hN hn
  go_enter Tryd.func90, Tryd.ntmps90
  go_wp2
  go_ret
  exact ⟨rfl, rfl⟩
theorem hashes_tail (rb f N n c : Nat) (a : Option Addr) (hN : N ≤ 1000) (hn : 32 * N < n) (w : World) (h0 : w.cell? ⟨rb, 0, none⟩ = some (.slice a n c)) :
    Calls Tryd.prog 90 #[.pointer (some ⟨rb, 0, none⟩), .pointer (some ⟨rb, f, none⟩), .int .i64 (N : Int)] w fun e w' => e = .returned (.int .i64 13) ∧ w = w' := by
  have e1 : wrap64 ((N : Int) * 32) = (N : Int) * 32 := by unfold wrap64; omega
  have h1 : ¬ (n : Int) < (N : Int) * 32 := by omega
  have h2 : (N : Int) * 32 < (n : Int) := by omega
  clear hN hn
  go_enter Tryd.func90, Tryd.ntmps90
  go_wp2
  go_ret
  exact ⟨rfl, rfl⟩
theorem info_hashz : (Tryd.prog.info? 24).map (fun i => (i.size, i.bytes, i.zero.isSome)) = some (32, 32, true) := by kernel_rfl
theorem make_hashes (N : Nat) (hN : N ≤ 1000) (w : World) : ∃ Z : List Value, Z.length = 32 * N ∧ (Instr.makeSlice 32 (.int .i64 (N : Int)) (.int .i64 (N : Int))).run Tryd.prog w = .ok (.slice (some ⟨w.heap.size, 0, none⟩) N N) (w.alloc (.cells Z.toArray 24)) := by
  obtain ⟨i, hi, h⟩ := Option.map_eq_some_iff.1 info_hashz
  simp only [Prod.mk.injEq] at h
  obtain ⟨h1, h2, h3⟩ := h
  obtain ⟨z, hz⟩ := Option.isSome_iff_exists.1 h3
  have h := run_make (P := Tryd.prog) w 32 24 i z Tryd.underlying32 hi hz .i64 .i64 N N (by omega) (by omega) (by rw [h2]; omega) (by omega)
  refine ⟨(madeCells z.cells (N * i.size)).toList, ?_, ?_⟩
  · rw [Array.length_toList, size_madeCells, h1]
    omega
  · simpa using h
/-- the first i nodes are there. -/
def PARTH (l : List Int) (Z : List Value) (i : Nat) : List Value := CELLS (l.take (32 * i)) ++ Z.drop (32 * i)
theorem PARTH_zero (l : List Int) (Z : List Value) : PARTH l Z 0 = Z := by simp [PARTH, CELLS]
theorem PARTH_all {l : List Int} {Z : List Value} {N : Nat} (hl : l.length = 32 * N) (hZ : Z.length = 32 * N) : PARTH l Z N = CELLS l := by
  unfold PARTH
  rw [List.take_of_length_le (by omega), List.drop_of_length_le (by omega), List.append_nil]
theorem PARTH_length {l : List Int} {Z : List Value} {N i : Nat} (hl : l.length = 32 * N) (hZ : Z.length = 32 * N) (hi : i ≤ N) : (PARTH l Z i).length = 32 * N := by
  unfold PARTH
  rw [List.length_append, List.length_drop, CELLS, List.length_map, List.length_take]
  omega
theorem PARTH_next {l : List Int} (Z : List Value) {N i : Nat} (hl : l.length = 32 * N) (hi : i < N) : splice (PARTH l Z i) (i * 32) (CELLS (HSH l i)) = PARTH l Z (i + 1) := by
  have h1 : (CELLS (l.take (32 * i))).length = i * 32 := by
    rw [CELLS, List.length_map, List.length_take]
    omega
  have h2 : (CELLS (HSH l i)).length = 32 := by
    rw [CELLS, List.length_map]
    exact HSH_length hl hi
  unfold splice PARTH
  rw [List.take_append_of_le_length (by omega), List.take_of_length_le (by omega), HSH_next, CELLS_append, h2, List.append_assoc]
  congr 2
  rw [List.drop_append, List.drop_of_length_le (by omega), List.nil_append, h1, List.drop_drop]
  congr 1
  omega
/-- the nodes stand in a block of their own, and the reader has them. -/
def HASHED (w : World) (rb f N : Nat) (l : List Int) (w' : World) : Prop := ∃ wx, Below w.heap.size w wx ∧ w.heap.size < wx.heap.size ∧ Has wx w.heap.size (CELLS l).toArray 24 ∧ w' = wx.setCell ⟨rb, f, none⟩ (.slice (some ⟨w.heap.size, 0, none⟩) N N)
set_option maxHeartbeats 4000000 in
theorem hashes_ok (rb f N c : Nat) (a : Option Addr) (hN : N ≤ 1000) (l : List Int) (w : World) (hB : Bytes w a (32 * N) l) (hc : 32 * N ≤ c) (hrb : rb < w.heap.size) (h0 : w.cell? ⟨rb, 0, none⟩ = some (.slice a (32 * N) c)) (x1 : Value) (h1 : w.cell? ⟨rb, f, none⟩ = some x1) (z1 : w.frozen? ⟨rb, f, none⟩ = false) :
    Calls Tryd.prog 90 #[.pointer (some ⟨rb, 0, none⟩), .pointer (some ⟨rb, f, none⟩), .int .i64 (N : Int)] w fun e w' => e = .returned (.int .i64 0) ∧ HASHED w rb f N l w' := by
  have e1 : wrap64 ((N : Int) * 32) = (N : Int) * 32 := by unfold wrap64; omega
  have k1 : ¬ ((32 * N : Nat) : Int) < (N : Int) * 32 := by omega
  have k2 : ¬ (N : Int) * 32 < ((32 * N : Nat) : Int) := by omega
  obtain ⟨M, hM⟩ : ∃ M, 32 * N = M := ⟨_, rfl⟩
  rw [hM] at h0 k1 k2 hB hc
  obtain ⟨Z, hZ, hmk⟩ := make_hashes N hN w
  have HA : Aside (l.length = 32 * N ∧ Z.length = 32 * N ∧ N ≤ 1000 ∧ 32 * N = M ∧ M ≤ c ∧ Bytes w a M l ∧ rb < w.heap.size ∧ w.cell? ⟨rb, 0, none⟩ = some (.slice a M c) ∧ w.cell? ⟨rb, f, none⟩ = some x1 ∧ w.frozen? ⟨rb, f, none⟩ = false) := ⟨by rw [hM]; exact hB.1, hZ, hN, hM, hc, hB, hrb, h0, h1, z1⟩
  clear hN hZ hB hc hM hrb h1 z1
  go_enter Tryd.func90, Tryd.ntmps90
  go_wp2
  clear e1 hmk h0
  go_loopg [30] N (fun q s30 wx => ∃ i : Nat, s30 = .int .i64 (i : Int) ∧ Aside (i + q = N ∧ Below w.heap.size w wx ∧ w.heap.size < wx.heap.size ∧ Has wx w.heap.size (PARTH l Z i).toArray 24))
  case atStart => exact ⟨0, rfl, by omega, (Below.refl _ _).alloc (Nat.le_refl _) _, by simp, by rw [PARTH_zero]; exact Has.new _ _ _⟩
  case round =>
    obtain ⟨i, rfl, A⟩ := hrel
    obtain ⟨hi, hbel, hsz, hhas⟩ := A.out
    obtain ⟨a1, a2, a3, a4, a5, a6, a7, a8, a9, a10⟩ := HA.out
    cases gk with
    | zero =>
      obtain rfl : i = N := by omega
      have hlt : ¬ (i : Int) < (i : Int) := by omega
      have y1 : wr.cell? ⟨rb, f, none⟩ = some x1 := (hbel.cell (p := ⟨rb, f, none⟩) a7).trans a9
      have y2 : wr.frozen? ⟨rb, f, none⟩ = false := (hbel.frozen (p := ⟨rb, f, none⟩) a7).trans a10
      have R : Aside (Below w.heap.size w wr ∧ w.heap.size < wr.heap.size ∧ Has wr w.heap.size (CELLS l).toArray 24) := by
        rw [PARTH_all a1 a2] at hhas
        exact ⟨hbel, hsz, hhas⟩
      clear hi hbel hsz hhas a1 a2 a3 a4 a5 a6 a7 a8 a9 a10 A HA
      go_wp2
      go_ret
      exact ⟨rfl, wr, R.out.1, R.out.2.1, R.out.2.2, rfl⟩
    | succ q =>
      have hlt : (i : Int) < (N : Int) := by omega
      obtain ⟨b, o, rfl, hbl, hcs⟩ := a6.2.1 (by omega)
      have y0 : wr.cell? ⟨rb, 0, none⟩ = some (.slice (some ⟨b, o, none⟩) M c) := (hbel.cell (p := ⟨rb, 0, none⟩) a7).trans a8
      obtain ⟨I, hI⟩ : ∃ I, i * 32 = I := ⟨_, rfl⟩
      have m2 : (I : Int) ≤ (M : Int) := by omega
      have m3 : (M : Int) ≤ (c : Int) := by omega
      have m4 : ¬ c = I := by omega
      have h32 : (CELLS (HSH l i)).length = 32 := by
        rw [CELLS, List.length_map]
        exact HSH_length a1 (by omega)
      have hsrc : ∀ j v, (CELLS (HSH l i))[j]? = some v → wr.cell? ((⟨b, o + I, none⟩ : Addr).add j) = some v := by
        intro j v hv
        have hj : j < 32 := by
          have := (List.getElem?_eq_some_iff.1 hv).1
          omega
        rw [CELLS_get _ _ (by rw [HSH_length a1 (by omega)]; exact hj), HSH_at hj] at hv
        rw [addr_add, show o + I + j = o + (32 * i + j) by omega]
        exact ((hbel.cell (p := ⟨b, o + (32 * i + j), none⟩) hbl).trans (hcs (32 * i + j) (by omega))).trans hv
      have hpl := PARTH_length a1 a2 (show i ≤ N by omega)
      have hnx := PARTH_next Z a1 (show i < N by omega)
      have hone := CELLS_one (HSH l i)
      have R : Aside (i + 1 + q = N ∧ Below w.heap.size w wr ∧ w.heap.size < wr.heap.size ∧ Has wr w.heap.size (PARTH l Z i).toArray 24 ∧ splice (PARTH l Z i) (i * 32) (CELLS (HSH l i)) = PARTH l Z (i + 1)) := ⟨by omega, hbel, hsz, hhas, hnx⟩
      have S : Aside ((CELLS (HSH l i)).length = Nat.min (M - I) 32 ∧ i * 32 + (CELLS (HSH l i)).length ≤ (PARTH l Z i).length) := ⟨by rw [h32]; exact (Nat.min_eq_right (show 32 ≤ M - I by omega)).symm, by omega⟩
      have E2 : Aside (wrap64 ((i : Int) * 32) = (I : Int)) := by show wrap64 ((i : Int) * 32) = (I : Int); unfold wrap64; omega
      have E3 : Aside (IntKind.i64.wrap ((i : Int) * 32) = (I : Int)) := by show IntKind.i64.wrap ((i : Int) * 32) = (I : Int); rw [IntKind.wrap_i64]; omega
      have E1 : Aside (wrap64 ((i : Int) + 1) = ((i + 1 : Nat) : Int)) := by show wrap64 ((i : Int) + 1) = ((i + 1 : Nat) : Int); unfold wrap64; omega
      clear hi hbel hsz hhas a1 a2 a3 a4 a5 a6 a7 a8 a9 a10 A HA hbl hcs hpl hnx hI
      generalize CELLS (HSH l i) = H at *
      have hu8 : (Tryd.prog.info? 5).map (·.size) = some 1 := by kernel_rfl
      have m1 := E2.out
      have m5 := E3.out
      go_wp2
      go_region_law (refine step_copy_splice rfl (.tmp 36) (.tmp 43) 25 25 rfl 5 Tryd.underlying25 hu8 (some ⟨w.heap.size, i * 32, none⟩) (some ⟨b, o + I, none⟩) 32 32 (M - I) (c - I) (by simp [Act.eval, Act.put]) (by simp [Act.eval, Act.put]) w.heap.size (i * 32) (PARTH l Z i) 24 (by exact R.out.2.2.2.1) H S.out.1 (fun _ => ⟨rfl, _, rfl, hsrc⟩) S.out.2 hone w.heap.size w (by exact R.out.2.1.drew) (Nat.le_refl _) ?_; intro w4 hg4 hb4)
      have R2 : Aside (i + 1 + q = N ∧ Below w.heap.size w w4 ∧ w.heap.size < w4.heap.size ∧ Has w4 w.heap.size (PARTH l Z (i + 1)).toArray 24) := by
        obtain ⟨r1, r2, r3, r4, r5⟩ := R.out
        have hg5 : w4.heap[w.heap.size]? = some (.cells (splice (PARTH l Z i) (i * 32) H).toArray 24 (0, 0)) := hg4
        rw [r5] at hg5
        exact ⟨r1, hb4, (Array.getElem?_eq_some_iff.1 hg5).1, hg5⟩
      clear R S hg4 hb4 hsrc hone h32 m1 m5 y0
      have e1 := E1.out
      go_wp2
      go_roundg q
      case measure => exact Nat.lt_succ_self _
      case rel => exact ⟨i + 1, by first | rfl | (rw [E1.out]), R2.out⟩
end Go.Proofs.YtccghfpnakkmaaaDoor

/- What the parts of the two readers of package proof answer. -/
namespace Go.Proofs.YtccghfpnakkmaaaDoor
open Go.RowKit
set_option maxRecDepth 100000

theorem mkind_ok (rb : Nat) (w : World) (E : Int) (D : World → Prop) (c : Calls Tryd.prog 88 #[.pointer (some ⟨rb, 0, none⟩), .int .u8 77] w fun e w' => e = .returned (.int .i64 E) ∧ D w') :
    Calls Tryd.prog 51 #[.pointer (some ⟨rb, 0, none⟩)] w fun e w' => e = .returned (.int .i64 E) ∧ D w' := by
  go_enter Tryd.func51, Tryd.ntmps51
  go_wp2_with fail
  refine c.mono ?_
  rintro e w' ⟨rfl, h⟩
  clear c
  go_wp2
  go_ret
  exact ⟨rfl, h⟩
theorem pkind_ok (rb : Nat) (w : World) (E : Int) (D : World → Prop) (c : Calls Tryd.prog 88 #[.pointer (some ⟨rb, 0, none⟩), .int .u8 80] w fun e w' => e = .returned (.int .i64 E) ∧ D w') :
    Calls Tryd.prog 60 #[.pointer (some ⟨rb, 0, none⟩)] w fun e w' => e = .returned (.int .i64 E) ∧ D w' := by
  go_enter Tryd.func60, Tryd.ntmps60
  go_wp2_with fail
  refine c.mono ?_
  rintro e w' ⟨rfl, h⟩
  clear c
  go_wp2
  go_ret
  exact ⟨rfl, h⟩
theorem mindex_ok (rb : Nat) (w : World) (E : Int) (D : World → Prop) (c : Calls Tryd.prog 89 #[.pointer (some ⟨rb, 0, none⟩), .pointer (some ⟨rb, 2, none⟩)] w.drew fun e w' => e = .returned (.int .i64 E) ∧ D w') :
    Calls Tryd.prog 53 #[.pointer (some ⟨rb, 0, none⟩)] w fun e w' => e = .returned (.int .i64 E) ∧ D w' := by
  go_enter Tryd.func53, Tryd.ntmps53
  go_wp2
  go_region_with ((go_at_call 89; refine c.mono ?_; rintro e w' ⟨rfl, h⟩))
  all_goals go_wp2
  all_goals go_ret
  all_goals exact ⟨rfl, h⟩
theorem pfrom_ok (rb : Nat) (w : World) (E : Int) (D : World → Prop) (c : Calls Tryd.prog 89 #[.pointer (some ⟨rb, 0, none⟩), .pointer (some ⟨rb, 1, none⟩)] w.drew fun e w' => e = .returned (.int .i64 E) ∧ D w') :
    Calls Tryd.prog 61 #[.pointer (some ⟨rb, 0, none⟩)] w fun e w' => e = .returned (.int .i64 E) ∧ D w' := by
  go_enter Tryd.func61, Tryd.ntmps61
  go_wp2
  go_region_with ((go_at_call 89; refine c.mono ?_; rintro e w' ⟨rfl, h⟩))
  all_goals go_wp2
  all_goals go_ret
  all_goals exact ⟨rfl, h⟩
theorem psize_ok (rb : Nat) (w : World) (E : Int) (D : World → Prop) (c : Calls Tryd.prog 89 #[.pointer (some ⟨rb, 0, none⟩), .pointer (some ⟨rb, 2, none⟩)] w.drew fun e w' => e = .returned (.int .i64 E) ∧ D w') :
    Calls Tryd.prog 62 #[.pointer (some ⟨rb, 0, none⟩)] w fun e w' => e = .returned (.int .i64 E) ∧ D w' := by
  go_enter Tryd.func62, Tryd.ntmps62
  go_wp2
  go_region_with ((go_at_call 89; refine c.mono ?_; rintro e w' ⟨rfl, h⟩))
  all_goals go_wp2
  all_goals go_ret
  all_goals exact ⟨rfl, h⟩
theorem msize_err (rb : Nat) (w : World) (E : Int) (hE : ¬ E = 0) (D : World → Prop) (c : Calls Tryd.prog 89 #[.pointer (some ⟨rb, 0, none⟩), .pointer (some ⟨rb, 1, none⟩)] w.drew fun e w' => e = .returned (.int .i64 E) ∧ D w') :
    Calls Tryd.prog 52 #[.pointer (some ⟨rb, 0, none⟩)] w fun e w' => e = .returned (.int .i64 E) ∧ D w' := by
  have hE' : (E == 0) = false := by simp [hE]
  go_enter Tryd.func52, Tryd.ntmps52
  go_wp2
  go_region_with ((go_at_call 89; refine c.mono ?_; rintro e w' ⟨rfl, h⟩))
  all_goals go_wp2
  all_goals go_ret
  all_goals exact ⟨rfl, h⟩
theorem msize_big (rb : Nat) (w : World) (X : Int) (hX : 4611686018427387904 < X) (D : World → Prop) (c : Calls Tryd.prog 89 #[.pointer (some ⟨rb, 0, none⟩), .pointer (some ⟨rb, 1, none⟩)] w.drew fun e w' => e = .returned (.int .i64 0) ∧ w'.cell? ⟨rb, 1, none⟩ = some (.int .u64 X) ∧ D w') :
    Calls Tryd.prog 52 #[.pointer (some ⟨rb, 0, none⟩)] w fun e w' => e = .returned (.int .i64 30) ∧ D w' := by
  go_enter Tryd.func52, Tryd.ntmps52
  go_wp2
  go_region_with ((go_at_call 89; refine c.mono ?_; rintro e w' ⟨rfl, hc, h⟩))
  all_goals go_wp2
  all_goals go_ret
  all_goals exact ⟨rfl, h⟩
theorem msize_ok (rb : Nat) (w : World) (X : Int) (hX : ¬ 4611686018427387904 < X) (D : World → Prop) (c : Calls Tryd.prog 89 #[.pointer (some ⟨rb, 0, none⟩), .pointer (some ⟨rb, 1, none⟩)] w.drew fun e w' => e = .returned (.int .i64 0) ∧ w'.cell? ⟨rb, 1, none⟩ = some (.int .u64 X) ∧ D w') :
    Calls Tryd.prog 52 #[.pointer (some ⟨rb, 0, none⟩)] w fun e w' => e = .returned (.int .i64 0) ∧ D w' := by
  go_enter Tryd.func52, Tryd.ntmps52
  go_wp2
  go_region_with ((go_at_call 89; refine c.mono ?_; rintro e w' ⟨rfl, hc, h⟩))
  all_goals go_wp2
  all_goals go_ret
  all_goals exact ⟨rfl, h⟩
set_option maxHeartbeats 4000000 in
theorem mnodes_err (rb : Nat) (w : World) (X Y E : Int) (hE : ¬ E = 0) (D : World → Prop) (h1 : w.cell? ⟨rb, 1, none⟩ = some (.int .u64 X)) (h2 : w.cell? ⟨rb, 2, none⟩ = some (.int .u64 Y))
    (c : Calls Tryd.prog 55 #[.int .u64 Y, .int .u64 X] w.drew fun e w' => ∃ v, e = .returned (.tuple #[v, .int .i64 E]) ∧ D w') :
    Calls Tryd.prog 54 #[.pointer (some ⟨rb, 0, none⟩)] w fun e w' => e = .returned (.int .i64 E) ∧ D w' := by
  have hE' : (E != 0) = true := by simp [hE]
  have d1 : w.drew.cell? ⟨rb, 1, none⟩ = some (.int .u64 X) := h1
  have d2 : w.drew.cell? ⟨rb, 2, none⟩ = some (.int .u64 Y) := h2
  go_enter Tryd.func54, Tryd.ntmps54
  go_wp2
  go_region_with ((go_at_call 55; refine c.mono ?_; rintro e w' ⟨v, rfl, h⟩))
  all_goals go_wp2
  all_goals go_ret
  all_goals exact ⟨rfl, h⟩
set_option maxHeartbeats 4000000 in
theorem mnodes_ok (rb : Nat) (w : World) (X Y E : Int) (N : Nat) (D : World → Prop) (h1 : w.cell? ⟨rb, 1, none⟩ = some (.int .u64 X)) (h2 : w.cell? ⟨rb, 2, none⟩ = some (.int .u64 Y))
    (c : Calls Tryd.prog 55 #[.int .u64 Y, .int .u64 X] w.drew fun e w' => ∃ a cap, e = .returned (.tuple #[.slice a N cap, .int .i64 0]) ∧ Calls Tryd.prog 90 #[.pointer (some ⟨rb, 0, none⟩), .pointer (some ⟨rb, 3, none⟩), .int .i64 (N : Int)] w'.drew fun e w2 => e = .returned (.int .i64 E) ∧ D w2) :
    Calls Tryd.prog 54 #[.pointer (some ⟨rb, 0, none⟩)] w fun e w' => e = .returned (.int .i64 E) ∧ D w' := by
  have d1 : w.drew.cell? ⟨rb, 1, none⟩ = some (.int .u64 X) := h1
  have d2 : w.drew.cell? ⟨rb, 2, none⟩ = some (.int .u64 Y) := h2
  go_enter Tryd.func54, Tryd.ntmps54
  go_wp2
  go_region_with ((go_at_call 55; refine c.mono ?_; rintro e w' ⟨a, cap, rfl, h⟩))
  all_goals go_wp2
  all_goals go_region_with ((go_at_call 90; refine h.mono ?_; rintro e w2 ⟨rfl, h⟩))
  all_goals go_wp2
  all_goals go_ret
  all_goals exact ⟨rfl, h⟩
set_option maxHeartbeats 4000000 in
theorem pnodes_err (rb : Nat) (w : World) (X Y E : Int) (hE : ¬ E = 0) (D : World → Prop) (h1 : w.cell? ⟨rb, 1, none⟩ = some (.int .u64 X)) (h2 : w.cell? ⟨rb, 2, none⟩ = some (.int .u64 Y))
    (c : Calls Tryd.prog 64 #[.int .u64 X, .int .u64 Y] w.drew fun e w' => ∃ v, e = .returned (.tuple #[v, .int .i64 E]) ∧ D w') :
    Calls Tryd.prog 63 #[.pointer (some ⟨rb, 0, none⟩)] w fun e w' => e = .returned (.int .i64 E) ∧ D w' := by
  have hE' : (E != 0) = true := by simp [hE]
  have d1 : w.drew.cell? ⟨rb, 1, none⟩ = some (.int .u64 X) := h1
  have d2 : w.drew.cell? ⟨rb, 2, none⟩ = some (.int .u64 Y) := h2
  go_enter Tryd.func63, Tryd.ntmps63
  go_wp2
  go_region_with ((go_at_call 64; refine c.mono ?_; rintro e w' ⟨v, rfl, h⟩))
  all_goals go_wp2
  all_goals go_ret
  all_goals exact ⟨rfl, h⟩
set_option maxHeartbeats 4000000 in
theorem pnodes_ok (rb : Nat) (w : World) (X Y E : Int) (N : Nat) (D : World → Prop) (h1 : w.cell? ⟨rb, 1, none⟩ = some (.int .u64 X)) (h2 : w.cell? ⟨rb, 2, none⟩ = some (.int .u64 Y))
    (c : Calls Tryd.prog 64 #[.int .u64 X, .int .u64 Y] w.drew fun e w' => ∃ a cap, e = .returned (.tuple #[.slice a N cap, .int .i64 0]) ∧ Calls Tryd.prog 90 #[.pointer (some ⟨rb, 0, none⟩), .pointer (some ⟨rb, 3, none⟩), .int .i64 (N : Int)] w'.drew fun e w2 => e = .returned (.int .i64 E) ∧ D w2) :
    Calls Tryd.prog 63 #[.pointer (some ⟨rb, 0, none⟩)] w fun e w' => e = .returned (.int .i64 E) ∧ D w' := by
  have d1 : w.drew.cell? ⟨rb, 1, none⟩ = some (.int .u64 X) := h1
  have d2 : w.drew.cell? ⟨rb, 2, none⟩ = some (.int .u64 Y) := h2
  go_enter Tryd.func63, Tryd.ntmps63
  go_wp2
  go_region_with ((go_at_call 64; refine c.mono ?_; rintro e w' ⟨a, cap, rfl, h⟩))
  all_goals go_wp2
  all_goals go_region_with ((go_at_call 90; refine h.mono ?_; rintro e w2 ⟨rfl, h⟩))
  all_goals go_wp2
  all_goals go_ret
  all_goals exact ⟨rfl, h⟩
end Go.Proofs.YtccghfpnakkmaaaDoor

/- What Decode and DecodePrefix answer, of any bytes. -/
namespace Go.Proofs.YtccghfpnakkmaaaDoor
open Go.RowKit

/-- a number in front of bytes: it, how many bytes it has, or what is wrong. -/
def LNG (t : List Int) : Int × Int × Int := LG t t.length 10 0 0
/-- an error, two numbers, how many nodes, their bytes. -/
abbrev DANS := Int × Nat × Nat × Nat × List Int
def DERR (E : Int) : DANS := (E, 0, 0, 0, [])
/-- the nodes, behind the numbers X and Y; PF: how many there are to be. -/
def DC3 (PF : Nat → Nat → Int × List Nat) (X Y : Nat) (t : List Int) : DANS :=
  if (PF X Y).1 ≠ 0 then DERR (PF X Y).1 else if t.length < 32 * (PF X Y).2.length then DERR 11 else if 32 * (PF X Y).2.length < t.length then DERR 13 else (0, X, Y, (PF X Y).2.length, t)
/-- the second number. -/
def DC2 (PF : Nat → Nat → Int × List Nat) (X : Nat) (t : List Int) : DANS :=
  if (LNG t).2.2 ≠ 0 then DERR (LNG t).2.2 else DC3 PF X (LNG t).1.toNat (t.drop (LNG t).2.1.toNat)
/-- the first number; chk: is it too great? -/
def DC1 (chk : Nat → Bool) (PF : Nat → Nat → Int × List Nat) (t : List Int) : DANS :=
  if (LNG t).2.2 ≠ 0 then DERR (LNG t).2.2 else if chk (LNG t).1.toNat = true then DERR 30 else DC2 PF (LNG t).1.toNat (t.drop (LNG t).2.1.toNat)
/-- the mark. -/
def DC0 (K : Int) (chk : Nat → Bool) (PF : Nat → Nat → Int × List Nat) (l : List Int) : DANS :=
  if l.length = 0 then DERR 11 else if l.getD 0 0 ≠ K then DERR 14 else DC1 chk PF (l.drop 1)
def TOOBIG (n : Nat) : Bool := decide (4611686018427387904 < n)
/-- what Decode answers. -/
def DEC (l : List Int) : DANS := DC0 77 TOOBIG (fun S I => PLA I S) l
/-- what DecodePrefix answers. -/
def DEX (l : List Int) : DANS := DC0 80 (fun _ => false) PPA l
theorem LNG_back {t : List Int} (hr : ∀ x ∈ t, 0 ≤ x ∧ x ≤ 255) (h : (LNG t).2.2 = 0) : ∃ Z m : Nat, Z < 2 ^ 64 ∧ 1 ≤ m ∧ m ≤ t.length ∧ LNG t = ((Z : Int), (m : Int), 0) ∧ SHORT Z = t.take m := by
  have hr' : ∀ i, 0 ≤ t.getD i 0 ∧ t.getD i 0 ≤ 255 := fun i => by
    by_cases hi : i < t.length
    · rw [List.getD_eq_getElem?_getD, List.getElem?_eq_getElem hi]
      exact hr _ (List.getElem_mem hi)
    · rw [List.getD_eq_getElem?_getD, List.getElem?_eq_none (by omega)]
      simp
  obtain ⟨Z, m, h1, h2, h3, h4, h5, h6⟩ := LG_back (l := t) rfl hr' h
  exact ⟨Z, m + 1, h1, by omega, by omega, by unfold LNG; rw [h4]; simp, h6⟩
theorem LNG_SHORT {X : Nat} (hX : X < 2 ^ 64) (more : List Int) : LNG (SHORT X ++ more) = ((X : Int), ((NTOP X + 1 : Nat) : Int), 0) := by
  unfold LNG
  rw [LG_SHORT hX more _ (by rw [List.length_append, SHORT_length])]
  simp
end Go.Proofs.YtccghfpnakkmaaaDoor
