/- What Short of package num answers. -/
import Derived.Test.YtddmfpiflnjmjaaDoorNumAppend
namespace Go.Proofs.YtddmfpiflnjmjaaDoor
open Go.RowKit

/-- the j lowest groups of 7 bits, 128 added to each. -/
def GROUPS (X j : Nat) : List Int := (List.range j).map fun i => ((X / 128 ^ i % 128 + 128 : Nat) : Int)
theorem GROUPS_succ (X j : Nat) : GROUPS X (j + 1) = GROUPS X j ++ [((X / 128 ^ j % 128 + 128 : Nat) : Int)] := by simp [GROUPS, List.range_succ]
theorem GROUPS_length (X j : Nat) : (GROUPS X j).length = j := by simp [GROUPS]
/-- how many groups but the last one X has. -/
def TOPG (X : Nat) : Nat → Nat
  | 0 => 0
  | k + 1 => if X < 128 then 0 else TOPG (X / 128) k + 1
def NTOP (X : Nat) : Nat := TOPG X 9
/-- X in groups of 7 bits, the lowest first. -/
def SHORT (X : Nat) : List Int := GROUPS X (NTOP X) ++ [((X / 128 ^ NTOP X : Nat) : Int)]
theorem SHORT_length (X : Nat) : (SHORT X).length = NTOP X + 1 := by simp [SHORT, GROUPS_length]
theorem TOPG_le : ∀ (k X : Nat), TOPG X k ≤ k
  | 0, _ => Nat.le_refl _
  | k + 1, X => by
    unfold TOPG
    split
    · omega
    · have := TOPG_le k (X / 128)
      omega
theorem TOPG_below : ∀ (k X j : Nat), j < TOPG X k → 128 ≤ X / 128 ^ j
  | 0, _, _, h => by simp [TOPG] at h
  | k + 1, X, j, h => by
    unfold TOPG at h
    split at h
    · omega
    · cases j with
      | zero => simp; omega
      | succ j =>
        have := TOPG_below k (X / 128) j (by omega)
        rw [Nat.div_div_eq_div_mul, Nat.mul_comm, ← Nat.pow_succ] at this
        exact this
theorem TOPG_at : ∀ (k X : Nat), X < 128 ^ (k + 1) → X / 128 ^ TOPG X k < 128
  | 0, X, h => by simpa [TOPG] using h
  | k + 1, X, h => by
    unfold TOPG
    split
    · simpa using ‹X < 128›
    · have := TOPG_at k (X / 128) (by rw [Nat.pow_succ] at h; exact Nat.div_lt_of_lt_mul (by omega))
      rw [Nat.div_div_eq_div_mul, Nat.mul_comm, ← Nat.pow_succ] at this
      exact this
theorem NTOP_le (X : Nat) : NTOP X ≤ 9 := TOPG_le 9 X
theorem NTOP_at {X : Nat} (hX : X < 2 ^ 64) : X / 128 ^ NTOP X < 128 := TOPG_at 9 X (Nat.lt_of_lt_of_le hX (by decide))
theorem NTOP_eq {X : Nat} (hX : X < 2 ^ 64) {j : Nat} (hj : ∀ i, i < j → 128 ≤ X / 128 ^ i) (h : X / 128 ^ j < 128) : NTOP X = j := by
  rcases Nat.lt_trichotomy (NTOP X) j with h1 | h1 | h1
  · have := hj _ h1
    have := NTOP_at hX
    omega
  · exact h1
  · have := TOPG_below 9 X j h1
    omega
theorem div_anti (X : Nat) {i j : Nat} (h : i ≤ j) : X / 128 ^ j ≤ X / 128 ^ i := Nat.div_le_div_left (Nat.pow_le_pow_right (by decide) h) (Nat.pow_pos (by decide))
theorem GROUPS_range (X j : Nat) : ∀ x ∈ GROUPS X j, 0 ≤ x ∧ x ≤ 255 := fun x hx => by
  simp only [GROUPS, List.mem_map] at hx
  obtain ⟨i, _, rfl⟩ := hx
  omega
theorem SHORT_range {X : Nat} (hX : X < 2 ^ 64) : ∀ x ∈ SHORT X, 0 ≤ x ∧ x ≤ 255 := fun x hx => by
  simp only [SHORT, List.mem_append, List.mem_singleton] at hx
  rcases hx with hx | rfl
  · exact GROUPS_range X _ x hx
  · have := NTOP_at hX
    generalize X / 128 ^ NTOP X = y at *
    omega

theorem one_bytes (w : World) (v : Int) (h0 : 0 ≤ v) (h1 : v ≤ 255) : Bytes (w.alloc (.cells #[.int .u8 v] 5)) (some ⟨w.heap.size, 0, none⟩) 1 [v] := by
  refine ⟨rfl, fun _ => ⟨w.heap.size, 0, rfl, by simp, fun i hi => ?_⟩, fun x hx => by simp at hx; omega⟩
  obtain rfl : i = 0 := by omega
  rw [Nat.zero_add, World.cell?_alloc_at _ _ _ _ rfl]
  rfl
theorem own_made (w : World) (base : Nat) (hb : base ≤ w.heap.size) (cur : Array Value) (cap : Nat) (hm : cap ≤ 1000) (hs : cur.size = cap) : (w.alloc (.cells cur 5)).ownsRow base 5 1 (.slice (some ⟨w.heap.size, 0, none⟩) 0 cap) 0 (CELLS []) :=
  World.ownsRow_made w cur cap hb (by simp only [maxLen]; omega) (by omega)

set_option maxHeartbeats 1000000 in
theorem short_ok (X : Nat) (hX : X < 2 ^ 64) (w : World) : Calls Tryd.prog 81 #[.int .u64 (X : Int)] w fun e w' =>
    ∃ g cap, e = .returned (.slice (some ⟨g, 0, none⟩) (NTOP X + 1) cap) ∧ w'.ownsRow w.heap.size 5 1 (.slice (some ⟨g, 0, none⟩) (NTOP X + 1) cap) (NTOP X + 1) (CELLS (SHORT X)) ∧ g < w'.heap.size ∧ Below w.heap.size w w' := by
  have hmk : ∀ w : World, (Instr.makeSlice 47 (.int .i64 0) (.int .i64 10)).run Tryd.prog w = .ok (.slice (some ⟨w.heap.size, 0, none⟩) 0 10) (w.alloc (.cells #[.int .u8 0, .int .u8 0, .int .u8 0, .int .u8 0, .int .u8 0, .int .u8 0, .int .u8 0, .int .u8 0, .int .u8 0, .int .u8 0] 5)) := fun _ => by kernel_rfl
  have HX : Aside (X < 2 ^ 64) := hX
  clear hX
  go_enter Tryd.func81, Tryd.ntmps81
  go_wp2
  go_loopg [0, 3] 10 (fun g s0 s3 wx => ∃ (j x : Nat), j + g = 10 ∧ Aside (x = X / 128 ^ j ∧ (∀ i, i < j → 128 ≤ X / 128 ^ i) ∧ wx.ownsRow w.heap.size 5 1 s3 j (CELLS (GROUPS X j)) ∧ Below w.heap.size w wx) ∧ s0 = .int .u64 (x : Int))
  case atStart => exact ⟨0, X, by omega, ⟨by simp, fun i hi => by omega, own_made w _ (Nat.le_refl _) _ 10 (by decide) rfl, (Below.refl _ _).alloc (Nat.le_refl _) _⟩, rfl⟩
  case round =>
    obtain ⟨j, x, hjg, A, rfl⟩ := hrel
    by_cases hx : 128 ≤ (x : Int)
    · go_wp2_with (at_builtin; refine app_u8 _ rfl (.tmp 9) (.tmp 14) rfl w.heap.size u3 j (GROUPS X j) rfl (A.out.2.2.1.alloc _) wr.heap.size 0 1 1 [(x : Int) % 128 + 128] rfl (one_bytes wr _ (by omega) (by omega)) (by omega) (by omega) (by have := A.out.2.2.2.size; simp; omega) ?_; intro g cap w1 hown hgrow hg)
      have R : (x / 128 = X / 128 ^ (j + 1)) ∧ (∀ i, i < j + 1 → 128 ≤ X / 128 ^ i) ∧ w1.ownsRow w.heap.size 5 1 (.slice (some ⟨g, 0, none⟩) (j + 1) cap) (j + 1) (CELLS (GROUPS X (j + 1))) ∧ Below w.heap.size w w1 := by
        obtain ⟨hxe, hall, hown0, hb⟩ := A.out
        refine ⟨by rw [hxe, Nat.div_div_eq_div_mul, ← Nat.pow_succ], fun i hi => ?_, ?_, ?_⟩
        · by_cases e : i = j
          · rw [e, ← hxe]; omega
          · exact hall i (by omega)
        · rw [GROUPS_succ, show ((X / 128 ^ j % 128 + 128 : Nat) : Int) = (x : Int) % 128 + 128 by rw [← hxe]; omega]
          exact hown
        · exact (hb.alloc hb.size _).grown hgrow (by have := hb.size; simp; omega) (fun k e => (hown0.lt k e).1)
      have HR : Aside ((x / 128 = X / 128 ^ (j + 1)) ∧ (∀ i, i < j + 1 → 128 ≤ X / 128 ^ i) ∧ w1.ownsRow w.heap.size 5 1 (.slice (some ⟨g, 0, none⟩) (j + 1) cap) (j + 1) (CELLS (GROUPS X (j + 1))) ∧ Below w.heap.size w w1) := R
      have hj9 : j < 9 := by
        obtain ⟨hxe, hall, _, _⟩ := A.out
        rcases Nat.lt_or_ge j 9 with h | h
        · exact h
        · have h1 := div_anti X h
          have h2 : X / 128 ^ 9 < 2 := Nat.div_lt_of_lt_mul (Nat.lt_of_lt_of_le HX.out (by decide))
          omega
      clear hown hgrow hg R A
      go_wp2
      go_roundg (gk - 1)
      case measure => omega
      case rel => exact ⟨j + 1, x / 128, by omega, HR, by first | rfl | go_num⟩
    · go_wp2_with (at_builtin; refine app_u8 _ rfl (.tmp 16) (.tmp 19) rfl w.heap.size u3 j (GROUPS X j) rfl (A.out.2.2.1.alloc _) wr.heap.size 0 1 1 [(x : Int)] rfl (one_bytes wr _ (by omega) (by omega)) (by omega) (by omega) (by have := A.out.2.2.2.size; simp; omega) ?_; intro g cap w1 hown hgrow hg)
      obtain ⟨hxe, hall, hown0, hb⟩ := A.out
      have hN : NTOP X = j := NTOP_eq HX.out hall (by rw [← hxe]; omega)
      have R : w1.ownsRow w.heap.size 5 1 (.slice (some ⟨g, 0, none⟩) (NTOP X + 1) cap) (NTOP X + 1) (CELLS (SHORT X)) ∧ g < w1.heap.size ∧ Below w.heap.size w w1 := by
        refine ⟨?_, hg, (hb.alloc hb.size _).grown hgrow (by have := hb.size; simp; omega) (fun k e => (hown0.lt k e).1)⟩
        unfold SHORT
        rw [hN, ← hxe]
        exact hown
      have HR : Aside (w1.ownsRow w.heap.size 5 1 (.slice (some ⟨g, 0, none⟩) (NTOP X + 1) cap) (NTOP X + 1) (CELLS (SHORT X)) ∧ g < w1.heap.size ∧ Below w.heap.size w w1) := R
      have HN : Aside (NTOP X = j) := hN
      clear hown hgrow hg R A hxe hall hown0 hb hN
      go_wp2
      go_ret
      obtain ⟨h1, h2, h3⟩ := HR.out
      refine ⟨g, cap, ?_, h1, h2, h3⟩
      rw [HN.out]
      rfl
end Go.Proofs.YtddmfpiflnjmjaaDoor
