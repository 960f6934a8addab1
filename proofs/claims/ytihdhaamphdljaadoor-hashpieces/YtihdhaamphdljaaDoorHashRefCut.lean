/- What table, Width and cutOff of the document's answers for layer 2 give. -/
import Derived.Test.YtihdhaamphdljaaDoorHashJoined
import Derived.Test.YtihdhaamphdljaaDoorHashRefBits
namespace Go.Proofs.YtihdhaamphdljaaDoor
open Go.RowKit

set_option maxRecDepth 100000 in
theorem table_ok (w : World) : Calls Tryd.prog 43 #[] w fun e w' => e = .returned (.slice (some ⟨w.heap.size, 0, none⟩) 64 64) ∧ w.alloc (.cells (UARR .u64 64 KC) 38) = w' := by
  go_enter Tryd.func43, Tryd.ntmps43
  go_wp2
  go_ret
  exact ⟨rfl, rfl⟩
theorem width_ok (d : Int) (w : World) : Calls Tryd.prog 52 #[.int .i64 d] w fun e w' => e = .returned (.int .i64 ((WID d : Nat) : Int)) ∧ w = w' := by
  by_cases h1 : d < 1
  · have e : ((WID d : Nat) : Int) = 1 := by unfold WID; omega
    rw [e]
    clear e
    go_enter Tryd.func52, Tryd.ntmps52
    go_wp2
    go_ret
    exact ⟨rfl, rfl⟩
  · by_cases h2 : 32 < d
    · have e : ((WID d : Nat) : Int) = 32 := by unfold WID; omega
      rw [e]
      clear e
      go_enter Tryd.func52, Tryd.ntmps52
      go_wp2
      go_ret
      exact ⟨rfl, rfl⟩
    · have e : ((WID d : Nat) : Int) = d := by unfold WID; omega
      rw [e]
      clear e
      go_enter Tryd.func52, Tryd.ntmps52
      go_wp2
      go_ret
      exact ⟨rfl, rfl⟩
theorem cutoff_ok (d : Int) (s : Nat → Nat) (w : World) : Calls Tryd.prog 42 #[.int .i64 d, .agg (UARR .u8 32 s)] w fun e w' => e = .returned (.agg (UARR .u8 32 (NARROW d s))) ∧ Below w.heap.size w w' := by
  have hz := zero32
  have hW := WID_bounds d
  have cw := width_ok d
  have HW : Aside (1 ≤ WID d ∧ WID d ≤ 32) := hW
  obtain ⟨V, hV⟩ : ∃ V, V = WID d := ⟨_, rfl⟩
  rw [← hV] at cw
  have HV : Aside (V = WID d ∧ V ≤ 32) := ⟨hV, by omega⟩
  clear hW hV
  go_enter Tryd.func42, Tryd.ntmps42
  go_wp2_with fail
  refine (cw _).mono ?_
  rintro e w' ⟨rfl, rfl⟩
  clear cw hz
  go_wp2
  go_loopg [5] (32 - V) (fun r s5 wx => ∃ i : Nat, i + r = 32 ∧ s5 = .int .i64 i ∧ Aside (V ≤ i ∧ Below w.heap.size w wx ∧ Has wx w.heap.size (UARR .u8 32 fun j => if V ≤ j ∧ j < i then 0 else s j) 35 ∧ Has wx (w.heap.size + 1) (UARR .u8 32 fun _ => 0) 35))
  case atStart =>
    have e : (UARR .u8 32 fun j => if V ≤ j ∧ j < V then 0 else s j) = UARR .u8 32 s := UARR_ext fun j _ => if_neg (by omega)
    refine ⟨V, by have := HV.out; omega, rfl, Nat.le_refl _, ((Below.refl _ _).alloc (Nat.le_refl _) _).alloc (by simp) _, ?_, Has.at _ _ _ (by simp)⟩
    rw [e]
    exact (Has.new w _ _).alloc _
  case round =>
    obtain ⟨i, hir, rfl, A⟩ := hrel
    cases gk with
    | zero =>
      obtain rfl : i = 32 := by omega
      obtain ⟨hVi, hb, h1, h2⟩ := A.out
      have e : (UARR .u8 32 fun j => if V ≤ j ∧ j < 32 then 0 else s j) = UARR .u8 32 (NARROW d s) := UARR_ext fun j hj => by
        unfold NARROW
        rw [← HV.out.1]
        by_cases e : j < V
        · rw [if_neg (by omega), if_pos e]
        · rw [if_pos (by omega), if_neg e]
      rw [e] at h1
      go_wp2_with (first
        | (refine wpList_load_row rfl 35 _ rfl _ rfl _ _ (0, 0) _ h1 Tryd.underlying35 rfl (info_HASH _) ?_)
        | (refine wpList_store_row rfl 35 _ _ rfl _ _ rfl rfl _ _ h2 (info_HASH _) (by rw [UARR_size, UARR_size]) (UARR_one _ _ _) ?_))
      refine bodyPost_ret (v := .agg (UARR .u8 32 (NARROW d s))) ?_ rfl ⟨rfl, below_row hb (by omega) _⟩
      exact results_cell_row rfl _ _ (w.heap.size + 1) 35 _ (0, 0) _ rfl (h2.row _) Tryd.underlying35 rfl (info_HASH _)
    | succ r =>
      have hlt : (i : Int) < 32 := by omega
      obtain ⟨hVi, hb, h1, h2⟩ := A.out
      have hc : wr.cell? ⟨w.heap.size, i, none⟩ = some (.int .u8 ((if V ≤ i ∧ i < i then 0 else s i : Nat) : Int)) := by rw [h1.cell, UARR_get _ _ _ _ (by omega)]
      have hf : wr.frozen? ⟨w.heap.size, i, none⟩ = false := h1.frozen i
      generalize ((if V ≤ i ∧ i < i then 0 else s i : Nat) : Int) = x at hc
      have R : Aside (V ≤ i ∧ Below w.heap.size w wr ∧ Has wr w.heap.size (UARR .u8 32 fun j => if V ≤ j ∧ j < i then 0 else s j) 35 ∧ Has wr (w.heap.size + 1) (UARR .u8 32 fun _ => 0) 35) := ⟨hVi, hb, h1, h2⟩
      clear hVi hb h1 h2 A
      go_wp2
      go_roundg r
      case measure => omega
      case rel =>
        obtain ⟨hVi, hb, h1, h2⟩ := R.out
        refine ⟨i + 1, by omega, by go_num, by omega, hb.setCell (Nat.le_refl _) _, ?_, h2.other (by show w.heap.size + 1 ≠ w.heap.size; omega) _⟩
        have h3 := h1.set i (.int .u8 ((0 : Nat) : Int))
        rw [UARR_set] at h3
        have e : (UARR .u8 32 fun j => if j = i then 0 else if V ≤ j ∧ j < i then 0 else s j) = UARR .u8 32 fun j => if V ≤ j ∧ j < i + 1 then 0 else s j := UARR_ext fun j _ => by
          by_cases e : j = i
          · rw [if_pos e, if_pos (by omega)]
          · rw [if_neg e]
            by_cases e2 : V ≤ j ∧ j < i
            · rw [if_pos e2, if_pos (by omega)]
            · rw [if_neg e2, if_neg (by omega)]
        rw [e] at h3
        exact h3
end Go.Proofs.YtihdhaamphdljaaDoor
