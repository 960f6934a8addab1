/- What the document's Begin answers. -/
import Derived.Test.YtihdhaamphdljaaDoorHashRefStep
import Derived.Test.YtihdhaamphdljaaDoorHashSame
namespace Go.Proofs.YtihdhaamphdljaaDoor
open Go.RowKit
set_option maxRecDepth 100000

theorem begin_built : (((((((((((((((((((((((((((((((((UARR .u8 32 fun _ => 0).setIfInBounds 0 (.int .u8 106)).setIfInBounds 1 (.int .u8 9)).setIfInBounds 2 (.int .u8 230)).setIfInBounds 3 (.int .u8 103)).setIfInBounds 4 (.int .u8 187)).setIfInBounds 5 (.int .u8 103)).setIfInBounds 6 (.int .u8 174)).setIfInBounds 7 (.int .u8 133)).setIfInBounds 8 (.int .u8 60)).setIfInBounds 9 (.int .u8 110)).setIfInBounds 10 (.int .u8 243)).setIfInBounds 11 (.int .u8 114)).setIfInBounds 12 (.int .u8 165)).setIfInBounds 13 (.int .u8 79)).setIfInBounds 14 (.int .u8 245)).setIfInBounds 15 (.int .u8 58)).setIfInBounds 16 (.int .u8 81)).setIfInBounds 17 (.int .u8 14)).setIfInBounds 18 (.int .u8 82)).setIfInBounds 19 (.int .u8 127)).setIfInBounds 20 (.int .u8 155)).setIfInBounds 21 (.int .u8 5)).setIfInBounds 22 (.int .u8 104)).setIfInBounds 23 (.int .u8 140)).setIfInBounds 24 (.int .u8 31)).setIfInBounds 25 (.int .u8 131)).setIfInBounds 26 (.int .u8 217)).setIfInBounds 27 (.int .u8 171)).setIfInBounds 28 (.int .u8 91)).setIfInBounds 29 (.int .u8 224)).setIfInBounds 30 (.int .u8 205)).setIfInBounds 31 (.int .u8 25)) = UARR .u8 32 (BYTEW fun i => BEGIN.getD i 0) := by kernel_rfl
theorem refbegin_ok (d : Int) (w : World) : Calls Tryd.prog 36 #[.int .i64 d] w fun e w' => e = .returned (.agg (UARR .u8 32 (FIRST d))) ∧ Below w.heap.size w w' := by
  have cc := cutoff_ok d (BYTEW fun i => BEGIN.getD i 0)
  have hz := zero32
  go_enter Tryd.func36, Tryd.ntmps36
  go_wp2_with fail
  rw [begin_built]
  refine (cc _).mono ?_
  rintro e w9 ⟨rfl, hb9⟩
  have hC : NARROW d (BYTEW fun i => BEGIN.getD i 0) = FIRST d := rfl
  rw [hC]
  clear cc hC hz
  have Y : Aside (Below w.heap.size w w9 ∧ Has w9 w.heap.size (UARR .u8 32 fun _ => 0) 35) := ⟨((Below.refl _ _).alloc (Nat.le_refl _) _).trans (hb9.mono (by simp)), (Has.new w _ _).keep hb9⟩
  clear hb9
  go_wp2_with (first | (refine wpList_store_row rfl 35 _ _ rfl _ _ rfl rfl _ _ Y.out.2 (info_HASH _) (by rw [UARR_size, UARR_size]) (UARR_one _ _ _) ?_))
  refine bodyPost_ret (v := .agg (UARR .u8 32 (FIRST d))) ?_ rfl ⟨rfl, below_row Y.out.1 (Nat.le_refl _) _⟩
  exact results_cell_row rfl _ _ w.heap.size 35 _ (0, 0) _ rfl (Y.out.2.row _) Tryd.underlying35 rfl (info_HASH _)
end Go.Proofs.YtihdhaamphdljaaDoor
