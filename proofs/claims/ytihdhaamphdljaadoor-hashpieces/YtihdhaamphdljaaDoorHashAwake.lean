/- awake answers true. -/
import Derived.Test.YtihdhaamphdljaaDoorHashAbc
namespace Go.Proofs.YtihdhaamphdljaaDoor
open Go.RowKit
set_option maxRecDepth 100000

theorem index_1 (f : Nat → Nat) (w : World) : (Instr.index 35 (.agg (UARR .u8 32 f)) (.int .i64 1)).run Tryd.prog w = .ok (.int .u8 (f 1 : Nat)) w := by kernel_rfl
theorem abc_text (w : World) : Text (w.alloc (.cells #[.int .u8 97, .int .u8 98, .int .u8 99] 5)) (some ⟨w.heap.size, 0, none⟩) 3 [97, 98, 99] := by
  refine ⟨rfl, fun _ => ⟨w.heap.size, 0, rfl, by simp, fun i hi => ?_⟩, fun x hx => by simp at hx; omega⟩
  rw [World.cell?_alloc_at _ _ _ _ rfl]
  have e : i = 0 ∨ i = 1 ∨ i = 2 := by omega
  rcases e with rfl | rfl | rfl <;> rfl
theorem abc_parts (w : World) : Parts ((w.alloc (.cells #[.int .u8 97, .int .u8 98, .int .u8 99] 5)).alloc (.cells #[.slice (some ⟨w.heap.size, 0, none⟩) 3 3] 23)) (some ⟨w.heap.size + 1, 0, none⟩) 1 [⟨some ⟨w.heap.size, 0, none⟩, 3, 3, [97, 98, 99]⟩] := by
  refine ⟨rfl, fun _ => ⟨w.heap.size + 1, 0, rfl, by simp, fun i p hp => ?_⟩, fun p hp => ?_⟩
  · cases i with
    | zero =>
      simp only [List.getElem?_cons_zero, Option.some.injEq] at hp
      subst hp
      have h : Has ((w.alloc (.cells #[.int .u8 97, .int .u8 98, .int .u8 99] 5)).alloc (.cells #[.slice (some ⟨w.heap.size, 0, none⟩) 3 3] 23)) (w.heap.size + 1) #[.slice (some ⟨w.heap.size, 0, none⟩) 3 3] 23 := Has.at _ _ _ (by simp)
      rw [h.cell]
      rfl
    | succ i => simp at hp
  · simp only [List.mem_singleton] at hp
    subst hp
    exact ⟨(abc_text w).below ((Below.refl _ _).alloc (Nat.le_refl _) _), Nat.le_refl _, fun x hx => by simp only [Option.some.injEq] at hx; rw [← hx]; simp; omega⟩
theorem abc_sum (d : Int) (w : World) (h : Tabled w) : Calls Tryd.prog 26 #[.int .i64 d, .slice (some ⟨w.heap.size + 1, 0, none⟩) 1 1] ((w.alloc (.cells #[.int .u8 97, .int .u8 98, .int .u8 99] 5)).alloc (.cells #[.slice (some ⟨w.heap.size, 0, none⟩) 3 3] 23)) fun e w' => e = .returned (.agg (UARR .u8 32 (HASHOF d [97, 98, 99]))) ∧ Below w.heap.size w w' := by
  have hb : Below w.heap.size w ((w.alloc (.cells #[.int .u8 97, .int .u8 98, .int .u8 99] 5)).alloc (.cells #[.slice (some ⟨w.heap.size, 0, none⟩) 3 3] 23)) := ((Below.refl _ _).alloc (Nat.le_refl _) _).alloc (by simp) _
  refine (sum_ok d (some ⟨w.heap.size + 1, 0, none⟩) 1 1 _ _ (abc_parts w) (h.below hb) (by show 3 < 2 ^ 60; decide) (by decide)).mono ?_
  rintro e w' ⟨he, hb'⟩
  exact ⟨he, hb.trans (hb'.mono hb.size)⟩
theorem awake_ok (w : World) (hT : Tabled w) : Calls Tryd.prog 14 #[] w fun e w' => e = .returned (.bool true) ∧ Below w.heap.size w w' := by
  have hz := zero32
  have HT : Aside (Tabled w) := hT
  have c1 := abc_sum 32 w hT
  have c2 := fun (w : World) (h : Tabled w) => abc_sum 1 w h
  have hx : ∀ w, (Instr.index 35 (.agg (UARR .u8 32 (HASHOF 1 [97, 98, 99]))) (.int .i64 1)).run Tryd.prog w = .ok (.int .u8 0) w := fun w => by
    rw [index_1, abc_narrow]
    rfl
  have F1 : Aside (HASHOF 32 [97, 98, 99] 0 = 186 ∧ HASHOF 32 [97, 98, 99] 31 = 173) := ⟨abc_first, abc_last⟩
  generalize HASHOF 32 [97, 98, 99] = F at *
  generalize HASHOF 1 [97, 98, 99] = G at *
  clear hT
  go_enter Tryd.func14, Tryd.ntmps14
  go_wp2_with fail
  refine c1.mono ?_
  rintro e w1 ⟨rfl, hb1⟩
  clear c1
  have hh : Has (w1.alloc (.cells (UARR .u8 32 F) 35)) w1.heap.size (UARR .u8 32 F) 35 := Has.new _ _ _
  have hb2 : Below w.heap.size w (w1.alloc (.cells (UARR .u8 32 F) 35)) := hb1.alloc hb1.size _
  have k0 : (w1.alloc (.cells (UARR .u8 32 F) 35)).cell? ⟨w1.heap.size, 0, none⟩ = some (.int .u8 186) := by rw [hh.cell, UARR_get _ _ _ _ (by decide), F1.out.1]; rfl
  have k1 : (w1.alloc (.cells (UARR .u8 32 F) 35)).cell? ⟨w1.heap.size, 31, none⟩ = some (.int .u8 173) := by rw [hh.cell, UARR_get _ _ _ _ (by decide), F1.out.2]; rfl
  have R : Aside (Below w.heap.size w (w1.alloc (.cells (UARR .u8 32 F) 35))) := hb2
  have d2 := c2 _ (HT.out.below hb2)
  clear hh hb1 hb2 c2
  go_wp2_with (first
    | (refine wpList_store_row rfl 35 _ _ rfl _ _ rfl rfl 35 (UARR .u8 32 fun _ => 0) (Has.new w1 _ _) (info_HASH _) (by rw [UARR_size, UARR_size]) (UARR_one _ _ _) ?_; rw [World.setRow_alloc_new]; generalize w1.alloc (.cells (UARR .u8 32 F) 35) = w2 at *; generalize w1.heap.size = g1 at *))
  refine d2.mono ?_
  rintro e w3 ⟨rfl, hb3⟩
  clear d2
  have S : Aside (Below w.heap.size w w3) := R.out.trans (hb3.mono R.out.size)
  clear hb3 R
  go_wp2
  go_ret
  exact ⟨rfl, S.out⟩
end Go.Proofs.YtihdhaamphdljaaDoor
