/- HashSteps, walked. -/
import Derived.Test.YtgmoebopnmaebaaDoorHashStep
import Derived.Test.YtgmoebopnmaebaaDoorHashRefStep
import Derived.Test.YtgmoebopnmaebaaDoorHashAwake
import Derived.Test.YtgmoebopnmaebaaDoorHashEq
import Derived.Deep.RegionHeld3
namespace Go.Proofs.YtgmoebopnmaebaaDoor
open Go.RowKit
set_option maxRecDepth 100000

set_option maxHeartbeats 2000000 in
theorem hashSteps_walk (d : Int) (s b : Nat → Nat) (hs : ∀ i, s i < 256) (hb : ∀ i, b i < 256) (w : World) (hT : Tabled w) : Calls Tryd.prog 3 #[.int .i64 d, .agg (UARR .u8 32 s), .agg (UARR .u8 64 b)] w fun e w' => e = .returned (.bool true) ∧ Below w.heap.size w w' := by
  have hz := zero32
  have H : Aside ((∀ i, s i < 256) ∧ (∀ i, b i < 256) ∧ Tabled w) := ⟨hs, hb, hT⟩
  clear hs hb hT
  go_enter Tryd.func3, Tryd.ntmps3
  go_wp2_with fail
  have U : Aside (Below w.heap.size w ((w.alloc (.cells (UARR .u8 32 s) 23)).alloc (.cells (UARR .u8 64 b) 24)) ∧ Has ((w.alloc (.cells (UARR .u8 32 s) 23)).alloc (.cells (UARR .u8 64 b) 24)) w.heap.size (UARR .u8 32 s) 23 ∧ Has ((w.alloc (.cells (UARR .u8 32 s) 23)).alloc (.cells (UARR .u8 64 b) 24)) (w.heap.size + 1) (UARR .u8 64 b) 24) := ⟨((Below.refl _ _).alloc (Nat.le_refl _) _).alloc (by simp) _, (Has.new w _ _).alloc _, Has.at _ _ _ (by simp)⟩
  generalize (w.alloc (.cells (UARR .u8 32 s) 23)).alloc (.cells (UARR .u8 64 b) 24) = w12 at *
  generalize hg4 : w.heap.size = g4 at *
  generalize hg5 : g4 + 1 = g5 at *
  obtain ⟨u1, u2, u3⟩ := U.out
  have hT12 : Tabled w12 := by rw [← hg4] at u1; exact H.out.2.2.below u1
  have hS : w12.drew.rangeAt g4 0 (ULIST .u8 32 s) ∧ w12.drew.rangeAt g5 0 (ULIST .u8 64 b) := ⟨u2.whole, u3.whole⟩
  have hg : Aside (g4 < w12.heap.size ∧ g5 < w12.heap.size) := ⟨u2.lt, u3.lt⟩
  have hi1 : (Tryd.prog.info? 23).map (·.size) = some (ULIST .u8 32 s).length := by rw [ULIST_length]; exact info_hash
  have hi2 : (Tryd.prog.info? 24).map (·.size) = some (ULIST .u8 64 b).length := by rw [ULIST_length]; exact info_block
  have heq1 : ∀ w, (Op.equalIn 10000 23 (.agg (UARR .u8 32 (COMP d s b))) (.agg (UARR .u8 32 (COMP d s b)))).run Tryd.prog w = .ok true w := equal_same (COMP d s b)
  have c13 : Calls Tryd.prog 9 #[.int .i64 d, .agg (ULIST .u8 32 s).toArray, .agg (ULIST .u8 64 b).toArray] w12.drew fun e w' => e = .returned (.agg (UARR .u8 32 (COMP d s b))) ∧ Below w12.heap.size w12.drew w' := compress_ok d s b H.out.1 H.out.2.1 w12.drew (hT12.below (Below.refl _ _).drew)
  have c14 : ∀ w', Calls Tryd.prog 10 #[.int .i64 d, .agg (ULIST .u8 32 s).toArray, .agg (ULIST .u8 64 b).toArray] w' fun e w'' => e = .returned (.agg (UARR .u8 32 (COMP d s b))) ∧ Below w'.heap.size w' w'' := fun w' => refcompress_ok d s b H.out.1 H.out.2.1 w'
  have c15 : ∀ w', Below w12.heap.size w12.drew w' → Calls Tryd.prog 11 #[] w' fun e w'' => e = .returned (.bool true) ∧ Below w'.heap.size w' w'' := fun w' hb => awake_ok w' ((show Tabled w12.drew from hT12).below hb)
  have HB : Aside (Below w.heap.size w w12) := by rw [hg4]; exact u1
  clear hT12 u1 u2 u3 U hz
  generalize COMP d s b = F at *
  refine wp_region_held_drew (S := fun W : World => W.rangeAt g4 0 (ULIST .u8 32 s) ∧ W.rangeAt g5 0 (ULIST .u8 64 b)) (by kernel_rfl) hS (fun hHeld => ?_)
  change wpAnyH _ _ _ _ _ 13 (Array.replicate 13 false) _ (World.drew _)
  refine wpAnyH_take (i := 0) (oi := { dst := some 7, op := Op.move (Operand.tmp 0), type := 3, pos := "law.go:29", after := #[], guard := none }) (v := .int .i64 d) rfl (by kernel_rfl) (by kernel_rfl) (by kernel_rfl) (fun _ _ _ h => h) (Or.inl ⟨by rfl, fun w hSw => by go_simp⟩) (by assumption) ?_
  simp only [Act.put, List.setIfInBounds_toArray, List.set_cons_zero, List.set_cons_succ]
  refine wpAnyH_take (i := 1) (oi := { dst := some 8, op := Op.load 23 (Operand.tmp 4), type := 23, pos := "law.go:29", after := #[], guard := none }) (v := .agg (ULIST .u8 32 s).toArray) rfl (by kernel_rfl) (by kernel_rfl) (by kernel_rfl) (fun _ _ _ h => h) (yieldsIf_load_mid (by rfl) _ _ rfl _ _ rfl (ULIST .u8 32 s) _ (fun w h => h.1) Tryd.underlying23 rfl hi1) (by assumption) ?_
  simp only [Act.put, List.setIfInBounds_toArray, List.set_cons_zero, List.set_cons_succ]
  refine wpAnyH_take (i := 2) (oi := { dst := some 9, op := Op.load 24 (Operand.tmp 5), type := 24, pos := "law.go:29", after := #[], guard := none }) (v := .agg (ULIST .u8 64 b).toArray) rfl (by kernel_rfl) (by kernel_rfl) (by kernel_rfl) (fun _ _ _ h => h) (yieldsIf_load_mid (by rfl) _ _ rfl _ _ rfl (ULIST .u8 64 b) _ (fun w h => h.2) Tryd.underlying24 rfl hi2) (by assumption) ?_
  simp only [Act.put, List.setIfInBounds_toArray, List.set_cons_zero, List.set_cons_succ]
  refine wpAnyH_take (i := 4) (oi := { dst := some 11, op := Op.move (Operand.tmp 0), type := 3, pos := "law.go:29", after := #[], guard := none }) (v := .int .i64 d) rfl (by kernel_rfl) (by kernel_rfl) (by kernel_rfl) (fun _ _ _ h => h) (Or.inl ⟨by rfl, fun w hSw => by go_simp⟩) (by assumption) ?_
  simp only [Act.put, List.setIfInBounds_toArray, List.set_cons_zero, List.set_cons_succ]
  refine wpAnyH_take (i := 5) (oi := { dst := some 12, op := Op.load 23 (Operand.tmp 4), type := 23, pos := "law.go:29", after := #[], guard := none }) (v := .agg (ULIST .u8 32 s).toArray) rfl (by kernel_rfl) (by kernel_rfl) (by kernel_rfl) (fun _ _ _ h => h) (yieldsIf_load_mid (by rfl) _ _ rfl _ _ rfl (ULIST .u8 32 s) _ (fun w h => h.1) Tryd.underlying23 rfl hi1) (by assumption) ?_
  simp only [Act.put, List.setIfInBounds_toArray, List.set_cons_zero, List.set_cons_succ]
  refine wpAnyH_take (i := 6) (oi := { dst := some 13, op := Op.load 24 (Operand.tmp 5), type := 24, pos := "law.go:29", after := #[], guard := none }) (v := .agg (ULIST .u8 64 b).toArray) rfl (by kernel_rfl) (by kernel_rfl) (by kernel_rfl) (fun _ _ _ h => h) (yieldsIf_load_mid (by rfl) _ _ rfl _ _ rfl (ULIST .u8 64 b) _ (fun w h => h.2) Tryd.underlying24 rfl hi2) (by assumption) ?_
  simp only [Act.put, List.setIfInBounds_toArray, List.set_cons_zero, List.set_cons_succ]
  refine wpAnyH_ready (rs := [3]) (by kernel_rfl) (by simp) ?_
  refine AllReadyH.cons (o := { dst := some 10, op := Op.call { callee := Callee.value (Operand.func 9), args := #[Operand.tmp 7, Operand.tmp 8, Operand.tmp 9], argTypes := #[3, 23, 24] }, type := 23, pos := "law.go:29", after := #[{ on := 0, ground := Ground.data }, { on := 1, ground := Ground.data }, { on := 2, ground := Ground.data }], guard := none }) rfl (fun K hK => ?_) AllReadyH.nil
  rw [if_pos (by rfl)]
  go_simp
  refine (c13).mono ?_
  rintro e w13 ⟨rfl, hb13⟩
  have q13 : w13.rangeAt g4 0 (ULIST .u8 32 s) ∧ w13.rangeAt g5 0 (ULIST .u8 64 b) := ⟨range_below hS.1 hb13 hg.out.1, range_below hS.2 hb13 hg.out.2⟩
  refine hK.out _ _ (by assumption) (fun hHeld => ?_)
  clear hK K
  refine wpAnyH_ready (rs := [7]) (by kernel_rfl) (by simp) ?_
  refine AllReadyH.cons (o := { dst := some 14, op := Op.call { callee := Callee.value (Operand.func 10), args := #[Operand.tmp 11, Operand.tmp 12, Operand.tmp 13], argTypes := #[3, 23, 24] }, type := 23, pos := "law.go:29", after := #[{ on := 4, ground := Ground.data }, { on := 5, ground := Ground.data }, { on := 6, ground := Ground.data }, { on := 3, ground := Ground.chain }], guard := none }) rfl (fun K hK => ?_) AllReadyH.nil
  rw [if_pos (by rfl)]
  go_simp
  refine (c14 w13).mono ?_
  rintro e w14 ⟨rfl, hb14⟩
  have q14 : w14.rangeAt g4 0 (ULIST .u8 32 s) ∧ w14.rangeAt g5 0 (ULIST .u8 64 b) := ⟨range_below q13.1 hb14 (Nat.lt_of_lt_of_le hg.out.1 hb13.size), range_below q13.2 hb14 (Nat.lt_of_lt_of_le hg.out.2 hb13.size)⟩
  refine hK.out _ _ (by assumption) (fun hHeld => ?_)
  clear hK K
  refine wpAnyH_take (i := 8) (oi := { dst := some 15, op := Op.binOp BinOp.eql 23 (Operand.tmp 10) (Operand.tmp 14) 23, type := 4, pos := "law.go:29", after := #[{ on := 3, ground := Ground.data }, { on := 7, ground := Ground.data }], guard := none }) (v := .bool true) rfl (by kernel_rfl) (by kernel_rfl) (by kernel_rfl) (fun _ _ _ h => h) (Or.inl ⟨by rfl, fun w hSw => by go_simp⟩) (by assumption) ?_
  simp only [Act.put, List.setIfInBounds_toArray, List.set_cons_zero, List.set_cons_succ]
  refine wpAnyH_take (i := 9) (oi := { dst := some 16, op := Op.move (Operand.tmp 15), type := 4, pos := "law.go:29", after := #[{ on := 8, ground := Ground.data }, { on := 7, ground := Ground.chain }], guard := none }) (v := .bool true) rfl (by kernel_rfl) (by kernel_rfl) (by kernel_rfl) (fun _ _ _ h => h) (Or.inl ⟨by rfl, fun w hSw => by go_simp⟩) (by assumption) ?_
  simp only [Act.put, List.setIfInBounds_toArray, List.set_cons_zero, List.set_cons_succ]
  refine wpAnyH_ready (rs := [10]) (by kernel_rfl) (by simp) ?_
  refine AllReadyH.cons (o := { dst := some 17, op := Op.call { callee := Callee.value (Operand.func 11), args := #[], argTypes := #[] }, type := 4, pos := "law.go:29", after := #[{ on := 9, ground := Ground.chain }, { on := 9, ground := Ground.guard }], guard := some (9, true) }) rfl (fun K hK => ?_) AllReadyH.nil
  rw [if_pos (by rfl)]
  go_simp
  refine (c15 w14 (hb13.trans (hb14.mono hb13.size))).mono ?_
  rintro e w15 ⟨rfl, hb15⟩
  have q15 : w15.rangeAt g4 0 (ULIST .u8 32 s) ∧ w15.rangeAt g5 0 (ULIST .u8 64 b) := ⟨range_below q14.1 hb15 (Nat.lt_of_lt_of_le hg.out.1 (Nat.le_trans hb13.size hb14.size)), range_below q14.2 hb15 (Nat.lt_of_lt_of_le hg.out.2 (Nat.le_trans hb13.size hb14.size))⟩
  refine hK.out _ _ (by assumption) (fun hHeld => ?_)
  clear hK K
  refine wpAnyH_take (i := 11) (oi := { dst := some 18, op := Op.pick (Operand.tmp 16) (Operand.tmp 17) (Operand.const (Value.bool false)), type := 4, pos := "law.go:29", after := #[{ on := 9, ground := Ground.data }, { on := 10, ground := Ground.data }], guard := none }) (v := .bool true) rfl (by kernel_rfl) (by kernel_rfl) (by kernel_rfl) (fun _ _ _ h => h) (Or.inl ⟨by rfl, fun w hSw => by go_simp⟩) (by assumption) ?_
  simp only [Act.put, List.setIfInBounds_toArray, List.set_cons_zero, List.set_cons_succ]
  refine wpAnyH_take (i := 12) (oi := { dst := some 6, op := Op.assign (Operand.tmp 18), type := 4, pos := "law.go:29", after := #[{ on := 11, ground := Ground.data }, { on := 10, ground := Ground.chain }, { on := 0, ground := Ground.phase }, { on := 1, ground := Ground.phase }, { on := 2, ground := Ground.phase }, { on := 3, ground := Ground.phase }, { on := 4, ground := Ground.phase }, { on := 5, ground := Ground.phase }, { on := 6, ground := Ground.phase }, { on := 7, ground := Ground.phase }, { on := 8, ground := Ground.phase }, { on := 9, ground := Ground.phase }, { on := 10, ground := Ground.phase }, { on := 11, ground := Ground.phase }], guard := none }) (v := .bool true) rfl (by kernel_rfl) (by kernel_rfl) (by kernel_rfl) (fun _ _ _ h => h) (Or.inl ⟨by rfl, fun w hSw => by go_simp⟩) (by assumption) ?_
  simp only [Act.put, List.setIfInBounds_toArray, List.set_cons_zero, List.set_cons_succ]
  refine wpAnyH_done (by kernel_rfl) ?_ _
  have hbe : Below w.heap.size w w15 := (HB.out.drew.trans (hb13.mono HB.out.size)).trans ((hb14.mono (Nat.le_trans HB.out.size hb13.size)).trans (hb15.mono (Nat.le_trans HB.out.size (Nat.le_trans hb13.size hb14.size))))
  have HE : Aside (Below w.heap.size w w15) := hbe
  clear hbe
  go_wp2
  go_ret
  exact ⟨rfl, HE.out⟩
end Go.Proofs.YtgmoebopnmaebaaDoor
