/- massiflaw5.awake. -/
import Derived.Test.YtkmcmngdainofaaStoreFill
namespace Go.Proofs.Ytkmcmngdainofaa
open Go.RowKit Go.Maps
set_option maxRecDepth 100000

/-- a hash with this first byte, noughts behind it. -/
def HB (x : Nat) : Nat → Nat := fun i => if i = 0 then x else 0
theorem HB_lt (x : Nat) (h : x < 256) : ∀ i, HB x i < 256 := fun i => by unfold HB; split <;> omega
theorem build7 (w : World) : (Instr.build 33 #[(0, .int .u8 7)]).run Try.prog w = .ok (.agg (UARR .u8 32 (HB 7))) w := run_build (P := Try.prog) w 33 _ _ (by kernel_rfl)
theorem build8 (w : World) : (Instr.build 33 #[(0, .int .u8 8)]).run Try.prog w = .ok (.agg (UARR .u8 32 (HB 8))) w := run_build (P := Try.prog) w 33 _ _ (by kernel_rfl)
theorem same8 (w : World) : (Op.equalIn 10000 33 (.agg (UARR .u8 32 (HB 8))) (.agg ((UARR .u8 32 fun _ => 0).setIfInBounds 0 (.int .u8 8)))).run Try.prog w = .ok true w := by kernel_rfl
/-- a load of a whole row where a guard is met. -/
theorem wpList_load_row_if {ops : Array Oper} {rest : List Oper} {o : Oper} {a : Act} {w : World} {Q : Exit → Act → World → Prop} (hw : Region.wanted o (yielded ops a.tmps) = true) (ty : TypeId) (x : Operand) (ho : o.op = .load ty x) (n : Nat) (e : TypeId)
    (b : Nat) (hx : a.eval x = .pointer (some ⟨b, 0, none⟩)) (t : TypeId) (cs : Array Value) (fr : Nat × Nat) (hb : w.heap[b]? = some (.cells cs t fr)) (hu : Try.prog.underlying ty = some (.array n e)) (hi : (Try.prog.info? ty).map (·.size) = some cs.size)
    (h : wpList Try.prog ops Q rest (a.put o.dst (.agg cs)) w) : wpList Try.prog ops Q (o :: rest) a w := by
  simp only [wpList]
  rw [if_pos hw]
  exact .inl (wp_load_row ty x ho b hx t cs fr (.array n e) hb hu rfl hi h)
set_option maxHeartbeats 4000000 in
theorem awake_ok (w : World) : Calls Try.prog 13 #[] w fun e w' => e = .returned (.bool true) ∧ Below w.heap.size w w' := by
  have cN := storenew_ok 1 (by decide) w
  obtain ⟨f1, f2⟩ := STORE.fresh w 1 (by decide)
  have HF : Aside (STORE (w.alloc (.cells (FRESH 1) 47)) w.heap.size w.heap.size 1 0 0 0 (fun _ => none) ∧ PINS (w.alloc (.cells (FRESH 1) 47)) w.heap.size w.heap.size 0 (fun _ => none) (fun _ => 0) ∧ Below w.heap.size w (w.alloc (.cells (FRESH 1) 47))) := ⟨f1, f2, (Below.refl _ _).alloc (Nat.le_refl _) _⟩
  clear f1 f2
  have h7 := build7
  have h8 := build8
  go_enter Try.func13, Try.ntmps13
  go_wp2_with fail
  refine cN.mono ?_
  rintro e w1 ⟨rfl, rfl⟩
  clear cN
  obtain ⟨w1, hw1⟩ : ∃ w1, w.alloc (.cells (FRESH 1) 47) = w1 := ⟨_, rfl⟩
  rw [hw1] at HF ⊢
  clear hw1
  obtain ⟨g, hg⟩ : ∃ g, w.heap.size = g := ⟨_, rfl⟩
  have HG : Aside (w.heap.size = g) := hg
  rw [hg] at HF ⊢
  clear hg
  go_wp2_with fail
  refine (push_ok HF.out.1 (HB 7) (HB_lt 7 (by decide)) (by decide) (by decide) (Nat.le_refl _) (by decide)).mono ?_
  rintro e w2 ⟨rfl, hP⟩
  have H2 : Aside (FILLED w2 g g 1 1 (fun i => if i = 0 then HB 7 else HB 8) ∧ Below g w w2) := by
    obtain ⟨f1, f2, f3⟩ := HF.out
    obtain ⟨_, _, _, _, hb2⟩ := id hP
    exact ⟨FILLED.push (n := 0) (hs := fun i => if i = 0 then HB 7 else HB 8) f1 f2 (fun p => rfl) (fun k gc rs e => by cases e) hP, f3.trans hb2⟩
  clear HF hP
  obtain ⟨⟨C, f1, f2, f3, f5⟩, f4⟩ := H2.out
  have cP := push_ok f1 (HB 8) (HB_lt 8 (by decide)) (by decide) (by decide) (Nat.le_refl _) (by decide)
  have HC : Aside (STORE w2 g g 1 1 1 1 C ∧ PINS w2 g g 0 C (fun _ => 0) ∧ (∀ p, AT C 1 p = if p < 1 then some ((fun i => if i = 0 then HB 7 else HB 8) p) else none) ∧ Below g w w2 ∧ FULL C) := ⟨f1, f2, f3, f4, f5⟩
  clear f1 f2 f3 f4 f5
  go_wp2_with fail
  refine cP.mono ?_
  rintro e w3 ⟨rfl, hP⟩
  have H3 : Aside (FILLED w3 g g 1 2 (fun i => if i = 0 then HB 7 else HB 8) ∧ Below g w w3) := by
    obtain ⟨f1, f2, f3, f4, f5⟩ := HC.out
    obtain ⟨_, _, _, _, hb2⟩ := id hP
    exact ⟨FILLED.push (n := 1) (hs := fun i => if i = 0 then HB 7 else HB 8) f1 f2 f3 f5 hP, f4.trans hb2⟩
  clear H2 hP cP h7 HC
  obtain ⟨⟨C1, f1, f2, f3, -⟩, f4⟩ := H3.out
  have cD := drop_live f1 f2 0 1 (HB 7) (by decide) (by decide) rfl (f3 0) rfl (by decide) (Nat.le_refl _)
  have HC : Aside ((∀ p, AT C1 1 p = if p < 2 then some ((fun i => if i = 0 then HB 7 else HB 8) p) else none) ∧ Below g w w3) := ⟨f3, f4⟩
  clear f1 f2 f3 f4
  go_wp2_with fail
  refine cD.mono ?_
  rintro e w4 ⟨rfl, hD⟩
  have H4 : Aside (∃ C', STORE w4 g g 1 2 1 2 C' ∧ AT C' 1 0 = none ∧ AT C' 1 1 = some (HB 8) ∧ Below g w w4) := by
    obtain ⟨f3, f4⟩ := HC.out
    obtain ⟨C', d1, d2, d3, d4, d5⟩ := hD
    refine ⟨C', d1, d2 0, ?_, f4.trans d5⟩
    rw [d2, if_neg (by decide), f3]
    rfl
  clear H3 hD cD HC
  obtain ⟨C4, f1, f2, f3, f4⟩ := H4.out
  have cG := get_ok f1 1 (by decide)
  have e1 : GOT C4 1 2 1 = 0 := by unfold GOT; rw [f3]; rfl
  have e2 : GOTH C4 1 2 1 = HB 8 := by unfold GOTH; rw [f3]; rfl
  rw [e1, e2] at cG
  clear e1 e2 f1 f2 f3 f4
  have hz := zeroHash
  go_wp2_with fail
  refine cG.mono ?_
  rintro e w5 ⟨rfl, hb5⟩
  clear cG
  have hst := run_storeCells_new (P := Try.prog) w5 33 (UARR .u8 32 fun _ => 0) (UARR .u8 32 (HB 8)) (info_HASH _) (by rw [UARR_size, UARR_size]) (UARR_one _ _ _)
  have hsu := UARR_size .u8 32 (HB 8)
  obtain ⟨w6, hw6⟩ : ∃ w6, w5.alloc (.cells (UARR .u8 32 (HB 8)) 33) = w6 := ⟨_, rfl⟩
  rw [hw6] at hst
  have hb6 : Below w4.heap.size w4 w6 := by rw [← hw6]; exact hb5.alloc hb5.size _
  have h66 : Has w6 w5.heap.size (UARR .u8 32 (HB 8)) 33 := by rw [← hw6]; exact Has.new w5 _ _
  have cG : Calls Try.prog 10 #[.pointer (some ⟨g, 0, none⟩), .int .u64 0] w6 fun e w' => e = .returned (.tuple #[.agg (UARR .u8 32 fun _ => 0), .int .i64 50]) ∧ Below w6.heap.size w6 w' := by
    obtain ⟨C', f1, f2, f3, f4⟩ := H4.out
    have := get_ok (f1.below hb6) 0 (by decide)
    have e1 : GOT C' 1 2 0 = 50 := by unfold GOT; rw [f2]; rfl
    have e2 : GOTH C' 1 2 0 = fun _ => 0 := by unfold GOTH; rw [f2]; rfl
    rw [e1, e2] at this
    exact this
  clear hw6
  go_wp2_with fail
  refine cG.mono ?_
  rintro e w7 ⟨rfl, hb7⟩
  clear cG hst hsu
  have hst := run_storeCells_new (P := Try.prog) w7 33 (UARR .u8 32 fun _ => 0) (UARR .u8 32 fun _ => 0) (info_HASH _) rfl (UARR_one _ _ _)
  have hsu := UARR_size .u8 32 (fun _ => 0)
  obtain ⟨w8, hw8⟩ : ∃ w8, w7.alloc (.cells (UARR .u8 32 fun _ => 0) 33) = w8 := ⟨_, rfl⟩
  replace hst := hst.trans (by rw [hw8])
  have hb8 : Below w6.heap.size w6 w8 := by rw [← hw8]; exact hb7.alloc hb7.size _
  have h68 := h66.keep hb8
  have hb48 : Below w4.heap.size w4 w8 := hb6.trans (hb8.mono hb6.size)
  have HE : Aside (Below g w w8) := by
    obtain ⟨C', f1, f2, f3, f4⟩ := H4.out
    exact f4.trans (hb48.mono (by have := f1.lt; omega))
  have cL : Calls Try.prog 9 #[.pointer (some ⟨g, 0, none⟩)] w8 fun e w' => e = .returned (.int .u64 2) ∧ w8 = w' := by
    obtain ⟨C', f1, f2, f3, f4⟩ := H4.out
    exact len_ok g 2 w8 (f1.below hb48).c1
  have cA : Calls Try.prog 7 #[.pointer (some ⟨g, 0, none⟩)] w8 fun e w' => e = .returned (.int .u64 1) ∧ w8 = w' := by
    obtain ⟨C', f1, f2, f3, f4⟩ := H4.out
    exact alive_ok g 1 w8 (f1.below hb48).c2
  have hsame := same8
  clear hw8 hb8 hb48 hb7 hb6 hb5 h66 H4
  go_wp2_with (first
    | (refine wpList_load_row_if (by rfl) 33 (.tmp 6) rfl 32 5 w5.heap.size rfl 33 (UARR .u8 32 (HB 8)) (0, 0) h68 Try.underlying33 (info_HASH _) ?_)
    | (refine cL.mono ?_; rintro e w' ⟨rfl, rfl⟩)
    | (refine cA.mono ?_; rintro e w' ⟨rfl, rfl⟩)
    | fail)
  go_ret
  rw [HG.out]
  exact ⟨rfl, HE.out⟩
end Go.Proofs.Ytkmcmngdainofaa
