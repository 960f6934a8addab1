/- For every int w and slice of slices of bytes (nil or not, with whatever behind their lengths) the law MmrData returns true, where the table of math/bits and the two of package hash lie as the program's text lays them; and its card. -/
import Derived.Test.YtcmjcchemlhejaaDoorRows
import Derived.Test.YtcmjcchemlhejaaDoorTie
import Derived.Test.YtcmjcchemlhejaaDoorCards
import Derived.Carry
import Derived.SevenTiedAt
import Derived.Test.YtcmjcchemlhejaaDoorMmrDataP28
import Derived.Test.YtcmjcchemlhejaaDoorMmrDataP29
namespace Go.Proofs.YtcmjcchemlhejaaDoor
open Go.ChangeShapes Go.WideShapes Go.ChangeAt Go.WideMaps Go.WideElems Go.RowKit

theorem door_met (os : Os) (args : Array Value) : laidMetH Tryd.prog Rows.mmrDataRow.laid ((World.doorLaid Tryd.prog 400 os).forCall (fun _ _ => 0) ⟨#[], args, []⟩).memory :=
  laidMetH_of_parts3 (fuel := 8) (laidMet_of_run' 8 (by kernel_rfl) (by kernel_rfl)) (by kernel_rfl) (by kernel_rfl)

set_option maxRecDepth 100000 in
theorem lifted (os : Os) (started : os.Started) (H : Type) (enc : TypeId × Value → H) :
    ReturnsInHanded {} Tryd.checked os 7 .any (fun w args => (Rows.mmrDataSpec.pre enc Tryd.prog Tryd.f7 [] false w args ∧ laidMetH Tryd.prog Rows.mmrDataRow.laid w) ∧ sizedMet enc Tryd.prog Tryd.f7 (OpenSpec.ofChange Rows.mmrDataSpec) false w args)
      (Rows.mmrDataSpec.post enc Tryd.prog Tryd.f7 false true false false) := by
  refine returnsInHanded_of_change_and (C := Tryd.checked) (X := fun w _ => laidMetH Tryd.prog Rows.mmrDataRow.laid w) (fun _ _ _ hh h => h.of_heap hh) own started (by kernel_rfl) Tryd.func7
    (ChangeSpec.witness_shaped (enc := enc) (C := Tryd.checked) (os := os) (X := fun w _ => laidMetH Tryd.prog Rows.mmrDataRow.laid w) false (World.doorLaid Tryd.prog 400 os) #[.int .i64 0, .slice none 0 0] 8 rfl (World.shaped_of_RefB (by kernel_rfl) (by kernel_rfl)) (by kernel_rfl) (by kernel_rfl) (by kernel_rfl) (door_met os _)) ?_
  intro W base args ds gs before hval0 hW _ hsz hL _
  have hval : ∀ (j : Nat) t v, Tryd.f7.params[j]? = some t → args[j]? = some v → Value.okWide Tryd.prog W .any base t v := hval0
  have hW' := hW
  obtain ⟨p, q, hA0, hV, rfl, hfz, hnd⟩ := hW
  have hA : DataW.TrodAll enc Tryd.prog W 0 (fun _ => true) true Tryd.f7.params.toList args.toList ds p := hA0
  rw [Tryd.params7] at hA hval
  obtain ⟨v0, vs0, d0, ds0, p0, q0, hargs, rfl, rfl, h0, r0⟩ := trodAll_cons hA
  obtain ⟨v1, vs1, d1, ds1, p1, q1, rfl, rfl, rfl, h1, r1⟩ := trodAll_cons r0
  obtain ⟨rfl, rfl, rfl⟩ := trodAll_nil r1
  obtain rfl : args = #[v0, v1] := by cases args; simp_all
  obtain ⟨rfl, rfl⟩ := trodVars_none hV
  obtain ⟨a0, rfl, rfl, rfl, w0⟩ := open_int Tryd.underlying3 (hval 0 3 v0 rfl rfl) h0
  obtain ⟨a1, len1, cap1, rfl⟩ := okWide_slice Tryd.underlying55 (hval 1 55 v1 rfl rfl)
  have hR : ∀ m ∈ d1.weights Tryd.prog 55, m ≤ reachBytes := fun m hm => by
    rw [Tryd.params7] at hsz
    have h := List.all_eq_true.1 hsz m (by show m ∈ DataW.weightsEach Tryd.prog (3 :: 55 :: DataSpec.varTypes Tryd.prog Rows.mmrDataSpec.plain) [DataW.lit (Lit.int IntKind.i64 a0), d1]; simp only [DataW.weightsEach, List.mem_append]; exact .inr (.inl hm))
    simpa using h
  obtain ⟨qs, hP, hnil, hk, hpn⟩ := HX.open_datas h1 reachBytes hR
  have lt : ∀ {t v d p}, DataW.Trod enc Tryd.prog W 0 (fun _ => true) true t v d p → ∀ x ∈ p, x.block < W.heap.size := fun h => by obtain ⟨m, hm⟩ := h; exact DataW.trod_lt m _ _ _ hm
  obtain ⟨hT, hX, -⟩ := HX.of_laid3 hL
  have hD : HX.DATAS W a1 len1 qs := ⟨hP.1, hP.2.1, fun p hp => ⟨hP.2.2 p hp, hnil p hp, by have := hpn p hp; unfold reachBytes at this; omega⟩⟩
  clear hA0 hval0
  simp only [List.append_nil] at hW'
  refine (HX.mmrData_walk a0 a1 len1 cap1 qs W hD (by unfold reachBytes at hk; omega) hT hX).mono fun e W' ⟨he, bel⟩ => ?_
  subst he
  exact ⟨_, rfl, _, _, _, [], _, [], hW', trodAll_mk1 (shut_bool Tryd.underlying4 _), (trodAll_cons_mk (shut_int Tryd.underlying3 w0) (trodAll_cons_mk (Below.trod laidOut (by kernel_rfl) (of_decide_eq_true (by kernel_rfl)) h1 bel (lt h1)) trodAll_mk0)), rfl, bel.frame _, fun h => by cases h⟩

theorem mmrData_row : Rows.MmrDataSaid :=
  OpenClaim.holds_of_wide 7 Tryd.f7 rfl rfl rfl rfl rfl rfl rfl ⟨rfl, rfl, rfl, rfl, rfl⟩ rfl rfl rfl rfl rfl (by kernel_rfl) Tryd.func7 (by kernel_rfl)
    (of_decide_eq_true (by kernel_rfl)) (by unfold Func.isWrapper; first | (rw [if_pos (by decide +kernel)]; kernel_rfl) | (rw [if_neg (by decide +kernel)]; exact ⟨rfl, rfl⟩))
    (fun os started H enc _ => lifted os started H enc)

theorem mmrData_holds : Rows.MmrDataCardSaid :=
  Claim7.holds_tied_plain_at .later [] [.data, .data, .data] true Rows.mmrDataCard.stood.harness false
    mmrData_row (fun _ h => by cases h) (by kernel_rfl) (fun _ h => by cases h) mmrData_row_tie rfl ⟨rfl, rfl⟩ (by kernel_rfl) rfl
    (fun f fn hf hfn => by
      obtain rfl : f = 7 := Option.some.inj ((show Tryd.prog.funcNamed "massif/massiflaw6.MmrData" = some 7 by kernel_rfl).symm.trans hf) |>.symm
      obtain rfl : fn = Tryd.f7 := (Option.some.inj (Tryd.func7.symm.trans hfn)).symm
      exact ⟨by kernel_rfl, fun j t ht => by
        rw [Tryd.params7] at ht
        have hm : t ∈ [3, 55] := by simpa using Array.mem_of_getElem? ht
        have hall : ([3, 55].all fun u => !Tryd.prog.wantsStandIn u) = true := by kernel_rfl
        exact (show Tryd.prog.wantsStandIn t = false by simpa using List.all_eq_true.1 hall t hm)⟩)
    (by kernel_rfl)
#print axioms mmrData_holds
end Go.Proofs.YtcmjcchemlhejaaDoor
