/- For every list of spots the law CutMerges returns true, where the table of math/bits lies as the program's text lays it; and its card. -/
import Derived.Test.YthogidnbjdmaaaaDoorRows
import Derived.Test.YthogidnbjdmaaaaDoorTie
import Derived.Test.YthogidnbjdmaaaaDoorCards
import Derived.Test.YthogidnbjdmaaaaDoorCutMergesWalk
import Derived.Test.YthogidnbjdmaaaaDoorPosDoor
import Derived.Carry
import Derived.SevenTiedAt
namespace Go.Proofs.YthogidnbjdmaaaaDoor
open Go.ChangeShapes Go.WideShapes Go.ChangeAt Go.WideMaps Go.WideElems Go.RowKit

/-- one spot, by its cells. -/
theorem open_cells {H : Type} {enc : TypeId × Value → H} {W : World} {fuel : Nat} {cs : List Value} {x : DataW H × List MemPlace} (hf : DataW.trod enc Tryd.prog W 0 (fun _ => true) true fuel 28 cs = some x) : ∃ h k : Nat, h < 256 ∧ k < 2 ^ 64 ∧ cs = [.int .u8 (h : Int), .int .u64 (k : Int)] := by
  obtain ⟨y0, y1, m, _, hl, h0, h1⟩ := trod_struct2 Tryd.underlying28 hf
  obtain ⟨a, e1, _, e3⟩ := DataW.trod_int Tryd.underlying5 h0
  obtain ⟨b, f1, _, f3⟩ := DataW.trod_int Tryd.underlying22 h1
  have c1 : Tryd.prog.cellsOf 5 = 1 := by kernel_rfl
  have c2 : Tryd.prog.cellsOf 22 = 1 := by kernel_rfl
  have c3 : Tryd.prog.cellsOf 28 = 2 := by kernel_rfl
  rw [c3] at hl
  rw [c1] at e1
  rw [c2] at f1
  have ha := bounds_u8 e3
  have hb := wf_u64 f3
  match cs, hl with
  | [x, y], _ =>
    simp at e1 f1
    subst e1 f1
    refine ⟨a.toNat, b.toNat, by omega, by omega, ?_⟩
    rw [Int.toNat_of_nonneg (by omega), Int.toNat_of_nonneg (by omega)]
/-- a slice of spots that came in. -/
theorem open_spots {H : Type} {enc : TypeId × Value → H} {W : World} {a : Option Addr} {k c : Nat} {d : DataW H} {ps : List MemPlace} (hd : DataW.Trod enc Tryd.prog W 0 (fun _ => true) true 23 (.slice a k c) d ps) :
    ∃ l : List (Nat × Nat), l.length = k ∧ Lie W a l ∧ (a = none → c = 0) ∧ ∀ x ∈ l, x.1 < 256 ∧ x.2 < 2 ^ 64 := by
  obtain ⟨fuel, hf⟩ := hd
  rcases DataW.trod_slice Tryd.underlying23 hf with ⟨h0, _⟩ | ⟨ad, len, cap, elems, rest, n, _, h0, hx, _, hl, hm, hlen, hel, _, _⟩
  · simp [Value.cells] at h0
    obtain ⟨rfl, rfl, rfl⟩ := h0
    exact ⟨[], rfl, fun h => by simp at h, fun _ => rfl, fun p hp => by simp at hp⟩
  · simp [Value.cells] at h0
    obtain ⟨rfl, rfl, rfl⟩ := h0
    have c2 : Tryd.prog.cellsOf 28 = 2 := by kernel_rfl
    have each : ∀ i, i < k → ∃ p : Nat × Nat, W.cell? (ad.add (i * 2)) = some (.int .u8 (p.1 : Int)) ∧ W.cell? ((ad.add (i * 2)).add 1) = some (.int .u64 (p.2 : Int)) ∧ p.1 < 256 ∧ p.2 < 2 ^ 64 := fun i hi => by
      have h := hel i hi
      rw [List.getElem?_eq_getElem (by omega), c2, Option.bind_eq_some_iff] at h
      obtain ⟨cs, hcs, ht⟩ := h
      obtain ⟨x, y, h1, h2, rfl⟩ := open_cells ht
      have hs := (World.cells?_some hcs).2.2
      have s0 := hs 0 (by decide)
      have s1 := hs 1 (by decide)
      refine ⟨(x, y), by simpa [Addr.add] using s0, by simpa using s1, h1, h2⟩
    have F : ∃ f : Nat → Nat × Nat, ∀ i, i < k → W.cell? (ad.add (i * 2)) = some (.int .u8 ((f i).1 : Int)) ∧ W.cell? ((ad.add (i * 2)).add 1) = some (.int .u64 ((f i).2 : Int)) ∧ (f i).1 < 256 ∧ (f i).2 < 2 ^ 64 := by
      refine ⟨fun i => if hi : i < k then (each i hi).choose else (0, 0), fun i hi => ?_⟩
      simp only [hi, dif_pos]
      exact (each i hi).choose_spec
    obtain ⟨f, hf2⟩ := F
    refine ⟨(List.range k).map f, by simp, fun h => ?_, (fun h => by cases h), fun p hp => ?_⟩
    · have h0k : 0 < k := by simpa using h
      obtain ⟨b, off, spot⟩ := ad
      have hc := (hf2 0 h0k).1
      have hspot : spot = none := by simpa [Addr.add] using World.cell?_spot hc
      subst hspot
      refine ⟨b, off, rfl, block_lt_of_cell (by simpa [Addr.add] using hc), fun i x y hp => ?_⟩
      have hi : i < k := by have := (List.getElem?_eq_some_iff.1 hp).1; simpa using this
      have h1 := (hf2 i hi).1
      have h2 := (hf2 i hi).2.1
      rw [addr_add] at h1
      rw [addr_add, addr_add] at h2
      rw [List.getElem?_map, List.getElem?_range hi] at hp
      have e := Option.some.inj hp
      rw [e] at h1 h2
      exact ⟨h1, h2⟩
    · obtain ⟨i, hi, rfl⟩ := List.mem_map.1 hp
      exact (hf2 i (List.mem_range.1 hi)).2.2
theorem cutMerges_walk (a : Option Addr) (n c : Nat) (l : List (Nat × Nat)) (hl : l.length = n) (w : World) (hL : Lie w a l) (hc : a = none → c = 0) (h256 : ∀ x ∈ l, x.1 < 256 ∧ x.2 < 2 ^ 64) (hT : Tabled w) (h0 : 0 < w.heap.size) :
    Calls Tryd.prog 4 #[.slice a n c] w fun e w' => e = .returned (.bool true) ∧ Below w.heap.size w w' := by
  rcases Nat.lt_or_ge 400 n with h | h
  · exact merges_long a n c (by omega) w
  · exact merges_core a n c l hl h w hL hc h256 hT h0
theorem door_met (os : Os) (args : Array Value) : laidMetH Tryd.prog Rows.cutMergesRow.laid ((World.doorLaid Tryd.prog 400 os).forCall (fun _ _ => 0) ⟨#[], args, []⟩).memory :=
  laidMetH_of_parts3 (fuel := 8) (laidMet_of_run' 8 (by kernel_rfl) (by kernel_rfl)) (by kernel_rfl) (by kernel_rfl)

set_option maxRecDepth 100000 in
theorem lifted (os : Os) (started : os.Started) (H : Type) (enc : TypeId × Value → H) :
    ReturnsInHanded {} Tryd.checked os 4 .any (fun w args => (Rows.cutMergesSpec.pre enc Tryd.prog Tryd.f4 [] false w args ∧ laidMetH Tryd.prog Rows.cutMergesRow.laid w) ∧ sizedMet enc Tryd.prog Tryd.f4 (OpenSpec.ofChange Rows.cutMergesSpec) false w args)
      (Rows.cutMergesSpec.post enc Tryd.prog Tryd.f4 false true false false) := by
  refine returnsInHanded_of_change_and (C := Tryd.checked) (X := fun w _ => laidMetH Tryd.prog Rows.cutMergesRow.laid w) (fun _ _ _ hh h => h.of_heap hh) own started (by kernel_rfl) Tryd.func4
    (ChangeSpec.witness_shaped (enc := enc) (C := Tryd.checked) (os := os) (X := fun w _ => laidMetH Tryd.prog Rows.cutMergesRow.laid w) false (World.doorLaid Tryd.prog 400 os) #[.slice none 0 0] 8 rfl (World.shaped_of_RefB (by kernel_rfl) (by kernel_rfl)) (by kernel_rfl) (by kernel_rfl) (by kernel_rfl) (door_met os _)) ?_
  intro W base args ds gs before hval0 hW _ _ hL _
  have hval : ∀ (j : Nat) t v, Tryd.f4.params[j]? = some t → args[j]? = some v → Value.okWide Tryd.prog W .any base t v := hval0
  have hW' := hW
  obtain ⟨p, q, hA0, hV, rfl, hfz, hnd⟩ := hW
  have hA : DataW.TrodAll enc Tryd.prog W 0 (fun _ => true) true Tryd.f4.params.toList args.toList ds p := hA0
  rw [Tryd.params4] at hA hval
  obtain ⟨v0, vs0, d0, ds0, p0, q0, hargs, rfl, rfl, h0, r0⟩ := trodAll_cons hA
  obtain ⟨rfl, rfl, rfl⟩ := trodAll_nil r0
  obtain rfl : args = #[v0] := by cases args; simp_all
  obtain ⟨rfl, rfl⟩ := trodVars_none hV
  obtain ⟨a0, len0, cap0, rfl⟩ := okWide_slice Tryd.underlying23 (hval 0 23 v0 rfl rfl)
  obtain ⟨l, hl, hLi, hcz, h256⟩ := open_spots h0
  have lt : ∀ {t v d p}, DataW.Trod enc Tryd.prog W 0 (fun _ => true) true t v d p → ∀ x ∈ p, x.block < W.heap.size := fun h => by obtain ⟨m, hm⟩ := h; exact DataW.trod_lt m _ _ _ hm
  obtain ⟨hT, hp⟩ := of_laid hL
  clear hA0 hval0
  simp only [List.append_nil] at hW'
  refine (cutMerges_walk a0 len0 cap0 l hl W hLi hcz h256 hT hp).mono fun e W' ⟨he, bel⟩ => ?_
  subst he
  exact ⟨_, rfl, _, _, _, [], _, [], hW', trodAll_mk1 (shut_bool Tryd.underlying4 _), (trodAll_cons_mk (Below.trod laidOut (by kernel_rfl) (of_decide_eq_true (by kernel_rfl)) h0 bel (lt h0)) trodAll_mk0), rfl, bel.frame _, fun h => by cases h⟩

theorem cutMerges_row : Rows.CutMergesSaid :=
  OpenClaim.holds_of_wide 4 Tryd.f4 rfl rfl rfl rfl rfl rfl rfl ⟨rfl, rfl, rfl, rfl, rfl⟩ rfl rfl rfl rfl rfl (by kernel_rfl) Tryd.func4 (by kernel_rfl)
    (of_decide_eq_true (by kernel_rfl)) (by unfold Func.isWrapper; first | (rw [if_pos (by decide +kernel)]; kernel_rfl) | (rw [if_neg (by decide +kernel)]; exact ⟨rfl, rfl⟩))
    (fun os started H enc _ => lifted os started H enc)

theorem cutMerges_holds : Rows.CutMergesCardSaid :=
  Claim7.holds_tied_plain_at .later [] [.data] true Rows.cutMergesCard.stood.harness false
    cutMerges_row (fun _ h => by cases h) (by kernel_rfl) (fun _ h => by cases h) cutMerges_row_tie rfl ⟨rfl, rfl⟩ (by kernel_rfl) rfl
    (fun f fn hf hfn => by
      obtain rfl : f = 4 := Option.some.inj ((show Tryd.prog.funcNamed "massif/massiflaw4.CutMerges" = some 4 by kernel_rfl).symm.trans hf) |>.symm
      obtain rfl : fn = Tryd.f4 := (Option.some.inj (Tryd.func4.symm.trans hfn)).symm
      exact ⟨by kernel_rfl, fun j t ht => by
        rw [Tryd.params4] at ht
        have hm : t ∈ [23] := by simpa using Array.mem_of_getElem? ht
        have hall : ([23].all fun u => !Tryd.prog.wantsStandIn u) = true := by kernel_rfl
        exact (show Tryd.prog.wantsStandIn t = false by simpa using List.all_eq_true.1 hall t hm)⟩)
    (by kernel_rfl)
#print axioms cutMerges_holds
end Go.Proofs.YthogidnbjdmaaaaDoor
