/- Texts of VerifyBinds, one behind the other: VerifyDoor. -/
import Derived.Test.YtccghfpnakkmaaaDoorVerifyBindsP35
/- What the card's row gives the walk of VerifyBinds: the three tables. -/
namespace Go.Proofs.YtccghfpnakkmaaaDoor
open Go.ChangeShapes Go.WideShapes Go.ChangeAt Go.WideMaps Go.WideElems Go.RowKit
set_option maxRecDepth 100000

theorem of_laid3 {W : World} (h : laidMetH Tryd.prog [("math/bits.deBruijn64tab", Rows.laid_math_bits_deBruijn64tab), ("massif/hash.begin", Rows.laid_massif_hash_begin), ("massif/hash.rounds", Rows.laid_massif_hash_rounds)] W) : Tabled W ∧ HX.Tabled W ∧ 2 < W.heap.size := by
  rw [MakeChecks.laidMetH_plain _ _ _ (by kernel_rfl)] at h
  obtain ⟨ps, ⟨g0, t0, cs0, f0, p0, q0, hg0, ht0, hv0, hd0, ⟨g1, t1, cs1, f1, p1, q1, hg1, ht1, hv1, hd1, ⟨g2, t2, cs2, f2, p2, q2, hg2, ht2, hv2, hd2, _, _⟩, _⟩, _⟩, _, _⟩ := h
  obtain rfl := Option.some.inj (gTab.symm.trans hg0)
  obtain rfl := Option.some.inj (tTab.symm.trans ht0)
  obtain rfl := Option.some.inj (HX.gBegin.symm.trans hg1)
  obtain rfl := Option.some.inj (HX.tBegin.symm.trans ht1)
  obtain rfl := Option.some.inj (HX.gRounds.symm.trans hg2)
  obtain rfl := Option.some.inj (HX.tRounds.symm.trans ht2)
  rw [HX.beginData] at hd1
  rw [HX.roundsData] at hd2
  have A : ∀ i, i < 8 → W.cell? ⟨1, i, none⟩ = some (.int .u32 (HX.BEGIN.getD i 0 : Nat)) := fun i hi => (World.var?_cell hg1 hv1 i).trans (Array.getElem?_toList.symm.trans (HX.table_at HX.BEGIN rfl Tryd.underlying86 hd1 i hi))
  have B : ∀ i, i < 64 → W.cell? ⟨0, i, none⟩ = some (.int .u32 (HX.KC i : Nat)) := fun i hi => (World.var?_cell hg2 hv2 i).trans (Array.getElem?_toList.symm.trans (HX.table_at HX.KLIST rfl Tryd.underlying88 hd2 i hi))
  obtain ⟨xs, m1, rfl, hx1, hlen, hn, hel⟩ := DataW.trod_array Tryd.underlying44 hd0
  have c5 : Tryd.prog.cellsOf 5 = 1 := by kernel_rfl
  simp only [Prod.mk.injEq] at hx1
  have hx := hx1.1
  rw [tabData] at hx
  simp only [DataW.agg.injEq] at hx
  have T : Tabled W := fun i hi => by
    have h0 := hel i hi
    have hi' : i < xs.length := by omega
    rw [List.getElem?_eq_getElem hi', c5, Nat.mul_one] at h0
    obtain ⟨k, e1, e2, _⟩ := DataW.trod_int Tryd.underlying5 h0
    have hk : (k : Int) = ((TAB.getD i 0 : Nat) : Int) := by
      have hz := congrArg (fun l => l[i]?) hx
      have hT : i < TAB.length := hi
      simp only [List.getElem?_map, List.getElem?_eq_getElem hi', List.getElem?_eq_getElem hT, Option.map_some, e2] at hz
      simp at hz
      rw [List.getD_eq_getElem?_getD, List.getElem?_eq_getElem hT]
      simpa using hz.symm
    have hv := World.var?_cell hg0 hv0 i
    rw [hv, ← hk]
    have := congrArg (fun l => l[0]?) e1
    simp at this
    simpa using this
  have z0 : 2 < W.heap.size := World.block_lt_of_cell? W _ (T 0 (by decide))
  have z1 : 1 < W.heap.size := World.block_lt_of_cell? W _ (A 0 (by decide))
  have z2 : 0 < W.heap.size := World.block_lt_of_cell? W _ (B 0 (by decide))
  exact ⟨T, ⟨B, A, by omega⟩, by omega⟩
theorem verifyBinds_door (d a1 a2 : Int) (l3 l4 l5 : List Int) (a6 : Int) (l7 l8 : List Int) (ba : Option Addr) (bn bc : Nat) (bl : List Int) (w : World) (w1 : (Lit.int .u64 a1).wf = true) (w2 : (Lit.int .u64 a2).wf = true) (m3 : l3.length = 32) (r3 : ∀ x ∈ l3, 0 ≤ x ∧ x ≤ 255) (m4 : l4.length = 32) (r4 : ∀ x ∈ l4, 0 ≤ x ∧ x ≤ 255) (m5 : l5.length = 32) (r5 : ∀ x ∈ l5, 0 ≤ x ∧ x ≤ 255) (w6 : (Lit.int .u64 a6).wf = true) (m7 : l7.length = 32) (r7 : ∀ x ∈ l7, 0 ≤ x ∧ x ≤ 255) (m8 : l8.length = 32) (r8 : ∀ x ∈ l8, 0 ≤ x ∧ x ≤ 255) (hB : Bytes w ba bn bl) (hz : ba = none → bc = 0) (hc : bn ≤ bc) (hT : Tabled w) (hX : HX.Tabled w) (h0 : 2 < w.heap.size) :
    Calls Tryd.prog 3 #[.int .i64 d, .int .u64 a1, .int .u64 a2, .agg (CELLS l3).toArray, .agg (CELLS l4).toArray, .agg (CELLS l5).toArray, .int .u64 a6, .agg (CELLS l7).toArray, .agg (CELLS l8).toArray, .slice ba bn bc] w fun e w' => e = .returned (.bool true) ∧ Below w.heap.size w w' := by
  have b1 := wf_u64 w1
  have b2 := wf_u64 w2
  have b6 := wf_u64 w6
  obtain ⟨n, rfl⟩ : ∃ X : Nat, a1 = (X : Int) := ⟨a1.toNat, by omega⟩
  obtain ⟨i, rfl⟩ : ∃ X : Nat, a2 = (X : Int) := ⟨a2.toNat, by omega⟩
  obtain ⟨m, rfl⟩ : ∃ X : Nat, a6 = (X : Int) := ⟨a6.toNat, by omega⟩
  exact verifyBinds_walk d n i m (by omega) (by omega) l3 l4 l5 l7 l8 ⟨m3, r3⟩ ⟨m4, r4⟩ ⟨m5, r5⟩ ⟨m7, r7⟩ ⟨m8, r8⟩ ba bn bc hc hz bl w hB hT hX h0
end Go.Proofs.YtccghfpnakkmaaaDoor
