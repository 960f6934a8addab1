/- What the card's row gives the walks: arrays and slices of bytes that came in; the two tables. -/
import Derived.Test.YtihdhaamphdljaaDoorRows
import Derived.Test.YtihdhaamphdljaaDoorHashAwake
import Derived.ProofKit
import Derived.LaidMore
import Derived.OpenShut
import Derived.Stop.Joined
namespace Go.Proofs.YtihdhaamphdljaaDoor
set_option maxRecDepth 100000
open Go.ChangeShapes Go.WideShapes Go.ChangeAt Go.WideMaps Go.WideElems Go.RowKit

theorem own : ownKnob Tryd.prog.godebug = none := by kernel_rfl
theorem laidOut : laidOutB Tryd.prog = true := by kernel_rfl
theorem gRounds : Tryd.prog.globalNamed "massif/hash.rounds" = some 1 := by kernel_rfl
theorem gBegin : Tryd.prog.globalNamed "massif/hash.begin" = some 0 := by kernel_rfl
theorem tRounds : (Tryd.prog.globals[1]?).map (·.type) = some 63 := by kernel_rfl
theorem tBegin : (Tryd.prog.globals[0]?).map (·.type) = some 61 := by kernel_rfl
theorem roundsData {H : Type} : (Rows.laid_massif_hash_rounds : DataW H) = .agg (KLIST.map fun n => .lit (.int .u32 (n : Nat))) := rfl
theorem beginData {H : Type} : (Rows.laid_massif_hash_begin : DataW H) = .agg (BEGIN.map fun n => .lit (.int .u32 (n : Nat))) := rfl

/-- an array of bytes that came in. -/
theorem open_bytes {H : Type} {enc : TypeId × Value → H} {W : World} {r : Reach} {b0 base : Nat} {sp : Nat → Bool} {held : Bool} {t : TypeId} {n : Nat} {v : Value} {d : DataW H} {ps : List MemPlace} (ht : Tryd.prog.underlying t = some (.array n 5)) (hc : Tryd.prog.cellsOf t = n)
    (hval : Value.okWide Tryd.prog W r b0 t v) (hd : DataW.Trod enc Tryd.prog W base sp held t v d ps) : ∃ s : Nat → Nat, (∀ i, s i < 256) ∧ v = .agg (UARR .u8 n s) := by
  simp only [Value.okWide, ht] at hval
  obtain ⟨cs, rfl, hsz, _⟩ := hval
  obtain ⟨fuel, hf⟩ := hd
  obtain ⟨xs, m, rfl, _, _, hn, hel⟩ := DataW.trod_array ht hf
  have c5 : Tryd.prog.cellsOf 5 = 1 := by kernel_rfl
  have hx : ∀ i, i < n → ∃ k : Int, cs[i]? = some (.int .u8 k) ∧ (Lit.int .u8 k).wf = true := fun i hi => by
    have h0 := hel i hi
    rw [List.getElem?_eq_getElem (by omega), c5, Nat.mul_one] at h0
    obtain ⟨k, e1, _, e3⟩ := DataW.trod_int Tryd.underlying5 h0
    refine ⟨k, ?_, e3⟩
    have := congrArg (fun l => l[0]?) e1
    simpa [Value.cells] using this
  refine ⟨fun i => match cs[i]? with | some (.int _ k) => if i < n then k.toNat else 0 | _ => 0, fun i => ?_, ?_⟩
  · by_cases hi : i < n
    · obtain ⟨k, hk, hw⟩ := hx i hi
      simp only [hk, hi, if_true]
      have := bounds_u8 hw
      omega
    · dsimp only
      split
      · simp [hi]
      · decide
  · congr 1
    apply Array.ext_getElem?
    intro i
    by_cases hi : i < n
    · obtain ⟨k, hk, hw⟩ := hx i hi
      rw [UARR_get _ _ _ _ hi, hk]
      simp only [hi, if_true]
      have := bounds_u8 hw
      congr 2
      omega
    · rw [Array.getElem?_eq_none (by rw [hsz, hc]; omega), Array.getElem?_eq_none (by rw [UARR_size]; omega)]
/-- a slice of bytes that came in. -/
theorem open_text {H : Type} {enc : TypeId × Value → H} {W : World} {a : Option Addr} {len cap : Nat} {d : DataW H} {ps : List MemPlace} (hd : DataW.Trod enc Tryd.prog W 0 (fun _ => true) true 23 (.slice a len cap) d ps) :
    ∃ l : List Nat, Text W a len l ∧ (a = none → cap = 0) := by
  have hr : ∃ zs, IsRow .u8 W a len cap zs := by
    obtain ⟨fuel, hf⟩ := hd
    rcases open_ints Tryd.underlying23 Tryd.underlying5 (by kernel_rfl) hf with ⟨hcs, _⟩ | ⟨x, l, c, zs, hcs, _, hl, hm, hz, hx, hcell, hwz⟩
    · simp [Value.cells] at hcs
      obtain ⟨rfl, rfl, rfl⟩ := hcs
      exact ⟨[], .inl ⟨rfl, rfl, rfl, rfl⟩⟩
    · simp [Value.cells] at hcs
      obtain ⟨rfl, rfl, rfl⟩ := hcs
      exact ⟨zs, .inr ⟨_, rfl, hl, hm, by simpa using hz, hcell, hwz⟩⟩
  obtain ⟨zs, hr⟩ := hr
  have hb := hr.bytes
  have e : INTS ((zs.take len).map Int.toNat) = zs.take len := by
    unfold INTS
    rw [List.map_map]
    conv => rhs; rw [← List.map_id (zs.take len)]
    apply List.map_congr_left
    intro x hx
    have := hb.2.2 x hx
    simp
    omega
  refine ⟨(zs.take len).map Int.toNat, Text.of_bytes (by rw [e]; exact hb), fun h => ?_⟩
  rcases hr with ⟨_, _, h3, _⟩ | ⟨x, h1, _⟩
  · exact h3
  · rw [h] at h1
    cases h1
theorem table_at {H : Type} {enc : TypeId × Value → H} {W : World} {base fuel n : Nat} {sp : Nat → Bool} {held : Bool} {t : TypeId} {cs : List Value} {ps : List MemPlace} (L : List Nat) (hL : L.length = n) (ht : Tryd.prog.underlying t = some (.array n 60))
    (hd : DataW.trod enc Tryd.prog W base sp held fuel t cs = some (.agg (L.map fun n => .lit (.int .u32 (n : Nat))), ps)) (i : Nat) (hi : i < n) : cs[i]? = some (.int .u32 (L.getD i 0 : Nat)) := by
  obtain ⟨xs, m1, rfl, hx1, hlen, hn, hel⟩ := DataW.trod_array ht hd
  have c5 : Tryd.prog.cellsOf 60 = 1 := by kernel_rfl
  simp only [Prod.mk.injEq, DataW.agg.injEq] at hx1
  have hx := hx1.1
  have h0 := hel i hi
  have hi' : i < xs.length := by omega
  rw [List.getElem?_eq_getElem hi', c5, Nat.mul_one] at h0
  obtain ⟨k, e1, e2, _⟩ := DataW.trod_int Tryd.underlying60 h0
  have hk : (k : Int) = ((L.getD i 0 : Nat) : Int) := by
    have hz := congrArg (fun l => l[i]?) hx
    have hT : i < L.length := by omega
    simp only [List.getElem?_map, List.getElem?_eq_getElem hi', List.getElem?_eq_getElem hT, Option.map_some, e2] at hz
    simp at hz
    rw [List.getD_eq_getElem?_getD, List.getElem?_eq_getElem hT]
    simpa using hz.symm
  rw [← hk]
  have := congrArg (fun l => l[0]?) e1
  simpa using this
theorem of_laid {W : World} (h : laidMetH Tryd.prog [("massif/hash.begin", Rows.laid_massif_hash_begin), ("massif/hash.rounds", Rows.laid_massif_hash_rounds)] W) : Tabled W := by
  rw [MakeChecks.laidMetH_plain _ _ _ (by kernel_rfl)] at h
  obtain ⟨ps, ⟨g0, t0, cs0, f0, p0, q0, hg0, ht0, hv0, hd0, ⟨g1, t1, cs1, f1, p1, q1, hg1, ht1, hv1, hd1, _, _⟩, _⟩, _, _⟩ := h
  obtain rfl := Option.some.inj (gBegin.symm.trans hg0)
  obtain rfl := Option.some.inj (tBegin.symm.trans ht0)
  obtain rfl := Option.some.inj (gRounds.symm.trans hg1)
  obtain rfl := Option.some.inj (tRounds.symm.trans ht1)
  rw [beginData] at hd0
  rw [roundsData] at hd1
  have A : ∀ i, i < 8 → W.cell? ⟨0, i, none⟩ = some (.int .u32 (BEGIN.getD i 0 : Nat)) := fun i hi => (World.var?_cell hg0 hv0 i).trans (Array.getElem?_toList.symm.trans (table_at BEGIN rfl Tryd.underlying61 hd0 i hi))
  have B : ∀ i, i < 64 → W.cell? ⟨1, i, none⟩ = some (.int .u32 (KC i : Nat)) := fun i hi => (World.var?_cell hg1 hv1 i).trans (Array.getElem?_toList.symm.trans (table_at KLIST rfl Tryd.underlying63 hd1 i hi))
  exact ⟨B, A, by have h1 : 0 < W.heap.size := World.block_lt_of_cell? W _ (A 0 (by decide)); have h2 : 1 < W.heap.size := World.block_lt_of_cell? W _ (B 0 (by decide)); omega⟩
end Go.Proofs.YtihdhaamphdljaaDoor
