/- Texts of SpanBytes, one behind the other: PosDoor, ProofDoor, SpanDoor. -/
import Derived.Test.YtmkgldjocigffaaDoorRows
import Derived.ProofKit
import Derived.LaidMore
import Derived.OpenShut
import Derived.Stop.Joined
import Derived.Deep.Strs
import Derived.Lib.SmallJoins
import Derived.Test.YtmkgldjocigffaaDoorSpanBytesP13
/- What the card's row gives the walks of layer 3: spots that came in; the table of math/bits. -/
namespace Go.Proofs.YtmkgldjocigffaaDoor
open Go.ChangeShapes Go.WideShapes Go.ChangeAt Go.WideMaps Go.WideElems Go.RowKit
set_option maxRecDepth 100000

theorem own : ownKnob Tryd.prog.godebug = none := by kernel_rfl
theorem laidOut : laidOutB Tryd.prog = true := by kernel_rfl
theorem gTab : Tryd.prog.globalNamed "math/bits.deBruijn64tab" = some 0 := by kernel_rfl
theorem tTab : (Tryd.prog.globals[0]?).map (·.type) = some 103 := by kernel_rfl
theorem tabData {H : Type} : (Rows.laid_math_bits_deBruijn64tab : DataW H) = .agg (TAB.map fun n => .lit (.int .u8 (n : Nat))) := rfl
theorem of_laid {W : World} (h : laidMetH Tryd.prog [("math/bits.deBruijn64tab", Rows.laid_math_bits_deBruijn64tab)] W) : Tabled W ∧ 0 < W.heap.size := by
  rw [MakeChecks.laidMetH_plain _ _ _ (by kernel_rfl)] at h
  obtain ⟨ps, ⟨g0, t0, cs0, f0, p0, q0, hg0, ht0, hv0, hd0, _, _⟩, _, _⟩ := h
  obtain rfl := Option.some.inj (gTab.symm.trans hg0)
  obtain rfl := Option.some.inj (tTab.symm.trans ht0)
  obtain ⟨xs, m1, rfl, hx1, hlen, hn, hel⟩ := DataW.trod_array Tryd.underlying103 hd0
  have c5 : Tryd.prog.cellsOf 5 = 1 := by kernel_rfl
  simp only [Prod.mk.injEq] at hx1
  have hx := hx1.1
  rw [tabData] at hx
  simp only [DataW.agg.injEq] at hx
  have T : Tabled W := fun i hi => by
    have h0 := hel i hi
    have hi' : i < xs.length := by omega
    rw [List.getElem?_eq_getElem hi', c5, Nat.mul_one] at h0
    obtain ⟨k, e1, e2, _⟩ := DataW.trod_int Tryd.underlying5 h0
    have hk : (k : Int) = ((TAB.getD i 0 : Nat) : Int) := by
      have hz := congrArg (fun l => l[i]?) hx
      have hT : i < TAB.length := hi
      simp only [List.getElem?_map, List.getElem?_eq_getElem hi', List.getElem?_eq_getElem hT, Option.map_some, e2] at hz
      simp at hz
      rw [List.getD_eq_getElem?_getD, List.getElem?_eq_getElem hT]
      simpa using hz.symm
    have hv := World.var?_cell hg0 hv0 i
    rw [hv, ← hk]
    have := congrArg (fun l => l[0]?) e1
    simp at this
    simpa using this
  refine ⟨T, ?_⟩
  have := T 0 (by decide)
  exact Nat.lt_of_le_of_lt (Nat.zero_le _) (World.block_lt_of_cell? W _ this)
end Go.Proofs.YtmkgldjocigffaaDoor

/- What the card's row gives the walks of layer 7: hashes, lists of hashes, proofs and bytes that came in. -/
namespace Go.Proofs.YtmkgldjocigffaaDoor
open Go.ChangeShapes Go.WideShapes Go.ChangeAt Go.WideMaps Go.WideElems Go.RowKit Go.Deep
set_option maxRecDepth 100000

/-- one hash, by its cells. -/
theorem open_hash {H : Type} {enc : TypeId × Value → H} {W : World} {fuel : Nat} {cs : List Value} {x : DataW H × List MemPlace} (hf : DataW.trod enc Tryd.prog W 0 (fun _ => true) true fuel 60 cs = some x) : ∃ h : List Int, h.length = 32 ∧ (∀ x ∈ h, 0 ≤ x ∧ x ≤ 255) ∧ cs = CELLS h := by
  obtain ⟨xs, m, rfl, _, hl, hn, hel⟩ := DataW.trod_array Tryd.underlying60 hf
  have c5 : Tryd.prog.cellsOf 5 = 1 := by kernel_rfl
  have c32 : Tryd.prog.cellsOf 60 = 32 := by kernel_rfl
  rw [c32] at hl
  have hx : ∀ i, i < 32 → ∃ k : Int, cs[i]? = some (.int .u8 k) ∧ 0 ≤ k ∧ k ≤ 255 := fun i hi => by
    have h0 := hel i hi
    rw [List.getElem?_eq_getElem (by omega), c5, Nat.mul_one] at h0
    obtain ⟨k, e1, _, e3⟩ := DataW.trod_int Tryd.underlying5 h0
    have hb := bounds_u8 e3
    refine ⟨k, ?_, by omega, by omega⟩
    have := congrArg (fun l => l[0]?) e1
    simpa using this
  have F : ∃ f : Nat → Int, ∀ i, i < 32 → cs[i]? = some (.int .u8 (f i)) ∧ 0 ≤ f i ∧ f i ≤ 255 := by
    refine ⟨fun i => if hi : i < 32 then (hx i hi).choose else 0, fun i hi => ?_⟩
    simp only [hi, dif_pos]
    exact (hx i hi).choose_spec
  obtain ⟨f, hf1⟩ := F
  refine ⟨(List.range 32).map f, by simp, fun x hx => ?_, ?_⟩
  · simp only [List.mem_map, List.mem_range] at hx
    obtain ⟨i, hi, rfl⟩ := hx
    exact (hf1 i hi).2
  · apply List.ext_getElem?
    intro i
    by_cases hi : i < 32
    · rw [(hf1 i hi).1, CELLS_get _ i (by simp; exact hi), List.getD_eq_getElem?_getD, List.getElem?_map, List.getElem?_range hi]
      rfl
    · rw [List.getElem?_eq_none (by omega), List.getElem?_eq_none (by simp [CELLS]; omega)]
/-- a list of hashes that came in. -/
theorem open_flat {H : Type} {enc : TypeId × Value → H} {W : World} {fuel : Nat} {a : Option Addr} {k c : Nat} {x : DataW H × List MemPlace} (hf : DataW.trod enc Tryd.prog W 0 (fun _ => true) true fuel 35 [.slice a k c] = some x) :
    ∃ l : List Int, Flat W a k l ∧ (a = none → c = 0) ∧ k ≤ c := by
  rcases DataW.trod_slice Tryd.underlying35 hf with ⟨h0, _⟩ | ⟨ad, len, cap, elems, rest, n, _, h0, hx, _, hl, hm, hlen, hel, _, _⟩
  · simp at h0
    obtain ⟨rfl, rfl, rfl⟩ := h0
    exact ⟨[], ⟨rfl, fun h => absurd h (by omega), by simp⟩, fun _ => rfl, Nat.le_refl _⟩
  · simp at h0
    obtain ⟨rfl, rfl, rfl⟩ := h0
    have c32 : Tryd.prog.cellsOf 60 = 32 := by kernel_rfl
    have each : ∀ i, i < k → ∃ h : List Int, h.length = 32 ∧ (∀ x ∈ h, 0 ≤ x ∧ x ≤ 255) ∧ ∀ j, j < 32 → W.cell? ((ad.add (i * 32)).add j) = some (.int .u8 (h.getD j 0)) := fun i hi => by
      have h := hel i hi
      rw [List.getElem?_eq_getElem (by omega), c32, Option.bind_eq_some_iff] at h
      obtain ⟨cs, hcs, ht⟩ := h
      obtain ⟨f, h1, h2, rfl⟩ := open_hash ht
      have hs := (World.cells?_some hcs).2.2
      refine ⟨f, h1, h2, fun j hj => ?_⟩
      have s := hs j hj
      rw [s]
      exact CELLS_get f j (by omega)
    have F : ∃ f : Nat → List Int, ∀ i, i < k → (f i).length = 32 ∧ (∀ x ∈ f i, 0 ≤ x ∧ x ≤ 255) ∧ ∀ j, j < 32 → W.cell? ((ad.add (i * 32)).add j) = some (.int .u8 ((f i).getD j 0)) := by
      refine ⟨fun i => if hi : i < k then (each i hi).choose else [], fun i hi => ?_⟩
      simp only [hi, dif_pos]
      exact (each i hi).choose_spec
    obtain ⟨f, hf2⟩ := F
    have hrange : ∀ i, i < k → ∀ j, j < 32 → 0 ≤ (f i).getD j 0 ∧ (f i).getD j 0 ≤ 255 := fun i hi j hj => by
      rw [List.getD_eq_getElem?_getD, List.getElem?_eq_getElem (by rw [(hf2 i hi).1]; exact hj)]
      exact (hf2 i hi).2.1 _ (List.getElem_mem _)
    refine ⟨(List.range (32 * k)).map fun m => (f (m / 32)).getD (m % 32) 0, ⟨by simp, fun h0k => ?_, fun x hx => ?_⟩, (fun e => by cases e), by omega⟩
    · obtain ⟨b, off, spot⟩ := ad
      have hc := (hf2 0 h0k).2.2 0 (by decide)
      have hspot : spot = none := by simpa [Addr.add] using World.cell?_spot hc
      subst hspot
      refine ⟨b, off, rfl, ?_, fun m hm => ?_⟩
      · have := World.block_lt_of_cell? W _ hc
        simpa [Addr.add] using this
      · have h1 := (hf2 (m / 32) (by omega)).2.2 (m % 32) (by omega)
        rw [addr_add, addr_add] at h1
        rw [List.getD_eq_getElem?_getD, List.getElem?_map, List.getElem?_range hm]
        simp only [Option.map_some, Option.getD_some]
        rw [← h1]
        congr 2
        omega
    · simp only [List.mem_map, List.mem_range] at hx
      obtain ⟨m, hm, rfl⟩ := hx
      exact hrange _ (by omega) _ (by omega)
/-- a list of bytes that came in. -/
theorem open_text {H : Type} {enc : TypeId × Value → H} {W : World} {a : Option Addr} {len cap : Nat} {d : DataW H} {ps : List MemPlace} (hd : DataW.Trod enc Tryd.prog W 0 (fun _ => true) true 38 (.slice a len cap) d ps) :
    ∃ l : List Int, Bytes W a len l ∧ (a = none → cap = 0) ∧ len ≤ cap := by
  obtain ⟨fuel, hf⟩ := hd
  rcases open_ints Tryd.underlying38 Tryd.underlying5 (by kernel_rfl) hf with ⟨hcs, _⟩ | ⟨x, l, c, zs, hcs, _, hl, hm, hz, hx, hcell, hwz⟩
  · simp [Value.cells] at hcs
    obtain ⟨rfl, rfl, rfl⟩ := hcs
    exact ⟨[], ⟨rfl, fun h => by omega, by simp⟩, fun _ => rfl, Nat.le_refl _⟩
  · simp [Value.cells] at hcs
    obtain ⟨rfl, rfl, rfl⟩ := hcs
    have hr : IsRow .u8 W (some x) len cap zs := .inr ⟨_, rfl, hl, hm, by simpa using hz, hcell, hwz⟩
    exact ⟨_, hr.bytes, (fun e => by cases e), hl⟩
end Go.Proofs.YtmkgldjocigffaaDoor

/- What the card's row gives the walks of layer 20: a proof of a span that came in. -/
namespace Go.Proofs.YtmkgldjocigffaaDoor
open Go.ChangeShapes Go.WideShapes Go.ChangeAt Go.WideMaps Go.WideElems Go.RowKit Go.Deep
set_option maxRecDepth 100000

theorem under_reach : ∃ f0 f1 f2 f3 : Field, Tryd.prog.underlying 37 = some (.struct #[f0, f1, f2, f3]) ∧ (f0.type = 22 ∧ f0.offset = 0) ∧ (f1.type = 22 ∧ f1.offset = 1) ∧ (f2.type = 22 ∧ f2.offset = 2) ∧ f3.type = 35 ∧ f3.offset = 3 := ⟨_, _, _, _, Tryd.underlying37, ⟨rfl, rfl⟩, ⟨rfl, rfl⟩, ⟨rfl, rfl⟩, rfl, rfl⟩
theorem cells_reach : Tryd.prog.cellsOf 37 = 4 := by kernel_rfl
theorem open_reach {H : Type} {enc : TypeId × Value → H} {W : World} {r : Reach} {b0 : Nat} {v : Value} {d : DataW H} {ps : List MemPlace}
    (hval : Value.okWide Tryd.prog W r b0 37 v) (hd : DataW.Trod enc Tryd.prog W 0 (fun _ => true) true 37 v d ps) : ∃ (S F T : Nat) (x : Option Addr) (m cx : Nat) (l : List Int), S < 2 ^ 64 ∧ F < 2 ^ 64 ∧ T < 2 ^ 64 ∧ v = .agg #[.int .u64 (S : Int), .int .u64 (F : Int), .int .u64 (T : Int), .slice x m cx] ∧ (x = none → cx = 0) ∧ Flat W x m l ∧ m ≤ cx := by
  obtain ⟨f0, f1, f2, f3, hu, ⟨t0, o0⟩, ⟨t1, o1⟩, ⟨t2, o2⟩, t3, o3⟩ := under_reach
  simp only [Value.okWide, hu] at hval
  obtain ⟨cs, rfl, hsz, _⟩ := hval
  obtain ⟨fuel, hf⟩ := hd
  obtain ⟨y0, y1, y2, y3, m, _, hl, h0, h1, h2, h3⟩ := Go.Joins.trod_struct4 hu hf
  rw [cells_reach] at hsz
  obtain ⟨x, y, z, u, rfl⟩ : ∃ x y z u, cs = #[x, y, z, u] := by
    obtain ⟨l⟩ := cs
    match l, hsz with
    | [x, y, z, u], _ => exact ⟨x, y, z, u, rfl⟩
  have c1 : Tryd.prog.cellsOf 22 = 1 := by kernel_rfl
  have c2 : Tryd.prog.cellsOf 35 = 1 := by kernel_rfl
  rw [t0, o0, c1] at h0
  rw [t1, o1, c1] at h1
  rw [t2, o2, c1] at h2
  rw [t3, o3, c2] at h3
  simp [Value.cells] at h0 h1 h2 h3
  obtain ⟨a, e1, _, e3⟩ := DataW.trod_int Tryd.underlying22 h0
  obtain ⟨b, g1, _, g3⟩ := DataW.trod_int Tryd.underlying22 h1
  obtain ⟨c, i1, _, i3⟩ := DataW.trod_int Tryd.underlying22 h2
  have ha := wf_u64 e3
  have hb := wf_u64 g3
  have hc := wf_u64 i3
  simp at e1 g1 i1
  subst e1 g1 i1
  obtain ⟨ad, k, cc, rfl⟩ : ∃ ad k c, u = .slice ad k c := by
    rcases DataW.trod_slice Tryd.underlying35 h3 with ⟨h0, _⟩ | ⟨ad, len, cap, elems, rest, n, _, h0, _⟩
    · simp at h0
      exact ⟨_, _, _, h0⟩
    · simp at h0
      exact ⟨_, _, _, h0⟩
  obtain ⟨l, q1, q2, q3⟩ := open_flat h3
  refine ⟨a.toNat, b.toNat, c.toNat, ad, k, cc, l, by omega, by omega, by omega, ?_, q2, q1, q3⟩
  rw [Int.toNat_of_nonneg (by omega), Int.toNat_of_nonneg (by omega), Int.toNat_of_nonneg (by omega)]
end Go.Proofs.YtmkgldjocigffaaDoor
