/- Texts of CarryEvents, one behind the other: PosDoor, ProofDoor, HashDoor, VerifyLaid3, VerifyDoorProof, CarryDoor. -/
import Derived.Test.YtkpgbhokoohimaaDoorRows
import Derived.ProofKit
import Derived.LaidMore
import Derived.OpenShut
import Derived.Stop.Joined
import Derived.Deep.Strs
import Derived.Test.YtkpgbhokoohimaaDoorCarryEventsP6
import Derived.Test.YtkpgbhokoohimaaDoorCarryEventsP8
import Derived.Test.YtkpgbhokoohimaaDoorCarryEventsP9
import Derived.Test.YtkpgbhokoohimaaDoorCarryEventsP15
import Derived.Test.YtkpgbhokoohimaaDoorCarryEventsP16
/- What the card's row gives the walks of layer 3: spots that came in; the table of math/bits. -/
namespace Go.Proofs.YtkpgbhokoohimaaDoor
open Go.ChangeShapes Go.WideShapes Go.ChangeAt Go.WideMaps Go.WideElems Go.RowKit
set_option maxRecDepth 100000

theorem own : ownKnob Tryd.prog.godebug = none := by kernel_rfl
theorem laidOut : laidOutB Tryd.prog = true := by kernel_rfl
theorem gTab : Tryd.prog.globalNamed "math/bits.deBruijn64tab" = some 0 := by kernel_rfl
theorem tTab : (Tryd.prog.globals[0]?).map (·.type) = some 101 := by kernel_rfl
theorem tabData {H : Type} : (Rows.laid_math_bits_deBruijn64tab : DataW H) = .agg (TAB.map fun n => .lit (.int .u8 (n : Nat))) := rfl
end Go.Proofs.YtkpgbhokoohimaaDoor

/- What the card's row gives the walks of layer 7: hashes, lists of hashes, proofs and bytes that came in. -/
namespace Go.Proofs.YtkpgbhokoohimaaDoor
open Go.ChangeShapes Go.WideShapes Go.ChangeAt Go.WideMaps Go.WideElems Go.RowKit Go.Deep
set_option maxRecDepth 100000

/-- one hash, by its cells. -/
theorem open_hash {H : Type} {enc : TypeId × Value → H} {W : World} {fuel : Nat} {cs : List Value} {x : DataW H × List MemPlace} (hf : DataW.trod enc Tryd.prog W 0 (fun _ => true) true fuel 24 cs = some x) : ∃ h : List Int,h.length = 32 ∧ (∀ x ∈ h,0 ≤ x ∧ x ≤ 255) ∧ cs = CELLS h := by
  obtain ⟨xs,m,rfl,_,hl,hn,hel⟩ := DataW.trod_array Tryd.underlying24 hf
  have c5 : Tryd.prog.cellsOf 5 = 1 := by kernel_rfl
  have c32 : Tryd.prog.cellsOf 24 = 32 := by kernel_rfl
  rw [c32] at hl
  have hx : ∀ i,i < 32 → ∃ k : Int,cs[i]? = some (.int .u8 k) ∧ 0 ≤ k ∧ k ≤ 255 := fun i hi => by
    have h0 := hel i hi
    rw [List.getElem?_eq_getElem (by omega),c5,Nat.mul_one] at h0
    obtain ⟨k,e1,_,e3⟩ := DataW.trod_int Tryd.underlying5 h0
    have hb := bounds_u8 e3
    refine ⟨k, ?_,by omega,by omega⟩
    have := congrArg (fun l => l[0]?) e1
    simpa using this
  have F : ∃ f : Nat → Int, ∀ i,i < 32 → cs[i]? = some (.int .u8 (f i)) ∧ 0 ≤ f i ∧ f i ≤ 255 := by
    refine ⟨fun i => if hi : i < 32 then (hx i hi).choose else 0,fun i hi => ?_⟩
    simp only [hi,dif_pos]
    exact (hx i hi).choose_spec
  obtain ⟨f,hf1⟩ := F
  refine ⟨(List.range 32).map f,by simp,fun x hx => ?_, ?_⟩
  · simp only [List.mem_map,List.mem_range] at hx
    obtain ⟨i,hi,rfl⟩ := hx
    exact (hf1 i hi).2
  · apply List.ext_getElem?
    intro i
    by_cases hi : i < 32
    · rw [(hf1 i hi).1,CELLS_get _ i (by simp; exact hi),List.getD_eq_getElem?_getD,List.getElem?_map,List.getElem?_range hi]
      rfl
    · rw [List.getElem?_eq_none (by omega),List.getElem?_eq_none (by simp [CELLS]; omega)]
/-- a list of hashes that came in. -/
theorem open_flat {H : Type} {enc : TypeId × Value → H} {W : World} {fuel : Nat} {a : Option Addr} {k c : Nat} {x : DataW H × List MemPlace} (hf : DataW.trod enc Tryd.prog W 0 (fun _ => true) true fuel 25 [.slice a k c] = some x) :
    ∃ l : List Int,Flat W a k l ∧ (a = none → c = 0) ∧ k ≤ c := by
  rcases DataW.trod_slice Tryd.underlying25 hf with ⟨h0,_⟩ | ⟨ad,len,cap,elems,rest,n,_,h0,hx,_,hl,hm,hlen,hel,_,_⟩
  · simp at h0
    obtain ⟨rfl,rfl,rfl⟩ := h0
    exact ⟨[],⟨rfl,fun h => absurd h (by omega),by simp⟩,fun _ => rfl,Nat.le_refl _⟩
  · simp at h0
    obtain ⟨rfl,rfl,rfl⟩ := h0
    have c32 : Tryd.prog.cellsOf 24 = 32 := by kernel_rfl
    have each : ∀ i,i < k → ∃ h : List Int,h.length = 32 ∧ (∀ x ∈ h,0 ≤ x ∧ x ≤ 255) ∧ ∀ j,j < 32 → W.cell? ((ad.add (i * 32)).add j) = some (.int .u8 (h.getD j 0)) := fun i hi => by
      have h := hel i hi
      rw [List.getElem?_eq_getElem (by omega),c32,Option.bind_eq_some_iff] at h
      obtain ⟨cs,hcs,ht⟩ := h
      obtain ⟨f,h1,h2,rfl⟩ := open_hash ht
      have hs := (World.cells?_some hcs).2.2
      refine ⟨f,h1,h2,fun j hj => ?_⟩
      have s := hs j hj
      rw [s]
      exact CELLS_get f j (by omega)
    have F : ∃ f : Nat → List Int, ∀ i,i < k → (f i).length = 32 ∧ (∀ x ∈ f i,0 ≤ x ∧ x ≤ 255) ∧ ∀ j,j < 32 → W.cell? ((ad.add (i * 32)).add j) = some (.int .u8 ((f i).getD j 0)) := by
      refine ⟨fun i => if hi : i < k then (each i hi).choose else [],fun i hi => ?_⟩
      simp only [hi,dif_pos]
      exact (each i hi).choose_spec
    obtain ⟨f,hf2⟩ := F
    have hrange : ∀ i,i < k → ∀ j,j < 32 → 0 ≤ (f i).getD j 0 ∧ (f i).getD j 0 ≤ 255 := fun i hi j hj => by
      rw [List.getD_eq_getElem?_getD,List.getElem?_eq_getElem (by rw [(hf2 i hi).1]; exact hj)]
      exact (hf2 i hi).2.1 _ (List.getElem_mem _)
    refine ⟨(List.range (32 * k)).map fun m => (f (m / 32)).getD (m % 32) 0,⟨by simp,fun h0k => ?_,fun x hx => ?_⟩,(fun e => by cases e),by omega⟩
    · obtain ⟨b,off,spot⟩ := ad
      have hc := (hf2 0 h0k).2.2 0 (by decide)
      have hspot : spot = none := by simpa [Addr.add] using World.cell?_spot hc
      subst hspot
      refine ⟨b,off,rfl, ?_,fun m hm => ?_⟩
      · have := World.block_lt_of_cell? W _ hc
        simpa [Addr.add] using this
      · have h1 := (hf2 (m / 32) (by omega)).2.2 (m % 32) (by omega)
        rw [addr_add,addr_add] at h1
        rw [List.getD_eq_getElem?_getD,List.getElem?_map,List.getElem?_range hm]
        simp only [Option.map_some,Option.getD_some]
        rw [← h1]
        congr 2
        omega
    · simp only [List.mem_map,List.mem_range] at hx
      obtain ⟨m,hm,rfl⟩ := hx
      exact hrange _ (by omega) _ (by omega)
/-- a list of bytes that came in. -/
theorem open_text {H : Type} {enc : TypeId × Value → H} {W : World} {a : Option Addr} {len cap : Nat} {d : DataW H} {ps : List MemPlace} (hd : DataW.Trod enc Tryd.prog W 0 (fun _ => true) true 28 (.slice a len cap) d ps) :
    ∃ l : List Int,Bytes W a len l ∧ (a = none → cap = 0) ∧ len ≤ cap := by
  obtain ⟨fuel,hf⟩ := hd
  rcases open_ints Tryd.underlying28 Tryd.underlying5 (by kernel_rfl) hf with ⟨hcs,_⟩ | ⟨x,l,c,zs,hcs,_,hl,hm,hz,hx,hcell,hwz⟩
  · simp [Value.cells] at hcs
    obtain ⟨rfl,rfl,rfl⟩ := hcs
    exact ⟨[],⟨rfl,fun h => by omega,by simp⟩,fun _ => rfl,Nat.le_refl _⟩
  · simp [Value.cells] at hcs
    obtain ⟨rfl,rfl,rfl⟩ := hcs
    have hr : IsRow .u8 W (some x) len cap zs := .inr ⟨_,rfl,hl,hm,by simpa using hz,hcell,hwz⟩
    exact ⟨_,hr.bytes,(fun e => by cases e),hl⟩
end Go.Proofs.YtkpgbhokoohimaaDoor

/- What the card's row gives the walks: arrays and slices of bytes that came in; the two tables. -/
namespace Go.Proofs.YtkpgbhokoohimaaDoor.HX
set_option maxRecDepth 100000
open Go.ChangeShapes Go.WideShapes Go.ChangeAt Go.WideMaps Go.WideElems Go.RowKit

theorem own : ownKnob Tryd.prog.godebug = none := by kernel_rfl
theorem laidOut : laidOutB Tryd.prog = true := by kernel_rfl
theorem gRounds : Tryd.prog.globalNamed "massif/hash.rounds" = some 2 := by kernel_rfl
theorem gBegin : Tryd.prog.globalNamed "massif/hash.begin" = some 1 := by kernel_rfl
theorem tRounds : (Tryd.prog.globals[2]?).map (·.type) = some 123 := by kernel_rfl
theorem tBegin : (Tryd.prog.globals[1]?).map (·.type) = some 121 := by kernel_rfl
theorem roundsData {H : Type} : (Rows.laid_massif_hash_rounds : DataW H) = .agg (KLIST.map fun n => .lit (.int .u32 (n : Nat))) := rfl
theorem beginData {H : Type} : (Rows.laid_massif_hash_begin : DataW H) = .agg (BEGIN.map fun n => .lit (.int .u32 (n : Nat))) := rfl

/-- a slice of bytes that came in. -/
theorem open_text {H : Type} {enc : TypeId × Value → H} {W : World} {a : Option Addr} {len cap : Nat} {d : DataW H} {ps : List MemPlace} (hd : DataW.Trod enc Tryd.prog W 0 (fun _ => true) true 28 (.slice a len cap) d ps) :
    ∃ l : List Nat,Text W a len l ∧ (a = none → cap = 0) := by
  have hr : ∃ zs,IsRow .u8 W a len cap zs := by
    obtain ⟨fuel,hf⟩ := hd
    rcases open_ints Tryd.underlying28 Tryd.underlying5 (by kernel_rfl) hf with ⟨hcs,_⟩ | ⟨x,l,c,zs,hcs,_,hl,hm,hz,hx,hcell,hwz⟩
    · simp [Value.cells] at hcs
      obtain ⟨rfl,rfl,rfl⟩ := hcs
      exact ⟨[],.inl ⟨rfl,rfl,rfl,rfl⟩⟩
    · simp [Value.cells] at hcs
      obtain ⟨rfl,rfl,rfl⟩ := hcs
      exact ⟨zs,.inr ⟨_,rfl,hl,hm,by simpa using hz,hcell,hwz⟩⟩
  obtain ⟨zs,hr⟩ := hr
  have hb := hr.bytes
  have e : INTS ((zs.take len).map Int.toNat) = zs.take len := by
    unfold INTS
    rw [List.map_map]
    conv => rhs; rw [← List.map_id (zs.take len)]
    apply List.map_congr_left
    intro x hx
    have := hb.2.2 x hx
    simp
    omega
  refine ⟨(zs.take len).map Int.toNat,Text.of_bytes (by rw [e]; exact hb),fun h => ?_⟩
  rcases hr with ⟨_,_,h3,_⟩ | ⟨x,h1,_⟩
  · exact h3
  · rw [h] at h1
    cases h1
theorem table_at {H : Type} {enc : TypeId × Value → H} {W : World} {base fuel n : Nat} {sp : Nat → Bool} {held : Bool} {t : TypeId} {cs : List Value} {ps : List MemPlace} (L : List Nat) (hL : L.length = n) (ht : Tryd.prog.underlying t = some (.array n 120))
    (hd : DataW.trod enc Tryd.prog W base sp held fuel t cs = some (.agg (L.map fun n => .lit (.int .u32 (n : Nat))),ps)) (i : Nat) (hi : i < n) : cs[i]? = some (.int .u32 (L.getD i 0 : Nat)) := by
  obtain ⟨xs,m1,rfl,hx1,hlen,hn,hel⟩ := DataW.trod_array ht hd
  have c5 : Tryd.prog.cellsOf 120 = 1 := by kernel_rfl
  simp only [Prod.mk.injEq,DataW.agg.injEq] at hx1
  have hx := hx1.1
  have h0 := hel i hi
  have hi' : i < xs.length := by omega
  rw [List.getElem?_eq_getElem hi',c5,Nat.mul_one] at h0
  obtain ⟨k,e1,e2,_⟩ := DataW.trod_int Tryd.underlying120 h0
  have hk : (k : Int) = ((L.getD i 0 : Nat) : Int) := by
    have hz := congrArg (fun l => l[i]?) hx
    have hT : i < L.length := by omega
    simp only [List.getElem?_map,List.getElem?_eq_getElem hi',List.getElem?_eq_getElem hT,Option.map_some,e2] at hz
    simp at hz
    rw [List.getD_eq_getElem?_getD,List.getElem?_eq_getElem hT]
    simpa using hz.symm
  rw [← hk]
  have := congrArg (fun l => l[0]?) e1
  simpa using this
end Go.Proofs.YtkpgbhokoohimaaDoor.HX

/- What the card's row gives a walk of chapter 8: the three tables. -/
namespace Go.Proofs.YtkpgbhokoohimaaDoor
open Go.ChangeShapes Go.WideShapes Go.ChangeAt Go.WideMaps Go.WideElems Go.RowKit
set_option maxRecDepth 100000

theorem of_laid3 {W : World} (h : laidMetH Tryd.prog [("math/bits.deBruijn64tab",Rows.laid_math_bits_deBruijn64tab),("massif/hash.begin",Rows.laid_massif_hash_begin),("massif/hash.rounds",Rows.laid_massif_hash_rounds)] W) : Tabled W ∧ HX.Tabled W ∧ 2 < W.heap.size := by
  rw [MakeChecks.laidMetH_plain _ _ _ (by kernel_rfl)] at h
  obtain ⟨ps,⟨g0,t0,cs0,f0,p0,q0,hg0,ht0,hv0,hd0,⟨g1,t1,cs1,f1,p1,q1,hg1,ht1,hv1,hd1,⟨g2,t2,cs2,f2,p2,q2,hg2,ht2,hv2,hd2,_,_⟩,_⟩,_⟩,_,_⟩ := h
  obtain rfl := Option.some.inj (gTab.symm.trans hg0)
  obtain rfl := Option.some.inj (tTab.symm.trans ht0)
  obtain rfl := Option.some.inj (HX.gBegin.symm.trans hg1)
  obtain rfl := Option.some.inj (HX.tBegin.symm.trans ht1)
  obtain rfl := Option.some.inj (HX.gRounds.symm.trans hg2)
  obtain rfl := Option.some.inj (HX.tRounds.symm.trans ht2)
  rw [HX.beginData] at hd1
  rw [HX.roundsData] at hd2
  have A : ∀ i,i < 8 → W.cell? ⟨1,i,none⟩ = some (.int .u32 (HX.BEGIN.getD i 0 : Nat)) := fun i hi => (World.var?_cell hg1 hv1 i).trans (Array.getElem?_toList.symm.trans (HX.table_at HX.BEGIN rfl Tryd.underlying121 hd1 i hi))
  have B : ∀ i,i < 64 → W.cell? ⟨2,i,none⟩ = some (.int .u32 (HX.KC i : Nat)) := fun i hi => (World.var?_cell hg2 hv2 i).trans (Array.getElem?_toList.symm.trans (HX.table_at HX.KLIST rfl Tryd.underlying123 hd2 i hi))
  obtain ⟨xs,m1,rfl,hx1,hlen,hn,hel⟩ := DataW.trod_array Tryd.underlying101 hd0
  have c5 : Tryd.prog.cellsOf 5 = 1 := by kernel_rfl
  simp only [Prod.mk.injEq] at hx1
  have hx := hx1.1
  rw [tabData] at hx
  simp only [DataW.agg.injEq] at hx
  have T : Tabled W := fun i hi => by
    have h0 := hel i hi
    have hi' : i < xs.length := by omega
    rw [List.getElem?_eq_getElem hi',c5,Nat.mul_one] at h0
    obtain ⟨k,e1,e2,_⟩ := DataW.trod_int Tryd.underlying5 h0
    have hk : (k : Int) = ((TAB.getD i 0 : Nat) : Int) := by
      have hz := congrArg (fun l => l[i]?) hx
      have hT : i < TAB.length := hi
      simp only [List.getElem?_map,List.getElem?_eq_getElem hi',List.getElem?_eq_getElem hT,Option.map_some,e2] at hz
      simp at hz
      rw [List.getD_eq_getElem?_getD,List.getElem?_eq_getElem hT]
      simpa using hz.symm
    have hv := World.var?_cell hg0 hv0 i
    rw [hv, ← hk]
    have := congrArg (fun l => l[0]?) e1
    simp at this
    simpa using this
  have z0 : 0 < W.heap.size := World.block_lt_of_cell? W _ (T 0 (by decide))
  have z1 : 1 < W.heap.size := World.block_lt_of_cell? W _ (A 0 (by decide))
  have z2 : 2 < W.heap.size := World.block_lt_of_cell? W _ (B 0 (by decide))
  exact ⟨T,⟨B,A,by omega⟩,by omega⟩
end Go.Proofs.YtkpgbhokoohimaaDoor

/- A proof of one leaf that came in. -/
namespace Go.Proofs.YtkpgbhokoohimaaDoor
open Go.ChangeShapes Go.WideShapes Go.ChangeAt Go.WideMaps Go.WideElems Go.RowKit Go.Deep
set_option maxRecDepth 100000

end Go.Proofs.YtkpgbhokoohimaaDoor

/- An event that came in. -/
namespace Go.Proofs.YtkpgbhokoohimaaDoor
open Go.ChangeShapes Go.WideShapes Go.ChangeAt Go.WideMaps Go.WideElems Go.RowKit Go.Deep
set_option maxRecDepth 100000

theorem under_event12 : ∃ f0 f1 f2 : Field,Tryd.prog.underlying 27 = some (.struct #[f0,f1,f2]) ∧ f0.type = 22 ∧ f0.offset = 0 ∧ f1.type = 24 ∧ f1.offset = 1 ∧ f2.type = 25 ∧ f2.offset = 33 := ⟨_,_,_,Tryd.underlying27,rfl,rfl,rfl,rfl,rfl,rfl⟩
/-- a structure of a number, a hash and a list of hashes that came in. -/
theorem open_event {H : Type} {enc : TypeId × Value → H} {W : World} {r : Reach} {b0 : Nat} {v : Value} {d : DataW H} {ps : List MemPlace}
    (hval : Value.okWide Tryd.prog W r b0 27 v) (hd : DataW.Trod enc Tryd.prog W 0 (fun _ => true) true 27 v d ps) : ∃ (X : Nat) (leaf : List Int) (a : Option Addr) (n c : Nat) (l : List Int),X < 2 ^ 64 ∧ leaf.length = 32 ∧ (∀ x ∈ leaf,0 ≤ x ∧ x ≤ 255) ∧ v = .agg (EVT X leaf (.slice a n c)) ∧ Flat W a n l ∧ (a = none → c = 0) ∧ n ≤ c := by
  obtain ⟨f0,f1,f2,hu,t0,o0,t1,o1,t2,o2⟩ := under_event12
  simp only [Value.okWide,hu] at hval
  obtain ⟨cs,rfl,hsz,_⟩ := hval
  obtain ⟨fuel,hf⟩ := hd
  obtain ⟨y0,y1,y2,m,_,hl,h0,h1,h2⟩ := trod_struct3 hu hf
  have hc : Tryd.prog.cellsOf 27 = 34 := by kernel_rfl
  rw [hc] at hsz
  have c1 : Tryd.prog.cellsOf 22 = 1 := by kernel_rfl
  have c2 : Tryd.prog.cellsOf 25 = 1 := by kernel_rfl
  have c3 : Tryd.prog.cellsOf 24 = 32 := by kernel_rfl
  rw [t0,o0,c1] at h0
  rw [t1,o1,c3] at h1
  rw [t2,o2,c2] at h2
  have e0 : (Value.agg cs).cells.toList = cs.toList := rfl
  rw [e0] at h0 h1 h2
  have hlen : cs.toList.length = 34 := by rw [Array.length_toList]; exact hsz
  generalize hL : cs.toList = L at *
  rw [List.drop_zero] at h0
  obtain ⟨x,hx⟩ : ∃ x,L.take 1 = [x] := List.length_eq_one_iff.1 (by rw [List.length_take]; omega)
  obtain ⟨z,hz⟩ : ∃ z,(L.drop 33).take 1 = [z] := List.length_eq_one_iff.1 (by rw [List.length_take,List.length_drop]; omega)
  obtain ⟨leaf,k1,k2,k3⟩ := open_hash h1
  have eL : L = x :: (CELLS leaf ++ [z]) := by
    have a1 : L.drop 33 = [z] := by rw [← hz,List.take_of_length_le (by rw [List.length_drop]; omega)]
    rw [← k3, ← a1,show L.drop 33 = (L.drop 1).drop 32 by rw [List.drop_drop],List.take_append_drop, ← List.singleton_append, ← hx,List.take_append_drop]
  rw [hx] at h0
  rw [hz] at h2
  obtain ⟨a,e1,_,e3⟩ := DataW.trod_int Tryd.underlying22 h0
  have ha := wf_u64 e3
  simp at e1
  subst e1
  obtain ⟨ad,k,c,rfl⟩ : ∃ ad k c,z = .slice ad k c := by
    rcases DataW.trod_slice Tryd.underlying25 h2 with ⟨h0,_⟩ | ⟨ad,len,cap,elems,rest,n,_,h0,_⟩
    · simp at h0
      exact ⟨_,_,_,h0⟩
    · simp at h0
      exact ⟨_,_,_,h0⟩
  obtain ⟨l,g1,g2,g3⟩ := open_flat h2
  refine ⟨a.toNat,leaf,ad,k,c,l,by omega,k1,k2, ?_,g1,g2,g3⟩
  congr 1
  apply Array.ext'
  rw [hL,eL]
  show _ = (Value.int .u64 ((a.toNat : Nat) : Int) :: (CELLS leaf ++ [.slice ad k c]))
  rw [Int.toNat_of_nonneg (by omega)]
end Go.Proofs.YtkpgbhokoohimaaDoor
