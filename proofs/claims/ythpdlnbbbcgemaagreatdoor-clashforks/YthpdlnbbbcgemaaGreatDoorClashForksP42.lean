/- Texts of ClashForks, one behind the other: PosDoor, ProofDoor, HashDoor, VerifyLaid3. -/
import Derived.Test.YthpdlnbbbcgemaaGreatDoorRows
import Derived.ProofKit
import Derived.LaidMore
import Derived.OpenShut
import Derived.Stop.Joined
import Derived.Deep.Strs
import Derived.Test.YthpdlnbbbcgemaaGreatDoorClashForksP13
namespace Go.Proofs.YthpdlnbbbcgemaaGreatDoor
open Go.ChangeShapes Go.WideShapes Go.ChangeAt Go.WideMaps Go.WideElems Go.RowKit
set_option maxRecDepth 100000
theorem own:ownKnob Tryz.prog.godebug=none:=by kernel_rfl
theorem z3a:laidOutB Tryz.prog=true:=by kernel_rfl
theorem gTab:Tryz.prog.globalNamed "math/bits.deBruijn64tab"=some 2:=by kernel_rfl
theorem tTab:(Tryz.prog.globals[2]?).map (·.type)=some 135:=by kernel_rfl
theorem zgm {H:Type}:(Rows.laid_math_bits_deBruijn64tab:DataW H)=.agg (TAB.map fun n=>.lit (.int .u8 (n:Nat))):=rfl
end Go.Proofs.YthpdlnbbbcgemaaGreatDoor

namespace Go.Proofs.YthpdlnbbbcgemaaGreatDoor
open Go.ChangeShapes Go.WideShapes Go.ChangeAt Go.WideMaps Go.WideElems Go.RowKit Go.Deep
set_option maxRecDepth 100000
theorem zdD {H:Type} {enc:TypeId × Value→H} {W:World} {fuel:Nat} {cs:List Value} {x:DataW H × List MemPlace} (hf:DataW.trod enc Tryz.prog W 0 (fun _=>true) true fuel 24 cs=some x):∃ h:List Int,h.length=32∧(∀ x∈h,0≤x∧x≤255)∧cs=z01 h:=by
  obtain ⟨xs,m,rfl,_,hl,hn,hel⟩:=DataW.trod_array Tryz.underlying24 hf
  have c5:Tryz.prog.cellsOf 5=1:=by kernel_rfl
  have c32:Tryz.prog.cellsOf 24=32:=by kernel_rfl
  rw [c32] at hl
  have hx:∀ i,i<32→∃ k:Int,cs[i]?=some (.int .u8 k)∧0≤k∧k≤255:=fun i hi=>by
    have h0:=hel i hi
    rw [List.getElem?_eq_getElem (by omega),c5,Nat.mul_one] at h0
    obtain ⟨k,e1,_,e3⟩:=DataW.trod_int Tryz.underlying5 h0
    have hb:=bounds_u8 e3
    refine ⟨k,?_,by omega,by omega⟩
    have:=congrArg (fun l=>l[0]?) e1
    simpa using this
  have F:∃ f:Nat→Int,∀ i,i<32→cs[i]?=some (.int .u8 (f i))∧0≤f i∧f i≤255:=by
    refine ⟨fun i=>if hi:i<32 then (hx i hi).choose else 0,fun i hi=>?_⟩
    simp only [hi,dif_pos]
    exact (hx i hi).choose_spec
  obtain ⟨f,hf1⟩:=F
  refine ⟨(List.range 32).map f,by simp,fun x hx=>?_,?_⟩
  · simp only [List.mem_map,List.mem_range] at hx
    obtain ⟨i,hi,rfl⟩:=hx
    exact (hf1 i hi).2
  · apply List.ext_getElem?
    intro i
    by_cases hi:i<32
    · rw [(hf1 i hi).1,z0A _ i (by simp;exact hi),List.getD_eq_getElem?_getD,List.getElem?_map,List.getElem?_range hi]
      rfl
    · rw [List.getElem?_eq_none (by omega),List.getElem?_eq_none (by simp [z01];omega)]
theorem z5Z {H:Type} {enc:TypeId × Value→H} {W:World} {r:Reach} {b0:Nat} {v:Value} {d:DataW H} {ps:List MemPlace} (hval:Value.okWide Tryz.prog W r b0 24 v) (hd:DataW.Trod enc Tryz.prog W 0 (fun _=>true) true 24 v d ps):∃ h:List Int,h.length=32∧(∀ x∈h,0≤x∧x≤255)∧v=.agg (z01 h).toArray:=by
  simp only [Value.okWide,Tryz.underlying24] at hval
  obtain ⟨cs,rfl,hsz,_⟩:=hval
  obtain ⟨fuel,hf⟩:=hd
  obtain ⟨h,h1,h2,h3⟩:=zdD hf
  refine ⟨h,h1,h2,?_⟩
  congr 1
  apply Array.ext'
  simpa [Value.cells] using h3
theorem z53 {H:Type} {enc:TypeId × Value→H} {W:World} {a:Option Addr} {len cap:Nat} {d:DataW H} {ps:List MemPlace} (hd:DataW.Trod enc Tryz.prog W 0 (fun _=>true) true 25 (.slice a len cap) d ps):
    ∃ l:List Int,Bytes W a len l∧(a=none→cap=0)∧len≤cap:=by
  obtain ⟨fuel,hf⟩:=hd
  rcases open_ints Tryz.underlying25 Tryz.underlying5 (by kernel_rfl) hf with ⟨hcs,_⟩ | ⟨x,l,c,zs,hcs,_,hl,hm,hz,hx,hcell,hwz⟩
  · simp [Value.cells] at hcs
    obtain ⟨rfl,rfl,rfl⟩:=hcs
    exact ⟨[],⟨rfl,fun h=>by omega,by simp⟩,fun _=>rfl,Nat.le_refl _⟩
  · simp [Value.cells] at hcs
    obtain ⟨rfl,rfl,rfl⟩:=hcs
    have hr:IsRow .u8 W (some x) len cap zs:=.inr ⟨_,rfl,hl,hm,by simpa using hz,hcell,hwz⟩
    exact ⟨_,hr.bytes,(fun e=>by cases e),hl⟩
end Go.Proofs.YthpdlnbbbcgemaaGreatDoor

namespace Go.Proofs.YthpdlnbbbcgemaaGreatDoor.HX
set_option maxRecDepth 100000
open Go.ChangeShapes Go.WideShapes Go.ChangeAt Go.WideMaps Go.WideElems Go.RowKit
theorem own:ownKnob Tryz.prog.godebug=none:=by kernel_rfl
theorem z3a:laidOutB Tryz.prog=true:=by kernel_rfl
theorem gRounds:Tryz.prog.globalNamed "massif/hash.rounds"=some 1:=by kernel_rfl
theorem gBegin:Tryz.prog.globalNamed "massif/hash.begin"=some 0:=by kernel_rfl
theorem tRounds:(Tryz.prog.globals[1]?).map (·.type)=some 161:=by kernel_rfl
theorem tBegin:(Tryz.prog.globals[0]?).map (·.type)=some 159:=by kernel_rfl
theorem zcd {H:Type}:(Rows.laid_massif_hash_rounds:DataW H)=.agg (KLIST.map fun n=>.lit (.int .u32 (n:Nat))):=rfl
theorem zdE {H:Type}:(Rows.laid_massif_hash_begin:DataW H)=.agg (BEGIN.map fun n=>.lit (.int .u32 (n:Nat))):=rfl
theorem z53 {H:Type} {enc:TypeId × Value→H} {W:World} {a:Option Addr} {len cap:Nat} {d:DataW H} {ps:List MemPlace} (hd:DataW.Trod enc Tryz.prog W 0 (fun _=>true) true 25 (.slice a len cap) d ps):
    ∃ l:List Nat,Text W a len l∧(a=none→cap=0):=by
  have hr:∃ zs,IsRow .u8 W a len cap zs:=by
    obtain ⟨fuel,hf⟩:=hd
    rcases open_ints Tryz.underlying25 Tryz.underlying5 (by kernel_rfl) hf with ⟨hcs,_⟩ | ⟨x,l,c,zs,hcs,_,hl,hm,hz,hx,hcell,hwz⟩
    · simp [Value.cells] at hcs
      obtain ⟨rfl,rfl,rfl⟩:=hcs
      exact ⟨[],.inl ⟨rfl,rfl,rfl,rfl⟩⟩
    · simp [Value.cells] at hcs
      obtain ⟨rfl,rfl,rfl⟩:=hcs
      exact ⟨zs,.inr ⟨_,rfl,hl,hm,by simpa using hz,hcell,hwz⟩⟩
  obtain ⟨zs,hr⟩:=hr
  have hb:=hr.bytes
  have e:INTS ((zs.take len).map Int.toNat)=zs.take len:=by
    unfold INTS
    rw [List.map_map]
    conv=>rhs;rw [← List.map_id (zs.take len)]
    apply List.map_congr_left
    intro x hx
    have:=hb.2.2 x hx
    simp
    omega
  refine ⟨(zs.take len).map Int.toNat,Text.of_bytes (by rw [e];exact hb),fun h=>?_⟩
  rcases hr with ⟨_,_,h3,_⟩ | ⟨x,h1,_⟩
  · exact h3
  · rw [h] at h1
    cases h1
theorem z9t {H:Type} {enc:TypeId × Value→H} {W:World} {base fuel n:Nat} {sp:Nat→Bool} {held:Bool} {t:TypeId} {cs:List Value} {ps:List MemPlace} (L:List Nat) (hL:L.length=n) (ht:Tryz.prog.underlying t=some (.array n 158))
    (hd:DataW.trod enc Tryz.prog W base sp held fuel t cs=some (.agg (L.map fun n=>.lit (.int .u32 (n:Nat))),ps)) (i:Nat) (hi:i<n):cs[i]?=some (.int .u32 (L.getD i 0:Nat)):=by
  obtain ⟨xs,m1,rfl,hx1,hlen,hn,hel⟩:=DataW.trod_array ht hd
  have c5:Tryz.prog.cellsOf 158=1:=by kernel_rfl
  simp only [Prod.mk.injEq,DataW.agg.injEq] at hx1
  have hx:=hx1.1
  have h0:=hel i hi
  have hi':i<xs.length:=by omega
  rw [List.getElem?_eq_getElem hi',c5,Nat.mul_one] at h0
  obtain ⟨k,e1,e2,_⟩:=DataW.trod_int Tryz.underlying158 h0
  have hk:(k:Int)=((L.getD i 0:Nat):Int):=by
    have hz:=congrArg (fun l=>l[i]?) hx
    have hT:i<L.length:=by omega
    simp only [List.getElem?_map,List.getElem?_eq_getElem hi',List.getElem?_eq_getElem hT,Option.map_some,e2] at hz
    simp at hz
    rw [List.getD_eq_getElem?_getD,List.getElem?_eq_getElem hT]
    simpa using hz.symm
  rw [← hk]
  have:=congrArg (fun l=>l[0]?) e1
  simpa using this
end Go.Proofs.YthpdlnbbbcgemaaGreatDoor.HX

namespace Go.Proofs.YthpdlnbbbcgemaaGreatDoor
open Go.ChangeShapes Go.WideShapes Go.ChangeAt Go.WideMaps Go.WideElems Go.RowKit
set_option maxRecDepth 100000
theorem zfh {W:World} (h:laidMetH Tryz.prog [("math/bits.deBruijn64tab",Rows.laid_math_bits_deBruijn64tab),("massif/hash.begin",Rows.laid_massif_hash_begin),("massif/hash.rounds",Rows.laid_massif_hash_rounds)] W):Tabled W∧HX.Tabled W∧2<W.heap.size:=by
  rw [MakeChecks.laidMetH_plain _ _ _ (by kernel_rfl)] at h
  obtain ⟨ps,⟨g0,t0,cs0,f0,p0,q0,hg0,ht0,hv0,hd0,⟨g1,t1,cs1,f1,p1,q1,hg1,ht1,hv1,hd1,⟨g2,t2,cs2,f2,p2,q2,hg2,ht2,hv2,hd2,_,_⟩,_⟩,_⟩,_,_⟩:=h
  obtain rfl:=Option.some.inj (gTab.symm.trans hg0)
  obtain rfl:=Option.some.inj (tTab.symm.trans ht0)
  obtain rfl:=Option.some.inj (HX.gBegin.symm.trans hg1)
  obtain rfl:=Option.some.inj (HX.tBegin.symm.trans ht1)
  obtain rfl:=Option.some.inj (HX.gRounds.symm.trans hg2)
  obtain rfl:=Option.some.inj (HX.tRounds.symm.trans ht2)
  rw [HX.zdE] at hd1
  rw [HX.zcd] at hd2
  have A:∀ i,i<8→W.cell? ⟨0,i,none⟩=some (.int .u32 (HX.BEGIN.getD i 0:Nat)):=fun i hi=>(World.var?_cell hg1 hv1 i).trans (Array.getElem?_toList.symm.trans (HX.z9t HX.BEGIN rfl Tryz.underlying159 hd1 i hi))
  have B:∀ i,i<64→W.cell? ⟨1,i,none⟩=some (.int .u32 (HX.KC i:Nat)):=fun i hi=>(World.var?_cell hg2 hv2 i).trans (Array.getElem?_toList.symm.trans (HX.z9t HX.KLIST rfl Tryz.underlying161 hd2 i hi))
  obtain ⟨xs,m1,rfl,hx1,hlen,hn,hel⟩:=DataW.trod_array Tryz.underlying135 hd0
  have c5:Tryz.prog.cellsOf 5=1:=by kernel_rfl
  simp only [Prod.mk.injEq] at hx1
  have hx:=hx1.1
  rw [zgm] at hx
  simp only [DataW.agg.injEq] at hx
  have T:Tabled W:=fun i hi=>by
    have h0:=hel i hi
    have hi':i<xs.length:=by omega
    rw [List.getElem?_eq_getElem hi',c5,Nat.mul_one] at h0
    obtain ⟨k,e1,e2,_⟩:=DataW.trod_int Tryz.underlying5 h0
    have hk:(k:Int)=((TAB.getD i 0:Nat):Int):=by
      have hz:=congrArg (fun l=>l[i]?) hx
      have hT:i<TAB.length:=hi
      simp only [List.getElem?_map,List.getElem?_eq_getElem hi',List.getElem?_eq_getElem hT,Option.map_some,e2] at hz
      simp at hz
      rw [List.getD_eq_getElem?_getD,List.getElem?_eq_getElem hT]
      simpa using hz.symm
    have hv:=World.var?_cell hg0 hv0 i
    rw [hv,← hk]
    have:=congrArg (fun l=>l[0]?) e1
    simp at this
    simpa using this
  have z0:2<W.heap.size:=World.block_lt_of_cell? W _ (T 0 (by decide))
  have z1:0<W.heap.size:=World.block_lt_of_cell? W _ (A 0 (by decide))
  have z2:1<W.heap.size:=World.block_lt_of_cell? W _ (B 0 (by decide))
  exact ⟨T,⟨B,A,by omega⟩,by omega⟩
end Go.Proofs.YthpdlnbbbcgemaaGreatDoor
