/- Texts of SpanVerifies, one behind the other: HashDoor, VerifyLaid3, ManyDoor, ManyDoorMany, SpanDoor. -/
import Derived.Test.YthdpkaiieomdoaaGreatDoorRows
import Derived.ProofKit
import Derived.LaidMore
import Derived.OpenShut
import Derived.Stop.Joined
import Derived.Lib.SmallJoins
import Derived.Test.YthdpkaiieomdoaaGreatDoorSpanVerifiesP35
namespace Go.Proofs.YthdpkaiieomdoaaGreatDoor.HX
set_option maxRecDepth 100000
open Go.ChangeShapes Go.WideShapes Go.ChangeAt Go.WideMaps Go.WideElems Go.RowKit
theorem own:ownKnob Tryz.prog.godebug=none:=by kernel_rfl
theorem z3o:laidOutB Tryz.prog=true:=by kernel_rfl
theorem gRounds:Tryz.prog.globalNamed "massif/hash.rounds"=some 1:=by kernel_rfl
theorem gBegin:Tryz.prog.globalNamed "massif/hash.begin"=some 0:=by kernel_rfl
theorem tRounds:(Tryz.prog.globals[1]?).map (·.type)=some 222:=by kernel_rfl
theorem tBegin:(Tryz.prog.globals[0]?).map (·.type)=some 220:=by kernel_rfl
theorem zaZ {H:Type}:(Rows.laid_massif_hash_rounds:DataW H)=.agg (KLIST.map fun n=>.lit (.int .u32 (n:Nat))):=rfl
theorem zcm {H:Type}:(Rows.laid_massif_hash_begin:DataW H)=.agg (BEGIN.map fun n=>.lit (.int .u32 (n:Nat))):=rfl
theorem z70 {H:Type} {enc:TypeId × Value→H} {W:World} {a:Option Addr} {len cap:Nat} {d:DataW H} {ps:List MemPlace} (hd:DataW.Trod enc Tryz.prog W 0 (fun _=>true) true 26 (.slice a len cap) d ps):
    ∃ l:List Nat,Text W a len l∧(a=none→cap=0):=by
  have hr:∃ zs,IsRow .u8 W a len cap zs:=by
    obtain ⟨fuel,hf⟩:=hd
    rcases open_ints Tryz.underlying26 Tryz.underlying5 (by kernel_rfl) hf with ⟨hcs,_⟩ | ⟨x,l,c,zs,hcs,_,hl,hm,hz,hx,hcell,hwz⟩
    · simp [Value.cells] at hcs
      obtain ⟨rfl,rfl,rfl⟩:=hcs
      exact ⟨[],.inl ⟨rfl,rfl,rfl,rfl⟩⟩
    · simp [Value.cells] at hcs
      obtain ⟨rfl,rfl,rfl⟩:=hcs
      exact ⟨zs,.inr ⟨_,rfl,hl,hm,by simpa using hz,hcell,hwz⟩⟩
  obtain ⟨zs,hr⟩:=hr
  have hb:=hr.bytes
  have e:INTS ((zs.take len).map Int.toNat)=zs.take len:=by
    unfold INTS
    rw [List.map_map]
    conv=>rhs;rw [← List.map_id (zs.take len)]
    apply List.map_congr_left
    intro x hx
    have:=hb.2.2 x hx
    simp
    omega
  refine ⟨(zs.take len).map Int.toNat,Text.of_bytes (by rw [e];exact hb),fun h=>?_⟩
  rcases hr with ⟨_,_,h3,_⟩ | ⟨x,h1,_⟩
  · exact h3
  · rw [h] at h1
    cases h1
theorem z8o {H:Type} {enc:TypeId × Value→H} {W:World} {base fuel n:Nat} {sp:Nat→Bool} {held:Bool} {t:TypeId} {cs:List Value} {ps:List MemPlace} (L:List Nat) (hL:L.length=n) (ht:Tryz.prog.underlying t=some (.array n 219))
    (hd:DataW.trod enc Tryz.prog W base sp held fuel t cs=some (.agg (L.map fun n=>.lit (.int .u32 (n:Nat))),ps)) (i:Nat) (hi:i<n):cs[i]?=some (.int .u32 (L.getD i 0:Nat)):=by
  obtain ⟨xs,m1,rfl,hx1,hlen,hn,hel⟩:=DataW.trod_array ht hd
  have c5:Tryz.prog.cellsOf 219=1:=by kernel_rfl
  simp only [Prod.mk.injEq,DataW.agg.injEq] at hx1
  have hx:=hx1.1
  have h0:=hel i hi
  have hi':i<xs.length:=by omega
  rw [List.getElem?_eq_getElem hi',c5,Nat.mul_one] at h0
  obtain ⟨k,e1,e2,_⟩:=DataW.trod_int Tryz.underlying219 h0
  have hk:(k:Int)=((L.getD i 0:Nat):Int):=by
    have hz:=congrArg (fun l=>l[i]?) hx
    have hT:i<L.length:=by omega
    simp only [List.getElem?_map,List.getElem?_eq_getElem hi',List.getElem?_eq_getElem hT,Option.map_some,e2] at hz
    simp at hz
    rw [List.getD_eq_getElem?_getD,List.getElem?_eq_getElem hT]
    simpa using hz.symm
  rw [← hk]
  have:=congrArg (fun l=>l[0]?) e1
  simpa using this
end Go.Proofs.YthdpkaiieomdoaaGreatDoor.HX

namespace Go.Proofs.YthdpkaiieomdoaaGreatDoor
open Go.ChangeShapes Go.WideShapes Go.ChangeAt Go.WideMaps Go.WideElems Go.RowKit
set_option maxRecDepth 100000
theorem zdN {W:World} (h:laidMetH Tryz.prog [("math/bits.deBruijn64tab",Rows.laid_math_bits_deBruijn64tab),("massif/hash.begin",Rows.laid_massif_hash_begin),("massif/hash.rounds",Rows.laid_massif_hash_rounds)] W):Tabled W∧HX.Tabled W∧2<W.heap.size:=by
  rw [MakeChecks.laidMetH_plain _ _ _ (by kernel_rfl)] at h
  obtain ⟨ps,⟨g0,t0,cs0,f0,p0,q0,hg0,ht0,hv0,hd0,⟨g1,t1,cs1,f1,p1,q1,hg1,ht1,hv1,hd1,⟨g2,t2,cs2,f2,p2,q2,hg2,ht2,hv2,hd2,_,_⟩,_⟩,_⟩,_,_⟩:=h
  obtain rfl:=Option.some.inj (gTab.symm.trans hg0)
  obtain rfl:=Option.some.inj (tTab.symm.trans ht0)
  obtain rfl:=Option.some.inj (HX.gBegin.symm.trans hg1)
  obtain rfl:=Option.some.inj (HX.tBegin.symm.trans ht1)
  obtain rfl:=Option.some.inj (HX.gRounds.symm.trans hg2)
  obtain rfl:=Option.some.inj (HX.tRounds.symm.trans ht2)
  rw [HX.zcm] at hd1
  rw [HX.zaZ] at hd2
  have A:∀ i,i<8→W.cell? ⟨0,i,none⟩=some (.int .u32 (HX.BEGIN.getD i 0:Nat)):=fun i hi=>(World.var?_cell hg1 hv1 i).trans (Array.getElem?_toList.symm.trans (HX.z8o HX.BEGIN rfl Tryz.underlying220 hd1 i hi))
  have B:∀ i,i<64→W.cell? ⟨1,i,none⟩=some (.int .u32 (HX.KC i:Nat)):=fun i hi=>(World.var?_cell hg2 hv2 i).trans (Array.getElem?_toList.symm.trans (HX.z8o HX.KLIST rfl Tryz.underlying222 hd2 i hi))
  obtain ⟨xs,m1,rfl,hx1,hlen,hn,hel⟩:=DataW.trod_array Tryz.underlying147 hd0
  have c5:Tryz.prog.cellsOf 5=1:=by kernel_rfl
  simp only [Prod.mk.injEq] at hx1
  have hx:=hx1.1
  rw [zeU] at hx
  simp only [DataW.agg.injEq] at hx
  have T:Tabled W:=fun i hi=>by
    have h0:=hel i hi
    have hi':i<xs.length:=by omega
    rw [List.getElem?_eq_getElem hi',c5,Nat.mul_one] at h0
    obtain ⟨k,e1,e2,_⟩:=DataW.trod_int Tryz.underlying5 h0
    have hk:(k:Int)=((TAB.getD i 0:Nat):Int):=by
      have hz:=congrArg (fun l=>l[i]?) hx
      have hT:i<TAB.length:=hi
      simp only [List.getElem?_map,List.getElem?_eq_getElem hi',List.getElem?_eq_getElem hT,Option.map_some,e2] at hz
      simp at hz
      rw [List.getD_eq_getElem?_getD,List.getElem?_eq_getElem hT]
      simpa using hz.symm
    have hv:=World.var?_cell hg0 hv0 i
    rw [hv,← hk]
    have:=congrArg (fun l=>l[0]?) e1
    simp at this
    simpa using this
  have z0:2<W.heap.size:=World.block_lt_of_cell? W _ (T 0 (by decide))
  have z1:0<W.heap.size:=World.block_lt_of_cell? W _ (A 0 (by decide))
  have z2:1<W.heap.size:=World.block_lt_of_cell? W _ (B 0 (by decide))
  exact ⟨T,⟨B,A,by omega⟩,by omega⟩
end Go.Proofs.YthdpkaiieomdoaaGreatDoor

namespace Go.Proofs.YthdpkaiieomdoaaGreatDoor
open Go.ChangeShapes Go.WideShapes Go.ChangeAt Go.WideMaps Go.WideElems Go.RowKit
set_option maxRecDepth 100000
end Go.Proofs.YthdpkaiieomdoaaGreatDoor

namespace Go.Proofs.YthdpkaiieomdoaaGreatDoor
open Go.ChangeShapes Go.WideShapes Go.ChangeAt Go.WideMaps Go.WideElems Go.RowKit Go.Deep
set_option maxRecDepth 100000
end Go.Proofs.YthdpkaiieomdoaaGreatDoor

namespace Go.Proofs.YthdpkaiieomdoaaGreatDoor
open Go.ChangeShapes Go.WideShapes Go.ChangeAt Go.WideMaps Go.WideElems Go.RowKit Go.Deep
set_option maxRecDepth 100000
theorem z9d:∃ f0 f1 f2 f3:Field,Tryz.prog.underlying 28=some (.struct #[f0,f1,f2,f3])∧(f0.type=24∧f0.offset=0)∧(f1.type=24∧f1.offset=1)∧(f2.type=24∧f2.offset=2)∧f3.type=25∧f3.offset=3:=⟨_,_,_,_,Tryz.underlying28,⟨rfl,rfl⟩,⟨rfl,rfl⟩,⟨rfl,rfl⟩,rfl,rfl⟩
theorem z9e:Tryz.prog.cellsOf 28=4:=by kernel_rfl
theorem zb0 {H:Type} {enc:TypeId × Value→H} {W:World} {r:Reach} {b0:Nat} {v:Value} {d:DataW H} {ps:List MemPlace}
    (hval:Value.okWide Tryz.prog W r b0 28 v) (hd:DataW.Trod enc Tryz.prog W 0 (fun _=>true) true 28 v d ps):∃ (S F T:Nat) (x:Option Addr) (m cx:Nat) (l:List Int),S<2 ^ 64∧F<2 ^ 64∧T<2 ^ 64∧v=.agg #[.int .u64 (S:Int),.int .u64 (F:Int),.int .u64 (T:Int),.slice x m cx]∧(x=none→cx=0)∧Flat W x m l∧m≤cx:=by
  obtain ⟨f0,f1,f2,f3,hu,⟨t0,o0⟩,⟨t1,o1⟩,⟨t2,o2⟩,t3,o3⟩:=z9d
  simp only [Value.okWide,hu] at hval
  obtain ⟨cs,rfl,hsz,_⟩:=hval
  obtain ⟨fuel,hf⟩:=hd
  obtain ⟨y0,y1,y2,y3,m,_,hl,h0,h1,h2,h3⟩:=Go.Joins.trod_struct4 hu hf
  rw [z9e] at hsz
  obtain ⟨x,y,z,u,rfl⟩:∃ x y z u,cs=#[x,y,z,u]:=by
    obtain ⟨l⟩:=cs
    match l,hsz with
    | [x,y,z,u],_=>exact ⟨x,y,z,u,rfl⟩
  have c1:Tryz.prog.cellsOf 24=1:=by kernel_rfl
  have c2:Tryz.prog.cellsOf 25=1:=by kernel_rfl
  rw [t0,o0,c1] at h0
  rw [t1,o1,c1] at h1
  rw [t2,o2,c1] at h2
  rw [t3,o3,c2] at h3
  simp [Value.cells] at h0 h1 h2 h3
  obtain ⟨a,e1,_,e3⟩:=DataW.trod_int Tryz.underlying24 h0
  obtain ⟨b,g1,_,g3⟩:=DataW.trod_int Tryz.underlying24 h1
  obtain ⟨c,i1,_,i3⟩:=DataW.trod_int Tryz.underlying24 h2
  have ha:=wf_u64 e3
  have hb:=wf_u64 g3
  have hc:=wf_u64 i3
  simp at e1 g1 i1
  subst e1 g1 i1
  obtain ⟨ad,k,cc,rfl⟩:∃ ad k c,u=.slice ad k c:=by
    rcases DataW.trod_slice Tryz.underlying25 h3 with ⟨h0,_⟩ | ⟨ad,len,cap,elems,rest,n,_,h0,_⟩
    · simp at h0
      exact ⟨_,_,_,h0⟩
    · simp at h0
      exact ⟨_,_,_,h0⟩
  obtain ⟨l,q1,q2,q3⟩:=z6Z h3
  refine ⟨a.toNat,b.toNat,c.toNat,ad,k,cc,l,by omega,by omega,by omega,?_,q2,q1,q3⟩
  rw [Int.toNat_of_nonneg (by omega),Int.toNat_of_nonneg (by omega),Int.toNat_of_nonneg (by omega)]
end Go.Proofs.YthdpkaiieomdoaaGreatDoor
