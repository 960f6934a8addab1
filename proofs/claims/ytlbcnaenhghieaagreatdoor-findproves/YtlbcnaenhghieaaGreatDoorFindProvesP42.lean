/- FindProves: part 42. -/
import Derived.Test.YtlbcnaenhghieaaGreatDoorFindProvesP41
namespace Go.Proofs.YtlbcnaenhghieaaGreatDoor.HX
set_option maxRecDepth 100000
open Go.ChangeShapes Go.WideShapes Go.ChangeAt Go.WideMaps Go.WideElems Go.RowKit
theorem own:ownKnob Tryz.prog.godebug=none:=by kernel_rfl
theorem z50:laidOutB Tryz.prog=true:=by kernel_rfl
theorem gRounds:Tryz.prog.globalNamed "massif/hash.rounds"=some 1:=by kernel_rfl
theorem gBegin:Tryz.prog.globalNamed "massif/hash.begin"=some 0:=by kernel_rfl
theorem tRounds:(Tryz.prog.globals[1]?).map (·.type)=some 170:=by kernel_rfl
theorem tBegin:(Tryz.prog.globals[0]?).map (·.type)=some 168:=by kernel_rfl
theorem zcj {H:Type}:(Rows.laid_massif_hash_rounds:DataW H)=.agg (KLIST.map fun n=>.lit (.int .u32 (n:Nat))):=rfl
theorem ze3 {H:Type}:(Rows.laid_massif_hash_begin:DataW H)=.agg (BEGIN.map fun n=>.lit (.int .u32 (n:Nat))):=rfl
theorem z9h {H:Type} {enc:TypeId × Value->H} {W:World} {base fuel n:Nat} {sp:Nat->Bool} {held:Bool} {t:TypeId} {cs:List Value} {ps:List MemPlace} (L:List Nat) (hL:L.length=n) (ht:Tryz.prog.underlying t=some (.array n 167))
  (hd:DataW.trod enc Tryz.prog W base sp held fuel t cs=some (.agg (L.map fun n=>.lit (.int .u32 (n:Nat))),ps)) (i:Nat) (hi:i<n):cs[i]?=some (.int .u32 (L.getD i 0:Nat)):=by
 obtain ⟨xs,m1,rfl,hx1,hlen,hn,hel⟩:=DataW.trod_array ht hd;have c5:Tryz.prog.cellsOf 167=1:=by kernel_rfl
 simp only [Prod.mk.injEq,DataW.agg.injEq] at hx1;have hx:=hx1.1;have h0:=hel i hi;have hi':i<xs.length:=by omega
 rw [List.getElem?_eq_getElem hi',c5,Nat.mul_one] at h0;obtain ⟨k,e1,e2,_⟩:=DataW.trod_int Tryz.underlying167 h0
 have hk:(k:Int)=((L.getD i 0:Nat):Int):=by
  have hz:=congrArg (fun l=>l[i]?) hx;have hT:i<L.length:=by omega
  simp only [List.getElem?_map,List.getElem?_eq_getElem hi',List.getElem?_eq_getElem hT,Option.map_some,e2] at hz;simp at hz;rw [List.getD_eq_getElem?_getD,List.getElem?_eq_getElem hT];simpa using hz.symm
 rw [<-hk];have:=congrArg (fun l=>l[0]?) e1;simpa using this
end Go.Proofs.YtlbcnaenhghieaaGreatDoor.HX
namespace Go.Proofs.YtlbcnaenhghieaaGreatDoor
open Go.ChangeShapes Go.WideShapes Go.ChangeAt Go.WideMaps Go.WideElems Go.RowKit
set_option maxRecDepth 100000
theorem zfQ {W:World} (h:laidMetH Tryz.prog [("math/bits.deBruijn64tab",Rows.laid_math_bits_deBruijn64tab),("massif/hash.begin",Rows.laid_massif_hash_begin),("massif/hash.rounds",Rows.laid_massif_hash_rounds)] W):Tabled W/\HX.Tabled W/\2<W.heap.size:=by
 rw [MakeChecks.laidMetH_plain _ _ _ (by kernel_rfl)] at h;obtain ⟨ps,⟨g0,t0,cs0,f0,p0,q0,hg0,ht0,hv0,hd0,⟨g1,t1,cs1,f1,p1,q1,hg1,ht1,hv1,hd1,⟨g2,t2,cs2,f2,p2,q2,hg2,ht2,hv2,hd2,_,_⟩,_⟩,_⟩,_,_⟩:=h;obtain rfl:=Option.some.inj (gTab.symm.trans hg0);obtain rfl:=Option.some.inj (tTab.symm.trans ht0);obtain rfl:=Option.some.inj (HX.gBegin.symm.trans hg1);obtain rfl:=Option.some.inj (HX.tBegin.symm.trans ht1);obtain rfl:=Option.some.inj (HX.gRounds.symm.trans hg2);obtain rfl:=Option.some.inj (HX.tRounds.symm.trans ht2);rw [HX.ze3] at hd1;rw [HX.zcj] at hd2;have A:∀ i,i<8->W.cell? ⟨0,i,none⟩=some (.int .u32 (HX.BEGIN.getD i 0:Nat)):=fun i hi=>(World.var?_cell hg1 hv1 i).trans (Array.getElem?_toList.symm.trans (HX.z9h HX.BEGIN rfl Tryz.underlying168 hd1 i hi));have B:∀ i,i<64->W.cell? ⟨1,i,none⟩=some (.int .u32 (HX.KC i:Nat)):=fun i hi=>(World.var?_cell hg2 hv2 i).trans (Array.getElem?_toList.symm.trans (HX.z9h HX.KLIST rfl Tryz.underlying170 hd2 i hi));obtain ⟨xs,m1,rfl,hx1,hlen,hn,hel⟩:=DataW.trod_array Tryz.underlying148 hd0;have c5:Tryz.prog.cellsOf 5=1:=by kernel_rfl
 simp only [Prod.mk.injEq] at hx1;have hx:=hx1.1;rw [zh5] at hx;simp only [DataW.agg.injEq] at hx
 have T:Tabled W:=fun i hi=>by
  have h0:=hel i hi;have hi':i<xs.length:=by omega
  rw [List.getElem?_eq_getElem hi',c5,Nat.mul_one] at h0;obtain ⟨k,e1,e2,_⟩:=DataW.trod_int Tryz.underlying5 h0
  have hk:(k:Int)=((TAB.getD i 0:Nat):Int):=by
   have hz:=congrArg (fun l=>l[i]?) hx;have hT:i<TAB.length:=hi;simp only [List.getElem?_map,List.getElem?_eq_getElem hi',List.getElem?_eq_getElem hT,Option.map_some,e2] at hz;simp at hz;rw [List.getD_eq_getElem?_getD,List.getElem?_eq_getElem hT];simpa using hz.symm
  have hv:=World.var?_cell hg0 hv0 i;rw [hv,<-hk];have:=congrArg (fun l=>l[0]?) e1;simp at this;simpa using this
 have z0:2<W.heap.size:=World.block_lt_of_cell? W _ (T 0 (by decide));have z1:0<W.heap.size:=World.block_lt_of_cell? W _ (A 0 (by decide));have z2:1<W.heap.size:=World.block_lt_of_cell? W _ (B 0 (by decide));exact ⟨T,⟨B,A,by omega⟩,by omega⟩
theorem ze4 {H:Type} {enc:TypeId × Value->H} {W:World} {a:Option Addr} {len cap:Nat} {d:DataW H} {ps:List MemPlace} (hd:DataW.Trod enc Tryz.prog W 0 (fun _=>true) true 23 (.slice a len cap) d ps):
  ∃ L:List Nat,L.length=len/\(a=none->cap=0)/\NUML W a L/\(∀ x∈L,x<2 ^ 64)/\len<=cap:=by
 obtain ⟨fuel,hf⟩:=hd;rcases open_ints Tryz.underlying23 Tryz.underlying36 (by kernel_rfl) hf with ⟨hcs,_⟩ | ⟨x,l,c,zs,hcs,_,hl,hm,hz,hx,hcell,hwz⟩
 ·simp [Value.cells] at hcs
  obtain ⟨rfl,rfl,rfl⟩:=hcs;exact ⟨[],rfl,fun _=>rfl,fun h=>by simp at h,by simp,Nat.le_refl _⟩
 ·simp [Value.cells] at hcs
  obtain ⟨rfl,rfl,rfl⟩:=hcs;have hzl:zs.length=cap:=by simpa using hz
  refine ⟨(zs.take len).map Int.toNat,by simp;omega,(fun h=>by cases h),fun h0=>?_,fun y hy=>?_,by omega⟩
  ·have hn:0<len:=by simp at h0;omega
   obtain ⟨b,off,spot⟩:=x;have hc:=hcell 0 (by omega);have hspot:spot=none:=by simpa [Addr.add] using World.cell?_spot hc
   subst hspot;refine ⟨b,off,rfl,block_lt_of_cell (by simpa [Addr.add] using hc),fun i y hy=>?_⟩
   have hi:i<len:=by
    have:=(List.getElem?_eq_some_iff.1 hy).1;simp at this;omega
   have hcl:=hcell i (by omega);rw [show (⟨b,off,none⟩:Addr).add i=⟨b,off+i,none⟩ by unfold Addr.add;split <;> simp_all] at hcl;rw [hcl];rw [List.getElem?_map,List.getElem?_take,if_pos hi,List.getElem?_eq_getElem (by omega)] at hy;simp only [Option.map_some,Option.some.injEq] at hy;have hw:=wf_u64 (hwz zs[i] (List.getElem_mem _));rw [List.getD_eq_getElem?_getD,List.getElem?_eq_getElem (by omega)];simp only [Option.getD_some];rw [<-hy,Int.toNat_of_nonneg (by omega)]
  ·obtain ⟨z,hz1,rfl⟩:=List.mem_map.1 hy
   have hw:=wf_u64 (hwz z (List.mem_of_mem_take hz1));omega
end Go.Proofs.YtlbcnaenhghieaaGreatDoor
namespace Go.Proofs.YtlbcnaenhghieaaGreatDoor
open Go.ChangeShapes Go.WideShapes Go.ChangeAt Go.WideMaps Go.WideElems Go.RowKit Go.Deep
set_option maxRecDepth 100000
end Go.Proofs.YtlbcnaenhghieaaGreatDoor
