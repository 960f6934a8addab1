/- Texts of SpanMakes, one behind the other: TreeRefAtRegion, ManySearch, TreeRefAt, VerifyTreeFetch, VerifyTreeMake, VerifyTreeMakePrefix, StoreHashList, MmrPeaks, VerifyTree. -/
import Derived.Great.BuildSlice
import Derived.Test.YtnmalbngdhjhjaaGreatDoorSpanMakesP31
namespace Go.Proofs.YtnmalbngdhjhjaaGreatDoor
set_option linter.unusedSimpArgs false
open Go.RowKit
set_option maxRecDepth 100000
theorem z5h {a:Act} (w:World) (o:Oper) (ho:o.op=.alloc 35):(execOp a.eval o).run Tryz.prog w=.ok (.value (.pointer (some ⟨w.heap.size,0,none⟩))) (w.alloc (.cells ZARR 35)):=by
  simp [execOp,ho,go_sem]
@[go_sem] def RATOPSq0:Oper:=⟨some 17,.move (.tmp 0),31,"ref.go:107",#[],none⟩
@[go_sem] def RATOPSq1:Oper:=⟨some 18,.nilCheck (.tmp 17),0,"ref.go:107",#[⟨0,.data⟩],none⟩
@[go_sem] def RATOPSq2:Oper:=⟨some 19,.fieldAddr 39 (.tmp 18) 2,0,"ref.go:107",#[⟨1,.data⟩],none⟩
@[go_sem] def RATOPSq3:Oper:=⟨some 20,.load 37 (.tmp 19),37,"ref.go:107",#[⟨2,.data⟩],none⟩
@[go_sem] def RATOPSq4:Oper:=⟨some 21,.move (.tmp 1),23,"ref.go:107",#[],none⟩
@[go_sem] def RATOPSq5:Oper:=⟨some 22,.move (.tmp 7),3,"ref.go:107",#[],none⟩
@[go_sem] def RATOPSq6:Oper:=⟨some 23,.indexAddr 23 (.tmp 21) (.tmp 22),0,"ref.go:107",#[⟨4,.data⟩,⟨5,.data⟩],none⟩
@[go_sem] def RATOPSq7:Oper:=⟨some 24,.load 24 (.tmp 23),24,"ref.go:107",#[⟨6,.data⟩],none⟩
@[go_sem] def RATOPSq8:Oper:=⟨some 25,.call {callee:=.value (.func 61),args:=#[.tmp 20,.tmp 24],argTypes:=#[37,24]},106,"ref.go:107",#[⟨3,.data⟩,⟨7,.data⟩],none⟩
@[go_sem] def RATOPSq9:Oper:=⟨some 16,.move (.tmp 25),106,"ref.go:107",#[⟨8,.data⟩],none⟩
@[go_sem] def RATOPSq10:Oper:=⟨some 26,.extract (.tmp 16) 0,35,"ref.go:107",#[⟨9,.data⟩],none⟩
@[go_sem] def RATOPSq11:Oper:=⟨some 27,.extract (.tmp 16) 1,26,"ref.go:107",#[⟨9,.data⟩,{on:=13,ground:=.gcOnly Departure.lateStores}],none⟩
@[go_sem] def RATOPSq12:Oper:=⟨some 8,.alloc 35,0,"ref.go:107",#[],none⟩
@[go_sem] def RATOPSq13:Oper:=⟨none,.store 35 (.tmp 8) (.tmp 26),0,"ref.go:107",#[⟨12,.data⟩,⟨10,.data⟩,⟨8,.chain⟩,⟨0,.phase⟩,⟨1,.phase⟩,⟨2,.phase⟩,⟨3,.phase⟩,⟨4,.phase⟩,⟨5,.phase⟩,⟨6,.phase⟩,⟨7,.phase⟩,⟨8,.phase⟩,⟨9,.phase⟩,⟨10,.phase⟩,{on:=11,ground:=.textOnly Departure.lateStores},⟨12,.phase⟩],none⟩
@[go_sem] def RATOPSq14:Oper:=⟨some 9,.assign (.tmp 27),26,"ref.go:107",#[⟨11,.data⟩,⟨13,.chain⟩,⟨0,.phase⟩,⟨1,.phase⟩,⟨2,.phase⟩,⟨3,.phase⟩,⟨4,.phase⟩,⟨5,.phase⟩,⟨6,.phase⟩,⟨7,.phase⟩,⟨8,.phase⟩,⟨9,.phase⟩,⟨10,.phase⟩,⟨11,.phase⟩,⟨12,.phase⟩,⟨13,.phase⟩],none⟩
def z3A:Array Oper:=#[RATOPSq0,RATOPSq1,RATOPSq2,RATOPSq3,RATOPSq4,RATOPSq5,RATOPSq6,RATOPSq7,RATOPSq8,RATOPSq9,RATOPSq10,RATOPSq11,RATOPSq12,RATOPSq13,RATOPSq14]
set_option maxHeartbeats 2000000 in
theorem rat5 {Q:Exit→Act→World→Prop} {u2 u3 u4 u5 u6 u8 u9 u10 u11 u12 u13 u14 u15 u16 u17 u18 u19 u20 u21 u22 u23 u24 u25 u26 u27 u28 u29 u30 u31 u32 u33 u34 u35:Value} (W:World) (gt gs gp op n c i P:Nat) (E:Int) (h:List Int) (lh:h.length=32) (hi:(i:Int)<(n:Int)) (P0 PB:World→Prop) (PA PC PD:Nat→World→Prop) (h0:P0 W.drew) (t0:∀ w,P0 w→(fun w:World=>w.cell? ⟨gt,2,none⟩=some (.pointer (some ⟨gs,0,none⟩))∧w.cell? ⟨gp,op+i,none⟩=some (.int .u64 (P:Int))) w) (tA:∀ b w,PA b w→(fun w:World=>w.cell? ⟨gt,2,none⟩=some (.pointer (some ⟨gs,0,none⟩))∧w.cell? ⟨gp,op+i,none⟩=some (.int .u64 (P:Int))) w) (tB:∀ w,PB w→(fun w:World=>w.cell? ⟨gt,2,none⟩=some (.pointer (some ⟨gs,0,none⟩))∧w.cell? ⟨gp,op+i,none⟩=some (.int .u64 (P:Int))) w) (tC:∀ b w,PC b w→(fun w:World=>w.cell? ⟨gt,2,none⟩=some (.pointer (some ⟨gs,0,none⟩))∧w.cell? ⟨gp,op+i,none⟩=some (.int .u64 (P:Int))) w) (tD:∀ b w,PD b w→(fun w:World=>w.cell? ⟨gt,2,none⟩=some (.pointer (some ⟨gs,0,none⟩))∧w.cell? ⟨gp,op+i,none⟩=some (.int .u64 (P:Int))) w)
    (c0:∀ w,P0 w→Calls Tryz.prog 61 #[.pointer (some ⟨gs,0,none⟩),.int .u64 (P:Int)] w fun e w'=>e=.returned (.tuple #[.agg (z00 h).toArray,.int .i64 E])∧PB w') (cA:∀ b w,PA b w→Calls Tryz.prog 61 #[.pointer (some ⟨gs,0,none⟩),.int .u64 (P:Int)] w fun e w'=>e=.returned (.tuple #[.agg (z00 h).toArray,.int .i64 E])∧PC b w') (a0:∀ w,P0 w→PA w.heap.size (w.alloc (.cells ZARR 35))) (aB:∀ w,PB w→PC w.heap.size (w.alloc (.cells ZARR 35))) (k8:∀ b w,PC b w→Has w b ZARR 35) (st:∀ b w,PC b w→PD b (w.setRow b (z00 h).toArray)) (hQ:∀ c (a:Act) (t:Tmp) (v:Value) w,Q (.panic c) (a.put (some t) v) w→Q (.panic c) a w)
    (hfin:∀ (b8:Nat) (w:World),(PD b8 w)→Q .normal {tmps:=#[.pointer (some ⟨gt,0,none⟩),.slice (some ⟨gp,op,none⟩) n c,u2,u3,u4,u5,u6,.int .i64 (i:Int),.pointer (some ⟨b8,0,none⟩),.int .i64 E,u10,u11,u12,u13,u14,u15,.tuple #[.agg (z00 h).toArray,.int .i64 E],.pointer (some ⟨gt,0,none⟩),.pointer (some ⟨gt,0,none⟩),.pointer (some ⟨gt,2,none⟩),.pointer (some ⟨gs,0,none⟩),.slice (some ⟨gp,op,none⟩) n c,.int .i64 (i:Int),.pointer (some ⟨gp,(op+i),none⟩),.int .u64 (P:Int),.tuple #[.agg (z00 h).toArray,.int .i64 E],.agg (z00 h).toArray,.int .i64 E,u28,u29,u30,u31,u32,u33,u34,u35],defers:=[]} w):(Code.region 5 z3A true).wp Tryz.prog Q {tmps:=#[.pointer (some ⟨gt,0,none⟩),.slice (some ⟨gp,op,none⟩) n c,u2,u3,u4,u5,u6,.int .i64 (i:Int),u8,u9,u10,u11,u12,u13,u14,u15,u16,u17,u18,u19,u20,u21,u22,u23,u24,u25,u26,u27,u28,u29,u30,u31,u32,u33,u34,u35],defers:=[]} W:=by
  have ekst8_12_13:∀ (b8:Nat) (w:World),(PD b8 w)→wpAnyH Tryz.prog .any z3A Q (fun w:World=>w.cell? ⟨gt,2,none⟩=some (.pointer (some ⟨gs,0,none⟩))∧w.cell? ⟨gp,op+i,none⟩=some (.int .u64 (P:Int))) 1 #[true,true,true,true,true,true,true,true,true,true,true,true,true,true,false] {tmps:=#[.pointer (some ⟨gt,0,none⟩),.slice (some ⟨gp,op,none⟩) n c,u2,u3,u4,u5,u6,.int .i64 (i:Int),.pointer (some ⟨b8,0,none⟩),u9,u10,u11,u12,u13,u14,u15,.tuple #[.agg (z00 h).toArray,.int .i64 E],.pointer (some ⟨gt,0,none⟩),.pointer (some ⟨gt,0,none⟩),.pointer (some ⟨gt,2,none⟩),.pointer (some ⟨gs,0,none⟩),.slice (some ⟨gp,op,none⟩) n c,.int .i64 (i:Int),.pointer (some ⟨gp,(op+i),none⟩),.int .u64 (P:Int),.tuple #[.agg (z00 h).toArray,.int .i64 E],.agg (z00 h).toArray,.int .i64 E,u28,u29,u30,u31,u32,u33,u34,u35],defers:=[]} w:=fun b8 w hp=>by
    have hww:(fun w:World=>w.cell? ⟨gt,2,none⟩=some (.pointer (some ⟨gs,0,none⟩))∧w.cell? ⟨gp,op+i,none⟩=some (.int .u64 (P:Int))) w:=tD _ _ hp
    refine tkP RATOPSq14 (.int .i64 E) 14 hQ hww ?_
    simp only [List.set]
    exact wpAnyH_done (by kernel_rfl) (hfin b8 w hp) _
  have kst8_12:∀ (b8:Nat) (w:World),(PC b8 w)→wpAnyH Tryz.prog .any z3A Q (fun w:World=>w.cell? ⟨gt,2,none⟩=some (.pointer (some ⟨gs,0,none⟩))∧w.cell? ⟨gp,op+i,none⟩=some (.int .u64 (P:Int))) 2 #[true,true,true,true,true,true,true,true,true,true,true,true,true,false,false] {tmps:=#[.pointer (some ⟨gt,0,none⟩),.slice (some ⟨gp,op,none⟩) n c,u2,u3,u4,u5,u6,.int .i64 (i:Int),.pointer (some ⟨b8,0,none⟩),u9,u10,u11,u12,u13,u14,u15,.tuple #[.agg (z00 h).toArray,.int .i64 E],.pointer (some ⟨gt,0,none⟩),.pointer (some ⟨gt,0,none⟩),.pointer (some ⟨gt,2,none⟩),.pointer (some ⟨gs,0,none⟩),.slice (some ⟨gp,op,none⟩) n c,.int .i64 (i:Int),.pointer (some ⟨gp,(op+i),none⟩),.int .u64 (P:Int),.tuple #[.agg (z00 h).toArray,.int .i64 E],.agg (z00 h).toArray,.int .i64 E,u28,u29,u30,u31,u32,u33,u34,u35],defers:=[]} w:=fun b8 w hp=>by
    refine wpAnyH_ready (rs:=[13]) (by kernel_rfl) (by simp) ?_
    refine AllReadyH.cons (o:=RATOPSq13) rfl (fun KQ hKQ=>?_) ?_
    · exact z0U (by rfl) (wpList_store_row rfl 35 (.tmp 8) (.tmp 26) rfl b8 (z00 h).toArray rfl rfl 35 ZARR (k8 _ _ hp) (z0V lh) (by simp [z00,lh,ZARR]) (z1G h) ⟨rfl,(have hp:(fun (b8:Nat) (w:World)=>(PD b8 w)) b8 _:=st _ _ hp;hKQ.out _ _ (tD _ _ hp) (fun _=>ekst8_12_13 b8 _ hp))⟩)
    exact AllReadyH.nil
  have kst12:∀ (b8:Nat) (w:World),(PA b8 w)→wpAnyH Tryz.prog .any z3A Q (fun w:World=>w.cell? ⟨gt,2,none⟩=some (.pointer (some ⟨gs,0,none⟩))∧w.cell? ⟨gp,op+i,none⟩=some (.int .u64 (P:Int))) 6 #[true,true,true,true,true,true,true,true,false,false,false,false,true,false,false] {tmps:=#[.pointer (some ⟨gt,0,none⟩),.slice (some ⟨gp,op,none⟩) n c,u2,u3,u4,u5,u6,.int .i64 (i:Int),.pointer (some ⟨b8,0,none⟩),u9,u10,u11,u12,u13,u14,u15,u16,.pointer (some ⟨gt,0,none⟩),.pointer (some ⟨gt,0,none⟩),.pointer (some ⟨gt,2,none⟩),.pointer (some ⟨gs,0,none⟩),.slice (some ⟨gp,op,none⟩) n c,.int .i64 (i:Int),.pointer (some ⟨gp,(op+i),none⟩),.int .u64 (P:Int),u25,u26,u27,u28,u29,u30,u31,u32,u33,u34,u35],defers:=[]} w:=fun b8 w hp=>by
    refine wpAnyH_ready (rs:=[8]) (by kernel_rfl) (by simp) ?_
    refine AllReadyH.cons (o:=RATOPSq8) rfl (fun KQ hKQ=>?_) ?_
    · rw [if_pos (by rfl)]
      go_simp
      refine (show Calls _ _ _ w (fun e w'=>e=.returned (.tuple #[.agg (z00 h).toArray,.int .i64 E])∧(PC b8 w')) from cA b8 w hp).mono ?_
      rintro e w ⟨rfl,hp⟩
      refine hKQ.out _ _ (tC _ _ hp) (fun _=>?_)
      simp only [List.setIfInBounds_toArray,List.set]
      have hww:(fun w:World=>w.cell? ⟨gt,2,none⟩=some (.pointer (some ⟨gs,0,none⟩))∧w.cell? ⟨gp,op+i,none⟩=some (.int .u64 (P:Int))) w:=tC _ _ hp
      have last:=kst8_12 b8 w hp
      refine tkP RATOPSq9 (.tuple #[.agg (z00 h).toArray,.int .i64 E]) 9 hQ hww ?_
      simp only [List.set]
      refine tkP RATOPSq10 (.agg (z00 h).toArray) 10 hQ hww ?_
      simp only [List.set]
      refine tkP RATOPSq11 (.int .i64 E) 11 hQ hww ?_
      simp only [List.set]
      exact last
    exact AllReadyH.nil
  have kst:∀ (w:World),(P0 w)→wpAnyH Tryz.prog .any z3A Q (fun w:World=>w.cell? ⟨gt,2,none⟩=some (.pointer (some ⟨gs,0,none⟩))∧w.cell? ⟨gp,op+i,none⟩=some (.int .u64 (P:Int))) 7 #[true,true,true,true,true,true,true,true,false,false,false,false,false,false,false] {tmps:=#[.pointer (some ⟨gt,0,none⟩),.slice (some ⟨gp,op,none⟩) n c,u2,u3,u4,u5,u6,.int .i64 (i:Int),u8,u9,u10,u11,u12,u13,u14,u15,u16,.pointer (some ⟨gt,0,none⟩),.pointer (some ⟨gt,0,none⟩),.pointer (some ⟨gt,2,none⟩),.pointer (some ⟨gs,0,none⟩),.slice (some ⟨gp,op,none⟩) n c,.int .i64 (i:Int),.pointer (some ⟨gp,(op+i),none⟩),.int .u64 (P:Int),u25,u26,u27,u28,u29,u30,u31,u32,u33,u34,u35],defers:=[]} w:=fun  w hp=>by
    refine wpAnyH_ready (rs:=[8,12]) (by kernel_rfl) (by simp) ?_
    refine AllReadyH.cons (o:=RATOPSq8) rfl (fun KQ hKQ=>?_) ?_
    · rw [if_pos (by rfl)]
      go_simp
      refine (show Calls _ _ _ w (fun e w'=>e=.returned (.tuple #[.agg (z00 h).toArray,.int .i64 E])∧(PB w')) from c0 w hp).mono ?_
      rintro e w ⟨rfl,hp⟩
      refine hKQ.out _ _ (tB _ hp) (fun _=>?_)
      simp only [List.setIfInBounds_toArray,List.set]
      have hww:(fun w:World=>w.cell? ⟨gt,2,none⟩=some (.pointer (some ⟨gs,0,none⟩))∧w.cell? ⟨gp,op+i,none⟩=some (.int .u64 (P:Int))) w:=tB _ hp
      refine tkP RATOPSq9 (.tuple #[.agg (z00 h).toArray,.int .i64 E]) 9 hQ hww ?_
      simp only [List.set]
      refine tkP RATOPSq10 (.agg (z00 h).toArray) 10 hQ hww ?_
      simp only [List.set]
      refine tkP RATOPSq11 (.int .i64 E) 11 hQ hww ?_
      simp only [List.set]
      refine wpAnyH_ready (rs:=[12]) (by kernel_rfl) (by simp) ?_
      refine AllReadyH.cons (o:=RATOPSq12) rfl (fun KQ hKQ=>?_) ?_
      · exact z0q (by rfl) (z5h w _ rfl) (have hp:(fun (b8:Nat) (w:World)=>(PC b8 w)) w.heap.size _:=aB w hp;hKQ.out _ _ (tC _ _ hp) (fun _=>kst8_12 w.heap.size _ hp))
      exact AllReadyH.nil
    refine AllReadyH.cons (o:=RATOPSq12) rfl (fun KQ hKQ=>?_) ?_
    · exact z0q (by rfl) (z5h w _ rfl) (have hp:(fun (b8:Nat) (w:World)=>(PA b8 w)) w.heap.size _:=a0 w hp;hKQ.out _ _ (tA _ _ hp) (fun _=>kst12 w.heap.size _ hp))
    exact AllReadyH.nil
  have hp:=h0
  have hww:(fun w:World=>w.cell? ⟨gt,2,none⟩=some (.pointer (some ⟨gs,0,none⟩))∧w.cell? ⟨gp,op+i,none⟩=some (.int .u64 (P:Int))) W.drew:=t0 _ hp
  have last:=kst W.drew hp
  have z:wpAnyH Tryz.prog .any z3A Q (fun w:World=>w.cell? ⟨gt,2,none⟩=some (.pointer (some ⟨gs,0,none⟩))∧w.cell? ⟨gp,op+i,none⟩=some (.int .u64 (P:Int))) 15 #[false,false,false,false,false,false,false,false,false,false,false,false,false,false,false] {tmps:=#[.pointer (some ⟨gt,0,none⟩),.slice (some ⟨gp,op,none⟩) n c,u2,u3,u4,u5,u6,.int .i64 (i:Int),u8,u9,u10,u11,u12,u13,u14,u15,u16,u17,u18,u19,u20,u21,u22,u23,u24,u25,u26,u27,u28,u29,u30,u31,u32,u33,u34,u35],defers:=[]} W.drew:=by
    refine tkP RATOPSq0 (.pointer (some ⟨gt,0,none⟩)) 0 hQ hww ?_
    simp only [List.set]
    refine tkP RATOPSq1 (.pointer (some ⟨gt,0,none⟩)) 1 hQ hww ?_
    simp only [List.set]
    refine tkP RATOPSq2 (.pointer (some ⟨gt,2,none⟩)) 2 hQ hww ?_
    simp only [List.set]
    refine tkH RATOPSq3 (.pointer (some ⟨gs,0,none⟩)) 3 hQ (Or.inl ⟨by rfl,fun w hw=>by have hx:=hw.1;go_simp⟩) hww ?_
    simp only [List.set]
    refine tkP RATOPSq4 (.slice (some ⟨gp,op,none⟩) n c) 4 hQ hww ?_
    simp only [List.set]
    refine tkP RATOPSq5 (.int .i64 (i:Int)) 5 hQ hww ?_
    simp only [List.set]
    refine tkP RATOPSq6 (.pointer (some ⟨gp,(op+i),none⟩)) 6 hQ hww ?_
    simp only [List.set]
    refine tkH RATOPSq7 (.int .u64 (P:Int)) 7 hQ (Or.inl ⟨by rfl,fun w hw=>by have hx:=hw.2;go_simp⟩) hww ?_
    simp only [List.set]
    exact last
  exact wp_region_held_drew (S:=(fun w:World=>w.cell? ⟨gt,2,none⟩=some (.pointer (some ⟨gs,0,none⟩))∧w.cell? ⟨gp,op+i,none⟩=some (.int .u64 (P:Int)))) (by kernel_rfl) hww (fun _=>z)
end Go.Proofs.YtnmalbngdhjhjaaGreatDoor

namespace Go.Proofs.YtnmalbngdhjhjaaGreatDoor
open Go.RowKit
set_option maxRecDepth 100000
def NUML (w:World) (a:Option Addr) (L:List Nat):Prop:=0<L.length→∃ b o,a=some ⟨b,o,none⟩∧b<w.heap.size∧∀ i x,L[i]?=some x→w.cell? ⟨b,o+i,none⟩=some (.int .u64 ((x:Nat):Int))
theorem NUML.below {w w':World} {a:Option Addr} {L:List Nat} {B:Nat} (h:NUML w a L) (hb:Below B w w') (hB:∀ x,a=some x→x.block<B):NUML w' a L:=fun h0=>by
  obtain ⟨b,o,e,hl,hc⟩:=h h0
  have h1:b<B:=hB _ e
  exact ⟨b,o,e,by have:=hb.size;omega,fun i x hx=>(hb.cell (p:=⟨b,o+i,none⟩) h1).trans (hc i x hx)⟩
def RISES (L:List Nat):Prop:=∀ (i j x y:Nat),i<j→L[i]?=some x→L[j]?=some y→x<y
theorem z7R {i j:Nat} (h:i<j):∃ m,i≤m∧m<j∧m=(i+j) / 2:=⟨(i+j) / 2,by omega,by omega,rfl⟩
theorem z2S (i j S m:Nat) (hj:j<2 ^ 40) (hi:i<j) (hS:i+j=S) (hm:m=(i+j) / 2):wrap64 ((i:Int)+(j:Int))=(S:Int)∧IntKind.u64.wrap ((i:Int)+(j:Int))=(S:Int)∧(S:Int) / 2=(m:Int)∧wrap64 (m:Int)=(m:Int)∧wrap64 ((m:Int)+1)=((m+1:Nat):Int)∧IntKind.u64.wrap (S:Int)=(S:Int):=by
  rw [z0a,z0a]
  unfold wrap64
  omega
theorem z3K (x:Int) (w:World):Calls Tryz.prog 247 #[.int .u64 x] w fun e w'=>e=.returned (.bool false)∧w=w':=by
  go_enter Tryz.func247,Tryz.ntmps247
  go_wp2
  go_ret
  exact ⟨rfl,rfl⟩
theorem zd5 (x:Int) (w:World):Calls Tryz.prog 241 #[.int .u64 x] w fun e w'=>e=.returned (.bool false)∧w=w':=by
  go_enter Tryz.func241,Tryz.ntmps241
  go_wp2
  go_ret
  exact ⟨rfl,rfl⟩
theorem zax (x y:Nat) (w:World):Calls Tryz.prog 246 #[.int .u64 (x:Int),.int .u64 (y:Int)] w fun e w'=>e=.returned (.bool (decide (x<y)))∧w=w':=by
  have c:=zd5 (x:Int) w
  go_enter Tryz.func246,Tryz.ntmps246
  go_wp2_with fail
  refine c.mono ?_
  rintro e w' ⟨rfl,rfl⟩
  clear c
  go_wp2_with fail
  go_ret
  exact ⟨rfl,rfl⟩
theorem zeQ (x y:Nat) (h:x<y) (w:World):Calls Tryz.prog 246 #[.int .u64 (x:Int),.int .u64 (y:Int)] w fun e w'=>e=.returned (.bool true)∧w=w':=by
  have:=zax x y w
  rwa [decide_eq_true h] at this
theorem zg3 (x y:Nat) (h:¬ x<y) (w:World):Calls Tryz.prog 246 #[.int .u64 (x:Int),.int .u64 (y:Int)] w fun e w'=>e=.returned (.bool false)∧w=w':=by
  have:=zax x y w
  rwa [decide_eq_false h] at this
structure RANKS (L:List Nat) (t k:Nat):Prop where
  le:k≤L.length
  lo:∀ i x,i<k→L[i]?=some x→x<t
  hi:∀ i x,k≤i→L[i]?=some x→t≤x
def zgS (L:List Nat) (t:Nat) (w:World) (e:Ending) (w':World):Prop:=∃ (k:Nat) (b:Bool),e=.returned (.tuple #[.int .i64 (k:Int),.bool b])∧RANKS L t k∧w=w'
set_option maxHeartbeats 1000000 in
theorem z6W (a:Option Addr) (n cap:Nat) (L:List Nat) (t:Nat) (hl:L.length=n) (hn:n<2 ^ 40) (hR:RISES L) (w:World) (hL:NUML w a L):Calls Tryz.prog 226 #[.slice a n cap,.int .u64 (t:Int)] w fun e w'=>zgS L t w e w':=by
  have H:Aside (L.length=n∧n<2 ^ 40∧RISES L∧NUML w a L):=⟨hl,hn,hR,hL⟩
  clear hl hn hR hL
  go_enter Tryz.func226,Tryz.ntmps226
  go_wp2
  go_loopg [7,8] n (fun gg s7 s8 wx=>∃ i j:Nat,s7=.int .i64 (i:Int)∧s8=.int .i64 (j:Int)∧Aside (i+gg=j∧j≤n∧(∀ (k:Nat) (x:Nat),k<i→L[k]?=some x→x<t)∧(∀ (k:Nat) (x:Nat),j≤k→L[k]?=some x→t≤x))∧wx=w)
  case atStart=>exact ⟨0,n,rfl,rfl,⟨by omega,Nat.le_refl _,fun k x h=>by omega,fun k x h e=>by have:=(List.getElem?_eq_some_iff.1 e).1;have:=H.out.1;omega⟩,rfl⟩
  case round=>
    obtain ⟨i,j,rfl,rfl,I,rfl⟩:=hrel
    cases gk with
    | zero=>
      obtain ⟨i1,i2,i3,i4⟩:=I.out
      obtain rfl:i=j:=by omega
      have hlt:¬ (i:Int)<(i:Int):=by omega
      rcases Nat.lt_or_ge i n with hin | hin
      · have hi2:(i:Int)<(n:Int):=by omega
        have hi0:(0:Int)≤(i:Int):=by omega
        obtain ⟨h1,h2,h3,h4⟩:=H.out
        obtain ⟨x,ex⟩:∃ x,L[i]?=some x:=⟨_,List.getElem?_eq_getElem (by omega)⟩
        obtain ⟨g,o,rfl,hg,hc⟩:=h4 (by omega)
        have x0:=hc i x ex
        have cc:=z3K (x:Int)
        have R:Aside (RANKS L t i):=⟨by omega,i3,i4⟩
        clear i1 i2 i3 i4 h1 h2 h3 h4 hc ex I H
        by_cases hx:x=t
        · subst hx
          go_wp2_with fail
          go_ret2
          exact ⟨i,_,rfl,R.out,rfl⟩
        · have hx':¬ (x:Int)=(t:Int):=by omega
          go_wp2_with fail
          refine (cc _).mono ?_
          rintro e w2 ⟨rfl,rfl⟩
          clear cc
          go_wp2_with fail
          go_ret2
          exact ⟨i,_,rfl,R.out,rfl⟩
      · have hi2:¬ (i:Int)<(n:Int):=by omega
        have R:Aside (RANKS L t i):=⟨by have:=H.out.1;omega,i3,i4⟩
        clear i1 i2 i3 i4 I H
        go_wp2
        go_ret2
        exact ⟨i,false,rfl,R.out,rfl⟩
    | succ gg=>
      obtain ⟨i1,i2,i3,i4⟩:=I.out
      have hij:(i:Int)<(j:Int):=by omega
      obtain ⟨h1,h2,h3,h4⟩:=H.out
      obtain ⟨m,m1,m2,m3⟩:=z7R (i:=i) (j:=j) (by omega)
      obtain ⟨S,hS⟩:∃ S,i+j=S:=⟨_,rfl⟩
      have HW:Aside _:=z2S i j S m (by omega) (by omega) hS m3
      clear hS
      have hm2:(m:Int)<(n:Int):=by omega
      have hm0:(0:Int)≤(m:Int):=by omega
      obtain ⟨x,ex⟩:∃ x,L[m]?=some x:=⟨_,List.getElem?_eq_getElem (by omega)⟩
      obtain ⟨g,o,rfl,hg,hc⟩:=h4 (by omega)
      have x0:=hc m x ex
      have LO:Aside (x<t→∀ (k:Nat) (y:Nat),k<m+1→L[k]?=some y→y<t):=fun h k y hk e=>by
        rcases Nat.lt_or_ge k m with hkm | hkm
        · have:=h3 k m y x hkm e ex
          omega
        · obtain rfl:k=m:=by omega
          rw [ex] at e
          cases e
          exact h
      have HI:Aside (¬ x<t→∀ (k:Nat) (y:Nat),m≤k→L[k]?=some y→t≤y):=fun h k y hk e=>by
        rcases Nat.lt_or_ge m k with hkm | hkm
        · have:=h3 m k x y hkm ex e
          omega
        · obtain rfl:k=m:=by omega
          rw [ex] at e
          cases e
          omega
      have R:Aside (i≤m∧m<j∧j≤n∧i+(gg+1)=j∧(∀ (k:Nat) (y:Nat),k<i→L[k]?=some y→y<t)∧(∀ (k:Nat) (y:Nat),j≤k→L[k]?=some y→t≤y)):=⟨m1,m2,i2,i1,i3,i4⟩
      clear i1 i2 i3 i4 h1 h2 h3 h4 hc ex I m1 m2 m3
      obtain ⟨q1,q2,q3,q4,q5,q6⟩:=HW.out
      by_cases hlt:x<t
      · have cc:=zeQ x t hlt
        have LL:Aside (∀ (k:Nat) (y:Nat),k<m+1→L[k]?=some y→y<t):=LO.out hlt
        clear hlt LO HI
        go_wp2_with fail
        refine (cc _).mono ?_
        rintro e w2 ⟨rfl,rfl⟩
        clear cc x0
        go_wp2
        go_roundg (j - (m+1))
        case measure=>have:=R.out;clear q1 q2 q3 q4 q5 q6;omega
        case rel=>exact ⟨m+1,j,by first | rfl | (rw [q5]),rfl,⟨by have:=R.out;clear q1 q2 q3 q4 q5 q6;omega,R.out.2.2.1,LL.out,R.out.2.2.2.2.2⟩,rfl⟩
      · have cc:=zg3 x t hlt
        have LL:Aside (∀ (k:Nat) (y:Nat),m≤k→L[k]?=some y→t≤y):=HI.out hlt
        clear hlt LO HI
        go_wp2_with fail
        refine (cc _).mono ?_
        rintro e w2 ⟨rfl,rfl⟩
        clear cc x0
        go_wp2
        go_roundg (m - i)
        case measure=>have:=R.out;clear q1 q2 q3 q4 q5 q6;omega
        case rel=>exact ⟨i,m,rfl,by first | rfl | (rw [q4]),⟨by have:=R.out;clear q1 q2 q3 q4 q5 q6;omega,by have:=R.out;clear q1 q2 q3 q4 q5 q6;omega,R.out.2.2.2.2.1,LL.out⟩,rfl⟩
end Go.Proofs.YtnmalbngdhjhjaaGreatDoor

namespace Go.Proofs.YtnmalbngdhjhjaaGreatDoor
open Go.RowKit
set_option maxRecDepth 100000
theorem z8C {l:List RND} (h:∀ v∈l,v.hash.length=32) (p:Nat):(RGOT l p).2.length=32:=by
  unfold RGOT
  cases hp:l[p]? with
  | none=>rfl
  | some v=>
    dsimp only
    split
    · exact h v (List.mem_of_getElem? hp)
    · rfl
def RAT (w:World) (l:List RND) (P:List Nat) (e:Ending) (w':World):Prop:=
  Below w.heap.size w w'∧(((∀ p∈P,(RGOT l p).1=0)∧∃ a c,e=.returned (.tuple #[.slice a P.length c,.int .i64 0])∧w'.ownsRow w.heap.size 35 32 (.slice a P.length c) P.length (z00 (P.flatMap fun p=>(RGOT l p).2)))∨
   (∃ (j p:Nat),P[j]?=some p∧(∀ (i q:Nat),i<j→P[i]?=some q→(RGOT l q).1=0)∧(RGOT l p).1≠0∧e=.returned (.tuple #[.slice none 0 0,.int .i64 (RGOT l p).1])))
set_option maxHeartbeats 4000000 in
theorem zgT {w:World} {B gt gs n c:Nat} {D:Int} {l:List RND} {a:Option Addr} (H:RTREE w B gt gs D n l a c) (P:List Nat) (pa:Option Addr) (pn pc:Nat) (hP:P.length=pn) (hL:NUML w pa P) (hn:pn≤50000):
    Calls Tryz.prog 14 #[.pointer (some ⟨gt,0,none⟩),.slice pa pn pc] w (RAT w l P):=by
  have HA:Aside (RTREE w B gt gs D n l a c∧P.length=pn∧NUML w pa P∧pn≤50000):=⟨H,hP,hL,hn⟩
  clear H hP hL hn
  go_enter Tryz.func14,Tryz.ntmps14
  go_wp2_with fail
  go_loopg [6,7] pn (fun q s6 s7 wx=>∃ (i:Nat) (oa:Option Addr) (oc:Nat),s6=.slice oa i oc∧s7=.int .i64 (i:Int)∧Aside (i+q=pn∧Below w.heap.size w wx∧wx.ownsRow w.heap.size 35 32 (.slice oa i oc) i (z00 ((P.take i).flatMap fun p=>(RGOT l p).2))∧∀ (k p:Nat),k<i→P[k]?=some p→(RGOT l p).1=0))
  case atStart=>exact ⟨0,none,0,rfl,rfl,by omega,Below.refl _ _,⟨rfl,.inl ⟨rfl,rfl⟩⟩,fun k p hk=>by omega⟩
  case round=>
    obtain ⟨i,oa,oc,rfl,rfl,A⟩:=hrel
    cases gk with
    | zero=>
      obtain rfl:i=pn:=by have:=A.out.1;omega
      have hlt:¬ (i:Int)<(i:Int):=by omega
      have Z:Aside (RAT w l P (.returned (.tuple #[.slice oa i oc,.int .i64 0])) wr):=by
        have h:=A.out
        have hl:=HA.out.2.1
        rw [List.take_of_length_le (by omega)] at h
        refine ⟨h.2.1,.inl ⟨fun p hp=>?_,oa,oc,by rw [hl],by rw [hl];exact h.2.2.1⟩⟩
        obtain ⟨k,hk⟩:=List.mem_iff_getElem?.1 hp
        exact h.2.2.2 k p (by have:=(List.getElem?_eq_some_iff.1 hk).1;omega) hk
      clear A
      go_wp2
      go_ret2
      exact Z.out
    | succ q=>
      have hin:i<pn:=by have:=A.out.1;omega
      have hlt:(i:Int)<(pn:Int):=by omega
      obtain ⟨p,hp⟩:∃ p,P[i]?=some p:=⟨_,List.getElem?_eq_getElem (by have:=HA.out.2.1;omega)⟩
      obtain ⟨gp,op,rfl,hgp,hcs⟩:=HA.out.2.2.1 (by have:=HA.out.2.1;omega)
      have hcp:=hcs i p hp
      have hH:=HA.out.1
      have hbx:=hH.box
      have h32:=z8C hH.store.is p
      have CG:Aside (∀ W,Below w.heap.size w W→Calls Tryz.prog 61 #[.pointer (some ⟨gs,0,none⟩),.int .u64 (p:Int)] W fun e w'=>e=.returned (.tuple #[.agg (z00 (RGOT l p).2).toArray,.int .i64 (RGOT l p).1])∧Below W.heap.size W w'):=fun W h=>zfP (hH.store.below h) p
      have SB:Aside (∀ W,Below w.heap.size w W→W.cell? ⟨gt,2,none⟩=some (.pointer (some ⟨gs,0,none⟩))∧W.cell? ⟨gp,op+i,none⟩=some (.int .u64 (p:Int))):=fun W h=>⟨(hbx.keep h).cell 2,(h.cell (p:=⟨gp,op+i,none⟩) hgp).trans hcp⟩
      have R:Aside (i+1+q=pn∧Below w.heap.size w wr∧wr.ownsRow w.heap.size 35 32 (.slice oa i oc) i (z00 ((P.take i).flatMap fun p=>(RGOT l p).2))∧(∀ (k p:Nat),k<i→P[k]?=some p→(RGOT l p).1=0)∧P[i]?=some p∧P.take (i+1)=P.take i ++ [p]):=⟨by have:=A.out.1;omega,A.out.2.1,A.out.2.2.1,A.out.2.2.2,hp,by rw [List.take_add_one,hp];rfl⟩
      have ei:wrap64 ((i:Int)+1)=((i+1:Nat):Int):=by have:=HA.out.2.2.2;unfold wrap64;omega
      clear A hin hp hgp hcs hcp hH hbx
      generalize hE:(RGOT l p).1=E at *
      generalize hY:(RGOT l p).2=Y at *
      have HE:Aside ((RGOT l p).1=E∧(RGOT l p).2=Y):=⟨hE,hY⟩
      clear hE hY
      go_upto_region 5 with fail
      have SP:Aside (∀ W W',Below wr.heap.size wr W→Below W.heap.size W W'→Below wr.heap.size wr W'):=fun W W' h h'=>h.trans (h'.mono h.size)
      have WB:Aside (∀ W,Below wr.heap.size wr W→Below w.heap.size w W):=fun W h=>R.out.2.1.trans (h.mono R.out.2.1.size)
      refine rat5 wr gt gs gp op pn pc i p E Y h32 hlt (fun W=>Below wr.heap.size wr W) (fun W=>Below wr.heap.size wr W) (fun b W=>Below wr.heap.size wr W∧Has W b ZARR 35∧wr.heap.size≤b) (fun b W=>Below wr.heap.size wr W∧Has W b ZARR 35∧wr.heap.size≤b) (fun b W=>Below wr.heap.size wr W∧Has W b (z00 Y).toArray 35∧wr.heap.size≤b) (Below.refl _ _).drew (fun W h=>SB.out W (WB.out W h)) (fun b W h=>SB.out W (WB.out W h.1)) (fun W h=>SB.out W (WB.out W h)) (fun b W h=>SB.out W (WB.out W h.1)) (fun b W h=>SB.out W (WB.out W h.1)) (fun W h=>(CG.out W (WB.out W h)).mono fun e W' he=>⟨he.1,SP.out W W' h he.2⟩) (fun b W h=>(CG.out W (WB.out W h.1)).mono fun e W' he=>⟨he.1,SP.out W W' h.1 he.2,h.2.1.keep he.2,h.2.2⟩) (fun W h=>⟨h.alloc h.size _,Has.new _ _ _,h.size⟩) (fun W h=>⟨h.alloc h.size _,Has.new _ _ _,h.size⟩) (fun b W h=>h.2.1) (fun b W h=>⟨z0d h.1 h.2.2 _,h.2.1.row _,h.2.2⟩) (fun _ _ _ _ _ h=>h) ?_
      rintro b8 w4 ⟨hb4,k8,_⟩
      have hb4w:=WB.out w4 hb4
      have O4:w4.ownsRow w.heap.size 35 32 (.slice oa i oc) i (z00 ((P.take i).flatMap fun p=>(RGOT l p).2)):=z3j R.out.2.2.1 fun k e=>hb4.block k (R.out.2.2.1.lt k e).2
      have W4:Aside (Below w.heap.size w w4∧w4.ownsRow w.heap.size 35 32 (.slice oa i oc) i (z00 ((P.take i).flatMap fun p=>(RGOT l p).2))):=⟨hb4w,O4⟩
      clear hb4 hb4w O4 SP WB SB CG
      dsimp only
      by_cases h0:E=0
      · subst h0
        have hi5:i≤50000:=by have:=R.out;have:=HA.out;clear ei;omega
        have HI:Aside (i≤50000):=hi5
        clear hi5
        go_wp2_with (first
          | (refine wpList_load_row rfl 35 (.tmp 8) rfl b8 rfl 35 (z00 Y).toArray (0,0) _ k8 Tryz.underlying35 rfl (z0V h32) ?_)
          | (refine z1d _ rfl 22 35 (.tmp 32) rfl (z00 Y).toArray rfl 32 _ _ Tryz.underlying22 z27 (by simp [z00,h32]) rfl (by decide) (by decide) ?_)
          | (at_builtin;refine z4E _ rfl (.tmp 31) (.tmp 33) rfl w.heap.size (.slice oa i oc) i _ rfl (W4.out.2.alloc _) _ 1 Y h32 rfl (Has.new _ _ _) (by have:=HI.out;clear ei;omega) (by have:=W4.out.1.size;simp;clear ei;omega) ?_;intro g7 c7 w7 hown hgrow hat hg7)
          | fail)
        have Z:Aside (i+1+q=pn∧Below w.heap.size w w7∧w7.ownsRow w.heap.size 35 32 (.slice (some ⟨g7,0,none⟩) (i+1) c7) (i+1) (z00 ((P.take (i+1)).flatMap fun p=>(RGOT l p).2))∧∀ (k p:Nat),k<i+1→P[k]?=some p→(RGOT l p).1=0):=by
          refine ⟨R.out.1,(W4.out.1.alloc W4.out.1.size _).grown hgrow (by have:=W4.out.1.size;simp;clear ei;omega) (fun k e=>(W4.out.2.lt k e).1),?_,fun k p' hk hp'=>?_⟩
          · rw [R.out.2.2.2.2.2,List.flatMap_append,z0r]
            simp only [List.flatMap_cons,List.flatMap_nil,List.append_nil]
            rw [HE.out.2]
            exact hown
          · by_cases e:k=i
            · subst e
              rw [R.out.2.2.2.2.1] at hp'
              cases hp'
              exact HE.out.1
            · exact R.out.2.2.2.1 k p' (by clear ei;omega) hp'
        clear hown hgrow hat hg7 W4 k8 R
        go_wp2
        go_roundg q
        case measure=>exact Nat.lt_succ_self _
        case rel=>exact ⟨i+1,some ⟨g7,0,none⟩,c7,rfl,by first | rfl | (rw [ei]),Z.out⟩
      · have hne:(E != 0)=true:=bne_iff_ne.2 h0
        have Z:Aside (RAT w l P (.returned (.tuple #[.slice none 0 0,.int .i64 E])) w4):=⟨W4.out.1,.inr ⟨i,p,R.out.2.2.2.2.1,fun k p' hk hp'=>R.out.2.2.2.1 k p' hk hp',by rw [HE.out.1];exact h0,by rw [HE.out.1]⟩⟩
        clear R W4 k8
        go_wp2
        go_ret2
        exact Z.out
end Go.Proofs.YtnmalbngdhjhjaaGreatDoor

namespace Go.Proofs.YtnmalbngdhjhjaaGreatDoor
open Go.RowKit
set_option maxRecDepth 100000
def TFL (G:Nat→List Int) (P:List Nat) (j:Nat):List Int:=(List.range j).flatMap fun i=>G (P.getD i 0)
theorem zeR (G:Nat→List Int) (P:List Nat) (j:Nat):TFL G P (j+1)=TFL G P j ++ G (P.getD j 0):=by simp [TFL,List.range_succ]
def zbE (w:World) (g:Nat) (G:Nat→List Int) (EN:Nat→Int) (P:List Nat):Prop:=
  ∀ W,Below w.heap.size w W→∀ p∈P,Calls Tryz.prog 127 #[.pointer (some ⟨g,0,none⟩),.int .u64 (p:Int)] W fun e w'=>e=.returned (.tuple #[.agg (z00 (G p)).toArray,.int .i64 (EN p)])∧Below W.heap.size W w'
def zgU (w:World) (G:Nat→List Int) (EN:Nat→Int) (P:List Nat) (e:Ending) (w':World):Prop:=
  Below w.heap.size w w'∧
  (((∀ p∈P,EN p=0)∧∃ u,e=.returned (.tuple #[u,.int .i64 0])∧w'.ownsRow w.heap.size 35 32 u P.length (z00 (TFL G P P.length)))∨
   (∃ j,j<P.length∧(∀ i,i<j→EN (P.getD i 0)=0)∧EN (P.getD j 0)≠0∧e=.returned (.tuple #[.slice none 0 0,.int .i64 (EN (P.getD j 0))])))
structure TFE (w0 w:World) (G:Nat→List Int) (EN:Nat→Int) (P:List Nat) (j:Nat) (u:Value):Prop where
  row:w.ownsRow w0.heap.size 35 32 u j (z00 (TFL G P j))
  bel:Below w0.heap.size w0 w
  ok:∀ i,i<j→EN (P.getD i 0)=0
theorem TFE.all {w w':World} {G:Nat→List Int} {EN:Nat→Int} {P:List Nat} {j:Nat} {u:Value} (h:TFE w w' G EN P j u) (hj:j=P.length):zgU w G EN P (.returned (.tuple #[u,.int .i64 0])) w':=by
  subst hj
  refine ⟨h.bel,.inl ⟨fun p hp=>?_,u,rfl,h.row⟩⟩
  obtain ⟨i,hi,rfl⟩:=List.getElem_of_mem hp
  have:=h.ok i hi
  rw [List.getD_eq_getElem?_getD,List.getElem?_eq_getElem hi] at this
  exact this
end Go.Proofs.YtnmalbngdhjhjaaGreatDoor

namespace Go.Proofs.YtnmalbngdhjhjaaGreatDoor
open Go.RowKit
set_option maxRecDepth 100000
def TMADE (w:World) (G:Nat→List Int) (EN:Nat→Int) (D:Int × List Nat) (X Y:Nat) (e:Ending) (w':World):Prop:=
  Below w.heap.size w w'∧
  ((D.1≠0∧e=.returned (.tuple #[.agg #[.int .u64 0,.int .u64 0,.slice none 0 0],.int .i64 D.1]))∨
   (D.1=0∧(∀ p∈D.2,EN p=0)∧∃ u,e=.returned (.tuple #[.agg #[.int .u64 (X:Int),.int .u64 (Y:Int),u],.int .i64 0])∧w'.ownsRow w.heap.size 35 32 u D.2.length (z00 (TFL G D.2 D.2.length)))∨
   (D.1=0∧∃ j,j<D.2.length∧(∀ i,i<j→EN (D.2.getD i 0)=0)∧EN (D.2.getD j 0)≠0∧e=.returned (.tuple #[.agg #[.int .u64 0,.int .u64 0,.slice none 0 0],.int .i64 (EN (D.2.getD j 0))])))
end Go.Proofs.YtnmalbngdhjhjaaGreatDoor

namespace Go.Proofs.YtnmalbngdhjhjaaGreatDoor
open Go.RowKit
set_option maxRecDepth 100000
end Go.Proofs.YtnmalbngdhjhjaaGreatDoor

namespace Go.Proofs.YtnmalbngdhjhjaaGreatDoor.HX
open Go.RowKit
set_option maxRecDepth 100000
end Go.Proofs.YtnmalbngdhjhjaaGreatDoor.HX

namespace Go.Proofs.YtnmalbngdhjhjaaGreatDoor.HX
open Go.RowKit
set_option maxRecDepth 100000
def PKV (d:Int) (f:Nat→Nat→Nat) (m:Nat):List (Nat→Nat):=(HS 0 m).map fun h=>VAL d f h (2*(m / 2 ^ (h+1)))
theorem zd6 {m h:Nat} (hb:m / 2 ^ h % 2=1):(2*(m / 2 ^ (h+1))+1)*2 ^ h≤m:=by
  have e:m / 2 ^ h=2*(m / 2 ^ (h+1))+1:=by rw [z10];omega
  rw [← e]
  exact Nat.div_mul_le_self m (2 ^ h)
theorem FOREST.peak {w:World} {B g:Nat} {d:Int} {log n:Nat} {C:z02} {f:Nat→Nat→Nat} (hF:FOREST w B g d log n C f) {m i h:Nat} (hm:m≤n) (hi:(HS 0 m)[i]?=some h):
    PKP m h<2 ^ 40∧GOTH C log (z01 n) (PKP m h)=VAL d f h (2*(m / 2 ^ (h+1)))∧GOT C log (z01 n) (PKP m h)=0∧(z3i m)[i]?=some (PKP m h)∧(PKV d f m)[i]?=some (VAL d f h (2*(m / 2 ^ (h+1)))):=by
  have hb:=(z74 0 h (by decide) (List.mem_of_getElem? hi)).2.2
  have hs:=Nat.le_trans (zd6 hb) hm
  have hlt:PKP m h<z01 n:=z3h hs
  have hat:AT C log (PKP m h)=some (VAL d f h (2*(m / 2 ^ (h+1)))):=hF.node h _ hs
  have:=hF.store.short
  refine ⟨by omega,?_,?_,?_,?_⟩
  · unfold GOTH
    rw [if_pos hlt,hat]
    rfl
  · unfold GOT
    rw [if_pos hlt,hat]
    rfl
  · rw [z3i,List.getElem?_map,hi]
    rfl
  · rw [PKV,List.getElem?_map,hi]
    rfl
end Go.Proofs.YtnmalbngdhjhjaaGreatDoor.HX

namespace Go.Proofs.YtnmalbngdhjhjaaGreatDoor
open Go.RowKit
set_option maxRecDepth 100000
def TVAL (d:Int) (f:Nat→Nat→Nat) (h k:Nat):List Int:=LST (HX.VAL d f h k)
theorem zay {d:Int} {f:Nat→Nat→Nat} {n h k:Nat} (hf:∀ k,k<n→∀ i,f k i<256) (hk:(k+1)*2 ^ h≤n):IsH (TVAL d f h k):=zcU fun i=>HX.z4z hf h k hk i
theorem z8D {w:World} {B g:Nat} {d:Int} {log n h k:Nat} {C:HX.z02} {f:Nat→Nat→Nat} (hF:HX.FOREST w B g d log n C f) (hs:(k+1)*2 ^ h≤n):HX.GOTH C log (z01 n) (PLC h k)=HX.VAL d f h k∧HX.GOT C log (z01 n) (PLC h k)=0:=by
  have h1:=zam hs
  unfold HX.GOTH HX.GOT
  rw [if_pos h1,if_pos h1,hF.node h k hs]
  exact ⟨rfl,rfl⟩
def INN (ss:List (Nat × Nat)) (n:Nat):Prop:=∀ s∈ss,(s.2+1)*2 ^ s.1≤n
theorem zeS {ss:List (Nat × Nat)} {p:Nat} (h:p∈PLCS ss):∃ s∈ss,p=PLC s.1 s.2:=by
  unfold PLCS at h
  obtain ⟨s,hs,e⟩:=List.mem_map.1 h
  exact ⟨s,hs,e.symm⟩
theorem z8E {w:World} {B g:Nat} {d:Int} {log n:Nat} {C:HX.z02} {f:Nat→Nat→Nat} (hF:HX.FOREST w B g d log n C f):∀ (ss:List (Nat × Nat)),INN ss n→∀ j,j≤ss.length→TFL (fun p=>LST (HX.GOTH C log (z01 n) p)) (PLCS ss) j=CAT (TVAL d f) (ss.take j)
  | ss,hs,0,_=>by simp [TFL,CAT]
  | ss,hs,j+1,hj=>by
    obtain ⟨s,e⟩:∃ s,ss[j]?=some s:=⟨_,List.getElem?_eq_getElem (by omega)⟩
    obtain ⟨h,k⟩:=s
    rw [zeR,z8E hF ss hs j (by omega),zes e,zfH e,(z8D hF (hs _ (List.mem_of_getElem? e))).1]
    rfl
def zgV (w:World) (d:Int) (f:Nat→Nat→Nat) (ss:List (Nat × Nat)) (X Y:Nat) (e:Ending) (w':World):Prop:=
  ∃ a c,e=.returned (.tuple #[.agg #[.int .u64 (X:Int),.int .u64 (Y:Int),.slice a ss.length c],.int .i64 0])∧w'.ownsRow w.heap.size 35 32 (.slice a ss.length c) ss.length (z00 (CAT (TVAL d f) ss))∧Below w.heap.size w w'
theorem TMADE.tree {w0 w w':World} {B g:Nat} {d:Int} {log n:Nat} {C:HX.z02} {f:Nat→Nat→Nat} (hF:HX.FOREST w0 B g d log n C f) {ss:List (Nat × Nat)} (hs:INN ss n) {X Y:Nat} {e:Ending} (h:TMADE w (fun p=>LST (HX.GOTH C log (z01 n) p)) (HX.GOT C log (z01 n)) (0,PLCS ss) X Y e w'):zgV w d f ss X Y e w':=by
  obtain ⟨hb,h⟩:=h
  have hz:∀ p∈PLCS ss,HX.GOT C log (z01 n) p=0:=fun p hp=>by
    obtain ⟨s,h1,rfl⟩:=zeS hp
    exact (z8D hF (hs s h1)).2
  rcases h with ⟨h1,_⟩ | ⟨_,_,u,rfl,hu⟩ | ⟨_,j,hj,_,h1,_⟩
  · exact absurd rfl h1
  · dsimp only at hu
    rw [z9p,z8E hF ss hs _ (Nat.le_refl _),List.take_length] at hu
    rcases hu.2 with ⟨e,h0⟩ | ⟨g,cap,cur,e,_⟩
    · subst e
      refine ⟨none,0,by rw [h0],?_,hb⟩
      rw [h0] at hu ⊢
      exact hu
    · subst e
      exact ⟨_,cap,rfl,hu,hb⟩
  · refine absurd (hz _ ?_) h1
    dsimp only at hj ⊢
    rw [List.getD_eq_getElem?_getD,List.getElem?_eq_getElem hj]
    exact List.getElem_mem _
end Go.Proofs.YtnmalbngdhjhjaaGreatDoor
