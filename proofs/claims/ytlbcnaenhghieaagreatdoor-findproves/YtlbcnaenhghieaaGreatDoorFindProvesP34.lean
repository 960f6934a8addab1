/- FindProves: part 34. -/
import Derived.Test.YtlbcnaenhghieaaGreatDoorFindProvesP33
set_option maxHeartbeats 4000000
namespace Go.Proofs.YtlbcnaenhghieaaGreatDoor
set_option linter.unusedSimpArgs false
open Go.RowKit
set_option maxRecDepth 100000
theorem z5m {a:Act} (w:World) (o:Oper) (ho:o.op=.alloc 25):(execOp a.eval o).run Tryz.prog w=.ok (.value (.pointer (some ⟨w.heap.size,0,none⟩))) (w.alloc (.cells ZARR 25)):=by
 simp [execOp,ho,go_sem]
@[go_sem] def RATOPSq0:Oper:=⟨some 17,.move (.tmp 0),34,"ref.go:107",#[],none⟩
@[go_sem] def RATOPSq1:Oper:=⟨some 18,.nilCheck (.tmp 17),0,"ref.go:107",#[⟨0,.data⟩],none⟩
@[go_sem] def RATOPSq2:Oper:=⟨some 19,.fieldAddr 41 (.tmp 18) 2,0,"ref.go:107",#[⟨1,.data⟩],none⟩
@[go_sem] def RATOPSq3:Oper:=⟨some 20,.load 39 (.tmp 19),39,"ref.go:107",#[⟨2,.data⟩],none⟩
@[go_sem] def RATOPSq4:Oper:=⟨some 21,.move (.tmp 1),23,"ref.go:107",#[],none⟩
@[go_sem] def RATOPSq5:Oper:=⟨some 22,.move (.tmp 7),3,"ref.go:107",#[],none⟩
@[go_sem] def RATOPSq6:Oper:=⟨some 23,.indexAddr 23 (.tmp 21) (.tmp 22),0,"ref.go:107",#[⟨4,.data⟩,⟨5,.data⟩],none⟩
@[go_sem] def RATOPSq7:Oper:=⟨some 24,.load 36 (.tmp 23),36,"ref.go:107",#[⟨6,.data⟩],none⟩
@[go_sem] def RATOPSq8:Oper:=⟨some 25,.call {callee:=.value (.func 32),args:=#[.tmp 20,.tmp 24],argTypes:=#[39,36]},87,"ref.go:107",#[⟨3,.data⟩,⟨7,.data⟩],none⟩
@[go_sem] def RATOPSq9:Oper:=⟨some 16,.move (.tmp 25),87,"ref.go:107",#[⟨8,.data⟩],none⟩
@[go_sem] def RATOPSq10:Oper:=⟨some 26,.extract (.tmp 16) 0,25,"ref.go:107",#[⟨9,.data⟩],none⟩
@[go_sem] def RATOPSq11:Oper:=⟨some 27,.extract (.tmp 16) 1,29,"ref.go:107",#[⟨9,.data⟩,{on:=13,ground:=.gcOnly Departure.lateStores}],none⟩
@[go_sem] def RATOPSq12:Oper:=⟨some 8,.alloc 25,0,"ref.go:107",#[],none⟩
@[go_sem] def RATOPSq13:Oper:=⟨none,.store 25 (.tmp 8) (.tmp 26),0,"ref.go:107",#[⟨12,.data⟩,⟨10,.data⟩,⟨8,.chain⟩,⟨0,.phase⟩,⟨1,.phase⟩,⟨2,.phase⟩,⟨3,.phase⟩,⟨4,.phase⟩,⟨5,.phase⟩,⟨6,.phase⟩,⟨7,.phase⟩,⟨8,.phase⟩,⟨9,.phase⟩,⟨10,.phase⟩,{on:=11,ground:=.textOnly Departure.lateStores},⟨12,.phase⟩],none⟩
@[go_sem] def RATOPSq14:Oper:=⟨some 9,.assign (.tmp 27),29,"ref.go:107",#[⟨11,.data⟩,⟨13,.chain⟩,⟨0,.phase⟩,⟨1,.phase⟩,⟨2,.phase⟩,⟨3,.phase⟩,⟨4,.phase⟩,⟨5,.phase⟩,⟨6,.phase⟩,⟨7,.phase⟩,⟨8,.phase⟩,⟨9,.phase⟩,⟨10,.phase⟩,⟨11,.phase⟩,⟨12,.phase⟩,⟨13,.phase⟩],none⟩
def z3B:Array Oper:=#[RATOPSq0,RATOPSq1,RATOPSq2,RATOPSq3,RATOPSq4,RATOPSq5,RATOPSq6,RATOPSq7,RATOPSq8,RATOPSq9,RATOPSq10,RATOPSq11,RATOPSq12,RATOPSq13,RATOPSq14]
theorem rat5 {Q:Exit->Act->World->Prop} {d f g j k l m p q r s u x y A B C D F G H I J K L M N O R T U V X:Value} (W:World) (gt gs gp op n c i P:Nat) (E:Int) (h:List Int) (lh:h.length=32) (hi:(i:Int)<(n:Int)) (P0 PB:World->Prop) (PA PC PD:Nat->World->Prop) (h0:P0 W.drew) (t0:∀ w,P0 w->(fun w:World=>w.cell? ⟨gt,2,none⟩=some (.pointer (some ⟨gs,0,none⟩))/\w.cell? ⟨gp,op+i,none⟩=some (.int .u64 (P:Int))) w) (tA:∀ b w,PA b w->(fun w:World=>w.cell? ⟨gt,2,none⟩=some (.pointer (some ⟨gs,0,none⟩))/\w.cell? ⟨gp,op+i,none⟩=some (.int .u64 (P:Int))) w) (tB:∀ w,PB w->(fun w:World=>w.cell? ⟨gt,2,none⟩=some (.pointer (some ⟨gs,0,none⟩))/\w.cell? ⟨gp,op+i,none⟩=some (.int .u64 (P:Int))) w) (tC:∀ b w,PC b w->(fun w:World=>w.cell? ⟨gt,2,none⟩=some (.pointer (some ⟨gs,0,none⟩))/\w.cell? ⟨gp,op+i,none⟩=some (.int .u64 (P:Int))) w) (tD:∀ b w,PD b w->(fun w:World=>w.cell? ⟨gt,2,none⟩=some (.pointer (some ⟨gs,0,none⟩))/\w.cell? ⟨gp,op+i,none⟩=some (.int .u64 (P:Int))) w)
  (c0:∀ w,P0 w->Calls Tryz.prog 32 #[.pointer (some ⟨gs,0,none⟩),.int .u64 (P:Int)] w fun e w'=>e=.returned (.tuple #[.agg (z00 h).toArray,.int .i64 E])/\PB w') (cA:∀ b w,PA b w->Calls Tryz.prog 32 #[.pointer (some ⟨gs,0,none⟩),.int .u64 (P:Int)] w fun e w'=>e=.returned (.tuple #[.agg (z00 h).toArray,.int .i64 E])/\PC b w') (a0:∀ w,P0 w->PA w.heap.size (w.alloc (.cells ZARR 25))) (aB:∀ w,PB w->PC w.heap.size (w.alloc (.cells ZARR 25))) (k8:∀ b w,PC b w->Has w b ZARR 25) (st:∀ b w,PC b w->PD b (w.setRow b (z00 h).toArray)) (hQ:∀ c (a:Act) (t:Tmp) (v:Value) w,Q (.panic c) (a.put (some t) v) w->Q (.panic c) a w)
  (hfin:∀ (b8:Nat) (w:World),(PD b8 w)->Q .normal {tmps:=#[.pointer (some ⟨gt,0,none⟩),.slice (some ⟨gp,op,none⟩) n c,d,f,g,j,k,.int .i64 (i:Int),.pointer (some ⟨b8,0,none⟩),.int .i64 E,p,q,r,s,u,x,.tuple #[.agg (z00 h).toArray,.int .i64 E],.pointer (some ⟨gt,0,none⟩),.pointer (some ⟨gt,0,none⟩),.pointer (some ⟨gt,2,none⟩),.pointer (some ⟨gs,0,none⟩),.slice (some ⟨gp,op,none⟩) n c,.int .i64 (i:Int),.pointer (some ⟨gp,(op+i),none⟩),.int .u64 (P:Int),.tuple #[.agg (z00 h).toArray,.int .i64 E],.agg (z00 h).toArray,.int .i64 E,M,N,O,R,T,U,V,X],defers:=[]} w):(Code.region 5 z3B true).wp Tryz.prog Q {tmps:=#[.pointer (some ⟨gt,0,none⟩),.slice (some ⟨gp,op,none⟩) n c,d,f,g,j,k,.int .i64 (i:Int),l,m,p,q,r,s,u,x,y,A,B,C,D,F,G,H,I,J,K,L,M,N,O,R,T,U,V,X],defers:=[]} W:=by
 have ekst8_12_13:∀ (b8:Nat) (w:World),(PD b8 w)->wpAnyH Tryz.prog .any z3B Q (fun w:World=>w.cell? ⟨gt,2,none⟩=some (.pointer (some ⟨gs,0,none⟩))/\w.cell? ⟨gp,op+i,none⟩=some (.int .u64 (P:Int))) 1 #[tt,tt,tt,tt,tt,tt,tt,tt,tt,tt,tt,tt,tt,tt,ff] {tmps:=#[.pointer (some ⟨gt,0,none⟩),.slice (some ⟨gp,op,none⟩) n c,d,f,g,j,k,.int .i64 (i:Int),.pointer (some ⟨b8,0,none⟩),m,p,q,r,s,u,x,.tuple #[.agg (z00 h).toArray,.int .i64 E],.pointer (some ⟨gt,0,none⟩),.pointer (some ⟨gt,0,none⟩),.pointer (some ⟨gt,2,none⟩),.pointer (some ⟨gs,0,none⟩),.slice (some ⟨gp,op,none⟩) n c,.int .i64 (i:Int),.pointer (some ⟨gp,(op+i),none⟩),.int .u64 (P:Int),.tuple #[.agg (z00 h).toArray,.int .i64 E],.agg (z00 h).toArray,.int .i64 E,M,N,O,R,T,U,V,X],defers:=[]} w:=fun b8 w hp=>by
  have hww:(fun w:World=>w.cell? ⟨gt,2,none⟩=some (.pointer (some ⟨gs,0,none⟩))/\w.cell? ⟨gp,op+i,none⟩=some (.int .u64 (P:Int))) w:=tD _ _ hp;refine tkP RATOPSq14 (.int .i64 E) 14 hQ hww ?_;simp only [List.set];exact wpAnyH_done (by kernel_rfl) (hfin b8 w hp) _
 have kst8_12:∀ (b8:Nat) (w:World),(PC b8 w)->wpAnyH Tryz.prog .any z3B Q (fun w:World=>w.cell? ⟨gt,2,none⟩=some (.pointer (some ⟨gs,0,none⟩))/\w.cell? ⟨gp,op+i,none⟩=some (.int .u64 (P:Int))) 2 #[tt,tt,tt,tt,tt,tt,tt,tt,tt,tt,tt,tt,tt,ff,ff] {tmps:=#[.pointer (some ⟨gt,0,none⟩),.slice (some ⟨gp,op,none⟩) n c,d,f,g,j,k,.int .i64 (i:Int),.pointer (some ⟨b8,0,none⟩),m,p,q,r,s,u,x,.tuple #[.agg (z00 h).toArray,.int .i64 E],.pointer (some ⟨gt,0,none⟩),.pointer (some ⟨gt,0,none⟩),.pointer (some ⟨gt,2,none⟩),.pointer (some ⟨gs,0,none⟩),.slice (some ⟨gp,op,none⟩) n c,.int .i64 (i:Int),.pointer (some ⟨gp,(op+i),none⟩),.int .u64 (P:Int),.tuple #[.agg (z00 h).toArray,.int .i64 E],.agg (z00 h).toArray,.int .i64 E,M,N,O,R,T,U,V,X],defers:=[]} w:=fun b8 w hp=>by
  refine wpAnyH_ready (rs:=[13]) (by kernel_rfl) (by simp) ?_;refine AllReadyH.cons (o:=RATOPSq13) rfl (fun KQ hKQ=>?_) ?_
  ·exact z0w (by rfl) (wpList_store_row rfl 25 (.tmp 8) (.tmp 26) rfl b8 (z00 h).toArray rfl rfl 25 ZARR (k8 _ _ hp) (z0V lh) (by simp [z00,lh,ZARR]) (z20 h) ⟨rfl,(have hp:(fun (b8:Nat) (w:World)=>(PD b8 w)) b8 _:=st _ _ hp;hKQ.out _ _ (tD _ _ hp) (fun _=>ekst8_12_13 b8 _ hp))⟩)
  exact AllReadyH.nil
 have kst12:∀ (b8:Nat) (w:World),(PA b8 w)->wpAnyH Tryz.prog .any z3B Q (fun w:World=>w.cell? ⟨gt,2,none⟩=some (.pointer (some ⟨gs,0,none⟩))/\w.cell? ⟨gp,op+i,none⟩=some (.int .u64 (P:Int))) 6 #[tt,tt,tt,tt,tt,tt,tt,tt,ff,ff,ff,ff,tt,ff,ff] {tmps:=#[.pointer (some ⟨gt,0,none⟩),.slice (some ⟨gp,op,none⟩) n c,d,f,g,j,k,.int .i64 (i:Int),.pointer (some ⟨b8,0,none⟩),m,p,q,r,s,u,x,y,.pointer (some ⟨gt,0,none⟩),.pointer (some ⟨gt,0,none⟩),.pointer (some ⟨gt,2,none⟩),.pointer (some ⟨gs,0,none⟩),.slice (some ⟨gp,op,none⟩) n c,.int .i64 (i:Int),.pointer (some ⟨gp,(op+i),none⟩),.int .u64 (P:Int),J,K,L,M,N,O,R,T,U,V,X],defers:=[]} w:=fun b8 w hp=>by
  refine wpAnyH_ready (rs:=[8]) (by kernel_rfl) (by simp) ?_;refine AllReadyH.cons (o:=RATOPSq8) rfl (fun KQ hKQ=>?_) ?_
  ·rw [if_pos (by rfl)]
   go_simp;refine (show Calls _ _ _ w (fun e w'=>e=.returned (.tuple #[.agg (z00 h).toArray,.int .i64 E])/\(PC b8 w')) from cA b8 w hp).mono ?_;rintro e w ⟨rfl,hp⟩;refine hKQ.out _ _ (tC _ _ hp) (fun _=>?_);simp only [List.setIfInBounds_toArray,List.set];have hww:(fun w:World=>w.cell? ⟨gt,2,none⟩=some (.pointer (some ⟨gs,0,none⟩))/\w.cell? ⟨gp,op+i,none⟩=some (.int .u64 (P:Int))) w:=tC _ _ hp;have last:=kst8_12 b8 w hp;refine tkP RATOPSq9 (.tuple #[.agg (z00 h).toArray,.int .i64 E]) 9 hQ hww ?_;simp only [List.set];refine tkP RATOPSq10 (.agg (z00 h).toArray) 10 hQ hww ?_;simp only [List.set];refine tkP RATOPSq11 (.int .i64 E) 11 hQ hww ?_;simp only [List.set];exact last
  exact AllReadyH.nil
 have kst:∀ (w:World),(P0 w)->wpAnyH Tryz.prog .any z3B Q (fun w:World=>w.cell? ⟨gt,2,none⟩=some (.pointer (some ⟨gs,0,none⟩))/\w.cell? ⟨gp,op+i,none⟩=some (.int .u64 (P:Int))) 7 #[tt,tt,tt,tt,tt,tt,tt,tt,ff,ff,ff,ff,ff,ff,ff] {tmps:=#[.pointer (some ⟨gt,0,none⟩),.slice (some ⟨gp,op,none⟩) n c,d,f,g,j,k,.int .i64 (i:Int),l,m,p,q,r,s,u,x,y,.pointer (some ⟨gt,0,none⟩),.pointer (some ⟨gt,0,none⟩),.pointer (some ⟨gt,2,none⟩),.pointer (some ⟨gs,0,none⟩),.slice (some ⟨gp,op,none⟩) n c,.int .i64 (i:Int),.pointer (some ⟨gp,(op+i),none⟩),.int .u64 (P:Int),J,K,L,M,N,O,R,T,U,V,X],defers:=[]} w:=fun  w hp=>by
  refine wpAnyH_ready (rs:=[8,12]) (by kernel_rfl) (by simp) ?_;refine AllReadyH.cons (o:=RATOPSq8) rfl (fun KQ hKQ=>?_) ?_
  ·rw [if_pos (by rfl)]
   go_simp;refine (show Calls _ _ _ w (fun e w'=>e=.returned (.tuple #[.agg (z00 h).toArray,.int .i64 E])/\(PB w')) from c0 w hp).mono ?_;rintro e w ⟨rfl,hp⟩;refine hKQ.out _ _ (tB _ hp) (fun _=>?_);simp only [List.setIfInBounds_toArray,List.set];have hww:(fun w:World=>w.cell? ⟨gt,2,none⟩=some (.pointer (some ⟨gs,0,none⟩))/\w.cell? ⟨gp,op+i,none⟩=some (.int .u64 (P:Int))) w:=tB _ hp;refine tkP RATOPSq9 (.tuple #[.agg (z00 h).toArray,.int .i64 E]) 9 hQ hww ?_;simp only [List.set];refine tkP RATOPSq10 (.agg (z00 h).toArray) 10 hQ hww ?_;simp only [List.set];refine tkP RATOPSq11 (.int .i64 E) 11 hQ hww ?_;simp only [List.set];refine wpAnyH_ready (rs:=[12]) (by kernel_rfl) (by simp) ?_;refine AllReadyH.cons (o:=RATOPSq12) rfl (fun KQ hKQ=>?_) ?_
   ·exact z0k (by rfl) (z5m w _ rfl) (have hp:(fun (b8:Nat) (w:World)=>(PC b8 w)) w.heap.size _:=aB w hp;hKQ.out _ _ (tC _ _ hp) (fun _=>kst8_12 w.heap.size _ hp))
   exact AllReadyH.nil
  refine AllReadyH.cons (o:=RATOPSq12) rfl (fun KQ hKQ=>?_) ?_
  ·exact z0k (by rfl) (z5m w _ rfl) (have hp:(fun (b8:Nat) (w:World)=>(PA b8 w)) w.heap.size _:=a0 w hp;hKQ.out _ _ (tA _ _ hp) (fun _=>kst12 w.heap.size _ hp))
  exact AllReadyH.nil
 have hp:=h0;have hww:(fun w:World=>w.cell? ⟨gt,2,none⟩=some (.pointer (some ⟨gs,0,none⟩))/\w.cell? ⟨gp,op+i,none⟩=some (.int .u64 (P:Int))) W.drew:=t0 _ hp;have last:=kst W.drew hp
 have z:wpAnyH Tryz.prog .any z3B Q (fun w:World=>w.cell? ⟨gt,2,none⟩=some (.pointer (some ⟨gs,0,none⟩))/\w.cell? ⟨gp,op+i,none⟩=some (.int .u64 (P:Int))) 15 #[ff,ff,ff,ff,ff,ff,ff,ff,ff,ff,ff,ff,ff,ff,ff] {tmps:=#[.pointer (some ⟨gt,0,none⟩),.slice (some ⟨gp,op,none⟩) n c,d,f,g,j,k,.int .i64 (i:Int),l,m,p,q,r,s,u,x,y,A,B,C,D,F,G,H,I,J,K,L,M,N,O,R,T,U,V,X],defers:=[]} W.drew:=by
  refine tkP RATOPSq0 (.pointer (some ⟨gt,0,none⟩)) 0 hQ hww ?_;simp only [List.set];refine tkP RATOPSq1 (.pointer (some ⟨gt,0,none⟩)) 1 hQ hww ?_;simp only [List.set];refine tkP RATOPSq2 (.pointer (some ⟨gt,2,none⟩)) 2 hQ hww ?_;simp only [List.set];refine tkH RATOPSq3 (.pointer (some ⟨gs,0,none⟩)) 3 hQ (Or.inl ⟨by rfl,fun w hw=>by have hx:=hw.1;go_simp⟩) hww ?_;simp only [List.set];refine tkP RATOPSq4 (.slice (some ⟨gp,op,none⟩) n c) 4 hQ hww ?_;simp only [List.set];refine tkP RATOPSq5 (.int .i64 (i:Int)) 5 hQ hww ?_;simp only [List.set];refine tkP RATOPSq6 (.pointer (some ⟨gp,(op+i),none⟩)) 6 hQ hww ?_;simp only [List.set];refine tkH RATOPSq7 (.int .u64 (P:Int)) 7 hQ (Or.inl ⟨by rfl,fun w hw=>by have hx:=hw.2;go_simp⟩) hww ?_;simp only [List.set];exact last
 exact wp_region_held_drew (S:=(fun w:World=>w.cell? ⟨gt,2,none⟩=some (.pointer (some ⟨gs,0,none⟩))/\w.cell? ⟨gp,op+i,none⟩=some (.int .u64 (P:Int)))) (by kernel_rfl) hww (fun _=>z)
end Go.Proofs.YtlbcnaenhghieaaGreatDoor
namespace Go.Proofs.YtlbcnaenhghieaaGreatDoor
open Go.RowKit
set_option maxRecDepth 100000
theorem z90 {l:List RND} (h:∀ v∈l,v.hash.length=32) (p:Nat):(RGOT l p).2.length=32:=by
 unfold RGOT;cases hp:l[p]? with
 | none=>rfl
 | some v=>
   dsimp only;split
   ·exact h v (List.mem_of_getElem? hp)
   ·rfl
def RAT (w:World) (l:List RND) (P:List Nat) (e:Ending) (w':World):Prop:=
 Below w.heap.size w w'/\(((∀ p∈P,(RGOT l p).1=0)/\∃ a c,e=.returned (.tuple #[.slice a P.length c,.int .i64 0])/\w'.ownsRow w.heap.size 25 32 (.slice a P.length c) P.length (z00 (P.flatMap fun p=>(RGOT l p).2)))\/
  (∃ (j p:Nat),P[j]?=some p/\(∀ (i q:Nat),i<j->P[i]?=some q->(RGOT l q).1=0)/\(RGOT l p).1≠0/\e=.returned (.tuple #[.slice none 0 0,.int .i64 (RGOT l p).1])))
theorem zhF {w:World} {B gt gs n c:Nat} {D:Int} {l:List RND} {a:Option Addr} (H:RTREE w B gt gs D n l a c) (P:List Nat) (pa:Option Addr) (pn pc:Nat) (hP:P.length=pn) (hL:NUML w pa P) (hn:pn<=50000):
  Calls Tryz.prog 13 #[.pointer (some ⟨gt,0,none⟩),.slice pa pn pc] w (RAT w l P):=by
 have HA:Aside (RTREE w B gt gs D n l a c/\P.length=pn/\NUML w pa P/\pn<=50000):=⟨H,hP,hL,hn⟩
 clear H hP hL hn;go_enter Tryz.func13,Tryz.ntmps13;go_wp2_with fail
 go_loopg [6,7] pn (fun q s6 s7 wx=>∃ (i:Nat) (oa:Option Addr) (oc:Nat),s6=.slice oa i oc/\s7=.int .i64 (i:Int)/\Aside (i+q=pn/\Below w.heap.size w wx/\wx.ownsRow w.heap.size 25 32 (.slice oa i oc) i (z00 ((P.take i).flatMap fun p=>(RGOT l p).2))/\∀ (k p:Nat),k<i->P[k]?=some p->(RGOT l p).1=0))
 case atStart=>exact ⟨0,none,0,rfl,rfl,by omega,Below.refl _ _,⟨rfl,.inl ⟨rfl,rfl⟩⟩,fun k p hk=>by omega⟩
 case round=>
  obtain ⟨i,oa,oc,rfl,rfl,A⟩:=hrel;cases gk with
  | zero=>
    obtain rfl:i=pn:=by have:=A.out.1;omega
    have hlt:¬ (i:Int)<(i:Int):=by omega
    have Z:Aside (RAT w l P (.returned (.tuple #[.slice oa i oc,.int .i64 0])) wr):=by
     have h:=A.out;have hl:=HA.out.2.1;rw [List.take_of_length_le (by omega)] at h;refine ⟨h.2.1,.inl ⟨fun p hp=>?_,oa,oc,by rw [hl],by rw [hl];exact h.2.2.1⟩⟩;obtain ⟨k,hk⟩:=List.mem_iff_getElem?.1 hp;exact h.2.2.2 k p (by have:=(List.getElem?_eq_some_iff.1 hk).1;omega) hk
    clear A;go_wp2;go_ret2;exact Z.out
  | succ q=>
    have hin:i<pn:=by have:=A.out.1;omega
    have hlt:(i:Int)<(pn:Int):=by omega
    obtain ⟨p,hp⟩:∃ p,P[i]?=some p:=⟨_,List.getElem?_eq_getElem (by have:=HA.out.2.1;omega)⟩
    obtain ⟨gp,op,rfl,hgp,hcs⟩:=HA.out.2.2.1 (by have:=HA.out.2.1;omega);have hcp:=hcs i p hp;have hH:=HA.out.1;have hbx:=hH.box;have h32:=z90 hH.store.is p;have CG:Aside (∀ W,Below w.heap.size w W->Calls Tryz.prog 32 #[.pointer (some ⟨gs,0,none⟩),.int .u64 (p:Int)] W fun e w'=>e=.returned (.tuple #[.agg (z00 (RGOT l p).2).toArray,.int .i64 (RGOT l p).1])/\Below W.heap.size W w'):=fun W h=>zgG (hH.store.below h) p;have SB:Aside (∀ W,Below w.heap.size w W->W.cell? ⟨gt,2,none⟩=some (.pointer (some ⟨gs,0,none⟩))/\W.cell? ⟨gp,op+i,none⟩=some (.int .u64 (p:Int))):=fun W h=>⟨(hbx.keep h).cell 2,(h.cell (p:=⟨gp,op+i,none⟩) hgp).trans hcp⟩
    have R:Aside (i+1+q=pn/\Below w.heap.size w wr/\wr.ownsRow w.heap.size 25 32 (.slice oa i oc) i (z00 ((P.take i).flatMap fun p=>(RGOT l p).2))/\(∀ (k p:Nat),k<i->P[k]?=some p->(RGOT l p).1=0)/\P[i]?=some p/\P.take (i+1)=P.take i ++ [p]):=⟨by have:=A.out.1;omega,A.out.2.1,A.out.2.2.1,A.out.2.2.2,hp,by rw [List.take_add_one,hp];rfl⟩
    have ei:wrap64 ((i:Int)+1)=((i+1:Nat):Int):=by have:=HA.out.2.2.2;unfold wrap64;omega
    clear A hin hp hgp hcs hcp hH hbx;generalize hE:(RGOT l p).1=E at *
    generalize hY:(RGOT l p).2=Y at *
    have HE:Aside ((RGOT l p).1=E/\(RGOT l p).2=Y):=⟨hE,hY⟩
    clear hE hY;go_upto_region 5 with fail
    have SP:Aside (∀ W W',Below wr.heap.size wr W->Below W.heap.size W W'->Below wr.heap.size wr W'):=fun W W' h h'=>h.trans (h'.mono h.size);have WB:Aside (∀ W,Below wr.heap.size wr W->Below w.heap.size w W):=fun W h=>R.out.2.1.trans (h.mono R.out.2.1.size);refine rat5 wr gt gs gp op pn pc i p E Y h32 hlt (fun W=>Below wr.heap.size wr W) (fun W=>Below wr.heap.size wr W) (fun b W=>Below wr.heap.size wr W/\Has W b ZARR 25/\wr.heap.size<=b) (fun b W=>Below wr.heap.size wr W/\Has W b ZARR 25/\wr.heap.size<=b) (fun b W=>Below wr.heap.size wr W/\Has W b (z00 Y).toArray 25/\wr.heap.size<=b) (Below.refl _ _).drew (fun W h=>SB.out W (WB.out W h)) (fun b W h=>SB.out W (WB.out W h.1)) (fun W h=>SB.out W (WB.out W h)) (fun b W h=>SB.out W (WB.out W h.1)) (fun b W h=>SB.out W (WB.out W h.1)) (fun W h=>(CG.out W (WB.out W h)).mono fun e W' he=>⟨he.1,SP.out W W' h he.2⟩) (fun b W h=>(CG.out W (WB.out W h.1)).mono fun e W' he=>⟨he.1,SP.out W W' h.1 he.2,h.2.1.keep he.2,h.2.2⟩) (fun W h=>⟨h.alloc h.size _,Has.new _ _ _,h.size⟩) (fun W h=>⟨h.alloc h.size _,Has.new _ _ _,h.size⟩) (fun b W h=>h.2.1) (fun b W h=>⟨z0d h.1 h.2.2 _,h.2.1.row _,h.2.2⟩) (fun _ _ _ _ _ h=>h) ?_;rintro b8 w4 ⟨hb4,k8,_⟩;have hb4w:=WB.out w4 hb4;have O4:w4.ownsRow w.heap.size 25 32 (.slice oa i oc) i (z00 ((P.take i).flatMap fun p=>(RGOT l p).2)):=z24 R.out.2.2.1 fun k e=>hb4.block k (R.out.2.2.1.lt k e).2
    have W4:Aside (Below w.heap.size w w4/\w4.ownsRow w.heap.size 25 32 (.slice oa i oc) i (z00 ((P.take i).flatMap fun p=>(RGOT l p).2))):=⟨hb4w,O4⟩
    clear hb4 hb4w O4 SP WB SB CG;dsimp only;by_cases h0:E=0
    ·subst h0
     have hi5:i<=50000:=by have:=R.out;have:=HA.out;clear ei;omega
     have HI:Aside (i<=50000):=hi5;clear hi5
     go_wp2_with (first
      | (refine wpList_load_row rfl 25 (.tmp 8) rfl b8 rfl 25 (z00 Y).toArray (0,0) _ k8 Tryz.underlying25 rfl (z0V h32) ?_)
      | (refine z0S _ rfl 22 25 (.tmp 32) rfl (z00 Y).toArray rfl 32 _ _ Tryz.underlying22 z2E (by simp [z00,h32]) rfl (by decide) (by decide) ?_)
      | (at_builtin;refine z4t _ rfl (.tmp 31) (.tmp 33) rfl w.heap.size (.slice oa i oc) i _ rfl (W4.out.2.alloc _) _ 1 Y h32 rfl (Has.new _ _ _) (by have:=HI.out;clear ei;omega) (by have:=W4.out.1.size;simp;clear ei;omega) ?_;intro g7 c7 w7 hown hgrow hat hg7)
      | fail)
     have Z:Aside (i+1+q=pn/\Below w.heap.size w w7/\w7.ownsRow w.heap.size 25 32 (.slice (some ⟨g7,0,none⟩) (i+1) c7) (i+1) (z00 ((P.take (i+1)).flatMap fun p=>(RGOT l p).2))/\∀ (k p:Nat),k<i+1->P[k]?=some p->(RGOT l p).1=0):=by
      refine ⟨R.out.1,(W4.out.1.alloc W4.out.1.size _).grown hgrow (by have:=W4.out.1.size;simp;clear ei;omega) (fun k e=>(W4.out.2.lt k e).1),?_,fun k p' hk hp'=>?_⟩
      ·rw [R.out.2.2.2.2.2,List.flatMap_append,z0v]
       simp only [List.flatMap_cons,List.flatMap_nil,List.append_nil];rw [HE.out.2];exact hown
      ·by_cases e:k=i
       ·subst e
        rw [R.out.2.2.2.2.1] at hp';cases hp';exact HE.out.1
       ·exact R.out.2.2.2.1 k p' (by clear ei;omega) hp'
     clear hown hgrow hat hg7 W4 k8 R;go_wp2;go_roundg q
     case measure=>exact Nat.lt_succ_self _
     case rel=>exact ⟨i+1,some ⟨g7,0,none⟩,c7,rfl,by first | rfl | (rw [ei]),Z.out⟩
    ·have hne:(E != 0)=true:=bne_iff_ne.2 h0
     have Z:Aside (RAT w l P (.returned (.tuple #[.slice none 0 0,.int .i64 E])) w4):=⟨W4.out.1,.inr ⟨i,p,R.out.2.2.2.2.1,fun k p' hk hp'=>R.out.2.2.2.1 k p' hk hp',by rw [HE.out.1];exact h0,by rw [HE.out.1]⟩⟩
     clear R W4 k8;go_wp2;go_ret2;exact Z.out
def TFL (G:Nat->List Int) (P:List Nat) (j:Nat):List Int:=(List.range j).flatMap fun i=>G (P.getD i 0)
theorem z91 (G:Nat->List Int) (P:List Nat) (j:Nat):TFL G P (j+1)=TFL G P j ++ G (P.getD j 0):=by simp [TFL,List.range_succ]
def z4a (w:World) (g:Nat) (G:Nat->List Int) (EN:Nat->Int) (P:List Nat):Prop:=
 ∀ W,Below w.heap.size w W->∀ p∈P,Calls Tryz.prog 156 #[.pointer (some ⟨g,0,none⟩),.int .u64 (p:Int)] W fun e w'=>e=.returned (.tuple #[.agg (z00 (G p)).toArray,.int .i64 (EN p)])/\Below W.heap.size W w'
def z39 (w:World) (G:Nat->List Int) (EN:Nat->Int) (P:List Nat) (e:Ending) (w':World):Prop:=
 Below w.heap.size w w'/\
 (((∀ p∈P,EN p=0)/\∃ u,e=.returned (.tuple #[u,.int .i64 0])/\w'.ownsRow w.heap.size 25 32 u P.length (z00 (TFL G P P.length)))\/
  (∃ j,j<P.length/\(∀ i,i<j->EN (P.getD i 0)=0)/\EN (P.getD j 0)≠0/\e=.returned (.tuple #[.slice none 0 0,.int .i64 (EN (P.getD j 0))])))
structure TFE (w0 w:World) (G:Nat->List Int) (EN:Nat->Int) (P:List Nat) (j:Nat) (u:Value):Prop where
 row:w.ownsRow w0.heap.size 25 32 u j (z00 (TFL G P j))
 bel:Below w0.heap.size w0 w
 ok:∀ i,i<j->EN (P.getD i 0)=0
theorem TFE.all {w w':World} {G:Nat->List Int} {EN:Nat->Int} {P:List Nat} {j:Nat} {u:Value} (h:TFE w w' G EN P j u) (hj:j=P.length):z39 w G EN P (.returned (.tuple #[u,.int .i64 0])) w':=by
 subst hj;refine ⟨h.bel,.inl ⟨fun p hp=>?_,u,rfl,h.row⟩⟩;obtain ⟨i,hi,rfl⟩:=List.getElem_of_mem hp;have:=h.ok i hi;rw [List.getD_eq_getElem?_getD,List.getElem?_eq_getElem hi] at this;exact this
theorem zdN (g gp cp:Nat) (G:Nat->List Int) (EN:Nat->Int) (P:List Nat) (w:World) (hP:P.length<=188) (h0:0<P.length) (hG:∀ p,(G p).length=32) (hN:z4a w g G EN P)
  (hpl:∀ i,i<P.length->w.cell? ⟨gp,i,none⟩=some (.int .u64 ((P.getD i 0:Nat):Int))) (hgl:gp<w.heap.size):
  Calls Tryz.prog 61 #[.iface 28 (.pointer (some ⟨g,0,none⟩)),.slice (some ⟨gp,0,none⟩) P.length cp] w (z39 w G EN P):=by
 obtain ⟨N,hNN⟩:∃ N,P.length=N:=⟨_,rfl⟩
 rw [hNN];obtain ⟨cur,hcs,hmk⟩:=z5U N (by omega) w
 have F0:Aside (TFE w (w.alloc (.cells cur 25)) G EN P 0 (.slice (some ⟨w.heap.size,0,none⟩) 0 N)):=
  ⟨World.ownsRow_made w cur N (Nat.le_refl _) (by simp only [maxLen];omega) (by rw [hcs]),(Below.refl _ _).alloc (Nat.le_refl _) _,fun i hi=>absurd hi (by omega)⟩
 have HA:Aside (P.length=N/\N<=188/\0<N/\z4a w g G EN P/\(∀ p,(G p).length=32)/\gp<w.heap.size/\∀ i,i<P.length->w.cell? ⟨gp,i,none⟩=some (.int .u64 ((P.getD i 0:Nat):Int))):=⟨hNN,by omega,by omega,hN,hG,hgl,hpl⟩
 clear hP h0 hN hG hpl hgl hNN hcs;go_enter Tryz.func61,Tryz.ntmps61;go_wp2;clear hmk;go_loopg [6,16] N (fun q s6 s16 wx=>∃ (j:Nat),s16=.int .i64 (j:Int)/\Aside (j+q=N/\TFE w wx G EN P j s6))
 case atStart=>exact ⟨0,rfl,by omega,F0.out⟩
 case round=>
  obtain ⟨j,rfl,A⟩:=hrel;obtain ⟨hj,F⟩:=A.out;obtain ⟨a1,a2,a3,a4,a5,a6,a7⟩:=HA.out;cases gk with
  | zero=>
    obtain rfl:j=N:=by omega
    have hlt:¬ (j:Int)<(j:Int):=by omega
    have R1:Aside (z39 w G EN P (.returned (.tuple #[u6,.int .i64 0])) wr):=TFE.all F a1.symm;clear hj F a1 a2 a3 a4 a5 a6 a7 A HA F0;go_wp2;go_ret2;exact R1.out
  | succ q=>
    have hlt:(j:Int)<(N:Int):=by omega
    have hjP:j<P.length:=by omega
    have hc:wr.cell? ⟨gp,j,none⟩=some (.int .u64 ((P.getD j 0:Nat):Int)):=by
     rw [<-a7 j hjP];exact F.bel.cell (p:=⟨gp,j,none⟩) a6
    have hmem:P.getD j 0∈P:=by
     rw [List.getD_eq_getElem?_getD,List.getElem?_eq_getElem hjP];exact List.getElem_mem _
    have cn:=a4 wr F.bel _ hmem;have hl32:=a5 (P.getD j 0);have hnd:=z91 G P j;by_cases hE:EN (P.getD j 0)=0
    ·have K:Aside (j+1+q=N/\j<=188/\TFE w wr G EN P j u6/\EN (P.getD j 0)=0/\TFL G P (j+1)=TFL G P j ++ G (P.getD j 0)/\w.heap.size<=wr.heap.size):=⟨by omega,by omega,F,hE,hnd,F.bel.size⟩
     have E1:Aside (wrap64 ((j:Int)+1)=((j+1:Nat):Int)):=by show wrap64 ((j:Int)+1)=((j+1:Nat):Int);unfold wrap64;omega
     rw [hE] at cn;clear hj F a1 a2 a3 a4 a5 a6 a7 A F0 hjP hnd hmem hE;generalize hH:G (P.getD j 0)=H at *
     clear hH;obtain ⟨y,hy⟩:∃ y,P.getD j 0=y:=⟨_,rfl⟩
     rw [hy] at hc cn;clear hy;go_wp2_with fail
     refine cn.mono ?_;rintro e w1 ⟨rfl,hb1⟩;clear cn hc
     have T:Aside (w1.ownsRow w.heap.size 25 32 u6 j (z00 (TFL G P j))/\w.heap.size<=w1.heap.size/\Below w.heap.size w w1):=
      ⟨z1h K.out.2.2.1.row hb1,Nat.le_trans K.out.2.2.2.2.2 hb1.size,K.out.2.2.1.bel.trans (hb1.mono K.out.2.2.2.2.2)⟩
     clear hb1
     go_wp2_with (first
      | (refine wpList_store_row rfl 25 (.tmp 9) (.tmp 24) rfl _ _ rfl rfl 25 _ (Has.new w1 _ _) (z0V hl32) (by simp [z00,hl32]) (z20 H) ?_;rw [World.setRow_alloc_new])
      | (refine wpList_load_row rfl 25 (.tmp 9) rfl w1.heap.size rfl 25 (z00 H).toArray (0,0) _ (Has.new w1 _ _) Tryz.underlying25 rfl (z0V hl32) ?_)
      | (refine z0S _ rfl 22 25 (.tmp 30) rfl (z00 H).toArray rfl 32 _ _ Tryz.underlying22 z2E (by simp [z00,hl32]) rfl (by decide) (by decide) ?_)
      | (at_builtin;refine zeK _ rfl (.tmp 29) (.tmp 31) rfl w.heap.size u6 j (z00 (TFL G P j)) rfl ((T.out.1.alloc _).alloc _) _ 1 H hl32 rfl (Has.new _ _ _) (by have:=K.out.2.1;omega) (by have:=T.out.2.1;simp;omega) ?_;intro g2 cap w2 hown hgrow hat hg))
     have Z:Aside (j+1+q=N/\TFE w w2 G EN P (j+1) (.slice (some ⟨g2,0,none⟩) (j+1) cap)):=by
      obtain ⟨t1,t2,t3⟩:=T.out;obtain ⟨k1,k2,k3,k4,k5,k6⟩:=K.out;have hb1:Below w1.heap.size w1 ((w1.alloc (.cells (z00 H).toArray 25)).alloc (.cells (z00 H).toArray 25)):=((Below.refl _ _).alloc (Nat.le_refl _) _).alloc (by simp) _;refine ⟨k1,⟨by rw [k5,z0v];exact hown,(t3.trans (hb1.mono t2)).grown hgrow (by have:=hb1.size;omega) (fun k e=>(t1.lt k e).1),fun i hi=>?_⟩⟩;rcases Nat.lt_or_ge i j with h | h
      ·exact k3.ok i h
      ·obtain rfl:i=j:=by omega
       exact k4
     clear hown hgrow hat hg K T hl32;have e1:=E1.out;go_wp2;go_roundg q
     case measure=>exact Nat.lt_succ_self _
     case rel=>exact ⟨j+1,by first | rfl | (rw [E1.out]),Z.out⟩
    ·have K:Aside (∀ w',Below wr.heap.size wr w'->∀ o,z39 w G EN P (.returned (.tuple #[.slice none 0 0,.int .i64 (EN (P.getD j 0))])) (w'.alloc o)):=fun w' hb o=>by
      have hsz:=F.bel.size;have:=hb.size;exact ⟨(F.bel.trans (hb.mono hsz)).alloc (by omega) o,.inr ⟨j,hjP,F.ok,hE,rfl⟩⟩
     have hE':(EN (P.getD j 0) != 0)=true:=bne_iff_ne.2 hE;clear hj F a1 a2 a3 a4 a5 a6 a7 A HA F0 hjP hmem hnd hE;generalize hH:G (P.getD j 0)=H at *
     clear hH;generalize EN (P.getD j 0)=E at *
     generalize P.getD j 0=y at *
     go_wp2_with fail
     refine cn.mono ?_;rintro e w1 ⟨rfl,hb1⟩;clear cn hc;go_wp2_with (refine wpList_store_row rfl 25 (.tmp 9) (.tmp 24) rfl _ _ rfl rfl 25 _ (Has.new w1 _ _) (z0V hl32) (by simp [z00,hl32]) (z20 H) ?_;rw [World.setRow_alloc_new])
     go_ret2;exact K.out w1 hb1 _
theorem za9 (g cp:Nat) (ap:Option Addr) (G:Nat->List Int) (EN:Nat->Int) (w:World):
  Calls Tryz.prog 61 #[.iface 28 (.pointer (some ⟨g,0,none⟩)),.slice ap 0 cp] w (z39 w G EN []):=by
 obtain ⟨cur,hcs,hmk⟩:=z5U 0 (by omega) w;have hmk':(Instr.makeSlice 22 (.int .i64 0) (.int .i64 0)).run Tryz.prog w=.ok (.slice (some ⟨w.heap.size,0,none⟩) 0 0) (w.alloc (.cells cur 25)):=hmk
 have K:Aside (z39 w G EN [] (.returned (.tuple #[.slice (some ⟨w.heap.size,0,none⟩) 0 0,.int .i64 0])) (w.alloc (.cells cur 25))):=
  ⟨(Below.refl _ _).alloc (Nat.le_refl _) _,.inl ⟨fun p hp=>(by cases hp),_,rfl,World.ownsRow_made w cur 0 (Nat.le_refl _) (by simp [maxLen]) (by rw [hcs])⟩⟩
 clear hcs hmk;go_enter Tryz.func61,Tryz.ntmps61;go_wp2;refine wp_loop_rounds 1 ?_;rw [rounds_succ];go_wp2;go_ret2;exact K.out
theorem zc9 (g:Nat) (G:Nat->List Int) (EN:Nat->Int) (P:List Nat) (pv:Value) (B:Nat) (w:World) (hP:P.length<=188) (hG:∀ p,(G p).length=32) (hN:z4a w g G EN P) (hR:w.ownsRow B 36 1 pv P.length (z06 P)):
  Calls Tryz.prog 61 #[.iface 28 (.pointer (some ⟨g,0,none⟩)),pv] w (z39 w G EN P):=by
 obtain ⟨a,cp,rfl,hc⟩:=zeJ hR;rcases Nat.eq_zero_or_pos P.length with h | h
 ·have hP0:=List.eq_nil_of_length_eq_zero h
  subst hP0;exact za9 g cp a G EN w
 ·obtain ⟨gp,rfl,hgl,hcs⟩:=hc h
  exact zdN g gp cp G EN P w hP h hG hN hcs hgl
def TMADE (w:World) (G:Nat->List Int) (EN:Nat->Int) (D:Int × List Nat) (X Y:Nat) (e:Ending) (w':World):Prop:=
 Below w.heap.size w w'/\
 ((D.1≠0/\e=.returned (.tuple #[.agg #[.int .u64 0,.int .u64 0,.slice none 0 0],.int .i64 D.1]))\/
  (D.1=0/\(∀ p∈D.2,EN p=0)/\∃ u,e=.returned (.tuple #[.agg #[.int .u64 (X:Int),.int .u64 (Y:Int),u],.int .i64 0])/\w'.ownsRow w.heap.size 25 32 u D.2.length (z00 (TFL G D.2 D.2.length)))\/
  (D.1=0/\∃ j,j<D.2.length/\(∀ i,i<j->EN (D.2.getD i 0)=0)/\EN (D.2.getD j 0)≠0/\e=.returned (.tuple #[.agg #[.int .u64 0,.int .u64 0,.slice none 0 0],.int .i64 (EN (D.2.getD j 0))])))
theorem zfH (X Y:Nat) (g:Nat) (G:Nat->List Int) (EN:Nat->Int) (hG:∀ p,(G p).length=32) (w:World) (hN:z4a w g G EN (PLA Y X).2) (hT:Tabled w) (h0:0<w.heap.size):
  Calls Tryz.prog 35 #[.iface 28 (.pointer (some ⟨g,0,none⟩)),.int .u64 (Y:Int),.int .u64 (X:Int)] w (TMADE w G EN (PLA Y X) X Y):=by
 have CP:Aside (∀ W,Below w.heap.size w W->Calls Tryz.prog 60 #[.int .u64 (Y:Int),.int .u64 (X:Int)] W fun e w'=>∃ v,e=.returned (.tuple #[v,.int .i64 (PLA Y X).1])/\w'.ownsRow W.heap.size 36 1 v (PLA Y X).2.length (z06 (PLA Y X).2)/\Below W.heap.size W w'):=
  fun W h=>zhm Y X W (hT.below h0 h) (Nat.lt_of_lt_of_le h0 h.size)
 have hfew:(PLA Y X).2.length<=188:=z6G _ _;generalize PLA Y X=D at *
 obtain ⟨E,P⟩:=D;dsimp only at *
 have HA:Aside (P.length<=188/\z4a w g G EN P/\∀ p,(G p).length=32):=⟨hfew,hN,hG⟩
 clear hfew hN hG hT h0;go_enter Tryz.func35,Tryz.ntmps35;go_wp2_with fail
 have hR:=Has.new w #[.int .u64 0,.int .u64 0,.slice none 0 0] 48;have hb0:Below w.heap.size w (w.alloc (.cells #[.int .u64 0,.int .u64 0,.slice none 0 0] 48)):=(Below.refl _ _).alloc (Nat.le_refl _) _;have hs0:(w.alloc (.cells #[.int .u64 0,.int .u64 0,.slice none 0 0] 48)).heap.size=w.heap.size+1:=by simp
 generalize w.alloc (.cells #[.int .u64 0,.int .u64 0,.slice none 0 0] 48)=w0 at *
 refine (CP.out _ hb0).mono ?_;rintro e w1 ⟨pv,rfl,hrow,hb⟩;clear CP;obtain ⟨a1,a2,a3⟩:=HA.out;have hbw:Below w.heap.size w w1:=hb0.trans (hb.mono hb0.size);have hR1:=hR.keep hb;have hsz:=hb.size;by_cases hE:E=0
 ·subst hE
  have cf:=zc9 g G EN P pv _ w1 a1 a3 (fun W hW=>a2 W (hbw.trans (hW.mono hbw.size))) hrow;have S0:Aside (Below w.heap.size w w1/\Has w1 w.heap.size #[.int .u64 0,.int .u64 0,.slice none 0 0] 48/\w.heap.size<w1.heap.size):=⟨hbw,hR1,by omega⟩
  clear hR hb0 hs0 hrow hb a1 a2 a3 hbw hR1 hsz HA;go_wp2_with fail
  refine cf.mono ?_;rintro e w2 ⟨hb2,h⟩;clear cf;obtain ⟨r1,r2,r3⟩:=S0.out;have hR2:Has w2 w.heap.size #[.int .u64 0,.int .u64 0,.slice none 0 0] 48:=r2.keep hb2;have x0:w2.cell? ⟨w.heap.size,0,none⟩=some (.int .u64 0):=hR2.cell 0;have x1:w2.cell? ⟨w.heap.size,1,none⟩=some (.int .u64 0):=hR2.cell 1;have x2:w2.cell? ⟨w.heap.size,2,none⟩=some (.slice none 0 0):=hR2.cell 2;have f0:=hR2.frozen 0;have f1:=hR2.frozen 1;have f2:=hR2.frozen 2;have hbB:Below w.heap.size w w2:=r1.trans (hb2.mono r1.size);rcases h with ⟨h1,u,rfl,hu1⟩ | ⟨j,hj,hj1,hj2,rfl⟩
  ·obtain ⟨ua,uc,rfl⟩:∃ ua uc,u=.slice ua P.length uc:=by
    rcases hu1.2 with ⟨e,h0⟩ | ⟨g,cap,cur,e,_⟩
    ·exact ⟨none,0,by rw [e,h0]⟩
    ·exact ⟨_,cap,e⟩
   obtain ⟨np,hnp⟩:∃ np,P.length=np:=⟨_,rfl⟩
   rw [hnp] at hu1;have HNP:Aside (P.length=np):=hnp;generalize hU0:Value.slice ua P.length uc=u at *
   rw [hnp] at hU0;subst hU0;have hun:(Value.slice ua np uc).ownBlock≠some w.heap.size:=fun e=>by have:=(hu1.lt _ e).1;omega
   have S1:Aside (Below w.heap.size w w2/\Has w2 w.heap.size #[.int .u64 0,.int .u64 0,.slice none 0 0] 48/\(∀ p∈P,EN p=0)/\w2.ownsRow w.heap.size 25 32 (.slice ua np uc) np (z00 (TFL G P np))/\(Value.slice ua np uc).ownBlock≠some w.heap.size):=⟨hbB,hR2,h1,z1b hu1 (by omega),hun⟩
   clear hb2 r1 r2 r3 hR2 hbB h1 hu1 hun S0 hnp;go_wp2;obtain ⟨r1,r2,r3,r8,r11⟩:=S1.out;have hH:=((r2.set 0 (.int .u64 (X:Int))).set 1 (.int .u64 (Y:Int))).set 2 (.slice ua np uc);have hb:=((r1.setCell (p:=⟨w.heap.size,0,none⟩) (Nat.le_refl _) (.int .u64 (X:Int))).setCell (p:=⟨w.heap.size,1,none⟩) (Nat.le_refl _) (.int .u64 (Y:Int))).setCell (p:=⟨w.heap.size,2,none⟩) (Nat.le_refl _) (.slice ua np uc);have hU:=((r8.kept (z1r w2 w.heap.size 0 (.int .u64 (X:Int))) (.inr fun e=>r11 e)).kept (z1r _ w.heap.size 1 (.int .u64 (Y:Int))) (.inr fun e=>r11 e)).kept (z1r _ w.heap.size 2 (.slice ua np uc)) (.inr fun e=>r11 e);clear x0 x1 x2 f0 f1 f2 S1 r1 r2 r8;generalize ((w2.setCell ⟨w.heap.size,0,none⟩ (.int .u64 (X:Int))).setCell ⟨w.heap.size,1,none⟩ (.int .u64 (Y:Int))).setCell ⟨w.heap.size,2,none⟩ (.slice ua np uc)=wf at *
   have z0:wf.cell? ⟨w.heap.size,0,none⟩=some (.int .u64 (X:Int)):=hH.cell 0;have z1:wf.cell? ⟨w.heap.size,1,none⟩=some (.int .u64 (Y:Int)):=hH.cell 1;have z2:wf.cell? ⟨w.heap.size,2,none⟩=some (.slice ua np uc):=hH.cell 2;refine bodyPost_ret (v:=.tuple #[.agg #[.int .u64 (X:Int),.int .u64 (Y:Int),.slice ua np uc],.int .i64 0]) ?_ rfl ⟨hb,.inr (.inl ⟨rfl,r3,_,rfl,by rw [HNP.out];exact hU⟩)⟩;simp [results,Tryz.f35,go_sem,z0,z1,z2]
  ·have S1:Aside (Below w.heap.size w w2/\Has w2 w.heap.size #[.int .u64 0,.int .u64 0,.slice none 0 0] 48/\j<P.length/\(∀ i,i<j->EN (P.getD i 0)=0)/\EN (P.getD j 0)≠0):=⟨hbB,hR2,hj,hj1,hj2⟩
   have hE':(EN (P.getD j 0) != 0)=true:=bne_iff_ne.2 hj2;clear hb2 r1 r2 r3 hR2 hbB hj hj1 hj2 S0;obtain ⟨EE,hEE⟩:∃ EE,EN (P.getD j 0)=EE:=⟨_,rfl⟩
   rw [hEE] at hE' ⊢;have HEE:Aside (EN (P.getD j 0)=EE):=hEE;clear hEE;go_wp2;obtain ⟨r1,r2,r3,r4,r5⟩:=S1.out;have hH:=((r2.set 0 (.int .u64 0)).set 1 (.int .u64 0)).set 2 (.slice none 0 0);have hb:=((r1.setCell (p:=⟨w.heap.size,0,none⟩) (Nat.le_refl _) (.int .u64 0)).setCell (p:=⟨w.heap.size,1,none⟩) (Nat.le_refl _) (.int .u64 0)).setCell (p:=⟨w.heap.size,2,none⟩) (Nat.le_refl _) (.slice none 0 0);clear x0 x1 x2 f0 f1 f2 S1 r1 r2;generalize ((w2.setCell ⟨w.heap.size,0,none⟩ (.int .u64 0)).setCell ⟨w.heap.size,1,none⟩ (.int .u64 0)).setCell ⟨w.heap.size,2,none⟩ (.slice none 0 0)=wf at *
   have z0:wf.cell? ⟨w.heap.size,0,none⟩=some (.int .u64 0):=hH.cell 0;have z1:wf.cell? ⟨w.heap.size,1,none⟩=some (.int .u64 0):=hH.cell 1;have z2:wf.cell? ⟨w.heap.size,2,none⟩=some (.slice none 0 0):=hH.cell 2;refine bodyPost_ret (v:=.tuple #[.agg #[.int .u64 0,.int .u64 0,.slice none 0 0],.int .i64 EE]) ?_ rfl ⟨hb,.inr (.inr ⟨rfl,j,r3,r4,r5,by rw [HEE.out]⟩)⟩;simp [results,Tryz.f35,go_sem,z0,z1,z2]
 ·have hE':(E != 0)=true:=by simp [hE]
  have x0:w1.cell? ⟨w.heap.size,0,none⟩=some (.int .u64 0):=hR1.cell 0;have x1:w1.cell? ⟨w.heap.size,1,none⟩=some (.int .u64 0):=hR1.cell 1;have x2:w1.cell? ⟨w.heap.size,2,none⟩=some (.slice none 0 0):=hR1.cell 2;have f0:=hR1.frozen 0;have f1:=hR1.frozen 1;have f2:=hR1.frozen 2;have S0:Aside (Below w.heap.size w w1/\Has w1 w.heap.size #[.int .u64 0,.int .u64 0,.slice none 0 0] 48/\¬ E=0):=⟨hbw,hR1,hE⟩
  clear hR hb0 hs0 hrow hb a1 a2 a3 hbw hR1 hsz HA hE;go_wp2;obtain ⟨r1,r2,r3⟩:=S0.out;have hH:=((r2.set 0 (.int .u64 0)).set 1 (.int .u64 0)).set 2 (.slice none 0 0);have hb:=((r1.setCell (p:=⟨w.heap.size,0,none⟩) (Nat.le_refl _) (.int .u64 0)).setCell (p:=⟨w.heap.size,1,none⟩) (Nat.le_refl _) (.int .u64 0)).setCell (p:=⟨w.heap.size,2,none⟩) (Nat.le_refl _) (.slice none 0 0);clear x0 x1 x2 f0 f1 f2 S0 r1 r2;generalize ((w1.setCell ⟨w.heap.size,0,none⟩ (.int .u64 0)).setCell ⟨w.heap.size,1,none⟩ (.int .u64 0)).setCell ⟨w.heap.size,2,none⟩ (.slice none 0 0)=wf at *
  have z0:wf.cell? ⟨w.heap.size,0,none⟩=some (.int .u64 0):=hH.cell 0;have z1:wf.cell? ⟨w.heap.size,1,none⟩=some (.int .u64 0):=hH.cell 1;have z2:wf.cell? ⟨w.heap.size,2,none⟩=some (.slice none 0 0):=hH.cell 2;refine bodyPost_ret (v:=.tuple #[.agg #[.int .u64 0,.int .u64 0,.slice none 0 0],.int .i64 E]) ?_ rfl ⟨hb,.inl ⟨r3,rfl⟩⟩;simp [results,Tryz.f35,go_sem,z0,z1,z2]
end Go.Proofs.YtlbcnaenhghieaaGreatDoor
namespace Go.Proofs.YtlbcnaenhghieaaGreatDoor.HX
open Go.RowKit
set_option maxRecDepth 100000
def PKV (d:Int) (f:Nat->Nat->Nat) (m:Nat):List (Nat->Nat):=(HS 0 m).map fun h=>VAL d f h (2*(m / 2 ^ (h+1)))
theorem zdO {m h:Nat} (hb:m / 2 ^ h % 2=1):(2*(m / 2 ^ (h+1))+1)*2 ^ h<=m:=by
 have e:m / 2 ^ h=2*(m / 2 ^ (h+1))+1:=by rw [z0r];omega
 rw [<-e];exact Nat.div_mul_le_self m (2 ^ h)
theorem FOREST.peak {w:World} {B g:Nat} {d:Int} {log n:Nat} {C:z01} {f:Nat->Nat->Nat} (hF:FOREST w B g d log n C f) {m i h:Nat} (hm:m<=n) (hi:(HS 0 m)[i]?=some h):
  PKP m h<2 ^ 40/\GOTH C log (z02 n) (PKP m h)=VAL d f h (2*(m / 2 ^ (h+1)))/\GOT C log (z02 n) (PKP m h)=0/\(z17 m)[i]?=some (PKP m h)/\(PKV d f m)[i]?=some (VAL d f h (2*(m / 2 ^ (h+1)))):=by
 have hb:=(z70 0 h (by decide) (List.mem_of_getElem? hi)).2.2;have hs:=Nat.le_trans (zdO hb) hm;have hlt:PKP m h<z02 n:=z3l hs;have hat:AT C log (PKP m h)=some (VAL d f h (2*(m / 2 ^ (h+1)))):=hF.node h _ hs;have:=hF.store.short;refine ⟨by omega,?_,?_,?_,?_⟩
 ·unfold GOTH
  rw [if_pos hlt,hat];rfl
 ·unfold GOT
  rw [if_pos hlt,hat];rfl
 ·rw [z17,List.getElem?_map,hi]
  rfl
 ·rw [PKV,List.getElem?_map,hi]
  rfl
end Go.Proofs.YtlbcnaenhghieaaGreatDoor.HX
