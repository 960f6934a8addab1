/- ManyClashes: part 9. -/
import Derived.Test.YtobaogpomcocpaaGreatDoorManyClashesP8
set_option maxRecDepth 100000
set_option maxHeartbeats 4000000
set_option linter.unusedSimpArgs false
open Go.RowKit
namespace Go.Proofs.YtobaogpomcocpaaGreatDoor
@[go_sem] def MU9OPSq0:Oper:=⟨some 48,.load 23 (.tmp 12),23,"climb.go:45",#[],none⟩
@[go_sem] def MU9OPSq1:Oper:=⟨some 49,.load 23 (.tmp 13),23,"climb.go:45",#[],none⟩
@[go_sem] def MU9OPSq2:Oper:=⟨some 50,.move (.tmp 0),148,"climb.go:45",#[],none⟩
@[go_sem] def MU9OPSq3:Oper:=⟨some 51,.nilCheck (.tmp 50),0,"climb.go:45",#[⟨2,.data⟩],none⟩
@[go_sem] def MU9OPSq4:Oper:=⟨some 52,.fieldAddr 118 (.tmp 51) 0,0,"climb.go:45",#[⟨3,.data⟩],none⟩
@[go_sem] def MU9OPSq5:Oper:=⟨some 53,.load 3 (.tmp 52),3,"climb.go:45",#[⟨4,.data⟩],none⟩
@[go_sem] def MU9OPSq6:Oper:=⟨some 54,.load 23 (.tmp 12),23,"climb.go:45",#[],none⟩
@[go_sem] def MU9OPSq7:Oper:=⟨some 55,.load 23 (.tmp 13),23,"climb.go:45",#[],none⟩
@[go_sem] def MU9OPSq8:Oper:=⟨some 56,.call {callee:=.value (.func 116),args:=#[.tmp 53,.tmp 54,.tmp 55],argTypes:=#[3,23,23]},23,"climb.go:45",#[⟨5,.data⟩,⟨6,.data⟩,⟨7,.data⟩],none⟩
@[go_sem] def MU9OPSq9:Oper:=⟨some 57,.build 56 #[(0,.tmp 48),(1,.tmp 49),(2,.tmp 56)],56,"climb.go:45",#[⟨0,.data⟩,⟨1,.data⟩,⟨8,.data⟩],none⟩
@[go_sem] def MU9OPSq10:Oper:=⟨some 14,.alloc 56,0,"climb.go:45",#[],none⟩
@[go_sem] def MU9OPSq11:Oper:=⟨none,.store 56 (.tmp 14) (.tmp 57),0,"climb.go:45",#[⟨10,.data⟩,⟨9,.data⟩,⟨8,.chain⟩,⟨0,.phase⟩,⟨1,.phase⟩,⟨2,.phase⟩,⟨3,.phase⟩,⟨4,.phase⟩,⟨5,.phase⟩,⟨6,.phase⟩,⟨7,.phase⟩,⟨8,.phase⟩,⟨9,.phase⟩,⟨10,.phase⟩],none⟩
def qY:Array Oper:=#[MU9OPSq0,MU9OPSq1,MU9OPSq2,MU9OPSq3,MU9OPSq4,MU9OPSq5,MU9OPSq6,MU9OPSq7,MU9OPSq8,MU9OPSq9,MU9OPSq10,MU9OPSq11]
theorem mup9{Q:Exit->Act->World->Prop}{f g i j k l m n p q r s u x y C D E F G H I J K L M N O R T U V X Z aa ab ac ad ae af ag ah ai aj ak al am an ao ap aq ar au av aw ax ay az aA aB aC aD aE:Value}(W:World)(d:Int)(bc bl br:Nat)(A B Y:List Int)(lA:A.length=32)(lB:B.length=32)(lY:Y.length=32)(P0 P1:World->Prop)(PA PB P2:Nat->World->Prop)(h0:P0 W.drew)(t0:∀ w,P0 w->(fun w:World=>w.rangeAt bl 0 (za A)/\w.rangeAt br 0 (za B)/\w.cell? ⟨bc,0,none⟩=some (.int .i64 d)) w)(t1:∀ w,P1 w->(fun w:World=>w.rangeAt bl 0 (za A)/\w.rangeAt br 0 (za B)/\w.cell? ⟨bc,0,none⟩=some (.int .i64 d)) w)(tA:∀ b w,PA b w->(fun w:World=>w.rangeAt bl 0 (za A)/\w.rangeAt br 0 (za B)/\w.cell? ⟨bc,0,none⟩=some (.int .i64 d)) w)(tB:∀ b w,PB b w->(fun w:World=>w.rangeAt bl 0 (za A)/\w.rangeAt br 0 (za B)/\w.cell? ⟨bc,0,none⟩=some (.int .i64 d)) w)(t2:∀ b w,P2 b w->(fun w:World=>w.rangeAt bl 0 (za A)/\w.rangeAt br 0 (za B)/\w.cell? ⟨bc,0,none⟩=some (.int .i64 d)) w)
  (c0:∀ w,P0 w->Calls Tryz.prog 116 #[.int .i64 d,.agg (za A).toArray,.agg (za B).toArray] w fun e w'=>e=.returned (.agg (za Y).toArray)/\P1 w')(cA:∀ b w,PA b w->Calls Tryz.prog 116 #[.int .i64 d,.agg (za A).toArray,.agg (za B).toArray] w fun e w'=>e=.returned (.agg (za Y).toArray)/\PB b w')(a0:∀ w,P0 w->PA w.heap.size (w.alloc (.cells (MSTP ZND ZND ZND) 56)))(a1:∀ w,P1 w->PB w.heap.size (w.alloc (.cells (MSTP ZND ZND ZND) 56)))(st:∀ b w,PB b w->Has w b (MSTP ZND ZND ZND) 56)(s2:∀ b w,PB b w->P2 b (w.setRow b (MSTP A B Y)))(hQ:∀ c (a:Act) (t:Tmp) (v:Value) w,Q (.panic c) (a.put (some t) v) w->Q (.panic c) a w)
  (hfin:∀ (b14:Nat) (w:World),(P2 b14 w)->Q .normal ⟨#[.pointer (some ⟨bc,0,none⟩),f,g,i,j,k,l,m,n,p,q,r,.pointer (some ⟨bl,0,none⟩),.pointer (some ⟨br,0,none⟩),.pointer (some ⟨b14,0,none⟩),u,x,y,C,D,E,F,G,H,I,J,K,L,M,N,O,R,T,U,V,X,Z,aa,ab,ac,ad,ae,af,ag,ah,ai,aj,ak,.agg (za A).toArray,.agg (za B).toArray,.pointer (some ⟨bc,0,none⟩),.pointer (some ⟨bc,0,none⟩),.pointer (some ⟨bc,0,none⟩),.int .i64 d,.agg (za A).toArray,.agg (za B).toArray,.agg (za Y).toArray,.agg (MSTP A B Y),ax,ay,az,aA,aB,aC,aD,aE],[]⟩ w):(Code.region 9 qY true).wp Tryz.prog Q ⟨#[.pointer (some ⟨bc,0,none⟩),f,g,i,j,k,l,m,n,p,q,r,.pointer (some ⟨bl,0,none⟩),.pointer (some ⟨br,0,none⟩),s,u,x,y,C,D,E,F,G,H,I,J,K,L,M,N,O,R,T,U,V,X,Z,aa,ab,ac,ad,ae,af,ag,ah,ai,aj,ak,al,am,an,ao,ap,aq,ar,au,av,aw,ax,ay,az,aA,aB,aC,aD,aE],[]⟩ W:=by
 have kst8_10_11:∀ (b14:Nat) (w:World),(P2 b14 w)->wpAnyH Tryz.prog .any qY Q (fun w:World=>w.rangeAt bl 0 (za A)/\w.rangeAt br 0 (za B)/\w.cell? ⟨bc,0,none⟩=some (.int .i64 d)) 0 #[tt,tt,tt,tt,tt,tt,tt,tt,tt,tt,tt,tt] ⟨#[.pointer (some ⟨bc,0,none⟩),f,g,i,j,k,l,m,n,p,q,r,.pointer (some ⟨bl,0,none⟩),.pointer (some ⟨br,0,none⟩),.pointer (some ⟨b14,0,none⟩),u,x,y,C,D,E,F,G,H,I,J,K,L,M,N,O,R,T,U,V,X,Z,aa,ab,ac,ad,ae,af,ag,ah,ai,aj,ak,.agg (za A).toArray,.agg (za B).toArray,.pointer (some ⟨bc,0,none⟩),.pointer (some ⟨bc,0,none⟩),.pointer (some ⟨bc,0,none⟩),.int .i64 d,.agg (za A).toArray,.agg (za B).toArray,.agg (za Y).toArray,.agg (MSTP A B Y),ax,ay,az,aA,aB,aC,aD,aE],[]⟩ w:=fun b14 w hp=>by
  exact wpAnyH_done (by kernel_rfl) (hfin b14 w hp) _
 have kst8_10:∀ (b14:Nat) (w:World),(PB b14 w)->wpAnyH Tryz.prog .any qY Q (fun w:World=>w.rangeAt bl 0 (za A)/\w.rangeAt br 0 (za B)/\w.cell? ⟨bc,0,none⟩=some (.int .i64 d)) 1 #[tt,tt,tt,tt,tt,tt,tt,tt,tt,tt,tt,ff] ⟨#[.pointer (some ⟨bc,0,none⟩),f,g,i,j,k,l,m,n,p,q,r,.pointer (some ⟨bl,0,none⟩),.pointer (some ⟨br,0,none⟩),.pointer (some ⟨b14,0,none⟩),u,x,y,C,D,E,F,G,H,I,J,K,L,M,N,O,R,T,U,V,X,Z,aa,ab,ac,ad,ae,af,ag,ah,ai,aj,ak,.agg (za A).toArray,.agg (za B).toArray,.pointer (some ⟨bc,0,none⟩),.pointer (some ⟨bc,0,none⟩),.pointer (some ⟨bc,0,none⟩),.int .i64 d,.agg (za A).toArray,.agg (za B).toArray,.agg (za Y).toArray,.agg (MSTP A B Y),ax,ay,az,aA,aB,aC,aD,aE],[]⟩ w:=fun b14 w hp=>by
  refine wpAnyH_ready (rs:=[11]) (by kernel_rfl) (by simp) ?_;refine AllReadyH.cons (o:=MU9OPSq11) rfl (fun KQ hKQ=>?_) ?_
  ·exact yt (by rfl) (y8 (kT (st _ w hp) lA lB lY)) (have hp:(fun(b14:Nat) (w:World)=>(P2 b14 w)) b14 _:=s2 _ w hp;hKQ.out _ _ (t2 _ _ hp) (fun _=>kst8_10_11 b14 _ hp))
  exact AllReadyH.nil
 have kst10:∀ (b14:Nat) (w:World),(PA b14 w)->wpAnyH Tryz.prog .any qY Q (fun w:World=>w.rangeAt bl 0 (za A)/\w.rangeAt br 0 (za B)/\w.cell? ⟨bc,0,none⟩=some (.int .i64 d)) 3 #[tt,tt,tt,tt,tt,tt,tt,tt,ff,ff,tt,ff] ⟨#[.pointer (some ⟨bc,0,none⟩),f,g,i,j,k,l,m,n,p,q,r,.pointer (some ⟨bl,0,none⟩),.pointer (some ⟨br,0,none⟩),.pointer (some ⟨b14,0,none⟩),u,x,y,C,D,E,F,G,H,I,J,K,L,M,N,O,R,T,U,V,X,Z,aa,ab,ac,ad,ae,af,ag,ah,ai,aj,ak,.agg (za A).toArray,.agg (za B).toArray,.pointer (some ⟨bc,0,none⟩),.pointer (some ⟨bc,0,none⟩),.pointer (some ⟨bc,0,none⟩),.int .i64 d,.agg (za A).toArray,.agg (za B).toArray,av,aw,ax,ay,az,aA,aB,aC,aD,aE],[]⟩ w:=fun b14 w hp=>by
  refine wpAnyH_ready (rs:=[8]) (by kernel_rfl) (by simp) ?_;refine AllReadyH.cons (o:=MU9OPSq8) rfl (fun KQ hKQ=>?_) ?_
  ·rw[if_pos (by rfl)]
   go_simp;refine(show Calls _ _ _ w (fun e w'=>e=.returned (.agg (za Y).toArray)/\(PB b14 w')) from cA _ w hp).mono ?_;rintro e w ⟨rfl,hp⟩;refine hKQ.out _ _ (tB _ _ hp) (fun _=>?_);simp only[List.setIfInBounds_toArray,List.set];have hww:(fun w:World=>w.rangeAt bl 0 (za A)/\w.rangeAt br 0 (za B)/\w.cell? ⟨bc,0,none⟩=some (.int .i64 d)) w:=tB _ _ hp;have last:=kst8_10 b14 w hp;refine tkH MU9OPSq9 (.agg (MSTP A B Y)) 9 hQ (Or.inl ⟨by rfl,fun w _=>Yu (by rw[List.map_toArray];exact run_build (P:=Tryz.prog) w 56 _ _ (JM A B Y lA lB lY))⟩) hww ?_;simp only[List.set];exact last
  exact AllReadyH.nil
 have kst:∀ (w:World),(P0 w)->wpAnyH Tryz.prog .any qY Q (fun w:World=>w.rangeAt bl 0 (za A)/\w.rangeAt br 0 (za B)/\w.cell? ⟨bc,0,none⟩=some (.int .i64 d)) 4 #[tt,tt,tt,tt,tt,tt,tt,tt,ff,ff,ff,ff] ⟨#[.pointer (some ⟨bc,0,none⟩),f,g,i,j,k,l,m,n,p,q,r,.pointer (some ⟨bl,0,none⟩),.pointer (some ⟨br,0,none⟩),s,u,x,y,C,D,E,F,G,H,I,J,K,L,M,N,O,R,T,U,V,X,Z,aa,ab,ac,ad,ae,af,ag,ah,ai,aj,ak,.agg (za A).toArray,.agg (za B).toArray,.pointer (some ⟨bc,0,none⟩),.pointer (some ⟨bc,0,none⟩),.pointer (some ⟨bc,0,none⟩),.int .i64 d,.agg (za A).toArray,.agg (za B).toArray,av,aw,ax,ay,az,aA,aB,aC,aD,aE],[]⟩ w:=fun  w hp=>by
  refine wpAnyH_ready (rs:=[8,10]) (by kernel_rfl) (by simp) ?_;refine AllReadyH.cons (o:=MU9OPSq8) rfl (fun KQ hKQ=>?_) ?_
  ·rw[if_pos (by rfl)]
   go_simp;refine(show Calls _ _ _ w (fun e w'=>e=.returned (.agg (za Y).toArray)/\(P1 w')) from c0 w hp).mono ?_;rintro e w ⟨rfl,hp⟩;refine hKQ.out _ _ (t1 _ hp) (fun _=>?_);simp only[List.setIfInBounds_toArray,List.set];have hww:(fun w:World=>w.rangeAt bl 0 (za A)/\w.rangeAt br 0 (za B)/\w.cell? ⟨bc,0,none⟩=some (.int .i64 d)) w:=t1 _ hp;refine tkH MU9OPSq9 (.agg (MSTP A B Y)) 9 hQ (Or.inl ⟨by rfl,fun w _=>Yu (by rw[List.map_toArray];exact run_build (P:=Tryz.prog) w 56 _ _ (JM A B Y lA lB lY))⟩) hww ?_;simp only[List.set];refine wpAnyH_ready (rs:=[10]) (by kernel_rfl) (by simp) ?_;refine AllReadyH.cons (o:=MU9OPSq10) rfl (fun KQ hKQ=>?_) ?_
   ·exact zP (by rfl) (JN w _ rfl) (have hp:(fun(b14:Nat) (w:World)=>(PB b14 w)) w.heap.size _:=a1 w hp;hKQ.out _ _ (tB _ _ hp) (fun _=>kst8_10 w.heap.size _ hp))
   exact AllReadyH.nil
  refine AllReadyH.cons (o:=MU9OPSq10) rfl (fun KQ hKQ=>?_) ?_
  ·exact zP (by rfl) (JN w _ rfl) (have hp:(fun(b14:Nat) (w:World)=>(PA b14 w)) w.heap.size _:=a0 w hp;hKQ.out _ _ (tA _ _ hp) (fun _=>kst10 w.heap.size _ hp))
  exact AllReadyH.nil
 have hp:=h0;have hww:(fun w:World=>w.rangeAt bl 0 (za A)/\w.rangeAt br 0 (za B)/\w.cell? ⟨bc,0,none⟩=some (.int .i64 d)) W.drew:=t0 _ hp;have last:=kst W.drew hp
 have z:wpAnyH Tryz.prog .any qY Q (fun w:World=>w.rangeAt bl 0 (za A)/\w.rangeAt br 0 (za B)/\w.cell? ⟨bc,0,none⟩=some (.int .i64 d)) 12 #[ff,ff,ff,ff,ff,ff,ff,ff,ff,ff,ff,ff] ⟨#[.pointer (some ⟨bc,0,none⟩),f,g,i,j,k,l,m,n,p,q,r,.pointer (some ⟨bl,0,none⟩),.pointer (some ⟨br,0,none⟩),s,u,x,y,C,D,E,F,G,H,I,J,K,L,M,N,O,R,T,U,V,X,Z,aa,ab,ac,ad,ae,af,ag,ah,ai,aj,ak,al,am,an,ao,ap,aq,ar,au,av,aw,ax,ay,az,aA,aB,aC,aD,aE],[]⟩ W.drew:=by
  refine tkH MU9OPSq0 (.agg (za A).toArray) 0 hQ (yieldsIf_load_mid (by rfl) 23 (.tmp 12) rfl bl 0 rfl (za A) _ (fun w h=>h.1) Tryz.underlying23 rfl (zo lA)) hww ?_;simp only[List.set];refine tkH MU9OPSq1 (.agg (za B).toArray) 1 hQ (yieldsIf_load_mid (by rfl) 23 (.tmp 13) rfl br 0 rfl (za B) _ (fun w h=>h.2.1) Tryz.underlying23 rfl (zo lB)) hww ?_;simp only[List.set];refine tkP MU9OPSq2 (.pointer (some ⟨bc,0,none⟩)) 2 hQ hww ?_;simp only[List.set];refine tkP MU9OPSq3 (.pointer (some ⟨bc,0,none⟩)) 3 hQ hww ?_;simp only[List.set];refine tkP MU9OPSq4 (.pointer (some ⟨bc,0,none⟩)) 4 hQ hww ?_;simp only[List.set];refine tkH MU9OPSq5 (.int .i64 d) 5 hQ (Or.inl ⟨by rfl,fun w hw=>by have hx:=hw.2.2;go_simp⟩) hww ?_;simp only[List.set];refine tkH MU9OPSq6 (.agg (za A).toArray) 6 hQ (yieldsIf_load_mid (by rfl) 23 (.tmp 12) rfl bl 0 rfl (za A) _ (fun w h=>h.1) Tryz.underlying23 rfl (zo lA)) hww ?_;simp only[List.set];refine tkH MU9OPSq7 (.agg (za B).toArray) 7 hQ (yieldsIf_load_mid (by rfl) 23 (.tmp 13) rfl br 0 rfl (za B) _ (fun w h=>h.2.1) Tryz.underlying23 rfl (zo lB)) hww ?_;simp only[List.set];exact last
 exact wp_region_held_drew (S:=(fun w:World=>w.rangeAt bl 0 (za A)/\w.rangeAt br 0 (za B)/\w.cell? ⟨bc,0,none⟩=some (.int .i64 d))) (by kernel_rfl) hww (fun _=>z)
@[go_sem] def MU10OPSq0:Oper:=⟨some 58,.move (.tmp 0),148,"climb.go:46",#[],none⟩
@[go_sem] def MU10OPSq1:Oper:=⟨some 59,.nilCheck (.tmp 58),0,"climb.go:46",#[⟨0,.data⟩],none⟩
@[go_sem] def MU10OPSq2:Oper:=⟨some 60,.fieldAddr 118 (.tmp 59) 3,0,"climb.go:46",#[⟨1,.data⟩],none⟩
@[go_sem] def MU10OPSq3:Oper:=⟨some 61,.load 81 (.tmp 60),81,"climb.go:46",#[⟨2,.data⟩],none⟩
@[go_sem] def MU10OPSq4:Oper:=⟨some 62,.load 56 (.tmp 14),56,"climb.go:46",#[],none⟩
@[go_sem] def MU10OPSq5:Oper:=⟨some 63,.call {callee:=.value (.tmp 61),args:=#[.tmp 62],argTypes:=#[56]},0,"climb.go:46",#[⟨3,.data⟩,⟨4,.data⟩],none⟩
def xZ:Array Oper:=#[MU10OPSq0,MU10OPSq1,MU10OPSq2,MU10OPSq3,MU10OPSq4,MU10OPSq5]
theorem z2N{Q:Exit->Act->World->Prop}{b d f g i j k l m n p q r s u x y C D E F G H I J K L M N O P R T U V X Z aa ab ac ad ae af ag ah ai aj ak al am an ao ap aq ar au av aw ax ay az aA aB aC:Value}(W:World)(bc bs:Nat)(A B Y:List Int)(lA:A.length=32)(lB:B.length=32)(lY:Y.length=32)(P0 P1:World->Prop)(h0:P0 W.drew)(t0:∀ w,P0 w->(fun w:World=>w.rangeAt bs 0 (za A ++ za B ++ za Y)/\w.cell? ⟨bc,3,none⟩=some (.func (.func 74) #[] #[])) w)(t1:∀ w,P1 w->(fun w:World=>w.rangeAt bs 0 (za A ++ za B ++ za Y)/\w.cell? ⟨bc,3,none⟩=some (.func (.func 74) #[] #[])) w)
  (c0:∀ w,P0 w->Calls Tryz.prog 74 #[.agg (MSTP A B Y)] w fun e w'=>e=.returned (.tuple #[])/\P1 w')(hQ:∀ c (a:Act) (t:Tmp) (v:Value) w,Q (.panic c) (a.put (some t) v) w->Q (.panic c) a w)
  (hfin:∀ (w:World),(P1 w)->Q .normal ⟨#[.pointer (some ⟨bc,0,none⟩),b,d,f,g,i,j,k,l,m,n,p,q,r,.pointer (some ⟨bs,0,none⟩),s,u,x,y,C,D,E,F,G,H,I,J,K,L,M,N,O,P,R,T,U,V,X,Z,aa,ab,ac,ad,ae,af,ag,ah,ai,aj,ak,al,am,an,ao,ap,aq,ar,au,.pointer (some ⟨bc,0,none⟩),.pointer (some ⟨bc,0,none⟩),.pointer (some ⟨bc,3,none⟩),.func (.func 74) #[] #[],.agg (MSTP A B Y),.tuple #[],aB,aC],[]⟩ w):(Code.region 10 xZ true).wp Tryz.prog Q ⟨#[.pointer (some ⟨bc,0,none⟩),b,d,f,g,i,j,k,l,m,n,p,q,r,.pointer (some ⟨bs,0,none⟩),s,u,x,y,C,D,E,F,G,H,I,J,K,L,M,N,O,P,R,T,U,V,X,Z,aa,ab,ac,ad,ae,af,ag,ah,ai,aj,ak,al,am,an,ao,ap,aq,ar,au,av,aw,ax,ay,az,aA,aB,aC],[]⟩ W:=by
 have kst:∀ (w:World),(P0 w)->wpAnyH Tryz.prog .any xZ Q (fun w:World=>w.rangeAt bs 0 (za A ++ za B ++ za Y)/\w.cell? ⟨bc,3,none⟩=some (.func (.func 74) #[] #[])) 1 #[tt,tt,tt,tt,tt,ff] ⟨#[.pointer (some ⟨bc,0,none⟩),b,d,f,g,i,j,k,l,m,n,p,q,r,.pointer (some ⟨bs,0,none⟩),s,u,x,y,C,D,E,F,G,H,I,J,K,L,M,N,O,P,R,T,U,V,X,Z,aa,ab,ac,ad,ae,af,ag,ah,ai,aj,ak,al,am,an,ao,ap,aq,ar,au,.pointer (some ⟨bc,0,none⟩),.pointer (some ⟨bc,0,none⟩),.pointer (some ⟨bc,3,none⟩),.func (.func 74) #[] #[],.agg (MSTP A B Y),aA,aB,aC],[]⟩ w:=fun  w hp=>by
  refine wpAnyH_ready (rs:=[5]) (by kernel_rfl) (by simp) ?_;refine AllReadyH.cons (o:=MU10OPSq5) rfl (fun KQ hKQ=>?_) ?_
  ·rw[if_pos (by rfl)]
   go_simp;refine(show Calls _ _ _ w (fun e w'=>e=.returned (.tuple #[])/\(P1 w')) from c0 w hp).mono ?_;rintro e w ⟨rfl,hp⟩;refine hKQ.out _ _ (t1 _ hp) (fun _=>?_);simp only[List.setIfInBounds_toArray,List.set];exact wpAnyH_done (by kernel_rfl) (hfin  w hp) _
  exact AllReadyH.nil
 have hp:=h0;have hww:(fun w:World=>w.rangeAt bs 0 (za A ++ za B ++ za Y)/\w.cell? ⟨bc,3,none⟩=some (.func (.func 74) #[] #[])) W.drew:=t0 _ hp;have last:=kst W.drew hp
 have z:wpAnyH Tryz.prog .any xZ Q (fun w:World=>w.rangeAt bs 0 (za A ++ za B ++ za Y)/\w.cell? ⟨bc,3,none⟩=some (.func (.func 74) #[] #[])) 6 #[ff,ff,ff,ff,ff,ff] ⟨#[.pointer (some ⟨bc,0,none⟩),b,d,f,g,i,j,k,l,m,n,p,q,r,.pointer (some ⟨bs,0,none⟩),s,u,x,y,C,D,E,F,G,H,I,J,K,L,M,N,O,P,R,T,U,V,X,Z,aa,ab,ac,ad,ae,af,ag,ah,ai,aj,ak,al,am,an,ao,ap,aq,ar,au,av,aw,ax,ay,az,aA,aB,aC],[]⟩ W.drew:=by
  refine tkP MU10OPSq0 (.pointer (some ⟨bc,0,none⟩)) 0 hQ hww ?_;simp only[List.set];refine tkP MU10OPSq1 (.pointer (some ⟨bc,0,none⟩)) 1 hQ hww ?_;simp only[List.set];refine tkP MU10OPSq2 (.pointer (some ⟨bc,3,none⟩)) 2 hQ hww ?_;simp only[List.set];refine tkH MU10OPSq3 (.func (.func 74) #[] #[]) 3 hQ (Or.inl ⟨by rfl,fun w hw=>by have hx:=hw.2;go_simp⟩) hww ?_;simp only[List.set];refine tkH MU10OPSq4 (.agg (MSTP A B Y)) 4 hQ (yieldsIf_load_mid (by rfl) 56 (.tmp 14) rfl bs 0 rfl (za A ++ za B ++ za Y) _ (fun w h=>h.1) Tryz.underlying56 rfl (jg lA lB lY)) hww ?_;simp only[List.set];exact last
 exact wp_region_held_drew (S:=(fun w:World=>w.rangeAt bs 0 (za A ++ za B ++ za Y)/\w.cell? ⟨bc,3,none⟩=some (.func (.func 74) #[] #[]))) (by kernel_rfl) hww (fun _=>z)
def Yj:Value:=.func (.func 74) #[] #[]
def LSH(w0:World)(bc:Nat)(v:Value)(n:Nat)(l:List Int):Prop:=∃ a c,v=.slice a n c/\n<=c/\Flat w0 a n l/\∀ x,a=some x->x.block≠bc
def CLB(w0 w:World)(bc:Nat)(d:Int)(lv nd:List Int)(i j:Nat):Prop:=(∃ vl vn,Has w bc #[.int .i64 d,vl,vn,Yj] 118/\LSH w0 bc vl i lv/\LSH w0 bc vn j nd)/\BUT bc w0 w
theorem CLB.still{w0 w w':World}{bc:Nat}{d:Int}{lv nd:List Int}{i j:Nat}(h:CLB w0 w bc d lv nd i j)(hb:Below w.heap.size w w'):CLB w0 w' bc d lv nd i j:=by
 obtain⟨⟨vl,vn,h1,h2⟩,h3⟩:=h;exact⟨⟨vl,vn,h1.keep hb,h2⟩,h3.trans (BUT.of_below hb (Nat.le_of_lt h1.lt))⟩
theorem CLB.lt{w0 w:World}{bc:Nat}{d:Int}{lv nd:List Int}{i j:Nat}(h:CLB w0 w bc d lv nd i j):bc<w.heap.size:=by
 obtain⟨⟨vl,vn,h1,h2⟩,h3⟩:=h;exact h1.lt
theorem LSH.hss{w0:World}{bc:Nat}{v:Value}{n:Nat}{l:List Int}(h:LSH w0 bc v n l):HSS n l:=by
 obtain⟨a,c,_,_,h,_⟩:=h;exact⟨h.1,h.2.2⟩
theorem LSH.rest{w0:World}{bc b o n c:Nat}{l:List Int}(hF:Flat w0 (some ⟨b,o,none⟩) n l)(hc:n<=c)(hn:0<n)(hb:b≠bc):LSH w0 bc (.slice (SLA (some ⟨b,o,none⟩) c 1) (n - 1) (c - 1)) (n - 1) (l.drop 32):=by
 refine⟨_,_,rfl,by omega,hF.behind 1 hn hc,fun x hx=>?_⟩;unfold SLA at hx;dsimp only at hx;split at hx <;> cases hx <;> exact hb
theorem gJ{w0 w:World}{bc:Nat}{d:Int}{lv nd:List Int}{i j:Nat}(h:CLB w0 w bc d lv nd i j)(hj:0<j):
  Calls Tryz.prog 114 #[.pointer (some ⟨bc,2,none⟩)] w fun e w'=>e=.returned (.agg (za (HSH nd 0)).toArray)/\CLB w0 w' bc d lv (nd.drop 32) i (j - 1)/\BUT bc w w':=by
 obtain⟨⟨vl,vn,h1,h2,⟨a,c,rfl,hc,hF,ha⟩⟩,h3⟩:=h;obtain⟨b,o,rfl,hlt,_⟩:=hF.2.1 hj;have hb:b≠bc:=ha _ rfl;refine(ZR bc 2 b o j c nd _ w h1 rfl hj hc hb (hF.but h3 ha)).mono ?_;rintro e w' ⟨rfl,q1,q2⟩;exact⟨rfl,⟨⟨vl,_,q1,h2,LSH.rest hF hc hj hb⟩,h3.trans q2⟩,q2⟩
theorem kU{w0 w:World}{bc:Nat}{d:Int}{lv nd:List Int}{i j:Nat}(h:CLB w0 w bc d lv nd i j)(hi:0<i):
  Calls Tryz.prog 114 #[.pointer (some ⟨bc,1,none⟩)] w fun e w'=>e=.returned (.agg (za (HSH lv 0)).toArray)/\CLB w0 w' bc d (lv.drop 32) nd (i - 1) j/\BUT bc w w':=by
 obtain⟨⟨vl,vn,h1,⟨a,c,rfl,hc,hF,ha⟩,h2⟩,h3⟩:=h;obtain⟨b,o,rfl,hlt,_⟩:=hF.2.1 hi;have hb:b≠bc:=ha _ rfl;refine(ZR bc 1 b o i c lv _ w h1 rfl hi hc hb (hF.but h3 ha)).mono ?_;rintro e w' ⟨rfl,q1,q2⟩;exact⟨rfl,⟨⟨_,vn,q1,LSH.rest hF hc hi hb,h2⟩,h3.trans q2⟩,q2⟩
theorem qu{w:World}{g:Nat}{l:List Value}{t:TypeId}(h:Has w g l.toArray t):w.rangeAt g 0 l:=fun j v hv=>by rw[Nat.zero_add,h.cell,List.getElem?_toArray];exact hv
theorem M9(A B Y:List Int)(w:World):Calls Tryz.prog 74 #[.agg (MSTP A B Y)] w fun e w'=>e=.returned (.tuple #[])/\Below w.heap.size w w':=by
 obtain⟨V,hV⟩:∃ V,MSTP A B Y=V:=⟨_,rfl⟩
 rw[hV];have hb:Aside (Below w.heap.size w (w.alloc (.cells V 56))):=(Below.refl _ _).alloc (Nat.le_refl _) _;go_enter Tryz.func74,Tryz.ntmps74;go_wp2_with fail
 exact bodyPost_end (v:=.tuple #[]) (by simp[results,Tryz.f74]) rfl ⟨rfl,hb.out⟩
theorem BUT.set_new{bc g:Nat}{w w':World}(h:BUT bc w w')(hg:w.heap.size<=g)(hc:bc<w.heap.size)(cs:Array Value):BUT bc w (w'.setRow g cs):=
 ⟨fun q hq hne=>(setRow_other w' g q cs (by omega)).trans (h.1 q hq hne),zm h.2 (by omega) cs⟩
theorem CLB.set_new{w0 w:World}{bc g:Nat}{d:Int}{lv nd:List Int}{i j:Nat}(h:CLB w0 w bc d lv nd i j)(hg:w0.heap.size<=g)(hc:bc<w0.heap.size)(cs:Array Value):CLB w0 (w.setRow g cs) bc d lv nd i j:=by
 obtain⟨⟨vl,vn,h1,h2⟩,h3⟩:=h;exact⟨⟨vl,vn,h1.row_other (by omega) cs,h2⟩,h3.set_new hg hc cs⟩
theorem uB(w0 w:World)(bc:Nat)(d:Int)(p:Int)(lv nd:List Int)(i j c:Nat)(a:Option Addr)(hC:CLB w0 w bc d lv nd i j)(hc0:bc<w0.heap.size)(hj:0<j)(y32:(HSH nd 0).length=32):
  Calls Tryz.prog 80 #[.pointer (some ⟨bc,0,none⟩),.int .u64 p,.slice a 0 c] w fun e w'=>e=.returned (.agg (za (HSH nd 0)).toArray)/\CLB w0 w' bc d lv (nd.drop 32) i (j - 1)/\BUT bc w w':=by
 have hlt:=hC.lt;have hs0:w0.heap.size<=w.heap.size:=hC.2.2.size;obtain⟨W0,hW0⟩:∃ W0,w.alloc (.cells ZARR 23)=W0:=⟨_,rfl⟩
 have hb0:Below w.heap.size w W0:=by rw[<-hW0];exact(Below.refl _ _).alloc (Nat.le_refl _) _
 have hH0:Has W0 w.heap.size (za ZND).toArray 23:=by rw[<-hW0,zQ];exact Has.new _ _ _
 have cn:=gJ (hC.still hb0) hj;have HA:Aside (Below w.heap.size w W0/\Has W0 w.heap.size (za ZND).toArray 23/\bc<w0.heap.size/\w0.heap.size<=w.heap.size/\bc<w.heap.size):=⟨hb0,hH0,hc0,hs0,hlt⟩
 clear hC hb0 hH0 hc0 hs0 hlt hj;generalize HSH nd 0=Y at *
 generalize nd.drop 32=nd' at *
 generalize j - 1=j' at *
 go_enter Tryz.func80,Tryz.ntmps80;go_upto_region 2 with fail
 clear hW0;go_wp2_with fail
 refine cn.mono ?_;rintro e w1 ⟨rfl,q1,q2⟩;clear cn;have H1:Has w1 w.heap.size (za ZND).toArray 23:=(q2.1 _ (HA.out.2.1.lt) (by have:=HA.out.2.2.2.2;omega)).trans HA.out.2.1
 have FN:Aside (CLB w0 (w1.setRow w.heap.size (za Y).toArray) bc d lv nd' i j'/\BUT bc w (w1.setRow w.heap.size (za Y).toArray)):=
  ⟨q1.set_new HA.out.2.2.2.1 HA.out.2.2.1 _,((BUT.of_below HA.out.1 (Nat.le_of_lt HA.out.2.2.2.2)).trans q2).set_new (Nat.le_refl _) HA.out.2.2.2.2 _⟩
 clear q1 q2 HA;go_wp2_with (refine wpList_store_row rfl 23 (.tmp 6) (.tmp 21) rfl _ _ rfl rfl 23 _ H1 (zd y32) (by simp[za,y32];rfl) (zx Y) ?_)
 refine bodyPost_ret (v:=.agg (za Y).toArray) (xL rfl _ _ w.heap.size 23 _ (0,0) _ _ rfl (Has.row H1 _) Tryz.underlying23 (zd y32)) rfl ⟨rfl,FN.out⟩
theorem z1u(w0 w:World)(bc:Nat)(d:Int)(k:Nat)(hN:Node 0 k)(lv nd:List Int)(i j n c:Nat)(a:Option Addr)(hn:0<n)(hC:CLB w0 w bc d lv nd i j)(hc0:bc<w0.heap.size)(hi:0<i)(y32:(HSH lv 0).length=32):
  Calls Tryz.prog 80 #[.pointer (some ⟨bc,0,none⟩),.int .u64 ((PLC 0 k:Nat):Int),.slice a n c] w fun e w'=>e=.returned (.agg (za (HSH lv 0)).toArray)/\CLB w0 w' bc d (lv.drop 32) nd (i - 1) j/\BUT bc w w':=by
 have hlt:=hC.lt;have hs0:w0.heap.size<=w.heap.size:=hC.2.2.size;have hn0:((n:Int) == 0)=false:=beq_eq_false_iff_ne.2 (by omega);obtain⟨W0,hW0⟩:∃ W0,w.alloc (.cells ZARR 23)=W0:=⟨_,rfl⟩
 have hb0:Below w.heap.size w W0:=by rw[<-hW0];exact(Below.refl _ _).alloc (Nat.le_refl _) _
 have hH0:Has W0 w.heap.size (za ZND).toArray 23:=by rw[<-hW0,zQ];exact Has.new _ _ _
 have ck:=jl ((PLC 0 k:Nat):Int) k W0 (.node hN);have HA:Aside (Below w.heap.size w W0/\Has W0 w.heap.size (za ZND).toArray 23/\bc<w0.heap.size/\w0.heap.size<=w.heap.size/\bc<w.heap.size):=⟨hb0,hH0,hc0,hs0,hlt⟩
 have CN:Aside (∀ W,Below W0.heap.size W0 W->Calls Tryz.prog 114 #[.pointer (some ⟨bc,1,none⟩)] W fun e w'=>e=.returned (.agg (za (HSH lv 0)).toArray)/\CLB w0 w' bc d (lv.drop 32) nd (i - 1) j/\BUT bc W w'):=fun W hb=>kU ((hC.still hb0).still hb) hi;clear hC hb0 hH0 hc0 hs0 hlt hi hn hN;generalize ((PLC 0 k:Nat):Int)=P at *
 generalize HSH lv 0=Y at *
 generalize lv.drop 32=lv' at *
 generalize i - 1=i' at *
 go_enter Tryz.func80,Tryz.ntmps80;go_upto_region 3 with fail
 clear hW0;go_wp2_with fail
 refine ck.mono ?_;rintro e w1 ⟨rfl,h1⟩;clear ck;have cn:=CN.out w1 h1;have HB:Aside (Below w.heap.size w w1/\Has w1 w.heap.size (za ZND).toArray 23/\bc<w0.heap.size/\w0.heap.size<=w.heap.size/\bc<w.heap.size):=⟨HA.out.1.trans (h1.mono HA.out.1.size),HA.out.2.1.keep h1,HA.out.2.2.1,HA.out.2.2.2.1,HA.out.2.2.2.2⟩
 clear HA h1 CN;go_wp2_with fail
 refine cn.mono ?_;rintro e w2 ⟨rfl,q1,q2⟩;clear cn;have H1:Has w2 w.heap.size (za ZND).toArray 23:=(q2.1 _ (HB.out.2.1.lt) (by have:=HB.out.2.2.2.2;omega)).trans HB.out.2.1
 have FN:Aside (CLB w0 (w2.setRow w.heap.size (za Y).toArray) bc d lv' nd i' j/\BUT bc w (w2.setRow w.heap.size (za Y).toArray)):=
  ⟨q1.set_new HB.out.2.2.2.1 HB.out.2.2.1 _,((BUT.of_below HB.out.1 (Nat.le_of_lt HB.out.2.2.2.2)).trans q2).set_new (Nat.le_refl _) HB.out.2.2.2.2 _⟩
 clear q1 q2 HB;go_wp2_with (refine wpList_store_row rfl 23 (.tmp 6) (.tmp 33) rfl _ _ rfl rfl 23 _ H1 (zd y32) (by simp[za,y32];rfl) (zx Y) ?_)
 refine bodyPost_ret (v:=.agg (za Y).toArray) (xL rfl _ _ w.heap.size 23 _ (0,0) _ _ rfl (Has.row H1 _) Tryz.underlying23 (zd y32)) rfl ⟨rfl,FN.out⟩
structure UPQ (w0 w W:World) (bc:Nat) (d:Int) (lv nd:List Int) (i j b6 bl br:Nat) (A B:List Int):Prop where
 clb:CLB w0 W bc d lv nd i j
 but:BUT bc w W
 res:Has W b6 (za ZND).toArray 23
 l:Has W bl (za A).toArray 23
 r:Has W br (za B).toArray 23
 n:w.heap.size=b6/\b6<bl/\bl<br/\w0.heap.size<=w.heap.size/\bc<w0.heap.size
theorem UPQ.below{w0 w W W':World}{bc:Nat}{d:Int}{lv nd:List Int}{i j b6 bl br:Nat}{A B:List Int}(h:UPQ w0 w W bc d lv nd i j b6 bl br A B)(hb:Below W.heap.size W W'):UPQ w0 w W' bc d lv nd i j b6 bl br A B:=
 ⟨h.clb.still hb,h.but.trans (BUT.of_below hb (Nat.le_of_lt h.clb.lt)),h.res.keep hb,h.l.keep hb,h.r.keep hb,h.n⟩
theorem UPQ.row{w0 w W:World}{bc:Nat}{d:Int}{lv nd:List Int}{i j b6 bl br b:Nat}{A B:List Int}(h:UPQ w0 w W bc d lv nd i j b6 bl br A B)(hb:br<b)(cs:Array Value):UPQ w0 w (W.setRow b cs) bc d lv nd i j b6 bl br A B:=by
 have hn:=h.n;exact⟨h.clb.set_new (by omega) (by omega) cs,h.but.set_new (by omega) (by omega) cs,h.res.row_other (by omega) cs,h.l.row_other (by omega) cs,h.r.row_other (by omega) cs,h.n⟩
theorem UPQ.s9{w0 w W:World}{bc:Nat}{d:Int}{lv nd:List Int}{i j b6 bl br:Nat}{A B:List Int}(h:UPQ w0 w W bc d lv nd i j b6 bl br A B):W.rangeAt bl 0 (za A)/\W.rangeAt br 0 (za B)/\W.cell? ⟨bc,0,none⟩=some (.int .i64 d):=by
 obtain⟨⟨vl,vn,h1,_⟩,_⟩:=h.clb;exact⟨qu h.l,qu h.r,h1.cell 0⟩
theorem UPQ.s10{w0 w W:World}{bc:Nat}{d:Int}{lv nd:List Int}{i j b6 bl br b:Nat}{A B Y:List Int}(h:UPQ w0 w W bc d lv nd i j b6 bl br A B)(hs:Has W b (MSTP A B Y) 56):W.rangeAt b 0 (za A ++ za B ++ za Y)/\W.cell? ⟨bc,3,none⟩=some (.func (.func 74) #[] #[]):=by
 obtain⟨⟨vl,vn,h1,_⟩,_⟩:=h.clb;exact⟨qu hs,h1.cell 3⟩
theorem Zp{W:World}{b:Nat}{A B Y:List Int}(lA:A.length=32)(lB:B.length=32)(h:Has W b (MSTP A B Y) 56):W.rangeAt b 64 (za Y):=fun j v hv=>by
 rw[h.cell,MSTP,List.getElem?_toArray,List.getElem?_append_right (by simp[za,lA,lB])];rw[show 64+j - (za A ++ za B).length=j by simp[za,lA,lB]];exact hv
def MSL(A B Y:List Int):List Value:=za A ++ za B ++ za Y
def STL(d:Int)(S:List (List Int × List Int)):List Value:=S.flatMap fun s=>MSL s.1 s.2 (zp d s.1 s.2)
theorem z00(d:Int)(S:List (List Int × List Int))(A B:List Int):STL d (S ++ [(A,B)])=STL d S ++ MSL A B (zp d A B):=by simp[STL]
theorem YH{A B Y:List Int}(lA:A.length=32)(lB:B.length=32)(lY:Y.length=32):(MSL A B Y).length=96:=by simp[MSL,za,lA,lB,lY]
theorem uC(A B Y:List Int):∀ v∈MSL A B Y,v.oneCell'=true:=fun v hv=>by
 rcases List.mem_append.1 hv with hv | hv
 ·rcases List.mem_append.1 hv with hv | hv
  ·exact yf A v hv
  ·exact yf B v hv
 ·exact yf Y v hv
theorem vk:(Tryz.prog.info? 56).map (fun i=>(i.zero,i.size,i.bytes))=some (some (.agg (MSTP ZND ZND ZND)),96,96):=by kernel_rfl
theorem z01{ops:Array Oper}{rest:List Oper}{o:Oper}{a:Act}{Q:Exit->Act->World->Prop}(w:World)(hgd:o.guard=none)(s x:Operand)
  (ho:o.op=.call {callee:=.builtin .append,args:=#[s,x],argTypes:=#[52,52]})
  (base:Nat) (v:Value) (n:Nat) (xs:List Value) (hs:a.eval s=v) (hown:w.ownsRow base 56 96 v n xs)
  (b c:Nat) (A B Y:List Int) (lA:A.length=32) (lB:B.length=32) (lY:Y.length=32) (hx:a.eval x=.slice (some ⟨b,0,none⟩) 1 c) (hc:Has w b (MSTP A B Y) 56)
  (hb:n<=100000) (hbase:base<=w.heap.size)
  (h:∀ g cap w',w'.ownsRow base 56 96 (.slice (some ⟨g,0,none⟩) (n+1) cap) (n+1) (xs ++ MSL A B Y)->w.grownBy w' v.ownBlock->(v.ownBlock=some g\/g=w.heap.size)->g<w'.heap.size->wpList Tryz.prog ops Q rest (a.put o.dst (.slice (some ⟨g,0,none⟩) (n+1) cap)) w'):wpList Tryz.prog ops Q (o :: rest) a w:=by
 obtain⟨i,hi,hz,hs1,hby⟩:=info_parts vk;refine wpList_append_lies w hgd s x 52 ho base 56 i (.agg (MSTP ZND ZND ZND)) 96 96 Tryz.underlying52 hi hz hs1 hby rfl (by decide) v n xs hs hown ⟨b,0,none⟩ 1 c (MSL A B Y) hx (by rw[YH lA lB lY]) ?_ (uC A B Y) (by decide) (by simp only[maxLen];omega) (by omega) hbase w.heap.size rfl h;intro j u hj;rw[zY,Nat.zero_add,hc.cell];show (MSL A B Y).toArray[j]?=_;rw[List.getElem?_toArray];exact hj
structure HRS (W:World) (B bs:Nat) (d:Int) (v:Value) (S:List (List Int × List Int)):Prop where
 box:Has W bs #[v] 52
 own:W.ownsRow B 56 96 v S.length (STL d S)
 lt:bs<B
 base:B<=W.heap.size
def NOST(w:World)(q:Nat):Prop:=∀ cs fr,w.heap[q]?≠some (.cells cs 56 fr)
structure KPT (bc bs:Nat) (w w':World):Prop where
 os:w'.os=w.os
 tape:w'.tape=w.tape
 output:w'.output=w.output
 size:w.heap.size<=w'.heap.size
 block:∀ q,q<w.heap.size->q≠bc->q≠bs->NOST w q->w'.heap[q]?=w.heap[q]?
theorem KPT.trans{bc bs:Nat}{w w1 w2:World}(h:KPT bc bs w w1)(h':KPT bc bs w1 w2):KPT bc bs w w2:=
 ⟨h'.os.trans h.os,h'.tape.trans h.tape,h'.output.trans h.output,Nat.le_trans h.size h'.size,fun q hq h1 h2 h3=>by
  have e:=h.block q hq h1 h2 h3;exact(h'.block q (Nat.lt_of_lt_of_le hq h.size) h1 h2 (fun cs fr=>by rw[e];exact h3 cs fr)).trans e⟩
theorem KPT.of_below{bc bs:Nat}{w w':World}(hb:Below w.heap.size w w'):KPT bc bs w w':=⟨hb.os,hb.tape,hb.output,hb.size,fun q hq _ _ _=>hb.block q hq⟩
theorem KPT.of_but{bc bs:Nat}{w w':World}(h:BUT bc w w'):KPT bc bs w w':=⟨h.2.os,h.2.tape,h.2.output,h.2.size,fun q hq h1 _ _=>h.1 q hq h1⟩
theorem z1v{w:World}{B bs:Nat}{d:Int}{v:Value}{S:List (List Int × List Int)}(h:HRS w B bs d v S)(hn:S.length<=90000)(X Y:List Int)(lX:X.length=32)(lY:Y.length=32)(lN:(zp d X Y).length=32):
  Calls Tryz.prog 45 #[.agg (MSTP X Y (zp d X Y)),.pointer (some ⟨bs,0,none⟩)] w fun e w'=>e=.returned (.tuple #[])/\(∃ v',HRS w' B bs d v' (S ++ [(X,Y)]))/\w'.os=w.os/\w'.tape=w.tape/\w'.output=w.output/\w.heap.size<=w'.heap.size/\∀ q,q<w.heap.size->q≠bs->v.ownBlock≠some q->w'.heap[q]?=w.heap[q]?:=by
 have hsn:=z00 d S X Y;obtain⟨N,hN⟩:∃ N,zp d X Y=N:=⟨_,rfl⟩
 rw[hN] at lN hsn;rw[hN];obtain⟨W0,hW0⟩:∃ W0,w.alloc (.cells (MSTP X Y N) 56)=W0:=⟨_,rfl⟩
 have hb0:Below w.heap.size w W0:=by rw[<-hW0];exact(Below.refl _ _).alloc (Nat.le_refl _) _
 have k2:Has W0 w.heap.size (MSTP X Y N) 56:=by rw[<-hW0];exact Has.new _ _ _
 have kb:=h.box.keep hb0
 obtain⟨a,c,rfl⟩:∃ a c,v=.slice a S.length c:=by
  rcases h.own.2 with ⟨e,h0⟩ | ⟨g,cap,cur,e,_⟩
  ·exact⟨none,0,by rw[e,h0]⟩
  ·exact⟨_,_,e⟩
 obtain⟨n,hnn⟩:∃ n,S.length=n:=⟨_,rfl⟩
 have o0:W0.ownsRow B 56 96 (.slice a S.length c) S.length (STL d S):=by
  refine⟨h.own.1,?_⟩;rcases h.own.2 with h1 | ⟨g,cap,cur,e,hg1,hg,r⟩
  ·exact .inl h1
  ·exact .inr ⟨g,cap,cur,e,hg1,(hb0.block g (Array.getElem?_eq_some_iff.1 hg).1).trans hg,r⟩
 rw[hnn] at o0 kb;have x0:W0.cell? ⟨bs,0,none⟩=some (.slice a n c):=kb.cell 0;have s0:W0.heap.size=w.heap.size+1:=by rw[<-hW0];simp
 have H:Aside (n<=90000/\Below w.heap.size w W0/\W0.ownsRow B 56 96 (.slice a n c) n (STL d S)/\Has W0 bs #[.slice a n c] 52/\bs<B/\B<=w.heap.size/\W0.heap.size=w.heap.size+1/\S.length=n/\STL d (S ++ [(X,Y)])=STL d S ++ MSL X Y N):=⟨by omega,hb0,o0,kb,h.lt,h.base,s0,hnn,hsn⟩
 obtain⟨b2,hb2⟩:∃ b2,w.heap.size=b2:=⟨_,rfl⟩
 rw[hb2] at k2;have HB2:Aside (w.heap.size=b2):=hb2;rw[hnn];clear h hn hb0 kb o0 s0 hnn hsn;generalize hM:MSTP X Y N=V at *
 have HM:Aside (MSTP X Y N=V):=hM;go_enter Tryz.func45,Tryz.ntmps45;go_upto_region 1 with fail
 clear hW0 hb2;have hsz:V.size=96:=by rw[<-hM];exact YX lX lY lN
 have hin:(Tryz.prog.info? 56).map (·.size)=some V.size:=by rw[hsz];kernel_rfl
 clear hM
 go_wp2_with (first
  | (refine wpList_load_row rfl 56 (.tmp 2) rfl b2 rfl 56 V (0,0) _ k2 Tryz.underlying56 rfl hin ?_)
  | (refine yM _ rfl 52 56 (.tmp 4) rfl V rfl 96 _ _ Tryz.underlying52 vk hsz rfl (by decide) (by decide) ?_)
  | (at_builtin;refine z01 _ rfl (.tmp 3) (.tmp 5) rfl B (.slice a n c) n _ rfl (H.out.2.2.1.alloc _) W0.heap.size 1 X Y N lX lY lN rfl (by rw[HM.out];exact Has.new _ _ _) (by have:=H.out;omega) (by have:=H.out;simp;omega) ?_;intro g1 c1 w1 hown1 hgrow1 hat1 hg1
     have hbp:Has w1 bs #[.slice a n c] 52:=by
      refine(hgrow1.block bs (by have:=H.out.2.2.2.1.lt;simp;omega) (fun e=>?_)).trans (H.out.2.2.2.1.alloc _);have:=(H.out.2.2.1.lt bs e.symm).1;have:=H.out.2.2.2.2.1;omega
     have y0:=hbp.cell 0;have y1:=hbp.frozen 0))
 have FN:Aside ((∃ v',HRS (w1.setCell ⟨bs,0,none⟩ (.slice (some ⟨g1,0,none⟩) (n+1) c1)) B bs d v' (S ++ [(X,Y)]))/\(w1.setCell ⟨bs,0,none⟩ (.slice (some ⟨g1,0,none⟩) (n+1) c1)).os=w.os/\(w1.setCell ⟨bs,0,none⟩ (.slice (some ⟨g1,0,none⟩) (n+1) c1)).tape=w.tape/\(w1.setCell ⟨bs,0,none⟩ (.slice (some ⟨g1,0,none⟩) (n+1) c1)).output=w.output/\w.heap.size<=(w1.setCell ⟨bs,0,none⟩ (.slice (some ⟨g1,0,none⟩) (n+1) c1)).heap.size/\∀ q,q<w.heap.size->q≠bs->(Value.slice a n c).ownBlock≠some q->(w1.setCell ⟨bs,0,none⟩ (.slice (some ⟨g1,0,none⟩) (n+1) c1)).heap[q]?=w.heap[q]?):=by
  have hh:=H.out;have hal:Below W0.heap.size W0 (W0.alloc (.cells V 56)):=(Below.refl _ _).alloc (Nat.le_refl _) _;have hsz1:W0.heap.size+1<=w1.heap.size:=by have:=hgrow1.size;simpa using this
  refine⟨⟨_,hbp.set 0 _,?_,hh.2.2.2.2.1,?_⟩,?_,?_,?_,?_,fun q hq h1 h2=>?_⟩
  ·rw[List.length_append,hh.2.2.2.2.2.2.2.1,hh.2.2.2.2.2.2.2.2]
   exact ownsRow_setCell_below hown1 (a:=⟨bs,0,none⟩) hh.2.2.2.2.1 _
  ·simp[World.setCell];omega
  ·exact hgrow1.os.trans (hal.os.trans hh.2.1.os)
  ·exact hgrow1.tape.trans (hal.tape.trans hh.2.1.tape)
  ·exact hgrow1.output.trans (hal.output.trans hh.2.1.output)
  ·simp[World.setCell];omega
  ·rw[Below.heap_setCell _ _ _ _ (by exact h1),hgrow1.block q (by simp;omega) (fun e=>h2 e.symm),Below.heap_alloc _ _ _ (by omega)]
   exact hh.2.1.block q hq
 clear hown1 hgrow1 hat1 hg1 hbp x0;generalize w1.setCell ⟨bs,0,none⟩ (.slice (some ⟨g1,0,none⟩) (n+1) c1)=w2 at *
 go_wp2_with fail
 exact bodyPost_end (v:=.tuple #[]) (by simp[results,Tryz.f45]) rfl ⟨rfl,FN.out⟩
def HVL(bs:Nat):Value:=.func (.func 45) #[] #[.pointer (some ⟨bs,0,none⟩)]
def LSK(w0:World)(bc bs:Nat)(v:Value)(n:Nat)(l:List Int):Prop:=∃ a c,v=.slice a n c/\n<=c/\Flat w0 a n l/\∀ x,a=some x->x.block≠bc/\x.block≠bs
structure KPZ (bc bs:Nat) (w0 w:World):Prop where
 os:w.os=w0.os
 tape:w.tape=w0.tape
 output:w.output=w0.output
 size:w0.heap.size<=w.heap.size
 block:∀ q,q<w0.heap.size->q≠bc->q≠bs->w.heap[q]?=w0.heap[q]?
def CLH(w0 w:World)(bc bs:Nat)(d:Int)(lv nd:List Int)(i j:Nat)(S:List (List Int × List Int)):Prop:=(∃ vl vn,Has w bc #[.int .i64 d,vl,vn,HVL bs] 118/\LSK w0 bc bs vl i lv/\LSK w0 bc bs vn j nd)/\(∃ v,HRS w w0.heap.size bs d v S)/\KPZ bc bs w0 w
theorem KPZ.but{bc bs:Nat}{w0 w w':World}(h:KPZ bc bs w0 w)(hb:BUT bc w w'):KPZ bc bs w0 w':=
 ⟨hb.2.os.trans h.os,hb.2.tape.trans h.tape,hb.2.output.trans h.output,Nat.le_trans h.size hb.2.size,fun q hq h1 h2=>(hb.1 q (Nat.lt_of_lt_of_le hq h.size) h1).trans (h.block q hq h1 h2)⟩
theorem HRS.but{w w':World}{B bc bs:Nat}{d:Int}{v:Value}{S:List (List Int × List Int)}(h:HRS w B bs d v S)(hb:BUT bc w w')(h1:bs≠bc)(h2:bc<B):HRS w' B bs d v S:=by
 refine⟨(hb.1 bs h.box.lt h1).trans h.box,⟨h.own.1,?_⟩,h.lt,Nat.le_trans h.base hb.2.size⟩;rcases h.own.2 with q | ⟨g,cap,cur,e,hg1,hg,r⟩
 ·exact .inl q
 ·exact .inr ⟨g,cap,cur,e,hg1,(hb.1 g (Array.getElem?_eq_some_iff.1 hg).1 (by omega)).trans hg,r⟩
theorem HRS.row_new{w:World}{B bs g:Nat}{d:Int}{v:Value}{S:List (List Int × List Int)}{c0:Array Value}(h:HRS w B bs d v S)(hk:Has w g c0 23)(hg:B<=g)(cs:Array Value):HRS (w.setRow g cs) B bs d v S:=by
 have hlt:=h.lt;refine⟨h.box.row_other (by omega) cs,⟨h.own.1,?_⟩,h.lt,by simp;exact h.base⟩;rcases h.own.2 with q | ⟨g',cap,cur,e,hg1,hg',r⟩
 ·exact .inl q
 ·refine .inr ⟨g',cap,cur,e,hg1,(setRow_other w g g' cs (fun e'=>?_)).trans hg',r⟩
  have hk':w.heap[g]?=some (.cells c0 23 (0,0)):=hk;rw[<-e',hg'] at hk';simp only[Option.some.injEq,Obj.cells.injEq] at hk';exact absurd hk'.2.1 (by decide)
theorem KPT.set_new{bc bs g:Nat}{w w':World}(h:KPT bc bs w w')(hg:w.heap.size<=g)(cs:Array Value):KPT bc bs w (w'.setRow g cs):=
 ⟨h.os,h.tape,h.output,by simp;exact h.size,fun q hq h1 h2 h3=>(setRow_other w' g q cs (by omega)).trans (h.block q hq h1 h2 h3)⟩
theorem KPZ.set_new{bc bs g:Nat}{w0 w:World}(h:KPZ bc bs w0 w)(hg:w0.heap.size<=g)(cs:Array Value):KPZ bc bs w0 (w.setRow g cs):=
 ⟨h.os,h.tape,h.output,by simp;exact h.size,fun q hq h1 h2=>(setRow_other w g q cs (by omega)).trans (h.block q hq h1 h2)⟩
theorem CLH.lt{w0 w:World}{bc bs:Nat}{d:Int}{lv nd:List Int}{i j:Nat}{S:List (List Int × List Int)}(h:CLH w0 w bc bs d lv nd i j S):bc<w.heap.size:=by
 obtain⟨⟨vl,vn,h1,_⟩,_⟩:=h;exact h1.lt
theorem CLH.ne{w0 w:World}{bc bs:Nat}{d:Int}{lv nd:List Int}{i j:Nat}{S:List (List Int × List Int)}(h:CLH w0 w bc bs d lv nd i j S):bs≠bc:=fun e=>by
 obtain⟨⟨vl,vn,h1,_⟩,⟨v,h2⟩,_⟩:=h;have k1:w.heap[bc]?=some (.cells _ 118 (0,0)):=h1;have k2:w.heap[bs]?=some (.cells _ 52 (0,0)):=h2.box;rw[e,k1] at k2;simp only[Option.some.injEq,Obj.cells.injEq] at k2;exact absurd k2.2.1 (by decide)
theorem CLH.still{w0 w w':World}{bc bs:Nat}{d:Int}{lv nd:List Int}{i j:Nat}{S:List (List Int × List Int)}(h:CLH w0 w bc bs d lv nd i j S)(hb:Below w.heap.size w w'):CLH w0 w' bc bs d lv nd i j S:=by
 obtain⟨⟨vl,vn,h1,h2⟩,⟨v,h3⟩,h4⟩:=h;refine⟨⟨vl,vn,h1.keep hb,h2⟩,⟨v,h3.box.keep hb,⟨h3.own.1,?_⟩,h3.lt,Nat.le_trans h3.base hb.size⟩,h4.but (BUT.of_below hb (Nat.le_of_lt h1.lt))⟩;rcases h3.own.2 with q | ⟨g,cap,cur,e,hg1,hg,r⟩
 ·exact .inl q
 ·exact .inr ⟨g,cap,cur,e,hg1,(hb.block g (Array.getElem?_eq_some_iff.1 hg).1).trans hg,r⟩
theorem CLH.set_new{w0 w:World}{bc bs g:Nat}{d:Int}{lv nd:List Int}{i j:Nat}{S:List (List Int × List Int)}{c0:Array Value}(h:CLH w0 w bc bs d lv nd i j S)(hk:Has w g c0 23)(hg:w0.heap.size<=g)(cs:Array Value):CLH w0 (w.setRow g cs) bc bs d lv nd i j S:=by
 obtain⟨⟨vl,vn,h1,h2⟩,⟨v,h3⟩,h4⟩:=h;refine⟨⟨vl,vn,h1.row_other (fun e=>?_) cs,h2⟩,⟨v,h3.row_new hk hg cs⟩,h4.set_new hg cs⟩;have k1:w.heap[bc]?=some (.cells _ 118 (0,0)):=h1;have k2:w.heap[g]?=some (.cells c0 23 (0,0)):=hk;rw[<-e,k1] at k2;simp only[Option.some.injEq,Obj.cells.injEq] at k2;exact absurd k2.2.1 (by decide)
theorem LSK.rest{w0:World}{bc bs b o n c:Nat}{l:List Int}(hF:Flat w0 (some ⟨b,o,none⟩) n l)(hc:n<=c)(hn:0<n)(hb:b≠bc/\b≠bs):LSK w0 bc bs (.slice (SLA (some ⟨b,o,none⟩) c 1) (n - 1) (c - 1)) (n - 1) (l.drop 32):=by
 refine⟨_,_,rfl,by omega,hF.behind 1 hn hc,fun x hx=>?_⟩;unfold SLA at hx;dsimp only at hx;split at hx <;> cases hx <;> exact hb
theorem KPZ.flat{bc bs:Nat}{w0 w:World}{a:Option Addr}{n:Nat}{l:List Int}(h:KPZ bc bs w0 w)(hF:Flat w0 a n l)(ha:∀ x,a=some x->x.block≠bc/\x.block≠bs):Flat w a n l:=by
 refine⟨hF.1,fun h0=>?_,hF.2.2⟩;obtain⟨b,o,e,hlt,hc⟩:=hF.2.1 h0;exact⟨b,o,e,Nat.lt_of_lt_of_le hlt h.size,fun j hj=>(World.cell?_of_block (w:=w0) (by exact h.block b hlt (ha _ e).1 (ha _ e).2)).trans (hc j hj)⟩
theorem kV{w0 w:World}{bc bs:Nat}{d:Int}{lv nd:List Int}{i j:Nat}{S:List (List Int × List Int)}(hC:CLH w0 w bc bs d lv nd i j S)(hj:0<j)(hc0:bc<w0.heap.size):
  Calls Tryz.prog 114 #[.pointer (some ⟨bc,2,none⟩)] w fun e w'=>e=.returned (.agg (za (HSH nd 0)).toArray)/\CLH w0 w' bc bs d lv (nd.drop 32) i (j - 1) S/\BUT bc w w':=by
 have hne:=hC.ne;obtain⟨⟨vl,vn,h1,h2,⟨a,c,rfl,hc,hF,ha⟩⟩,⟨v,h3⟩,h4⟩:=hC;obtain⟨b,o,rfl,hlt,_⟩:=hF.2.1 hj;have hb:=ha _ rfl;refine(ZR bc 2 b o j c nd _ w h1 rfl hj hc hb.1 (h4.flat hF ha)).mono ?_;rintro e w' ⟨rfl,q1,q2⟩;exact⟨rfl,⟨⟨vl,_,q1,h2,LSK.rest hF hc hj hb⟩,⟨v,h3.but q2 hne hc0⟩,h4.but q2⟩,q2⟩
theorem U0{w0 w:World}{bc bs:Nat}{d:Int}{lv nd:List Int}{i j:Nat}{S:List (List Int × List Int)}(hC:CLH w0 w bc bs d lv nd i j S)(hi:0<i)(hc0:bc<w0.heap.size):
  Calls Tryz.prog 114 #[.pointer (some ⟨bc,1,none⟩)] w fun e w'=>e=.returned (.agg (za (HSH lv 0)).toArray)/\CLH w0 w' bc bs d (lv.drop 32) nd (i - 1) j S/\BUT bc w w':=by
 have hne:=hC.ne;obtain⟨⟨vl,vn,h1,⟨a,c,rfl,hc,hF,ha⟩,h2⟩,⟨v,h3⟩,h4⟩:=hC;obtain⟨b,o,rfl,hlt,_⟩:=hF.2.1 hi;have hb:=ha _ rfl;refine(ZR bc 1 b o i c lv _ w h1 rfl hi hc hb.1 (h4.flat hF ha)).mono ?_;rintro e w' ⟨rfl,q1,q2⟩;exact⟨rfl,⟨⟨_,vn,q1,LSK.rest hF hc hi hb,h2⟩,⟨v,h3.but q2 hne hc0⟩,h4.but q2⟩,q2⟩
theorem VJ(w0 w:World)(bc bs:Nat)(S:List (List Int × List Int))(d:Int)(p:Int)(lv nd:List Int)(i j c:Nat)(a:Option Addr)(hC:CLH w0 w bc bs d lv nd i j S)(hc0:bc<w0.heap.size)(hj:0<j)(y32:(HSH nd 0).length=32):
  Calls Tryz.prog 80 #[.pointer (some ⟨bc,0,none⟩),.int .u64 p,.slice a 0 c] w fun e w'=>e=.returned (.agg (za (HSH nd 0)).toArray)/\CLH w0 w' bc bs d lv (nd.drop 32) i (j - 1) S/\KPT bc bs w w':=by
 have hlt:=hC.lt;have hs0:w0.heap.size<=w.heap.size:=hC.2.2.size;obtain⟨W0,hW0⟩:∃ W0,w.alloc (.cells ZARR 23)=W0:=⟨_,rfl⟩
 have hb0:Below w.heap.size w W0:=by rw[<-hW0];exact(Below.refl _ _).alloc (Nat.le_refl _) _
 have hH0:Has W0 w.heap.size (za ZND).toArray 23:=by rw[<-hW0,zQ];exact Has.new _ _ _
 have cn:=kV (hC.still hb0) hj hc0;have HA:Aside (Below w.heap.size w W0/\Has W0 w.heap.size (za ZND).toArray 23/\bc<w0.heap.size/\w0.heap.size<=w.heap.size/\bc<w.heap.size):=⟨hb0,hH0,hc0,hs0,hlt⟩
 clear hC hb0 hH0 hc0 hs0 hlt hj;generalize HSH nd 0=Y at *
 generalize nd.drop 32=nd' at *
 generalize j - 1=j' at *
 go_enter Tryz.func80,Tryz.ntmps80;go_upto_region 2 with fail
 clear hW0;go_wp2_with fail
 refine cn.mono ?_;rintro e w1 ⟨rfl,q1,q2⟩;clear cn;have H1:Has w1 w.heap.size (za ZND).toArray 23:=(q2.1 _ (HA.out.2.1.lt) (by have:=HA.out.2.2.2.2;omega)).trans HA.out.2.1
 have FN:Aside (CLH w0 (w1.setRow w.heap.size (za Y).toArray) bc bs d lv nd' i j' S/\KPT bc bs w (w1.setRow w.heap.size (za Y).toArray)):=
  ⟨q1.set_new H1 HA.out.2.2.2.1 _,((KPT.of_below HA.out.1).trans (KPT.of_but q2)).set_new (Nat.le_refl _) _⟩
 clear q1 q2 HA;go_wp2_with (refine wpList_store_row rfl 23 (.tmp 6) (.tmp 21) rfl _ _ rfl rfl 23 _ H1 (zd y32) (by simp[za,y32];rfl) (zx Y) ?_)
 refine bodyPost_ret (v:=.agg (za Y).toArray) (xL rfl _ _ w.heap.size 23 _ (0,0) _ _ rfl (Has.row H1 _) Tryz.underlying23 (zd y32)) rfl ⟨rfl,FN.out⟩
theorem z02(w0 w:World)(bc bs:Nat)(S:List (List Int × List Int))(d:Int)(k:Nat)(hN:Node 0 k)(lv nd:List Int)(i j n c:Nat)(a:Option Addr)(hn:0<n)(hC:CLH w0 w bc bs d lv nd i j S)(hc0:bc<w0.heap.size)(hi:0<i)(y32:(HSH lv 0).length=32):
  Calls Tryz.prog 80 #[.pointer (some ⟨bc,0,none⟩),.int .u64 ((PLC 0 k:Nat):Int),.slice a n c] w fun e w'=>e=.returned (.agg (za (HSH lv 0)).toArray)/\CLH w0 w' bc bs d (lv.drop 32) nd (i - 1) j S/\KPT bc bs w w':=by
 have hlt:=hC.lt;have hs0:w0.heap.size<=w.heap.size:=hC.2.2.size;have hn0:((n:Int) == 0)=false:=beq_eq_false_iff_ne.2 (by omega);obtain⟨W0,hW0⟩:∃ W0,w.alloc (.cells ZARR 23)=W0:=⟨_,rfl⟩
 have hb0:Below w.heap.size w W0:=by rw[<-hW0];exact(Below.refl _ _).alloc (Nat.le_refl _) _
 have hH0:Has W0 w.heap.size (za ZND).toArray 23:=by rw[<-hW0,zQ];exact Has.new _ _ _
 have ck:=jl ((PLC 0 k:Nat):Int) k W0 (.node hN);have HA:Aside (Below w.heap.size w W0/\Has W0 w.heap.size (za ZND).toArray 23/\bc<w0.heap.size/\w0.heap.size<=w.heap.size/\bc<w.heap.size):=⟨hb0,hH0,hc0,hs0,hlt⟩
 have CN:Aside (∀ W,Below W0.heap.size W0 W->Calls Tryz.prog 114 #[.pointer (some ⟨bc,1,none⟩)] W fun e w'=>e=.returned (.agg (za (HSH lv 0)).toArray)/\CLH w0 w' bc bs d (lv.drop 32) nd (i - 1) j S/\BUT bc W w'):=fun W hb=>U0 ((hC.still hb0).still hb) hi hc0;clear hC hb0 hH0 hc0 hs0 hlt hi hn hN;generalize ((PLC 0 k:Nat):Int)=P at *
 generalize HSH lv 0=Y at *
 generalize lv.drop 32=lv' at *
 generalize i - 1=i' at *
 go_enter Tryz.func80,Tryz.ntmps80;go_upto_region 3 with fail
 clear hW0;go_wp2_with fail
 refine ck.mono ?_;rintro e w1 ⟨rfl,h1⟩;clear ck;have cn:=CN.out w1 h1;have HB:Aside (Below w.heap.size w w1/\Has w1 w.heap.size (za ZND).toArray 23/\bc<w0.heap.size/\w0.heap.size<=w.heap.size/\bc<w.heap.size):=⟨HA.out.1.trans (h1.mono HA.out.1.size),HA.out.2.1.keep h1,HA.out.2.2.1,HA.out.2.2.2.1,HA.out.2.2.2.2⟩
 clear HA h1 CN;go_wp2_with fail
 refine cn.mono ?_;rintro e w2 ⟨rfl,q1,q2⟩;clear cn;have H1:Has w2 w.heap.size (za ZND).toArray 23:=(q2.1 _ (HB.out.2.1.lt) (by have:=HB.out.2.2.2.2;omega)).trans HB.out.2.1
 have FN:Aside (CLH w0 (w2.setRow w.heap.size (za Y).toArray) bc bs d lv' nd i' j S/\KPT bc bs w (w2.setRow w.heap.size (za Y).toArray)):=
  ⟨q1.set_new H1 HB.out.2.2.2.1 _,((KPT.of_below HB.out.1).trans (KPT.of_but q2)).set_new (Nat.le_refl _) _⟩
 clear q1 q2 HB;go_wp2_with (refine wpList_store_row rfl 23 (.tmp 6) (.tmp 33) rfl _ _ rfl rfl 23 _ H1 (zd y32) (by simp[za,y32];rfl) (zx Y) ?_)
 refine bodyPost_ret (v:=.agg (za Y).toArray) (xL rfl _ _ w.heap.size 23 _ (0,0) _ _ rfl (Has.row H1 _) Tryz.underlying23 (zd y32)) rfl ⟨rfl,FN.out⟩
end Go.Proofs.YtobaogpomcocpaaGreatDoor
