/- ClashAcross: part 21. -/
import Derived.Test.YtdggkbpabjgdfaaGreatDoorClashAcrossP17
import Derived.Test.YtdggkbpabjgdfaaGreatDoorClashAcrossP18
import Derived.Test.YtdggkbpabjgdfaaGreatDoorClashAcrossP20
set_option maxHeartbeats 2000000
namespace Go.Proofs.YtdggkbpabjgdfaaGreatDoor
set_option linter.unusedSimpArgs false
open Go.RowKit
set_option maxRecDepth 100000
@[go_sem] def CX10OPSq0:Oper:=⟨some 45,.move (.tmp 0),53,"met.go:78",#[],none⟩
@[go_sem] def CX10OPSq1:Oper:=⟨some 46,.move (.tmp 8),38,"met.go:78",#[],none⟩
@[go_sem] def CX10OPSq2:Oper:=⟨some 47,.move (.tmp 12),3,"met.go:78",#[],none⟩
@[go_sem] def CX10OPSq3:Oper:=⟨some 48,.indexAddr 38 (.tmp 46) (.tmp 47),0,"met.go:78",#[⟨1,.data⟩,⟨2,.data⟩],none⟩
@[go_sem] def CX10OPSq4:Oper:=⟨some 49,.load 24 (.tmp 48),24,"met.go:78",#[⟨3,.data⟩],none⟩
@[go_sem] def CX10OPSq5:Oper:=⟨some 50,.load 24 (.tmp 11),24,"met.go:78",#[],none⟩
@[go_sem] def CX10OPSq6:Oper:=⟨some 51,.call {callee:=.value (.func 46),args:=#[.tmp 49,.tmp 50],argTypes:=#[24,24]},25,"met.go:78",#[⟨4,.data⟩,⟨5,.data⟩],none⟩
@[go_sem] def CX10OPSq7:Oper:=⟨some 52,.call {callee:=.value (.func 45),args:=#[.tmp 45,.tmp 51],argTypes:=#[53,25]},24,"met.go:78",#[⟨0,.data⟩,⟨6,.data⟩,⟨6,.chain⟩],none⟩
@[go_sem] def CX10OPSq8:Oper:=⟨none,.store 24 (.tmp 11) (.tmp 52),0,"met.go:78",#[⟨7,.data⟩,⟨7,.chain⟩,⟨0,.phase⟩,⟨1,.phase⟩,⟨2,.phase⟩,⟨3,.phase⟩,⟨4,.phase⟩,⟨5,.phase⟩,⟨6,.phase⟩,⟨7,.phase⟩],none⟩
def z4r:Array Oper:=#[CX10OPSq0,CX10OPSq1,CX10OPSq2,CX10OPSq3,CX10OPSq4,CX10OPSq5,CX10OPSq6,CX10OPSq7,CX10OPSq8]
theorem zh2 {Q:Exit->Act->World->Prop} {d f g i j k l m n p q r s u x y B C D E F G H I J K M O R T U V Y Z aa ab ac ad ae af ag ah ai aj ak al am an ao ap aq ar au av aw ax ay az aA aB aC aD aE aF aG aH aI aJ aK aL aM aN:Value} (W:World) (b b10 gp on N nc t:Nat) (L A X:List Int) (lL:L.length=32) (lA:A.length=32) (lX:X.length=32) (hi:(t:Int)<(N:Int)) (P0:World->Prop) (P1:Nat->Nat->World->Prop) (P2 P3:World->Prop) (h0:P0 W.drew) (t0:∀ w,P0 w->(fun w:World=>w.rangeAt gp (on+t*32) (z01 L)) w) (t1:∀ gt c w,P1 gt c w->(fun w:World=>w.rangeAt gp (on+t*32) (z01 L)) w) (t2:∀ w,P2 w->(fun w:World=>w.rangeAt gp (on+t*32) (z01 L)) w) (t3:∀ w,P3 w->(fun w:World=>w.rangeAt gp (on+t*32) (z01 L)) w) (r10:∀ w,P0 w->w.rangeAt b10 0 (z01 A))
  (cF:∀ w,P0 w->Calls Tryz.prog 46 #[.agg (z01 L).toArray,.agg (z01 A).toArray] w fun e w'=>∃ (gt:Nat) (c:Nat),e=.returned (.slice (some ⟨gt,0,none⟩) 65 c)/\P1 gt c w')
  (cT:∀ gt c w,P1 gt c w->Calls Tryz.prog 45 #[.pointer (some ⟨b,0,none⟩),.slice (some ⟨gt,0,none⟩) 65 c] w fun e w'=>e=.returned (.agg (z01 X).toArray)/\P2 w') (st:∀ w,P2 w->Has w b10 (z01 A).toArray 24) (s3:∀ w,P2 w->P3 (w.setRow b10 (z01 X).toArray)) (hQ:∀ c (a:Act) (t:Tmp) (v:Value) w,Q (.panic c) (a.put (some t) v) w->Q (.panic c) a w)
  (hfin:∀ (gt:Nat) (c:Nat) (w:World),(P3 w)->Q .normal {tmps:=#[.pointer (some ⟨b,0,none⟩),d,f,g,i,j,k,l,.slice (some ⟨gp,on,none⟩) N nc,m,n,.pointer (some ⟨b10,0,none⟩),.int .i64 (t:Int),p,q,r,s,u,x,y,B,C,D,E,F,G,H,I,J,K,M,O,R,T,U,V,Y,Z,aa,ab,ac,ad,ae,af,ag,.pointer (some ⟨b,0,none⟩),.slice (some ⟨gp,on,none⟩) N nc,.int .i64 (t:Int),.pointer (some ⟨gp,(on+t*32),none⟩),.agg (z01 L).toArray,.agg (z01 A).toArray,.slice (some ⟨gt,0,none⟩) 65 c,.agg (z01 X).toArray,ap,aq,ar,au,av,aw,ax,ay,az,aA,aB,aC,aD,aE,aF,aG,aH,aI,aJ,aK,aL,aM,aN],defers:=[]} w):(Code.region 10 z4r true).wp Tryz.prog Q {tmps:=#[.pointer (some ⟨b,0,none⟩),d,f,g,i,j,k,l,.slice (some ⟨gp,on,none⟩) N nc,m,n,.pointer (some ⟨b10,0,none⟩),.int .i64 (t:Int),p,q,r,s,u,x,y,B,C,D,E,F,G,H,I,J,K,M,O,R,T,U,V,Y,Z,aa,ab,ac,ad,ae,af,ag,ah,ai,aj,ak,al,am,an,ao,ap,aq,ar,au,av,aw,ax,ay,az,aA,aB,aC,aD,aE,aF,aG,aH,aI,aJ,aK,aL,aM,aN],defers:=[]} W:=by
 have kst5_6_7_8:∀ (gt:Nat) (c:Nat) (w:World),(P3 w)->wpAnyH Tryz.prog .any z4r Q (fun w:World=>w.rangeAt gp (on+t*32) (z01 L)) 0 #[tt,tt,tt,tt,tt,tt,tt,tt,tt] {tmps:=#[.pointer (some ⟨b,0,none⟩),d,f,g,i,j,k,l,.slice (some ⟨gp,on,none⟩) N nc,m,n,.pointer (some ⟨b10,0,none⟩),.int .i64 (t:Int),p,q,r,s,u,x,y,B,C,D,E,F,G,H,I,J,K,M,O,R,T,U,V,Y,Z,aa,ab,ac,ad,ae,af,ag,.pointer (some ⟨b,0,none⟩),.slice (some ⟨gp,on,none⟩) N nc,.int .i64 (t:Int),.pointer (some ⟨gp,(on+t*32),none⟩),.agg (z01 L).toArray,.agg (z01 A).toArray,.slice (some ⟨gt,0,none⟩) 65 c,.agg (z01 X).toArray,ap,aq,ar,au,av,aw,ax,ay,az,aA,aB,aC,aD,aE,aF,aG,aH,aI,aJ,aK,aL,aM,aN],defers:=[]} w:=fun gt c w hp=>by
  exact wpAnyH_done (by kernel_rfl) (hfin gt c w hp) _
 have kst5:∀ (w:World),(P0 w)->wpAnyH Tryz.prog .any z4r Q (fun w:World=>w.rangeAt gp (on+t*32) (z01 L)) 3 #[tt,tt,tt,tt,tt,tt,ff,ff,ff] {tmps:=#[.pointer (some ⟨b,0,none⟩),d,f,g,i,j,k,l,.slice (some ⟨gp,on,none⟩) N nc,m,n,.pointer (some ⟨b10,0,none⟩),.int .i64 (t:Int),p,q,r,s,u,x,y,B,C,D,E,F,G,H,I,J,K,M,O,R,T,U,V,Y,Z,aa,ab,ac,ad,ae,af,ag,.pointer (some ⟨b,0,none⟩),.slice (some ⟨gp,on,none⟩) N nc,.int .i64 (t:Int),.pointer (some ⟨gp,(on+t*32),none⟩),.agg (z01 L).toArray,.agg (z01 A).toArray,an,ao,ap,aq,ar,au,av,aw,ax,ay,az,aA,aB,aC,aD,aE,aF,aG,aH,aI,aJ,aK,aL,aM,aN],defers:=[]} w:=fun  w hp=>by
  refine wpAnyH_ready (rs:=[6]) (by kernel_rfl) (by simp) ?_;refine AllReadyH.cons (o:=CX10OPSq6) rfl (fun KQ hKQ=>?_) ?_
  ·rw [if_pos (by rfl)]
   go_simp;refine (show Calls _ _ _ w (fun e w'=>∃ (gt:Nat) (c:Nat),e=.returned (.slice (some ⟨gt,0,none⟩) 65 c)/\(P1 gt c w')) from cF w hp).mono ?_;rintro e w ⟨gt,c,rfl,hp⟩;refine hKQ.out _ _ (t1 _ _ _ hp) (fun _=>?_);simp only [Act.put,CX10OPSq6,List.setIfInBounds_toArray,List.set];refine wpAnyH_ready (rs:=[7]) (by kernel_rfl) (by simp) ?_;refine AllReadyH.cons (o:=CX10OPSq7) rfl (fun KQ hKQ=>?_) ?_
   ·rw [if_pos (by rfl)]
    go_simp;refine (show Calls _ _ _ w (fun e w'=>e=.returned (.agg (z01 X).toArray)/\(P2 w')) from cT gt c w hp).mono ?_;rintro e w ⟨rfl,hp⟩;refine hKQ.out _ _ (t2 _ hp) (fun _=>?_);simp only [Act.put,CX10OPSq7,List.setIfInBounds_toArray,List.set];refine wpAnyH_ready (rs:=[8]) (by kernel_rfl) (by simp) ?_;refine AllReadyH.cons (o:=CX10OPSq8) rfl (fun KQ hKQ=>?_) ?_
    ·exact z1W (by rfl) (z3f (z2r (st w hp) lA lX)) (have hp:(fun (gt:Nat) (c:Nat) (w:World)=>(P3 w)) gt c _:=s3 w hp;hKQ.out _ _ (t3 _ hp) (fun _=>kst5_6_7_8 gt c _ hp))
    exact AllReadyH.nil
   exact AllReadyH.nil
  exact AllReadyH.nil
 have kst:∀ (w:World),(P0 w)->wpAnyH Tryz.prog .any z4r Q (fun w:World=>w.rangeAt gp (on+t*32) (z01 L)) 4 #[tt,tt,tt,tt,tt,ff,ff,ff,ff] {tmps:=#[.pointer (some ⟨b,0,none⟩),d,f,g,i,j,k,l,.slice (some ⟨gp,on,none⟩) N nc,m,n,.pointer (some ⟨b10,0,none⟩),.int .i64 (t:Int),p,q,r,s,u,x,y,B,C,D,E,F,G,H,I,J,K,M,O,R,T,U,V,Y,Z,aa,ab,ac,ad,ae,af,ag,.pointer (some ⟨b,0,none⟩),.slice (some ⟨gp,on,none⟩) N nc,.int .i64 (t:Int),.pointer (some ⟨gp,(on+t*32),none⟩),.agg (z01 L).toArray,am,an,ao,ap,aq,ar,au,av,aw,ax,ay,az,aA,aB,aC,aD,aE,aF,aG,aH,aI,aJ,aK,aL,aM,aN],defers:=[]} w:=fun  w hp=>by
  refine wpAnyH_ready (rs:=[5]) (by kernel_rfl) (by simp) ?_;refine AllReadyH.cons (o:=CX10OPSq5) rfl (fun KQ hKQ=>?_) ?_
  ·exact z0V (by rfl) (z0I (run_loadAt_mid (P:=Tryz.prog) w b10 0 24 _ _ (r10 w hp) Tryz.underlying24 rfl (z09 lA))) (have hp:(fun (w:World)=>(P0 w))  _:=hp;hKQ.out _ _ (t0 _ hp) (fun _=>kst5  _ hp))
  exact AllReadyH.nil
 have hp:=h0;have hww:(fun w:World=>w.rangeAt gp (on+t*32) (z01 L)) W.drew:=t0 _ hp;have last:=kst W.drew hp
 have z:wpAnyH Tryz.prog .any z4r Q (fun w:World=>w.rangeAt gp (on+t*32) (z01 L)) 9 #[ff,ff,ff,ff,ff,ff,ff,ff,ff] {tmps:=#[.pointer (some ⟨b,0,none⟩),d,f,g,i,j,k,l,.slice (some ⟨gp,on,none⟩) N nc,m,n,.pointer (some ⟨b10,0,none⟩),.int .i64 (t:Int),p,q,r,s,u,x,y,B,C,D,E,F,G,H,I,J,K,M,O,R,T,U,V,Y,Z,aa,ab,ac,ad,ae,af,ag,ah,ai,aj,ak,al,am,an,ao,ap,aq,ar,au,av,aw,ax,ay,az,aA,aB,aC,aD,aE,aF,aG,aH,aI,aJ,aK,aL,aM,aN],defers:=[]} W.drew:=by
  refine tkP CX10OPSq0 (.pointer (some ⟨b,0,none⟩)) 0 hQ hww ?_;simp only [List.set];refine tkP CX10OPSq1 (.slice (some ⟨gp,on,none⟩) N nc) 1 hQ hww ?_;simp only [List.set];refine tkP CX10OPSq2 (.int .i64 (t:Int)) 2 hQ hww ?_;simp only [List.set];refine tkP CX10OPSq3 (.pointer (some ⟨gp,(on+t*32),none⟩)) 3 hQ hww ?_;simp only [List.set];refine tkH CX10OPSq4 (.agg (z01 L).toArray) 4 hQ (yieldsIf_load_mid (by rfl) 24 (.tmp 48) rfl gp (on+t*32) rfl (z01 L) _ (fun w h=>h) Tryz.underlying24 rfl (z09 lL)) hww ?_;simp only [List.set];exact last
 exact wp_region_held_drew (S:=(fun w:World=>w.rangeAt gp (on+t*32) (z01 L))) (by kernel_rfl) hww (fun _=>z)
@[go_sem] def CX14OPSq0:Oper:=⟨some 61,.move (.tmp 0),53,"met.go:83",#[],none⟩
@[go_sem] def CX14OPSq1:Oper:=⟨some 62,.fieldAddr 48 (.tmp 4) 0,0,"met.go:83",#[],none⟩
@[go_sem] def CX14OPSq2:Oper:=⟨some 63,.load 22 (.tmp 62),22,"met.go:83",#[⟨1,.data⟩],none⟩
@[go_sem] def CX14OPSq3:Oper:=⟨some 64,.fieldAddr 48 (.tmp 4) 2,0,"met.go:83",#[],none⟩
@[go_sem] def CX14OPSq4:Oper:=⟨some 65,.load 38 (.tmp 64),38,"met.go:83",#[⟨3,.data⟩],none⟩
@[go_sem] def CX14OPSq5:Oper:=⟨some 66,.fieldAddr 48 (.tmp 4) 0,0,"met.go:83",#[],none⟩
@[go_sem] def CX14OPSq6:Oper:=⟨some 67,.load 22 (.tmp 66),22,"met.go:83",#[⟨5,.data⟩],none⟩
@[go_sem] def CX14OPSq7:Oper:=⟨some 68,.call {callee:=.value (.func 49),args:=#[.tmp 67],argTypes:=#[22]},3,"met.go:83",#[⟨6,.data⟩],none⟩
@[go_sem] def CX14OPSq8:Oper:=⟨some 69,.slice 38 (.tmp 65) none (some (.tmp 68)) none,38,"met.go:83",#[⟨4,.data⟩,⟨7,.data⟩],none⟩
@[go_sem] def CX14OPSq9:Oper:=⟨some 70,.call {callee:=.value (.func 47),args:=#[.tmp 61,.tmp 63,.tmp 69],argTypes:=#[53,22,38]},0,"met.go:83",#[⟨0,.data⟩,⟨2,.data⟩,⟨8,.data⟩,⟨7,.chain⟩],none⟩
def z8m:Array Oper:=#[CX14OPSq0,CX14OPSq1,CX14OPSq2,CX14OPSq3,CX14OPSq4,CX14OPSq5,CX14OPSq6,CX14OPSq7,CX14OPSq8,CX14OPSq9]
theorem zh3 {Q:Exit->Act->World->Prop} {d f g h i j l m n p q r s u x y A B C D E G H I J K L M O P R T U V X Y Z aa ab ac ad ae af ag ah ai aj ak al am an ao ap aq ar au av aw ax ay az aA aB aC aD aE aF aG aH aI aJ aK aL aM:Value} (W:World) (b b4 gn N nc k F:Nat) (hs:∀ w,(Instr.slice 38 (.slice (some ⟨gn,0,none⟩) N nc) none (some (.int .i64 (k:Int))) none).run Tryz.prog w=.ok (.slice (some ⟨gn,0,none⟩) k nc) w) (P0 P1 P2:World->Prop) (h0:P0 W.drew) (t0:∀ w,P0 w->(fun w:World=>w.cell? ⟨b4,0,none⟩=some (.int .u64 (F:Int))/\w.cell? ⟨b4,2,none⟩=some (.slice (some ⟨gn,0,none⟩) N nc)) w) (t1:∀ w,P1 w->(fun w:World=>w.cell? ⟨b4,0,none⟩=some (.int .u64 (F:Int))/\w.cell? ⟨b4,2,none⟩=some (.slice (some ⟨gn,0,none⟩) N nc)) w) (t2:∀ w,P2 w->(fun w:World=>w.cell? ⟨b4,0,none⟩=some (.int .u64 (F:Int))/\w.cell? ⟨b4,2,none⟩=some (.slice (some ⟨gn,0,none⟩) N nc)) w)
  (cO:∀ w,P0 w->Calls Tryz.prog 49 #[.int .u64 (F:Int)] w fun e w'=>e=.returned (.int .i64 (k:Int))/\P1 w') (cB:∀ w,P1 w->Calls Tryz.prog 47 #[.pointer (some ⟨b,0,none⟩),.int .u64 (F:Int),.slice (some ⟨gn,0,none⟩) k nc] w fun e w'=>∃ (v:Value),e=.returned v/\P2 w') (hQ:∀ c (a:Act) (t:Tmp) (v:Value) w,Q (.panic c) (a.put (some t) v) w->Q (.panic c) a w)
  (hfin:∀ (v:Value) (w:World),(P2 w)->Q .normal {tmps:=#[.pointer (some ⟨b,0,none⟩),d,f,g,.pointer (some ⟨b4,0,none⟩),h,i,j,l,m,n,p,q,r,s,u,x,y,A,B,C,D,E,G,H,I,J,K,L,M,O,P,R,T,U,V,X,Y,Z,aa,ab,ac,ad,ae,af,ag,ah,ai,aj,ak,al,am,an,ao,ap,aq,ar,au,av,aw,ax,.pointer (some ⟨b,0,none⟩),.pointer (some ⟨b4,0,none⟩),.int .u64 (F:Int),.pointer (some ⟨b4,2,none⟩),.slice (some ⟨gn,0,none⟩) N nc,.pointer (some ⟨b4,0,none⟩),.int .u64 (F:Int),.int .i64 (k:Int),.slice (some ⟨gn,0,none⟩) k nc,v,aI,aJ,aK,aL,aM],defers:=[]} w):(Code.region 14 z8m true).wp Tryz.prog Q {tmps:=#[.pointer (some ⟨b,0,none⟩),d,f,g,.pointer (some ⟨b4,0,none⟩),h,i,j,l,m,n,p,q,r,s,u,x,y,A,B,C,D,E,G,H,I,J,K,L,M,O,P,R,T,U,V,X,Y,Z,aa,ab,ac,ad,ae,af,ag,ah,ai,aj,ak,al,am,an,ao,ap,aq,ar,au,av,aw,ax,ay,az,aA,aB,aC,aD,aE,aF,aG,aH,aI,aJ,aK,aL,aM],defers:=[]} W:=by
 have kst:∀ (w:World),(P0 w)->wpAnyH Tryz.prog .any z8m Q (fun w:World=>w.cell? ⟨b4,0,none⟩=some (.int .u64 (F:Int))/\w.cell? ⟨b4,2,none⟩=some (.slice (some ⟨gn,0,none⟩) N nc)) 3 #[tt,tt,tt,tt,tt,tt,tt,ff,ff,ff] {tmps:=#[.pointer (some ⟨b,0,none⟩),d,f,g,.pointer (some ⟨b4,0,none⟩),h,i,j,l,m,n,p,q,r,s,u,x,y,A,B,C,D,E,G,H,I,J,K,L,M,O,P,R,T,U,V,X,Y,Z,aa,ab,ac,ad,ae,af,ag,ah,ai,aj,ak,al,am,an,ao,ap,aq,ar,au,av,aw,ax,.pointer (some ⟨b,0,none⟩),.pointer (some ⟨b4,0,none⟩),.int .u64 (F:Int),.pointer (some ⟨b4,2,none⟩),.slice (some ⟨gn,0,none⟩) N nc,.pointer (some ⟨b4,0,none⟩),.int .u64 (F:Int),aF,aG,aH,aI,aJ,aK,aL,aM],defers:=[]} w:=fun  w hp=>by
  refine wpAnyH_ready (rs:=[7]) (by kernel_rfl) (by simp) ?_;refine AllReadyH.cons (o:=CX14OPSq7) rfl (fun KQ hKQ=>?_) ?_
  ·rw [if_pos (by rfl)]
   go_simp;refine (show Calls _ _ _ w (fun e w'=>e=.returned (.int .i64 (k:Int))/\(P1 w')) from cO w hp).mono ?_;rintro e w ⟨rfl,hp⟩;refine hKQ.out _ _ (t1 _ hp) (fun _=>?_);simp only [Act.put,CX14OPSq7,List.setIfInBounds_toArray,List.set];have hww:(fun w:World=>w.cell? ⟨b4,0,none⟩=some (.int .u64 (F:Int))/\w.cell? ⟨b4,2,none⟩=some (.slice (some ⟨gn,0,none⟩) N nc)) w:=t1 _ hp;refine tkH CX14OPSq8 (.slice (some ⟨gn,0,none⟩) k nc) 8 hQ (Or.inl ⟨by rfl,fun w hw=>by have hx:=hs w;go_simp⟩) hww ?_;simp only [List.set];refine wpAnyH_ready (rs:=[9]) (by kernel_rfl) (by simp) ?_;refine AllReadyH.cons (o:=CX14OPSq9) rfl (fun KQ hKQ=>?_) ?_
   ·rw [if_pos (by rfl)]
    go_simp;refine (show Calls _ _ _ w (fun e w'=>∃ (v:Value),e=.returned (v)/\(P2 w')) from cB w hp).mono ?_;rintro e w ⟨v,rfl,hp⟩;refine hKQ.out _ _ (t2 _ hp) (fun _=>?_);simp only [Act.put,CX14OPSq9,List.setIfInBounds_toArray,List.set];exact wpAnyH_done (by kernel_rfl) (hfin v w hp) _
   exact AllReadyH.nil
  exact AllReadyH.nil
 have hp:=h0;have hww:(fun w:World=>w.cell? ⟨b4,0,none⟩=some (.int .u64 (F:Int))/\w.cell? ⟨b4,2,none⟩=some (.slice (some ⟨gn,0,none⟩) N nc)) W.drew:=t0 _ hp;have last:=kst W.drew hp
 have z:wpAnyH Tryz.prog .any z8m Q (fun w:World=>w.cell? ⟨b4,0,none⟩=some (.int .u64 (F:Int))/\w.cell? ⟨b4,2,none⟩=some (.slice (some ⟨gn,0,none⟩) N nc)) 10 #[ff,ff,ff,ff,ff,ff,ff,ff,ff,ff] {tmps:=#[.pointer (some ⟨b,0,none⟩),d,f,g,.pointer (some ⟨b4,0,none⟩),h,i,j,l,m,n,p,q,r,s,u,x,y,A,B,C,D,E,G,H,I,J,K,L,M,O,P,R,T,U,V,X,Y,Z,aa,ab,ac,ad,ae,af,ag,ah,ai,aj,ak,al,am,an,ao,ap,aq,ar,au,av,aw,ax,ay,az,aA,aB,aC,aD,aE,aF,aG,aH,aI,aJ,aK,aL,aM],defers:=[]} W.drew:=by
  refine tkP CX14OPSq0 (.pointer (some ⟨b,0,none⟩)) 0 hQ hww ?_;simp only [List.set];refine tkP CX14OPSq1 (.pointer (some ⟨b4,0,none⟩)) 1 hQ hww ?_;simp only [List.set];refine tkH CX14OPSq2 (.int .u64 (F:Int)) 2 hQ (Or.inl ⟨by rfl,fun w hw=>by have hx:=hw.1;go_simp⟩) hww ?_;simp only [List.set];refine tkP CX14OPSq3 (.pointer (some ⟨b4,2,none⟩)) 3 hQ hww ?_;simp only [List.set];refine tkH CX14OPSq4 (.slice (some ⟨gn,0,none⟩) N nc) 4 hQ (Or.inl ⟨by rfl,fun w hw=>by have hx:=hw.2;go_simp⟩) hww ?_;simp only [List.set];refine tkP CX14OPSq5 (.pointer (some ⟨b4,0,none⟩)) 5 hQ hww ?_;simp only [List.set];refine tkH CX14OPSq6 (.int .u64 (F:Int)) 6 hQ (Or.inl ⟨by rfl,fun w hw=>by have hx:=hw.1;go_simp⟩) hww ?_;simp only [List.set];exact last
 exact wp_region_held_drew (S:=(fun w:World=>w.cell? ⟨b4,0,none⟩=some (.int .u64 (F:Int))/\w.cell? ⟨b4,2,none⟩=some (.slice (some ⟨gn,0,none⟩) N nc))) (by kernel_rfl) hww (fun _=>z)
end Go.Proofs.YtdggkbpabjgdfaaGreatDoor
namespace Go.Proofs.YtdggkbpabjgdfaaGreatDoor
set_option maxRecDepth 100000
theorem zaD {b:Nat} (hb:b<=4611686018427387904) {h k:Nat}:∀ f a,b - a<=f->a<=k*2 ^ h->(k+1)*2 ^ h<=b->¬ (a<=k / 2*2 ^ (h+1)/\(k / 2+1)*2 ^ (h+1)<=b)->(h,k)∈SPAN a b:=by
 intro f;have hp:=Nat.two_pow_pos h;have hs:=z0N k h;induction f with
 | zero=>intro a hf h1 h2 _;omega
 | succ f ih=>
   intro a hf h1 h2 h3;have hab:a<b:=by omega
   obtain ⟨g1,g2,g3⟩:=z2h hab hb;rw [z1o hab];generalize HT a b=H at *
   have hu:=z23 h;rcases Nat.eq_or_lt_of_le h1 with e | e
   ·have hF:Fit a h b:=⟨by rw [e];exact Nat.mul_mod_left _ _,by omega⟩
    have hle:h<=H:=by
     rcases Nat.lt_or_ge H h with c | c
     ·exact absurd (hF.le (H+1) (by omega)) g3
     ·exact c
    rcases Nat.eq_or_lt_of_le hle with e2 | e2
    ·subst e2
     rw [e,Nat.mul_div_cancel _ hp];exact List.mem_cons_self
    ·exfalso
     have hG:=g2.le (h+1) (by omega);have hk:k % 2=0:=z2U.1 (by rw [<-e];exact hG.1)
     have hk2:k / 2*2 ^ (h+1)=k*2 ^ h:=by
      rw [hu,<-Nat.mul_assoc,show k / 2*2=k by omega]
     refine h3 ⟨by omega,?_⟩;rw [z0N,hk2];have:=hG.2;omega
   ·refine List.mem_cons_of_mem _ (ih (a+2 ^ H) (by have:=Nat.two_pow_pos H;omega) ?_ h2 (fun ⟨x,y⟩=>h3 ⟨by omega,y⟩))
    rcases Nat.lt_or_ge (k*2 ^ h) (a+2 ^ H) with lt | ge
    ·exfalso
     rcases Nat.lt_or_ge h H with c | c
     ·obtain ⟨q,hq⟩:2 ^ (h+1) ∣ 2 ^ H:=Nat.pow_dvd_pow 2 c
      obtain ⟨A,hA⟩:2 ^ (h+1) ∣ a:=Nat.dvd_trans ⟨q,hq⟩ (Nat.dvd_of_mod_eq_zero g2.1)
      have e1:2 ^ h*(2*A)<2 ^ h*k:=by
       rw [<-Nat.mul_assoc,Nat.mul_comm (2 ^ h) 2,<-hu,<-hA,Nat.mul_comm (2 ^ h) k];exact e
      have e2:2 ^ h*k<2 ^ h*(2*(A+q)):=by
       rw [<-Nat.mul_assoc,Nat.mul_comm (2 ^ h) 2,<-hu,Nat.mul_add,<-hA,<-hq,Nat.mul_comm (2 ^ h) k];exact lt
      have e3:=Nat.lt_of_mul_lt_mul_left e1;have e4:=Nat.lt_of_mul_lt_mul_left e2;refine h3 ⟨?_,?_⟩
      ·rw [hA,Nat.mul_comm]
       exact Nat.mul_le_mul_right _ (by omega)
      ·have:(k / 2+1)*2 ^ (h+1)<=(A+q)*2 ^ (h+1):=Nat.mul_le_mul_right _ (by omega)
       rw [Nat.mul_comm (A+q),Nat.mul_add,<-hA,<-hq] at this;have:=g2.2;omega
     ·obtain ⟨q,hq⟩:2 ^ H ∣ 2 ^ h:=Nat.pow_dvd_pow 2 c
      obtain ⟨A,hA⟩:2 ^ H ∣ a:=Nat.dvd_of_mod_eq_zero g2.1;have hx:k*2 ^ h=2 ^ H*(k*q):=by rw [hq,Nat.mul_left_comm]
      rw [hx] at e lt;rw [hA] at e;have e1:=Nat.lt_of_mul_lt_mul_left e;rw [hA] at lt;have e2:2 ^ H*(k*q)<2 ^ H*(A+1):=by rw [Nat.mul_add,Nat.mul_one];exact lt
      have e3:=Nat.lt_of_mul_lt_mul_left e2;omega
    ·exact ge
def VH (d:Int) (ss:List (Nat × Nat)) (l:List Int):Nat->Nat->List Int
 | 0,k=>HAND ss l ss.length 0 k
 | h+1,k=>if (h+1,k)∈ss then HAND ss l ss.length (h+1) k else z0o d (VH d ss l h (2*k)) (VH d ss l h (2*k+1))
theorem z7D {d:Int} {ss:List (Nat × Nat)} {l:List Int} {h k:Nat} (hm:(h,k)∈ss):VH d ss l h k=HAND ss l ss.length h k:=by
 cases h with
 | zero=>rfl
 | succ h=>rw [VH,if_pos hm]
theorem z7E {d:Int} {ss:List (Nat × Nat)} {l:List Int} {h k:Nat} (hm:(h+1,k) ∉ ss):VH d ss l (h+1) k=z0o d (VH d ss l h (2*k)) (VH d ss l h (2*k+1)):=by rw [VH,if_neg hm]
theorem z52 {d:Int} {ss:List (Nat × Nat)} {l:List Int} {n:Nat} (hl:l.length=32*n) (hr:∀ x∈l,0<=x/\x<=255) (hn:ss.length<=n):∀ h k,IsH (VH d ss l h k)
 | 0,k=>z2D hl hr _ hn 0 k
 | h+1,k=>by
   rw [VH];split
   ·exact z2D hl hr _ hn _ k
   ·exact z1r _ _ _
theorem z94 {F S t h k:Nat} (hS:S<=4611686018427387904) (hL:LOWS F t) (hh:h<=62) (he:(k+1)*2 ^ h<=S) (h1:F<(k / 2+1)*2 ^ (h+1)) (h2:¬ (F<=k / 2*2 ^ (h+1)/\(k / 2+1)*2 ^ (h+1)<=S)) (hFS:F<=S):(h,k)∈PXS F S\/(t<h/\k=F / 2 ^ h):=by
 rcases Nat.lt_or_ge F ((k+1)*2 ^ h) with c1 | c1
 ·rcases Nat.lt_or_ge (k*2 ^ h) F with c2 | c2
  ·right
   have hk:k=F / 2 ^ h:=(Nat.div_eq_of_lt_le (by omega) c1).symm;refine ⟨?_,hk⟩;rcases Nat.lt_or_ge t h with c | c
   ·exact c
   ·exfalso
    have hm:=(hL.2.2 h (by omega)).2 c;have:=Nat.div_add_mod F (2 ^ h);rw [hm,Nat.mul_comm,<-hk] at this;omega
  ·left
   exact List.mem_append_right _ (zaD hS _ F (Nat.le_refl _) c2 he h2)
 ·left
  exact List.mem_append_left _ (zaD (by omega) _ 0 (Nat.le_refl _) (Nat.zero_le _) c1 (fun h=>by omega))
theorem zaE {F S x y:Nat} (hFS:F<=S) (hS:S<=4611686018427387904) (h1:y*2 ^ x<F) (h2:F<(y+1)*2 ^ x):(x,y) ∉ PXS F S:=by
 intro hm;rcases List.mem_append.1 hm with hm | hm
 ·have:=((z0T (b:=F) (by omega) (Nat.zero_le _)).within _ hm).2.1
  dsimp only at this;omega
 ·have:=((z0T hS hFS).within _ hm).1
  dsimp only at this;omega
theorem zfb {F t x:Nat} (hL:LOWS F t) (hx:t<x) (hx2:x<=64):F / 2 ^ x*2 ^ x<F/\F<(F / 2 ^ x+1)*2 ^ x:=by
 obtain ⟨a,b⟩:=z2f F x;refine ⟨?_,b⟩;rcases Nat.eq_or_lt_of_le a with e | e
 ·exfalso
  have hm:F % 2 ^ x=0:=by rw [<-e];exact Nat.mul_mod_left _ _
  have:=(hL.2.2 x hx2).1 hm;omega
 ·exact e
theorem zjo {n k:Nat}:∀ f h i,i<f->(∀ j,j<=i->(n / 2 ^ (h+j)+1)*2 ^ (h+j)<=n+k)->(JF n k f h)[i]?=some (h+i,n / 2 ^ (h+i)):=by
 intro f;induction f with
 | zero=>intro h i hi _;omega
 | succ f ih=>
   intro h i hi hj;have h0:(n / 2 ^ h+1)*2 ^ h<=n+k:=hj 0 (Nat.zero_le _);rw [JF,if_pos h0];cases i with
   | zero=>simp
   | succ i=>
     rw [List.getElem?_cons_succ,ih (h+1) i (by omega) (fun j hj'=>by have:=hj (j+1) (by omega);rw [show h+(j+1)=h+1+j by omega] at this;exact this)];rw [show h+1+i=h+(i+1) by omega]
theorem zi9 (F:Nat) {x h:Nat} (hx:x<=h):(F / 2 ^ x+1)*2 ^ x<=(F / 2 ^ h+1)*2 ^ h:=by
 have b:=(z2f F h).2;have e:2 ^ h=2 ^ (h - x)*2 ^ x:=by rw [<-Nat.pow_add];congr 1;omega
 have hlt:F / 2 ^ x<(F / 2 ^ h+1)*2 ^ (h - x):=by
  rw [Nat.div_lt_iff_lt_mul (Nat.two_pow_pos x),Nat.mul_assoc,<-e];exact b
 calc (F / 2 ^ x+1)*2 ^ x<=((F / 2 ^ h+1)*2 ^ (h - x))*2 ^ x:=Nat.mul_le_mul_right _ hlt
  _=(F / 2 ^ h+1)*2 ^ h:=by rw [Nat.mul_assoc,<-e]
abbrev JSX (F S t:Nat):List (Nat × Nat):=JF F (S - F) (62 - t) (t+1)
theorem z7F {F S t i x y:Nat} (hFS:F<=S) (hL:LOWS F t) (e:(JSX F S t)[i]?=some (x,y)):x=t+1+i/\y=F / 2 ^ x/\(y+1)*2 ^ x<=S/\y*2 ^ x<F/\F<(y+1)*2 ^ x/\x<=62:=by
 obtain ⟨h1,h2,h3,h4⟩:=zco e;have hx:x<=62:=by omega
 have:=zfb hL (show t<x by omega) (by omega);rw [<-h2] at this;exact ⟨h1,h2,by omega,this.1,this.2,hx⟩
theorem getD_some {α:Type} {l:List α} {i:Nat} {x d:α} (e:l[i]?=some x):l.getD i d=x:=by rw [List.getD_eq_getElem?_getD,e];rfl
theorem z7G {d:Int} {F S t:Nat} (hFS:F<=S) (hS:S<=4611686018427387904) (hL:LOWS F t) (M:Nat->Nat->List Int) {h k:Nat} (hm:(h,k)∈PXS F S):∀ T,T<=(JSX F S t).length->JQ d (JSX F S t) M T h k=M h k
 | 0,_=>rfl
 | T + 1,hT=>by
   obtain ⟨⟨x,y⟩,e⟩:∃ s,(JSX F S t)[T]?=some s:=⟨_,List.getElem?_eq_getElem (by omega)⟩
   obtain ⟨_,_,_,c1,c2,_⟩:=z7F hFS hL e;rw [JQ,getD_some e,z20]
   ·exact z7G hFS hS hL M hm T (by omega)
   ·rintro ⟨e1,e2⟩
    dsimp only at e1 e2;subst e1 e2;exact zaE hFS hS c1 c2 hm
theorem z8n {d:Int} {F S t:Nat} (hFS:F<=S) (hS:S<=4611686018427387904) (hL:LOWS F t) (l:List Int):∀ T,T<=(JSX F S t).length->∀ i x y,i<T->(JSX F S t)[i]?=some (x,y)->JQ d (JSX F S t) (HAND (PXS F S) l (PXS F S).length) T x y=VH d (PXS F S) l x y
 | 0,_=>fun i x y hi _=>by omega
 | T + 1,hT=>fun i x y hi e=>by
   obtain ⟨⟨a,b⟩,eT⟩:∃ s,(JSX F S t)[T]?=some s:=⟨_,List.getElem?_eq_getElem (by omega)⟩
   obtain ⟨q1,q2,q3,q4,q5,q6⟩:=z7F hFS hL eT;obtain ⟨p1,p2,p3,p4,p5,p6⟩:=z7F hFS hL e;rw [JQ,getD_some eT];by_cases hiT:i=T
   ·subst hiT
    obtain ⟨rfl,rfl⟩:a=x/\b=y:=by
     have:=eT.symm.trans e;simpa using this
    rw [z4m];dsimp only;obtain ⟨a',rfl⟩:∃ a',a=a'+1:=⟨a - 1,by omega⟩
    rw [z7E (zaE hFS hS q4 q5),Nat.add_sub_cancel]
    have kid:∀ K,K / 2=b->(K+1)*2 ^ a'<=(b+1)*2 ^ (a'+1)->JQ d (JSX F S t) (HAND (PXS F S) l (PXS F S).length) i a' K=VH d (PXS F S) l a' K:=fun K hK hKe=>by
     rcases z94 (k:=K) hS hL (show a'<=62 by omega) (by omega) (by rw [hK];exact q5) (by rw [hK];omega) hFS with hm | ⟨hm,hk⟩
     ·rw [z7G hFS hS hL _ hm i (by omega),z7D hm]
     ·obtain ⟨i',rfl⟩:∃ i',i=i'+1:=⟨i - 1,by omega⟩
      obtain ⟨⟨u,v⟩,eU⟩:∃ s,(JSX F S t)[i']?=some s:=⟨_,List.getElem?_eq_getElem (by omega)⟩
      obtain ⟨r1,r2,_⟩:=z7F hFS hL eU;obtain rfl:u=a':=by omega
      rw [hk,<-r2];exact z8n hFS hS hL l (i'+1) (by omega) i' u v (by omega) eU
    have hu:=z23 a';rw [kid (2*b) (by omega) ?_,kid (2*b+1) (by omega) ?_]
    ·rw [hu,<-Nat.mul_assoc]
     exact Nat.mul_le_mul_right _ (by omega)
    ·rw [hu,<-Nat.mul_assoc]
     exact Nat.mul_le_mul_right _ (by omega)
   ·rw [z20]
    ·exact z8n hFS hS hL l T (by omega) i x y (by omega) e
    ·rintro ⟨e1,e2⟩
     dsimp only at e1;omega
theorem zaF {d:Int} {F S t:Nat} (hFS:F<=S) (hS:S<=4611686018427387904) (hL:LOWS F t) (l:List Int) {h k:Nat} (hm:(h,k)∈SPAN 0 S):RCM d (JSX F S t) F S l h k=VH d (PXS F S) l h k:=by
 obtain ⟨i,hi⟩:=List.mem_iff_getElem?.1 hm;have hN:=(z0T hS (Nat.zero_le _)).within _ hm;dsimp only at hN
 have hi2:i<PC S:=by
  rw [<-z0i hS];exact (List.getElem?_eq_some_iff.1 hi).1
 have hat:=z1f hS hi2;rw [hi] at hat
 simp only [Option.some.injEq,Prod.mk.injEq] at hat
 have hpar:S<(k / 2+1)*2 ^ (h+1):=by
  rcases Nat.lt_or_ge S ((k / 2+1)*2 ^ (h+1)) with c | c
  ·exact c
  ·exfalso
   have h1:=z4l c;have h2:=z48 (n:=S) (i:=i);rw [<-hat.1,<-hat.2] at h2;omega
 unfold RCM;rcases z94 hS hL hN.2.2.1 hN.2.1 (by omega) (fun ⟨_,h⟩=>by omega) hFS with hr | ⟨ht,hk⟩
 ·rw [z7G hFS hS hL _ hr _ (Nat.le_refl _),z7D hr]
 ·have hle:=hN.2.1
  have hN2:=hN.2.2.1
  have e:(JSX F S t)[h - t - 1]?=some (h,k):=by
   have:=zjo (n:=F) (k:=S - F) (62 - t) (t+1) (h - t - 1) (by omega) (fun j hj=>by
    have:=zi9 F (show t+1+j<=h by omega);rw [<-hk] at this;omega)
   rw [show t+1+(h - t - 1)=h by omega,<-hk] at this;exact this
  exact z8n hFS hS hL l _ (Nat.le_refl _) _ h k (List.getElem?_eq_some_iff.1 e).1 e
theorem zaG {l:List (Nat × Nat)}:∀ {a m c:Nat},Tile a l c->a<=m->m<=c->(∀ s∈l,(s.2+1)*2 ^ s.1<=m\/m<=s.2*2 ^ s.1)->∃ i,i<=l.length/\Tile a (l.take i) m/\Tile m (l.drop i) c:=by
 induction l with
 | nil=>
   intro a m c h h1 h2 _;have e:a=c:=h;obtain rfl:a=m:=by omega
   exact ⟨0,Nat.le_refl _,rfl,h⟩
 | cons s l ih=>
   intro a m c h h1 h2 hs;by_cases e:a=m
   ·subst e
    exact ⟨0,Nat.zero_le _,rfl,h⟩
   ·obtain ⟨q1,q2,q3⟩:=h
    have hend:(s.2+1)*2 ^ s.1<=m:=by
     rcases hs s List.mem_cons_self with h | h
     ·exact h
     ·omega
    obtain ⟨i,i1,i2,i3⟩:=ih q3 hend h2 (fun x hx=>hs x (List.mem_cons_of_mem _ hx));exact ⟨i+1,Nat.succ_le_succ i1,⟨q1,q2,i2⟩,i3⟩
theorem zfc {l:List (Nat × Nat)} {h k:Nat} (ht:Tile (k*2 ^ (h+1)) l ((k+1)*2 ^ (h+1))) (h0:l[0]?≠some (h+1,k)):∃ i,i<=l.length/\Tile (2*k*2 ^ h) (l.take i) ((2*k+1)*2 ^ h)/\Tile ((2*k+1)*2 ^ h) (l.drop i) ((2*k+1+1)*2 ^ h):=by
 have hu:=z23 h;have hp:=Nat.two_pow_pos h;have ea:k*2 ^ (h+1)=2*k*2 ^ h:=by rw [hu,<-Nat.mul_assoc,Nat.mul_comm k 2]
 have ec:(k+1)*2 ^ (h+1)=(2*k+1+1)*2 ^ h:=by rw [hu,<-Nat.mul_assoc];congr 1;omega
 have em:=z0N (2*k) h;have en:=z0N (2*k+1) h;refine (zaG (m:=(2*k+1)*2 ^ h) ht (by omega) (by omega) (fun s hs=>?_)).imp fun i hi=>⟨hi.1,by rw [<-ea];exact hi.2.1,by rw [<-ec];exact hi.2.2⟩
 obtain ⟨w1,w2,w3⟩:=ht.within s hs;obtain ⟨x,y⟩:=s;dsimp only at *
 rcases Nat.lt_or_ge ((2*k+1)*2 ^ h) ((y+1)*2 ^ x) with c1 | c1
 ·rcases Nat.lt_or_ge (y*2 ^ x) ((2*k+1)*2 ^ h) with c2 | c2
  ·exfalso
   rcases Nat.lt_or_ge h x with c | c
   ·obtain ⟨q,hq⟩:2 ^ (h+1) ∣ 2 ^ x:=Nat.pow_dvd_pow 2 c
    have hsx:=z0N y x
    have hq1:1<=q:=by
      rcases Nat.eq_zero_or_pos q with e | e
      ·subst e
       have:=Nat.two_pow_pos x;omega
      ·exact e
    have hle:2 ^ (h+1)<=2 ^ x:=Nat.pow_le_pow_right (by decide) c;have hk1:=z0N k (h+1);have hx:2 ^ x=2 ^ (h+1):=by omega
    obtain rfl:x=h+1:=(Nat.pow_right_inj (by decide)).1 hx;have hy:y*2 ^ (h+1)=k*2 ^ (h+1):=by omega
    obtain rfl:y=k:=Nat.eq_of_mul_eq_mul_right (Nat.two_pow_pos _) hy;cases l with
    | nil=>simp at hs
    | cons s l=>
      rcases List.mem_cons.1 hs with e | e
      ·exact h0 (by rw [<-e];rfl)
      ·have:=(ht.2.2.within _ e).1
       dsimp only at this;have hb:=ht.2.1;have:=z0N s.2 s.1;have:=Nat.two_pow_pos s.1;omega
   ·obtain ⟨q,hq⟩:2 ^ x ∣ 2 ^ h:=Nat.pow_dvd_pow 2 c
    have hx:(2*k+1)*2 ^ h=2 ^ x*((2*k+1)*q):=by rw [hq,Nat.mul_left_comm]
    rw [hx,Nat.mul_comm] at c1;rw [hx,Nat.mul_comm y] at c2;have c1':2 ^ x*((2*k+1)*q)<2 ^ x*(y+1):=by rw [Nat.mul_comm (2 ^ x) (y+1),Nat.mul_comm (2 ^ x)];exact c1
    have e1:=Nat.lt_of_mul_lt_mul_left c1';have e2:=Nat.lt_of_mul_lt_mul_left c2;omega
  ·exact .inr c2
 ·exact .inl c1
theorem z6R {h k:Nat} (hn:Node h k):(k+1)*2 ^ h<=4611686018427387904:=by
 have:=Nat.mul_le_mul_right (2 ^ h) (Nat.succ_le_of_lt hn.2);rw [<-Nat.pow_add,show 62 - h+h=62 by have:=hn.1;omega] at this;simpa using this
theorem z95 {h k:Nat} (hn:Node h k) (he:k % 2=0):SPAN 0 ((k+1)*2 ^ h)=SPAN 0 (k*2 ^ h) ++ [(h,k)]:=by
 have hb:=z6R hn;have h1:k*2 ^ h<=(k+1)*2 ^ h:=Nat.mul_le_mul_right _ (Nat.le_succ _);refine (z8H ((z0T (by omega) (Nat.zero_le _)).append ?_) ((zgf (by omega)).snoc fun y _ hs=>?_)).symm
 ·exact ⟨hn,rfl,rfl⟩
 ·have h2:=hs.2.1
  have h3:=hs.2.2;dsimp only at h3;omega
def ODDS (k i:Nat):Prop:=∀ t,t<i->k / 2 ^ t % 2=1
def TRO:Nat->Nat->Nat
 | 0,_=>0
 | f+1,k=>if k % 2=1 then TRO f (k / 2)+1 else 0
theorem z6S (k t:Nat):k / 2 / 2 ^ t=k / 2 ^ (t+1):=by rw [Nat.div_div_eq_div_mul,Nat.pow_succ,Nat.mul_comm]
theorem z41 (k t:Nat):k / 2 ^ t / 2=k / 2 ^ (t+1):=by rw [Nat.div_div_eq_div_mul,Nat.pow_succ]
theorem ODDS.half {k i:Nat} (h:ODDS k (i+1)):ODDS (k / 2) i:=fun t ht=>by rw [z6S];exact h (t+1) (by omega)
theorem ODDS.one {k i:Nat} (h:ODDS k (i+1)):k % 2=1:=by simpa using h 0 (by omega)
theorem zfd:∀ {f k i:Nat},i<=f->ODDS k i->i<=TRO f k
 | _,_,0,_,_=>Nat.zero_le _
 | 0,_,i+1,h,_=>by omega
 | f+1,k,i+1,hi,ho=>by
   rw [TRO,if_pos ho.one];have:=zfd (f:=f) (k:=k / 2) (i:=i) (by omega) ho.half;omega
theorem zaH:∀ f k,TRO f k<=f
 | 0,_=>Nat.le_refl _
 | f+1,k=>by
   rw [TRO];have:=zaH f (k / 2);split <;> omega
theorem zaI:∀ {f k:Nat},k<2 ^ f->ODDS k (TRO f k)/\k / 2 ^ TRO f k % 2=0
 | 0,k,h=>by
   obtain rfl:k=0:=by simpa using h
   exact ⟨fun t ht=>absurd ht (Nat.not_lt_zero _),by simp⟩
 | f + 1,k,h=>by
   rw [TRO];split
   ·rename_i ho
    obtain ⟨h1,h2⟩:=zaI (f:=f) (k:=k / 2) (by rw [Nat.pow_succ] at h;omega);refine ⟨fun t ht=>?_,by rw [<-z6S];exact h2⟩;cases t with
    | zero=>simpa using ho
    | succ t=>rw [<-z6S];exact h1 t (by omega)
   ·exact ⟨fun t ht=>absurd ht (Nat.not_lt_zero _),by rw [Nat.pow_zero,Nat.div_one];omega⟩
theorem Node.odd_up {h k:Nat} (hn:Node h k) (ho:k % 2=1):Node (h+1) (k / 2):=by
 have h1:=hn.2;have h2:62 - h≠0:=fun e=>by rw [e] at h1;simp at h1;omega
 obtain ⟨z,hz⟩:∃ z,62 - h=z+1:=⟨62 - h - 1,by omega⟩
 rw [hz,Nat.pow_succ] at h1;exact ⟨by omega,by rw [show 62 - (h+1)=z by omega];omega⟩
theorem Node.ahead {h k:Nat} (hn:Node h k):Node h (k - 1):=⟨hn.1,by have:=hn.2;omega⟩
theorem ziW {h k:Nat} (ho:k % 2=1):PLC (h+1) (k / 2)=PLC h k+1:=by
 rw [z3C,show 2*(k / 2)+1=k by omega]
theorem zfe {l:List (Nat × Nat)}:∀ {a b j:Nat} {s:Nat × Nat},Tile a l b->l[j]?=some s->Tile a (l.take j) (s.2*2 ^ s.1)/\Tile a (l.take (j+1)) ((s.2+1)*2 ^ s.1)/\Node s.1 s.2:=by
 induction l with
 | nil=>intro a b j s _ e;simp at e
 | cons x l ih=>
   intro a b j s h e;obtain ⟨hn,he,ht⟩:=h;cases j with
   | zero=>
     simp only [List.getElem?_cons_zero,Option.some.injEq] at e;subst e;exact ⟨he.symm,⟨hn,he,rfl⟩,hn⟩
   | succ j=>
     obtain ⟨h1,h2,h3⟩:=ih ht (by simpa using e);exact ⟨⟨hn,he,h1⟩,⟨hn,he,h2⟩,h3⟩
theorem zaJ {l:List (Nat × Nat)} {a b c:Nat} (h:Tile a l b) (k:Tile a l c):b=c:=by rw [<-h.size,<-k.size]
theorem zh4 {h k:Nat} (hn:Node h k) (ho:k % 2=1):SPAN 0 (k*2 ^ h)=SPAN 0 (k / 2*2 ^ (h+1)) ++ [(h,k - 1)]:=by
 have e:=z95 hn.ahead (by omega);rw [show k - 1+1=k by omega] at e;rw [e];congr 2
 rw [Nat.pow_succ,Nat.mul_comm (2 ^ h) 2,<-Nat.mul_assoc];congr 1
 omega
theorem zia {h k:Nat} (ho:k % 2=1):(k / 2+1)*2 ^ (h+1)=(k+1)*2 ^ h:=by
 rw [Nat.pow_succ,Nat.mul_comm (2 ^ h) 2,<-Nat.mul_assoc];congr 1
 omega
abbrev PXV (d:Int) (F S:Nat) (t:List Int):Nat->Nat->List Int:=VH d (PXS F S) t
def JR (V:Nat->Nat->List Int) (h k:Nat):Nat->List (List Nat)
 | 0=>[]
 | i+1=>z0t (V (h+i) (k / 2 ^ i - 1)) (V (h+i) (k / 2 ^ i)) :: JR V h k i
theorem z5C (V:Nat->Nat->List Int) (h k:Nat):∀ i,(JR V h k i).length=i
 | 0=>rfl
 | i+1=>by rw [JR,List.length_cons,z5C V h k i]
theorem zff (V:Nat->Nat->List Int) (h k:Nat):∀ m i,i<m->z0t (V (h+i) (k / 2 ^ i - 1)) (V (h+i) (k / 2 ^ i))∈JR V h k m
 | 0,i,hi=>by omega
 | m + 1,i,hi=>by
   rw [JR];by_cases e:i=m
   ·subst e
    exact List.mem_cons_self ..
   ·exact List.mem_cons_of_mem _ (zff V h k m i (by omega))
def PTX (V:Nat->Nat->List Int):List (Nat × Nat)->List (List Nat)
 | []=>[]
 | s :: ss=>PTX V ss ++ JR V s.1 s.2 (TRO 64 s.2)
theorem zaK (V:Nat->Nat->List Int) (s:Nat × Nat):∀ ss,PTX V (ss ++ [s])=JR V s.1 s.2 (TRO 64 s.2) ++ PTX V ss
 | []=>by simp [PTX]
 | x :: ss=>by
   rw [List.cons_append,PTX,zaK V s ss,PTX,List.append_assoc]
theorem zcq (V:Nat->Nat->List Int) {s:Nat × Nat} {t:List Nat} (ht:t∈JR V s.1 s.2 (TRO 64 s.2)):∀ {ss:List (Nat × Nat)},s∈ss->t∈PTX V ss
 | x :: ss,h=>by
   rw [PTX];rcases List.mem_cons.1 h with e | h
   ·exact List.mem_append.2 (.inr (e ▸ ht))
   ·exact List.mem_append.2 (.inl (zcq V ht h))
theorem z53 (V:Nat->Nat->List Int):∀ ss,(PTX V ss).length<=64*ss.length
 | []=>Nat.le_refl _
 | s :: ss=>by
   rw [PTX,List.length_append,z5C,List.length_cons];have:=z53 V ss;have:=zaH 64 s.2;omega
theorem z6T {ss:List (Nat × Nat)} (hp:ss.Pairwise Off) {s t:Nat × Nat} (hs:s∈ss) (ht:t∈ss) (hne:s≠t):Off s t:=by
 obtain ⟨a,ha⟩:=List.mem_iff_getElem?.1 hs;obtain ⟨b,hb⟩:=List.mem_iff_getElem?.1 ht;rcases Nat.lt_trichotomy a b with c | c | c
 ·exact Pairwise.at_lt hp c ha hb
 ·subst c
  rw [ha] at hb;exact absurd (Option.some.inj hb) hne
 ·exact za9 (Pairwise.at_lt hp c hb ha)
theorem z9G (h k i:Nat):k / 2 ^ i*2 ^ (h+i)<=k*2 ^ h/\(k+1)*2 ^ h<=(k / 2 ^ i+1)*2 ^ (h+i):=by
 obtain ⟨h1,h2⟩:=z2f k i;have e:2 ^ (h+i)=2 ^ i*2 ^ h:=by rw [Nat.add_comm,Nat.pow_add]
 rw [e,<-Nat.mul_assoc,<-Nat.mul_assoc];exact ⟨Nat.mul_le_mul_right _ h1,Nat.mul_le_mul_right _ h2⟩
theorem zfg {ss:List (Nat × Nat)} (hp:ss.Pairwise Off) {h k i:Nat} (hs:(h,k)∈ss):(h+(i+1),k / 2 ^ (i+1)) ∉ ss:=fun hm=>by
 have h1:=z9G h k (i+1);have h2:k*2 ^ h<(k+1)*2 ^ h:=Nat.mul_lt_mul_of_pos_right (Nat.lt_succ_self _) (Nat.two_pow_pos h);have:=z6T hp hs hm (fun e=>by have:=congrArg Prod.fst e;dsimp only at this;omega);unfold Off at this;dsimp only at this;omega
theorem zjp {d:Int} {ss:List (Nat × Nat)} (hp:ss.Pairwise Off) {l:List Int} {h k i:Nat} (hs:(h,k)∈ss) (ho:k / 2 ^ i % 2=1):z0o d (VH d ss l (h+i) (k / 2 ^ i - 1)) (VH d ss l (h+i) (k / 2 ^ i))=VH d ss l (h+(i+1)) (k / 2 ^ (i+1)):=by
 rw [show h+(i+1)=h+i+1 by omega,z7E (h:=h+i) (k:=k / 2 ^ (i+1)) (zfg (i:=i) hp hs),<-z41];generalize k / 2 ^ i=z at *
 rw [show 2*(z / 2)=z - 1 by omega,show z - 1+1=z by omega]
theorem z8o:∀ {l:List (Nat × Nat)} {a b:Nat},Tile a l b->∀ x,a<=x->x<b->∃ s∈l,s.2*2 ^ s.1<=x/\x<(s.2+1)*2 ^ s.1
 | [],a,b,h,x,h1,h2=>by
   have:a=b:=h;omega
 | s :: l,a,b,h,x,h1,h2=>by
   obtain ⟨_,e,hl⟩:=h;rcases Nat.lt_or_ge x ((s.2+1)*2 ^ s.1) with c | c
   ·exact ⟨s,List.mem_cons_self ..,by omega,c⟩
   ·obtain ⟨u,hu,e2⟩:=z8o hl x c h2
    exact ⟨u,List.mem_cons_of_mem _ hu,e2⟩
theorem z7H {h H:Nat} (hh:h<=H) (M:Nat):M*2 ^ H=M*2 ^ (H - h)*2 ^ h:=by rw [Nat.mul_assoc,<-Nat.pow_add,Nat.sub_add_cancel hh]
theorem z54 {h k H M:Nat} (hh:h<=H):(k+1)*2 ^ h<=M*2 ^ H\/M*2 ^ H<=k*2 ^ h:=by
 rw [z7H hh];rcases Nat.lt_or_ge k (M*2 ^ (H - h)) with c | c
 ·exact .inl (Nat.mul_le_mul_right _ c)
 ·exact .inr (Nat.mul_le_mul_right _ c)
theorem zib (V:Nat->Nat->List Int) {ss:List (Nat × Nat)} {S:Nat} (ht:Tile 0 ss S) {h k H K:Nat} (hs:(h,k)∈ss) (hH:h<=H) (h1:K*2 ^ (H+1)<=k*2 ^ h) (h2:(k+1)*2 ^ h<=(K+1)*2 ^ (H+1)) (hS:(K+1)*2 ^ (H+1)<=S) (h62:H<63):z0t (V H (2*K)) (V H (2*K+1))∈PTX V ss:=by
 have hpos:0<(K+1)*2 ^ (H+1):=Nat.mul_pos (Nat.succ_pos _) (Nat.two_pow_pos _);have hk:k*2 ^ h<(k+1)*2 ^ h:=Nat.mul_lt_mul_of_pos_right (Nat.lt_succ_self _) (Nat.two_pow_pos h);obtain ⟨⟨h',k'⟩,hm,a1,a2⟩:=z8o ht ((K+1)*2 ^ (H+1) - 1) (Nat.zero_le _) (by omega);dsimp only at a1 a2
 have hle:h'<=H:=by
  rcases Nat.lt_or_ge H h' with c | c
  ·exfalso
   have e1:=z54 (k:=K) (M:=k') (show H+1<=h' from c);have e2:=z54 (k:=K) (M:=k'+1) (show H+1<=h' from c);have:=z6T ht.off hs hm (fun e=>by have:=congrArg Prod.fst e;dsimp only at this;omega);unfold Off at this;dsimp only at this;omega
  ·exact c
 have e3:=z54 (k:=k') (M:=K+1) (show h'<=H+1 by omega);have e4:(k'+1)*2 ^ h'=(K+1)*2 ^ (H+1):=by omega
 obtain ⟨i,rfl⟩:∃ i,H=h'+i:=⟨H - h',by omega⟩
 have e5:k'+1=(K+1)*2 ^ (i+1):=by
  have:(k'+1)*2 ^ h'=(K+1)*2 ^ (i+1)*2 ^ h':=by rw [e4,Nat.mul_assoc,<-Nat.pow_add,show h'+i+1=i+1+h' by omega]
  exact Nat.eq_of_mul_eq_mul_right (Nat.two_pow_pos _) this
 have hdiv:∀ t,t<=i->k' / 2 ^ t=(K+1)*2 ^ (i+1 - t) - 1:=fun t htt=>by
  have hp:=Nat.two_pow_pos t;have e6:k'+1=(K+1)*2 ^ (i+1 - t)*2 ^ t:=by rw [e5,Nat.mul_assoc,<-Nat.pow_add,show i+1 - t+t=i+1 by omega]
  have hq:0<(K+1)*2 ^ (i+1 - t):=Nat.mul_pos (Nat.succ_pos _) (Nat.two_pow_pos _);generalize (K+1)*2 ^ (i+1 - t)=Z at *
  obtain ⟨z,rfl⟩:∃ z,Z=z+1:=⟨Z - 1,by omega⟩
  rw [Nat.add_mul,Nat.one_mul] at e6;rw [Nat.add_sub_cancel,Nat.div_eq_iff hp];omega
 have hodd:ODDS k' (i+1):=fun t htt=>by
  rw [hdiv t (by omega),show i+1 - t=i - t+1 by omega,Nat.pow_succ,<-Nat.mul_assoc];have:0<(K+1)*2 ^ (i - t):=Nat.mul_pos (Nat.succ_pos _) (Nat.two_pow_pos _);omega
 have hge:=zfd (f:=64) (show i+1<=64 by omega) hodd;have:=zff V h' k' (TRO 64 k') i (by omega);rw [hdiv i (Nat.le_refl _),show i+1 - i=1 by omega] at this;rw [show (K+1)*2 ^ 1 - 1 - 1=2*K by omega,show (K+1)*2 ^ 1 - 1=2*K+1 by omega] at this;exact zcq V this hm
theorem zfh {S h k:Nat} (hS:S<=4611686018427387904) (hm:(h,k)∈SPAN 0 S):S<(k / 2+1)*2 ^ (h+1):=by
 obtain ⟨i,hi⟩:=List.mem_iff_getElem?.1 hm
 have hi2:i<PC S:=by
  rw [<-z0i hS];exact (List.getElem?_eq_some_iff.1 hi).1
 have hat:=z1f hS hi2;rw [hi] at hat
 simp only [Option.some.injEq,Prod.mk.injEq] at hat
 rcases Nat.lt_or_ge S ((k / 2+1)*2 ^ (h+1)) with c | c
 ·exact c
 ·exfalso
  have h1:=z4l c;have h2:=z48 (n:=S) (i:=i);rw [<-hat.1,<-hat.2] at h2;omega
theorem zic {S h k:Nat} (hS:S<=4611686018427387904) (he:(k+1)*2 ^ h<=S):∃ i,(h+i,k / 2 ^ i)∈SPAN 0 S:=by
 have hk:k*2 ^ h<(k+1)*2 ^ h:=Nat.mul_lt_mul_of_pos_right (Nat.lt_succ_self _) (Nat.two_pow_pos h);obtain ⟨⟨p,q⟩,hm,a1,a2⟩:=z8o (z0T hS (Nat.zero_le _)) (k*2 ^ h) (Nat.zero_le _) (by omega);dsimp only at a1 a2;rcases Nat.lt_or_ge p h with c | c
 ·exfalso
  have h1:=zfh hS hm;have h2:=z54 (h:=p+1) (k:=q / 2) (H:=h) (M:=k+1) c;have h3:=z9G p q 1;rw [Nat.pow_one] at h3;omega
 ·refine ⟨p - h,?_⟩
  have:k / 2 ^ (p - h)=q:=by
   rw [z7H c] at a1 a2;have b1:=Nat.le_of_mul_le_mul_right a1 (Nat.two_pow_pos h);have b2:=Nat.lt_of_mul_lt_mul_right a2;rw [Nat.div_eq_iff (Nat.two_pow_pos _)];rw [Nat.add_mul] at b2;omega
  rw [show h+(p - h)=p by omega,this];exact hm
end Go.Proofs.YtdggkbpabjgdfaaGreatDoor
