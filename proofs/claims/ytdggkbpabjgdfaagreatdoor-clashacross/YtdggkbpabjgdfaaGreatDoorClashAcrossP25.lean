/- ClashAcross: part 25. -/
import Derived.Test.YtdggkbpabjgdfaaGreatDoorClashAcrossP16
import Derived.Test.YtdggkbpabjgdfaaGreatDoorClashAcrossP22
set_option maxHeartbeats 2000000
namespace Go.Proofs.YtdggkbpabjgdfaaGreatDoor
open Go.RowKit
set_option maxRecDepth 100000
@[go_sem] def RC13OPSq0:Oper:=⟨some 54,.move (.tmp 0),3,"ref.go:25",#[],none⟩
@[go_sem] def RC13OPSq1:Oper:=⟨some 55,.load 24 (.tmp 13),24,"ref.go:25",#[],none⟩
@[go_sem] def RC13OPSq2:Oper:=⟨some 56,.fieldAddr 40 (.tmp 5) 2,0,"ref.go:25",#[],none⟩
@[go_sem] def RC13OPSq3:Oper:=⟨some 57,.load 38 (.tmp 56),38,"ref.go:25",#[⟨2,.data⟩],none⟩
@[go_sem] def RC13OPSq4:Oper:=⟨some 58,.move (.tmp 15),3,"ref.go:25",#[],none⟩
@[go_sem] def RC13OPSq5:Oper:=⟨some 59,.indexAddr 38 (.tmp 57) (.tmp 58),0,"ref.go:25",#[⟨3,.data⟩,⟨4,.data⟩],none⟩
@[go_sem] def RC13OPSq6:Oper:=⟨some 60,.load 24 (.tmp 59),24,"ref.go:25",#[⟨5,.data⟩],none⟩
@[go_sem] def RC13OPSq7:Oper:=⟨some 61,.call {callee:=.value (.func 31),args:=#[.tmp 54,.tmp 55,.tmp 60],argTypes:=#[3,24,24]},24,"ref.go:25",#[⟨0,.data⟩,⟨1,.data⟩,⟨6,.data⟩],none⟩
@[go_sem] def RC13OPSq8:Oper:=⟨none,.store 24 (.tmp 13) (.tmp 61),0,"ref.go:25",#[⟨7,.data⟩,⟨7,.chain⟩,⟨0,.phase⟩,⟨1,.phase⟩,⟨2,.phase⟩,⟨3,.phase⟩,⟨4,.phase⟩,⟨5,.phase⟩,⟨6,.phase⟩,⟨7,.phase⟩],none⟩
def z3y:Array Oper:=#[RC13OPSq0,RC13OPSq1,RC13OPSq2,RC13OPSq3,RC13OPSq4,RC13OPSq5,RC13OPSq6,RC13OPSq7,RC13OPSq8]
theorem z9y {Q:Exit->Act->World->Prop} {f g i j l m p r s u x y A B C D E F G H J M N O P R T U V Z aa ab ac ad ae af ag ah ai aj ak al am an ao ap aq ar au av aw ax ay az aA aB aC aD aE aF aG aH aI aJ aK aL aM aN aO aP aQ aR aS aT aU aV aW aX aY aZ a0 a1 a2 a3 a4 a5 a6 a7 a8 a9 ba bb bc bd:Value} (W:World) (gn o n c b bp q:Nat) (d:Int) (L X Y:List Int) (hL:L.length=32) (hX:X.length=32) (hY:Y.length=32) (hq:(q:Int)<(n:Int)) (I:World->Prop) (h0:I W.drew) (hI:∀ w,I w->(w.rangeAt gn (o+q*32) (z01 L)/\w.cell? ⟨bp,2,none⟩=some (.slice (some ⟨gn,o,none⟩) n c))/\Has w b (z01 X).toArray 24) (hRow:∀ w,I w->(w.setRow b (z01 Y).toArray).rangeAt gn (o+q*32) (z01 L)/\(w.setRow b (z01 Y).toArray).cell? ⟨bp,2,none⟩=some (.slice (some ⟨gn,o,none⟩) n c))
  (q1:∀ w,I w->Calls Tryz.prog 31 #[.int .i64 d,.agg (z01 X).toArray,.agg (z01 L).toArray] w fun e w'=>e=.returned (.agg (z01 Y).toArray)/\I w') (hQ:∀ c (a:Act) (t:Tmp) (v:Value) w,Q (.panic c) (a.put (some t) v) w->Q (.panic c) a w)
  (hfin:∀ (w:World),(∃ w0:World,I w0/\w=w0.setRow b (z01 Y).toArray)->Q .normal {tmps:=#[.int .i64 d,f,g,i,j,.pointer (some ⟨bp,0,none⟩),l,m,p,r,s,u,x,.pointer (some ⟨b,0,none⟩),y,.int .i64 (q:Int),A,B,C,D,E,F,G,H,J,M,N,O,P,R,T,U,V,Z,aa,ab,ac,ad,ae,af,ag,ah,ai,aj,ak,al,am,an,ao,ap,aq,ar,au,av,.int .i64 d,.agg (z01 X).toArray,.pointer (some ⟨bp,2,none⟩),.slice (some ⟨gn,o,none⟩) n c,.int .i64 (q:Int),.pointer (some ⟨gn,(o+q*32),none⟩),.agg (z01 L).toArray,.agg (z01 Y).toArray,aE,aF,aG,aH,aI,aJ,aK,aL,aM,aN,aO,aP,aQ,aR,aS,aT,aU,aV,aW,aX,aY,aZ,a0,a1,a2,a3,a4,a5,a6,a7,a8,a9,ba,bb,bc,bd],defers:=[]} w):(Code.region 13 z3y true).wp Tryz.prog Q {tmps:=#[.int .i64 d,f,g,i,j,.pointer (some ⟨bp,0,none⟩),l,m,p,r,s,u,x,.pointer (some ⟨b,0,none⟩),y,.int .i64 (q:Int),A,B,C,D,E,F,G,H,J,M,N,O,P,R,T,U,V,Z,aa,ab,ac,ad,ae,af,ag,ah,ai,aj,ak,al,am,an,ao,ap,aq,ar,au,av,aw,ax,ay,az,aA,aB,aC,aD,aE,aF,aG,aH,aI,aJ,aK,aL,aM,aN,aO,aP,aQ,aR,aS,aT,aU,aV,aW,aX,aY,aZ,a0,a1,a2,a3,a4,a5,a6,a7,a8,a9,ba,bb,bc,bd],defers:=[]} W:=by
 have k1_7_8:∀ (w:World),(∃ w0:World,I w0/\w=w0.setRow b (z01 Y).toArray)->wpAnyH Tryz.prog .any z3y Q (fun w:World=>w.rangeAt gn (o+q*32) (z01 L)/\w.cell? ⟨bp,2,none⟩=some (.slice (some ⟨gn,o,none⟩) n c)) 0 #[tt,tt,tt,tt,tt,tt,tt,tt,tt] {tmps:=#[.int .i64 d,f,g,i,j,.pointer (some ⟨bp,0,none⟩),l,m,p,r,s,u,x,.pointer (some ⟨b,0,none⟩),y,.int .i64 (q:Int),A,B,C,D,E,F,G,H,J,M,N,O,P,R,T,U,V,Z,aa,ab,ac,ad,ae,af,ag,ah,ai,aj,ak,al,am,an,ao,ap,aq,ar,au,av,.int .i64 d,.agg (z01 X).toArray,.pointer (some ⟨bp,2,none⟩),.slice (some ⟨gn,o,none⟩) n c,.int .i64 (q:Int),.pointer (some ⟨gn,(o+q*32),none⟩),.agg (z01 L).toArray,.agg (z01 Y).toArray,aE,aF,aG,aH,aI,aJ,aK,aL,aM,aN,aO,aP,aQ,aR,aS,aT,aU,aV,aW,aX,aY,aZ,a0,a1,a2,a3,a4,a5,a6,a7,a8,a9,ba,bb,bc,bd],defers:=[]} w:=fun  w hp=>by
  exact wpAnyH_done (by kernel_rfl) (hfin  w hp) _
 have k1_7:∀ (w:World),(I w)->wpAnyH Tryz.prog .any z3y Q (fun w:World=>w.rangeAt gn (o+q*32) (z01 L)/\w.cell? ⟨bp,2,none⟩=some (.slice (some ⟨gn,o,none⟩) n c)) 1 #[tt,tt,tt,tt,tt,tt,tt,tt,ff] {tmps:=#[.int .i64 d,f,g,i,j,.pointer (some ⟨bp,0,none⟩),l,m,p,r,s,u,x,.pointer (some ⟨b,0,none⟩),y,.int .i64 (q:Int),A,B,C,D,E,F,G,H,J,M,N,O,P,R,T,U,V,Z,aa,ab,ac,ad,ae,af,ag,ah,ai,aj,ak,al,am,an,ao,ap,aq,ar,au,av,.int .i64 d,.agg (z01 X).toArray,.pointer (some ⟨bp,2,none⟩),.slice (some ⟨gn,o,none⟩) n c,.int .i64 (q:Int),.pointer (some ⟨gn,(o+q*32),none⟩),.agg (z01 L).toArray,.agg (z01 Y).toArray,aE,aF,aG,aH,aI,aJ,aK,aL,aM,aN,aO,aP,aQ,aR,aS,aT,aU,aV,aW,aX,aY,aZ,a0,a1,a2,a3,a4,a5,a6,a7,a8,a9,ba,bb,bc,bd],defers:=[]} w:=fun  w hp=>by
  refine wpAnyH_ready (rs:=[8]) (by kernel_rfl) (by simp) ?_;refine AllReadyH.cons (o:=RC13OPSq8) rfl (fun K hK=>?_) ?_
  ·exact z1s (by rfl) (wpList_store_row rfl 24 (.tmp 13) (.tmp 61) rfl _ _ rfl rfl 24 _ (hI _ hp).2 (z02 hY) (by simp [z01,hX,hY]) (z0k Y) ⟨rfl,(have hp:(fun (w:World)=>(∃ w0:World,I w0/\w=w0.setRow b (z01 Y).toArray))  _:=⟨w,hp,rfl⟩;hK.out _ _ ((by obtain ⟨w0,h1,h2⟩:=hp; (first | rw [h2] | skip);exact hRow _ h1)) (fun _=>k1_7_8  _ hp))⟩)
  exact AllReadyH.nil
 have k1:∀ (w:World),(I w)->wpAnyH Tryz.prog .any z3y Q (fun w:World=>w.rangeAt gn (o+q*32) (z01 L)/\w.cell? ⟨bp,2,none⟩=some (.slice (some ⟨gn,o,none⟩) n c)) 2 #[tt,tt,tt,tt,tt,tt,tt,ff,ff] {tmps:=#[.int .i64 d,f,g,i,j,.pointer (some ⟨bp,0,none⟩),l,m,p,r,s,u,x,.pointer (some ⟨b,0,none⟩),y,.int .i64 (q:Int),A,B,C,D,E,F,G,H,J,M,N,O,P,R,T,U,V,Z,aa,ab,ac,ad,ae,af,ag,ah,ai,aj,ak,al,am,an,ao,ap,aq,ar,au,av,.int .i64 d,.agg (z01 X).toArray,.pointer (some ⟨bp,2,none⟩),.slice (some ⟨gn,o,none⟩) n c,.int .i64 (q:Int),.pointer (some ⟨gn,(o+q*32),none⟩),.agg (z01 L).toArray,aD,aE,aF,aG,aH,aI,aJ,aK,aL,aM,aN,aO,aP,aQ,aR,aS,aT,aU,aV,aW,aX,aY,aZ,a0,a1,a2,a3,a4,a5,a6,a7,a8,a9,ba,bb,bc,bd],defers:=[]} w:=fun  w hp=>by
  refine wpAnyH_ready (rs:=[7]) (by kernel_rfl) (by simp) ?_;refine AllReadyH.cons (o:=RC13OPSq7) rfl (fun K hK=>?_) ?_
  ·rw [if_pos (by rfl)]
   go_simp;refine (show Calls _ _ _ w (fun e w'=>e=.returned (.agg (z01 Y).toArray)/\(I w')) from q1 w hp).mono ?_;rintro e w' ⟨rfl,hp⟩;exact hK.out _ _ ((hI _ hp).1) (fun _=>k1_7  w' hp)
  exact AllReadyH.nil
 have k:∀ (w:World),(I w)->wpAnyH Tryz.prog .any z3y Q (fun w:World=>w.rangeAt gn (o+q*32) (z01 L)/\w.cell? ⟨bp,2,none⟩=some (.slice (some ⟨gn,o,none⟩) n c)) 3 #[tt,ff,tt,tt,tt,tt,tt,ff,ff] {tmps:=#[.int .i64 d,f,g,i,j,.pointer (some ⟨bp,0,none⟩),l,m,p,r,s,u,x,.pointer (some ⟨b,0,none⟩),y,.int .i64 (q:Int),A,B,C,D,E,F,G,H,J,M,N,O,P,R,T,U,V,Z,aa,ab,ac,ad,ae,af,ag,ah,ai,aj,ak,al,am,an,ao,ap,aq,ar,au,av,.int .i64 d,ax,.pointer (some ⟨bp,2,none⟩),.slice (some ⟨gn,o,none⟩) n c,.int .i64 (q:Int),.pointer (some ⟨gn,(o+q*32),none⟩),.agg (z01 L).toArray,aD,aE,aF,aG,aH,aI,aJ,aK,aL,aM,aN,aO,aP,aQ,aR,aS,aT,aU,aV,aW,aX,aY,aZ,a0,a1,a2,a3,a4,a5,a6,a7,a8,a9,ba,bb,bc,bd],defers:=[]} w:=fun  w hp=>by
  refine wpAnyH_ready (rs:=[1]) (by kernel_rfl) (by simp) ?_;refine AllReadyH.cons (o:=RC13OPSq1) rfl (fun K hK=>?_) ?_
  ·exact z1s (by rfl) (wpList_load_row rfl 24 (.tmp 13) rfl b rfl 24 (z01 X).toArray (0,0) _ (hI _ hp).2 Tryz.underlying24 rfl (z02 hX) ⟨rfl,(have hp:(fun (w:World)=>(I w))  w:=hp;hK.out _ _ ((hI _ hp).1) (fun _=>k1  _ hp))⟩)
  exact AllReadyH.nil
 have hp:=h0;have hww:(fun w:World=>w.rangeAt gn (o+q*32) (z01 L)/\w.cell? ⟨bp,2,none⟩=some (.slice (some ⟨gn,o,none⟩) n c)) W.drew:=(hI _ hp).1;have last:=k W.drew hp
 have z:wpAnyH Tryz.prog .any z3y Q (fun w:World=>w.rangeAt gn (o+q*32) (z01 L)/\w.cell? ⟨bp,2,none⟩=some (.slice (some ⟨gn,o,none⟩) n c)) 9 #[ff,ff,ff,ff,ff,ff,ff,ff,ff] {tmps:=#[.int .i64 d,f,g,i,j,.pointer (some ⟨bp,0,none⟩),l,m,p,r,s,u,x,.pointer (some ⟨b,0,none⟩),y,.int .i64 (q:Int),A,B,C,D,E,F,G,H,J,M,N,O,P,R,T,U,V,Z,aa,ab,ac,ad,ae,af,ag,ah,ai,aj,ak,al,am,an,ao,ap,aq,ar,au,av,aw,ax,ay,az,aA,aB,aC,aD,aE,aF,aG,aH,aI,aJ,aK,aL,aM,aN,aO,aP,aQ,aR,aS,aT,aU,aV,aW,aX,aY,aZ,a0,a1,a2,a3,a4,a5,a6,a7,a8,a9,ba,bb,bc,bd],defers:=[]} W.drew:=by
  refine tkP RC13OPSq0 (.int .i64 d) 0 hQ hww ?_;simp only [List.set];refine tkP RC13OPSq2 (.pointer (some ⟨bp,2,none⟩)) 2 hQ hww ?_;simp only [List.set];refine tkH RC13OPSq3 (.slice (some ⟨gn,o,none⟩) n c) 3 hQ (Or.inl ⟨by rfl,fun w hw=>by have hx:=hw.2;go_simp⟩) hww ?_;simp only [List.set];refine tkP RC13OPSq4 (.int .i64 (q:Int)) 4 hQ hww ?_;simp only [List.set];refine tkP RC13OPSq5 (.pointer (some ⟨gn,(o+q*32),none⟩)) 5 hQ hww ?_;simp only [List.set];refine tkH RC13OPSq6 (.agg (z01 L).toArray) 6 hQ (yieldsIf_load_mid (by rfl) 24 (.tmp 59) rfl gn (o+q*32) rfl (z01 L) _ (fun w h=>h.1) Tryz.underlying24 rfl (z09 hL)) hww ?_;simp only [List.set];exact last
 exact wp_region_held_drew (S:=(fun w:World=>w.rangeAt gn (o+q*32) (z01 L)/\w.cell? ⟨bp,2,none⟩=some (.slice (some ⟨gn,o,none⟩) n c))) (by kernel_rfl) hww (fun _=>z)
@[go_sem] def RC14OPSq0:Oper:=⟨some 62,.move (.tmp 0),3,"ref.go:27",#[],none⟩
@[go_sem] def RC14OPSq1:Oper:=⟨some 63,.fieldAddr 40 (.tmp 5) 2,0,"ref.go:27",#[],none⟩
@[go_sem] def RC14OPSq2:Oper:=⟨some 64,.load 38 (.tmp 63),38,"ref.go:27",#[⟨1,.data⟩],none⟩
@[go_sem] def RC14OPSq3:Oper:=⟨some 65,.move (.tmp 15),3,"ref.go:27",#[],none⟩
@[go_sem] def RC14OPSq4:Oper:=⟨some 66,.indexAddr 38 (.tmp 64) (.tmp 65),0,"ref.go:27",#[⟨2,.data⟩,⟨3,.data⟩],none⟩
@[go_sem] def RC14OPSq5:Oper:=⟨some 67,.load 24 (.tmp 66),24,"ref.go:27",#[⟨4,.data⟩],none⟩
@[go_sem] def RC14OPSq6:Oper:=⟨some 68,.load 24 (.tmp 13),24,"ref.go:27",#[],none⟩
@[go_sem] def RC14OPSq7:Oper:=⟨some 69,.call {callee:=.value (.func 31),args:=#[.tmp 62,.tmp 67,.tmp 68],argTypes:=#[3,24,24]},24,"ref.go:27",#[⟨0,.data⟩,⟨5,.data⟩,⟨6,.data⟩],none⟩
@[go_sem] def RC14OPSq8:Oper:=⟨none,.store 24 (.tmp 13) (.tmp 69),0,"ref.go:27",#[⟨7,.data⟩,⟨7,.chain⟩,⟨0,.phase⟩,⟨1,.phase⟩,⟨2,.phase⟩,⟨3,.phase⟩,⟨4,.phase⟩,⟨5,.phase⟩,⟨6,.phase⟩,⟨7,.phase⟩],none⟩
def z3z:Array Oper:=#[RC14OPSq0,RC14OPSq1,RC14OPSq2,RC14OPSq3,RC14OPSq4,RC14OPSq5,RC14OPSq6,RC14OPSq7,RC14OPSq8]
theorem z8s {Q:Exit->Act->World->Prop} {f g i j l m p r s u x y A B C D E F G H J M N O P R T U V Z aa ab ac ad ae af ag ah ai aj ak al am an ao ap aq ar au av aw ax ay az aA aB aC aD aE aF aG aH aI aJ aK aL aM aN aO aP aQ aR aS aT aU aV aW aX aY aZ a0 a1 a2 a3 a4 a5 a6 a7 a8 a9 ba bb bc bd:Value} (W:World) (gn o n c b bp q:Nat) (d:Int) (L X Y:List Int) (hL:L.length=32) (hX:X.length=32) (hY:Y.length=32) (hq:(q:Int)<(n:Int)) (I:World->Prop) (h0:I W.drew) (hI:∀ w,I w->(w.rangeAt gn (o+q*32) (z01 L)/\w.cell? ⟨bp,2,none⟩=some (.slice (some ⟨gn,o,none⟩) n c))/\Has w b (z01 X).toArray 24) (hRow:∀ w,I w->(w.setRow b (z01 Y).toArray).rangeAt gn (o+q*32) (z01 L)/\(w.setRow b (z01 Y).toArray).cell? ⟨bp,2,none⟩=some (.slice (some ⟨gn,o,none⟩) n c))
  (q1:∀ w,I w->Calls Tryz.prog 31 #[.int .i64 d,.agg (z01 L).toArray,.agg (z01 X).toArray] w fun e w'=>e=.returned (.agg (z01 Y).toArray)/\I w') (hQ:∀ c (a:Act) (t:Tmp) (v:Value) w,Q (.panic c) (a.put (some t) v) w->Q (.panic c) a w)
  (hfin:∀ (w:World),(∃ w0:World,I w0/\w=w0.setRow b (z01 Y).toArray)->Q .normal {tmps:=#[.int .i64 d,f,g,i,j,.pointer (some ⟨bp,0,none⟩),l,m,p,r,s,u,x,.pointer (some ⟨b,0,none⟩),y,.int .i64 (q:Int),A,B,C,D,E,F,G,H,J,M,N,O,P,R,T,U,V,Z,aa,ab,ac,ad,ae,af,ag,ah,ai,aj,ak,al,am,an,ao,ap,aq,ar,au,av,aw,ax,ay,az,aA,aB,aC,aD,.int .i64 d,.pointer (some ⟨bp,2,none⟩),.slice (some ⟨gn,o,none⟩) n c,.int .i64 (q:Int),.pointer (some ⟨gn,(o+q*32),none⟩),.agg (z01 L).toArray,.agg (z01 X).toArray,.agg (z01 Y).toArray,aM,aN,aO,aP,aQ,aR,aS,aT,aU,aV,aW,aX,aY,aZ,a0,a1,a2,a3,a4,a5,a6,a7,a8,a9,ba,bb,bc,bd],defers:=[]} w):(Code.region 14 z3z true).wp Tryz.prog Q {tmps:=#[.int .i64 d,f,g,i,j,.pointer (some ⟨bp,0,none⟩),l,m,p,r,s,u,x,.pointer (some ⟨b,0,none⟩),y,.int .i64 (q:Int),A,B,C,D,E,F,G,H,J,M,N,O,P,R,T,U,V,Z,aa,ab,ac,ad,ae,af,ag,ah,ai,aj,ak,al,am,an,ao,ap,aq,ar,au,av,aw,ax,ay,az,aA,aB,aC,aD,aE,aF,aG,aH,aI,aJ,aK,aL,aM,aN,aO,aP,aQ,aR,aS,aT,aU,aV,aW,aX,aY,aZ,a0,a1,a2,a3,a4,a5,a6,a7,a8,a9,ba,bb,bc,bd],defers:=[]} W:=by
 have k6_7_8:∀ (w:World),(∃ w0:World,I w0/\w=w0.setRow b (z01 Y).toArray)->wpAnyH Tryz.prog .any z3z Q (fun w:World=>w.rangeAt gn (o+q*32) (z01 L)/\w.cell? ⟨bp,2,none⟩=some (.slice (some ⟨gn,o,none⟩) n c)) 0 #[tt,tt,tt,tt,tt,tt,tt,tt,tt] {tmps:=#[.int .i64 d,f,g,i,j,.pointer (some ⟨bp,0,none⟩),l,m,p,r,s,u,x,.pointer (some ⟨b,0,none⟩),y,.int .i64 (q:Int),A,B,C,D,E,F,G,H,J,M,N,O,P,R,T,U,V,Z,aa,ab,ac,ad,ae,af,ag,ah,ai,aj,ak,al,am,an,ao,ap,aq,ar,au,av,aw,ax,ay,az,aA,aB,aC,aD,.int .i64 d,.pointer (some ⟨bp,2,none⟩),.slice (some ⟨gn,o,none⟩) n c,.int .i64 (q:Int),.pointer (some ⟨gn,(o+q*32),none⟩),.agg (z01 L).toArray,.agg (z01 X).toArray,.agg (z01 Y).toArray,aM,aN,aO,aP,aQ,aR,aS,aT,aU,aV,aW,aX,aY,aZ,a0,a1,a2,a3,a4,a5,a6,a7,a8,a9,ba,bb,bc,bd],defers:=[]} w:=fun  w hp=>by
  exact wpAnyH_done (by kernel_rfl) (hfin  w hp) _
 have k6_7:∀ (w:World),(I w)->wpAnyH Tryz.prog .any z3z Q (fun w:World=>w.rangeAt gn (o+q*32) (z01 L)/\w.cell? ⟨bp,2,none⟩=some (.slice (some ⟨gn,o,none⟩) n c)) 1 #[tt,tt,tt,tt,tt,tt,tt,tt,ff] {tmps:=#[.int .i64 d,f,g,i,j,.pointer (some ⟨bp,0,none⟩),l,m,p,r,s,u,x,.pointer (some ⟨b,0,none⟩),y,.int .i64 (q:Int),A,B,C,D,E,F,G,H,J,M,N,O,P,R,T,U,V,Z,aa,ab,ac,ad,ae,af,ag,ah,ai,aj,ak,al,am,an,ao,ap,aq,ar,au,av,aw,ax,ay,az,aA,aB,aC,aD,.int .i64 d,.pointer (some ⟨bp,2,none⟩),.slice (some ⟨gn,o,none⟩) n c,.int .i64 (q:Int),.pointer (some ⟨gn,(o+q*32),none⟩),.agg (z01 L).toArray,.agg (z01 X).toArray,.agg (z01 Y).toArray,aM,aN,aO,aP,aQ,aR,aS,aT,aU,aV,aW,aX,aY,aZ,a0,a1,a2,a3,a4,a5,a6,a7,a8,a9,ba,bb,bc,bd],defers:=[]} w:=fun  w hp=>by
  refine wpAnyH_ready (rs:=[8]) (by kernel_rfl) (by simp) ?_;refine AllReadyH.cons (o:=RC14OPSq8) rfl (fun K hK=>?_) ?_
  ·exact z1s (by rfl) (wpList_store_row rfl 24 (.tmp 13) (.tmp 69) rfl _ _ rfl rfl 24 _ (hI _ hp).2 (z02 hY) (by simp [z01,hX,hY]) (z0k Y) ⟨rfl,(have hp:(fun (w:World)=>(∃ w0:World,I w0/\w=w0.setRow b (z01 Y).toArray))  _:=⟨w,hp,rfl⟩;hK.out _ _ ((by obtain ⟨w0,h1,h2⟩:=hp; (first | rw [h2] | skip);exact hRow _ h1)) (fun _=>k6_7_8  _ hp))⟩)
  exact AllReadyH.nil
 have k6:∀ (w:World),(I w)->wpAnyH Tryz.prog .any z3z Q (fun w:World=>w.rangeAt gn (o+q*32) (z01 L)/\w.cell? ⟨bp,2,none⟩=some (.slice (some ⟨gn,o,none⟩) n c)) 2 #[tt,tt,tt,tt,tt,tt,tt,ff,ff] {tmps:=#[.int .i64 d,f,g,i,j,.pointer (some ⟨bp,0,none⟩),l,m,p,r,s,u,x,.pointer (some ⟨b,0,none⟩),y,.int .i64 (q:Int),A,B,C,D,E,F,G,H,J,M,N,O,P,R,T,U,V,Z,aa,ab,ac,ad,ae,af,ag,ah,ai,aj,ak,al,am,an,ao,ap,aq,ar,au,av,aw,ax,ay,az,aA,aB,aC,aD,.int .i64 d,.pointer (some ⟨bp,2,none⟩),.slice (some ⟨gn,o,none⟩) n c,.int .i64 (q:Int),.pointer (some ⟨gn,(o+q*32),none⟩),.agg (z01 L).toArray,.agg (z01 X).toArray,aL,aM,aN,aO,aP,aQ,aR,aS,aT,aU,aV,aW,aX,aY,aZ,a0,a1,a2,a3,a4,a5,a6,a7,a8,a9,ba,bb,bc,bd],defers:=[]} w:=fun  w hp=>by
  refine wpAnyH_ready (rs:=[7]) (by kernel_rfl) (by simp) ?_;refine AllReadyH.cons (o:=RC14OPSq7) rfl (fun K hK=>?_) ?_
  ·rw [if_pos (by rfl)]
   go_simp;refine (show Calls _ _ _ w (fun e w'=>e=.returned (.agg (z01 Y).toArray)/\(I w')) from q1 w hp).mono ?_;rintro e w' ⟨rfl,hp⟩;exact hK.out _ _ ((hI _ hp).1) (fun _=>k6_7  w' hp)
  exact AllReadyH.nil
 have k:∀ (w:World),(I w)->wpAnyH Tryz.prog .any z3z Q (fun w:World=>w.rangeAt gn (o+q*32) (z01 L)/\w.cell? ⟨bp,2,none⟩=some (.slice (some ⟨gn,o,none⟩) n c)) 3 #[tt,tt,tt,tt,tt,tt,ff,ff,ff] {tmps:=#[.int .i64 d,f,g,i,j,.pointer (some ⟨bp,0,none⟩),l,m,p,r,s,u,x,.pointer (some ⟨b,0,none⟩),y,.int .i64 (q:Int),A,B,C,D,E,F,G,H,J,M,N,O,P,R,T,U,V,Z,aa,ab,ac,ad,ae,af,ag,ah,ai,aj,ak,al,am,an,ao,ap,aq,ar,au,av,aw,ax,ay,az,aA,aB,aC,aD,.int .i64 d,.pointer (some ⟨bp,2,none⟩),.slice (some ⟨gn,o,none⟩) n c,.int .i64 (q:Int),.pointer (some ⟨gn,(o+q*32),none⟩),.agg (z01 L).toArray,aK,aL,aM,aN,aO,aP,aQ,aR,aS,aT,aU,aV,aW,aX,aY,aZ,a0,a1,a2,a3,a4,a5,a6,a7,a8,a9,ba,bb,bc,bd],defers:=[]} w:=fun  w hp=>by
  refine wpAnyH_ready (rs:=[6]) (by kernel_rfl) (by simp) ?_;refine AllReadyH.cons (o:=RC14OPSq6) rfl (fun K hK=>?_) ?_
  ·exact z1s (by rfl) (wpList_load_row rfl 24 (.tmp 13) rfl b rfl 24 (z01 X).toArray (0,0) _ (hI _ hp).2 Tryz.underlying24 rfl (z02 hX) ⟨rfl,(have hp:(fun (w:World)=>(I w))  w:=hp;hK.out _ _ ((hI _ hp).1) (fun _=>k6  _ hp))⟩)
  exact AllReadyH.nil
 have hp:=h0;have hww:(fun w:World=>w.rangeAt gn (o+q*32) (z01 L)/\w.cell? ⟨bp,2,none⟩=some (.slice (some ⟨gn,o,none⟩) n c)) W.drew:=(hI _ hp).1;have last:=k W.drew hp
 have z:wpAnyH Tryz.prog .any z3z Q (fun w:World=>w.rangeAt gn (o+q*32) (z01 L)/\w.cell? ⟨bp,2,none⟩=some (.slice (some ⟨gn,o,none⟩) n c)) 9 #[ff,ff,ff,ff,ff,ff,ff,ff,ff] {tmps:=#[.int .i64 d,f,g,i,j,.pointer (some ⟨bp,0,none⟩),l,m,p,r,s,u,x,.pointer (some ⟨b,0,none⟩),y,.int .i64 (q:Int),A,B,C,D,E,F,G,H,J,M,N,O,P,R,T,U,V,Z,aa,ab,ac,ad,ae,af,ag,ah,ai,aj,ak,al,am,an,ao,ap,aq,ar,au,av,aw,ax,ay,az,aA,aB,aC,aD,aE,aF,aG,aH,aI,aJ,aK,aL,aM,aN,aO,aP,aQ,aR,aS,aT,aU,aV,aW,aX,aY,aZ,a0,a1,a2,a3,a4,a5,a6,a7,a8,a9,ba,bb,bc,bd],defers:=[]} W.drew:=by
  refine tkP RC14OPSq0 (.int .i64 d) 0 hQ hww ?_;simp only [List.set];refine tkP RC14OPSq1 (.pointer (some ⟨bp,2,none⟩)) 1 hQ hww ?_;simp only [List.set];refine tkH RC14OPSq2 (.slice (some ⟨gn,o,none⟩) n c) 2 hQ (Or.inl ⟨by rfl,fun w hw=>by have hx:=hw.2;go_simp⟩) hww ?_;simp only [List.set];refine tkP RC14OPSq3 (.int .i64 (q:Int)) 3 hQ hww ?_;simp only [List.set];refine tkP RC14OPSq4 (.pointer (some ⟨gn,(o+q*32),none⟩)) 4 hQ hww ?_;simp only [List.set];refine tkH RC14OPSq5 (.agg (z01 L).toArray) 5 hQ (yieldsIf_load_mid (by rfl) 24 (.tmp 66) rfl gn (o+q*32) rfl (z01 L) _ (fun w h=>h.1) Tryz.underlying24 rfl (z09 hL)) hww ?_;simp only [List.set];exact last
 exact wp_region_held_drew (S:=(fun w:World=>w.rangeAt gn (o+q*32) (z01 L)/\w.cell? ⟨bp,2,none⟩=some (.slice (some ⟨gn,o,none⟩) n c))) (by kernel_rfl) hww (fun _=>z)
end Go.Proofs.YtdggkbpabjgdfaaGreatDoor
namespace Go.Proofs.YtdggkbpabjgdfaaGreatDoor.HX
open Go.RowKit
set_option maxRecDepth 100000
theorem zh8 (w:World) (x:Nat) (base:Nat) (hb:base<=w.heap.size):(w.alloc (.cells #[.int .u8 (x:Int)] 5)).ownsRow base 5 1 (.slice (some ⟨w.heap.size,0,none⟩) 1 1) 1 (z01 (INTS [x])):=
 ⟨rfl,.inr ⟨w.heap.size,1,#[.int .u8 (x:Int)],rfl,hb,by first | exact (Has.new w _ _) | exact (Has.new w _ _).1 | simp,by decide,by decide,rfl,rfl⟩⟩
theorem z6X {w w1:World} {x:Nat} {ba bb m1 m2:Nat} {l1 l2:List Nat} (hb:Below w.heap.size w w1) (h1:Text w1 (some ⟨ba,0,none⟩) m1 l1) (h2:Text w1 (some ⟨bb,0,none⟩) m2 l2):
  Aside (Bytes (w1.alloc (.cells #[.int .u8 (x:Int)] 5)) (some ⟨ba,0,none⟩) m1 (INTS l1)/\(w1.alloc (.cells #[.int .u8 (x:Int)] 5)).ownsRow w.heap.size 5 1 (.slice (some ⟨w1.heap.size,0,none⟩) 1 1) 1 (z01 (INTS [x]))/\w.heap.size<=w1.heap.size/\
   (∀ w',(w1.alloc (.cells #[.int .u8 (x:Int)] 5)).grownBy w' (some w1.heap.size)->Bytes w' (some ⟨bb,0,none⟩) m2 (INTS l2)/\w.heap.size<=w'.heap.size/\Below w.heap.size w w'/\w1.heap.size<w'.heap.size)):=by
 refine ⟨(h1.below ((Below.refl _ _).alloc (Nat.le_refl _) _)).bytes,zh8 w1 x _ hb.size,hb.size,fun w' hg=>?_⟩;have hb':Below w1.heap.size w1 w':=((Below.refl _ _).alloc (Nat.le_refl _) _).grown hg (by simp) (fun k e=>by cases e;exact Nat.le_refl _);have hs:=hg.size;simp at hs;exact ⟨(h2.below hb').bytes,Nat.le_trans hb.size hb'.size,hb.trans (hb'.mono hb.size),by omega⟩
theorem z8t (l r:Nat->Nat) (hl:∀ i,l i<256) (hr:∀ i,r i<256) (w:World):Calls Tryz.prog 59 #[.agg (UARR .u8 32 l),.agg (UARR .u8 32 r)] w fun e w'=>
  ∃ a' c',e=.returned (.slice a' 65 c')/\w'.ownsRow w.heap.size 5 1 (.slice a' 65 c') 65 (z01 (INTS (1 :: ((List.range 32).map l ++ (List.range 32).map r))))/\Below w.heap.size w w':=by
 have hs32:=z29;obtain ⟨w1,hw1⟩:∃ w1,w1=(w.alloc (.cells (UARR .u8 32 l) 24)).alloc (.cells (UARR .u8 32 r) 24):=⟨_,rfl⟩
 have U:Below w.heap.size w w1/\Has w1 w.heap.size (UARR .u8 32 l) 24/\Has w1 (w.heap.size+1) (UARR .u8 32 r) 24:=by
  rw [hw1];exact ⟨((Below.refl _ _).alloc (Nat.le_refl _) _).alloc (by simp) _,(Has.new w _ _).alloc _,Has.at _ _ _ (by simp)⟩
 have T1:=z6X (x:=1) U.1.drew (Has.text (w:=w1.drew) U.2.1 hl) (Has.text (w:=w1.drew) U.2.2 hr);clear U hl hr;go_enter Tryz.func59,Tryz.ntmps59;go_wp2_with fail
 rw [<-hw1];clear hw1;generalize hh:w.heap.size+1=h at *
 clear hh
 go_region_held_law (fun _=>True) (trivial) (first
  | (refine z3v _ (by rfl) (.tmp 5) (.tmp 6) (by rfl) w.heap.size _ 1 (INTS [1]) (by rfl) T1.out.2.1 w.heap.size 0 32 32 (INTS ((List.range 32).map l)) (by rfl) T1.out.1 (by decide) (by decide) (by have:=T1.out.2.2.1;simp at this ⊢;omega) 33 rfl ?_;intro g5 c5 w5 hown5 hgrow5 hat5 hlt5)
  | (refine z3v _ (by rfl) (.tmp 7) (.tmp 8) (by rfl) w.heap.size _ 33 _ (by rfl) hown5 h 0 32 32 (INTS ((List.range 32).map r)) (by rfl) (T1.out.2.2.2 _ hgrow5).1 (by decide) (by decide) (T1.out.2.2.2 _ hgrow5).2.1 65 rfl ?_;intro g6 c6 w6 hown6 hgrow6 hat6 hlt6))
 have S:Aside (w6.ownsRow w.heap.size 5 1 (.slice (some ⟨g6,0,none⟩) 65 c6) 65 (z01 (INTS (1 :: ((List.range 32).map l ++ (List.range 32).map r))))/\Below w.heap.size w w6):=by
  have hb5:=(T1.out.2.2.2 _ hgrow5).2.2.1;refine ⟨?_,hb5.grown hgrow6 hb5.size (fun k e=>(hown5.lt k e).1)⟩;have e:INTS [1] ++ INTS ((List.range 32).map l) ++ INTS ((List.range 32).map r)=INTS (1 :: ((List.range 32).map l ++ (List.range 32).map r)):=by simp [INTS]
  rw [e] at hown6;exact hown6
 clear hown5 hgrow5 hat5 hlt5 hown6 hgrow6 hat6 hlt6 T1;go_simp;go_wp2;go_ret;exact ⟨_,_,rfl,S.out.1,S.out.2⟩
theorem z8u (l r:Nat->Nat) (hl:∀ i,l i<256) (hr:∀ i,r i<256) (w:World):Calls Tryz.prog 61 #[.agg (UARR .u8 32 l),.agg (UARR .u8 32 r)] w fun e w'=>
  ∃ a' c',e=.returned (.slice a' 65 c')/\w'.ownsRow w.heap.size 5 1 (.slice a' 65 c') 65 (z01 (INTS (2 :: ((List.range 32).map l ++ (List.range 32).map r))))/\Below w.heap.size w w':=by
 have hs32:=z29;obtain ⟨w1,hw1⟩:∃ w1,w1=(w.alloc (.cells (UARR .u8 32 l) 24)).alloc (.cells (UARR .u8 32 r) 24):=⟨_,rfl⟩
 have U:Below w.heap.size w w1/\Has w1 w.heap.size (UARR .u8 32 l) 24/\Has w1 (w.heap.size+1) (UARR .u8 32 r) 24:=by
  rw [hw1];exact ⟨((Below.refl _ _).alloc (Nat.le_refl _) _).alloc (by simp) _,(Has.new w _ _).alloc _,Has.at _ _ _ (by simp)⟩
 have T1:=z6X (x:=2) U.1.drew (Has.text (w:=w1.drew) U.2.1 hl) (Has.text (w:=w1.drew) U.2.2 hr);clear U hl hr;go_enter Tryz.func61,Tryz.ntmps61;go_wp2_with fail
 rw [<-hw1];clear hw1;generalize hh:w.heap.size+1=h at *
 clear hh
 go_region_held_law (fun _=>True) (trivial) (first
  | (refine z3v _ (by rfl) (.tmp 5) (.tmp 6) (by rfl) w.heap.size _ 1 (INTS [2]) (by rfl) T1.out.2.1 w.heap.size 0 32 32 (INTS ((List.range 32).map l)) (by rfl) T1.out.1 (by decide) (by decide) (by have:=T1.out.2.2.1;simp at this ⊢;omega) 33 rfl ?_;intro g5 c5 w5 hown5 hgrow5 hat5 hlt5)
  | (refine z3v _ (by rfl) (.tmp 7) (.tmp 8) (by rfl) w.heap.size _ 33 _ (by rfl) hown5 h 0 32 32 (INTS ((List.range 32).map r)) (by rfl) (T1.out.2.2.2 _ hgrow5).1 (by decide) (by decide) (T1.out.2.2.2 _ hgrow5).2.1 65 rfl ?_;intro g6 c6 w6 hown6 hgrow6 hat6 hlt6))
 have S:Aside (w6.ownsRow w.heap.size 5 1 (.slice (some ⟨g6,0,none⟩) 65 c6) 65 (z01 (INTS (2 :: ((List.range 32).map l ++ (List.range 32).map r))))/\Below w.heap.size w w6):=by
  have hb5:=(T1.out.2.2.2 _ hgrow5).2.2.1;refine ⟨?_,hb5.grown hgrow6 hb5.size (fun k e=>(hown5.lt k e).1)⟩;have e:INTS [2] ++ INTS ((List.range 32).map l) ++ INTS ((List.range 32).map r)=INTS (2 :: ((List.range 32).map l ++ (List.range 32).map r)):=by simp [INTS]
  rw [e] at hown6;exact hown6
 clear hown5 hgrow5 hat5 hlt5 hown6 hgrow6 hat6 hlt6 T1;go_simp;go_wp2;go_ret;exact ⟨_,_,rfl,S.out.1,S.out.2⟩
theorem z8v (n:Nat) (hn:n<2 ^ 64) (r:Nat->Nat) (hr:∀ i,r i<256) (w:World):Calls Tryz.prog 60 #[.int .u64 (n:Int),.agg (UARR .u8 32 r)] w fun e w'=>
    ∃ a' c',e=.returned (.slice a' 41 c')/\w'.ownsRow w.heap.size 5 1 (.slice a' 41 c') 41 (z01 (INTS (3 :: (BE8 n ++ (List.range 32).map r))))/\Below w.heap.size w w':=by
  have hs32:=z29;have hs8:=z6m;have hz8:=zf2;have H:Aside (n<2 ^ 64/\∀ i,r i<256):=⟨hn,hr⟩
  clear hn hr;go_enter Tryz.func60,Tryz.ntmps60;go_wp2
  obtain ⟨w7,tb,hw7,htb,T⟩:∃ w7 tb,w7=(w.alloc (.cells (UARR .u8 32 r) 24)).alloc (.cells (UARR .u8 8 fun _=>0) 137)/\tb=w.heap.size+1/\Aside (Has w7 tb (UARR .u8 8 fun _=>0) 137/\Has w7 w.heap.size (UARR .u8 32 r) 24/\Below w.heap.size w w7/\w.heap.size≠tb/\w.heap.size<=tb):=
    ⟨_,_,rfl,rfl,Has.at _ _ _ (by simp),(Has.new w _ _).alloc _,((Below.refl _ _).alloc (Nat.le_refl _) _).alloc (by simp) _,by omega,by omega⟩
  rw [<-hw7,<-htb];clear hw7 htb;go_loopg [0,6] 8 (fun q s0 s6 wx=>∃ z:Nat,s0=.int .u64 (z:Int)/\s6=.int .i64 ((q:Int) - 1)/\Aside (q<=8/\z=n / 2 ^ (8*(8 - q))/\Has wx tb (UARR .u8 8 fun j=>if q<=j then n / 2 ^ (8*(7 - j)) % 256 else 0) 137/\Has wx w.heap.size (UARR .u8 32 r) 24/\Below w.heap.size w wx))
  case atStart=>
    refine ⟨n,rfl,rfl,by omega,by simp,?_,T.out.2.1,T.out.2.2.1⟩;have:(UARR .u8 8 fun j=>if 8<=j then n / 2 ^ (8*(7 - j)) % 256 else 0)=UARR .u8 8 fun _=>0:=z0r fun j hj=>by rw [if_neg (by omega)]
    rw [this];exact T.out.1
  case round=>
    obtain ⟨z,rfl,rfl,A⟩:=hrel;cases gk with
    | zero=>
      have hlt:¬ (0:Int)<=((0:Nat):Int) - 1:=by omega
      have T1:Aside (Bytes (wr.drew.alloc (.cells #[.int .u8 ((3:Nat):Int)] 5)) (some ⟨tb,0,none⟩) 8 (INTS (BE8 n))/\(wr.drew.alloc (.cells #[.int .u8 ((3:Nat):Int)] 5)).ownsRow w.heap.size 5 1 (.slice (some ⟨wr.drew.heap.size,0,none⟩) 1 1) 1 (z01 (INTS [3]))/\w.heap.size<=wr.drew.heap.size/\
      (∀ w',(wr.drew.alloc (.cells #[.int .u8 ((3:Nat):Int)] 5)).grownBy w' (some wr.drew.heap.size)->Bytes w' (some ⟨w.heap.size,0,none⟩) 32 (INTS ((List.range 32).map r))/\w.heap.size<=w'.heap.size/\Below w.heap.size w w'/\wr.drew.heap.size<w'.heap.size)):=by
        obtain ⟨-, -,hH,hr,hbel⟩:=A.out;have h2:Has wr tb (UARR .u8 8 fun j=>n / 2 ^ (8*(7 - j)) % 256) 137:=by simpa using hH
        have hT8:Text wr.drew (some ⟨tb,0,none⟩) 8 (BE8 n):=zaw (w:=wr.drew) (t:=137) (f:=fun j=>n / 2 ^ (8*(7 - j)) % 256) h2 (fun i=>Nat.mod_lt _ (by decide));exact z6X (x:=3) hbel.drew hT8 (Has.text (w:=wr.drew) hr H.out.2)
      clear A T hz8;go_wp2_with fail
      go_region_held_law (fun _=>True) (trivial) (first
        | (refine z3v _ (by rfl) (.tmp 18) (.tmp 19) (by rfl) w.heap.size _ 1 (INTS [3]) (by rfl) T1.out.2.1 tb 0 8 8 (INTS (BE8 n)) (by rfl) T1.out.1 (by decide) (by decide) (by have:=T1.out.2.2.1;simp at this ⊢;omega) 9 rfl ?_;intro g5 c5 w5 hown5 hgrow5 hat5 hlt5)
        | (refine z3v _ (by rfl) (.tmp 20) (.tmp 21) (by rfl) w.heap.size _ 9 _ (by rfl) hown5 w.heap.size 0 32 32 (INTS ((List.range 32).map r)) (by rfl) (T1.out.2.2.2 _ hgrow5).1 (by decide) (by decide) (T1.out.2.2.2 _ hgrow5).2.1 41 rfl ?_;intro g6 c6 w6 hown6 hgrow6 hat6 hlt6))
      have S:Aside (w6.ownsRow w.heap.size 5 1 (.slice (some ⟨g6,0,none⟩) 41 c6) 41 (z01 (INTS (3 :: (BE8 n ++ (List.range 32).map r))))/\Below w.heap.size w w6):=by
        have hb5:=(T1.out.2.2.2 _ hgrow5).2.2.1;refine ⟨?_,hb5.grown hgrow6 hb5.size (fun k e=>(hown5.lt k e).1)⟩;have e:INTS [3] ++ INTS (BE8 n) ++ INTS ((List.range 32).map r)=INTS (3 :: (BE8 n ++ (List.range 32).map r)):=by simp [INTS]
        rw [e] at hown6;exact hown6
      clear hown5 hgrow5 hat5 hlt5 hown6 hgrow6 hat6 hlt6 T1;go_simp;go_wp2;go_ret;exact ⟨_,_,rfl,S.out.1,S.out.2⟩
    | succ q=>
      obtain ⟨q8,hz,hH,hrr,hbel⟩:=A.out;have e0:((q+1:Nat):Int) - 1=(q:Int):=by omega
      have e0':¬ (q:Int)<0:=by omega
      have e0'':(q:Int)<8:=by omega
      have ew:wrap64 ((q:Int) - 1)=(q:Int) - 1:=by unfold wrap64;omega
      have hz64':z<2 ^ 64:=by rw [hz];exact Nat.lt_of_le_of_lt (Nat.div_le_self _ _) H.out.1
      obtain ⟨b0,hb0⟩:∃ b0,z % 256=b0:=⟨_,rfl⟩
      obtain ⟨z2,hz2⟩:∃ z2,z / 256=z2:=⟨_,rfl⟩
      have em:(z:Int) % 256=(b0:Int):=by omega
      have em2:(b0:Int) % 256=(b0:Int):=by omega
      have ed:(z:Int) / 256=(z2:Int):=by omega
      have ed2:IntKind.u64.wrap (z2:Int)=(z2:Int):=by rw [z08];omega
      have em3:IntKind.u64.wrap (b0:Int)=(b0:Int):=by rw [z08];omega
      have y0:wr.cell? ⟨tb,q,none⟩=some (.int .u8 0):=by
        rw [hH.cell q,z0d _ _ _ _ (by omega),if_neg (by omega)];rfl
      have f0:wr.frozen? ⟨tb,q,none⟩=false:=hH.frozen q
      have R:Aside (q<=8/\z2=n / 2 ^ (8*(8 - q))/\Has (wr.setCell ⟨tb,q,none⟩ (.int .u8 (b0:Int))) tb (UARR .u8 8 fun j=>if q<=j then n / 2 ^ (8*(7 - j)) % 256 else 0) 137/\Has (wr.setCell ⟨tb,q,none⟩ (.int .u8 (b0:Int))) w.heap.size (UARR .u8 32 r) 24/\Below w.heap.size w (wr.setCell ⟨tb,q,none⟩ (.int .u8 (b0:Int)))):=by
        refine ⟨by omega,?_,?_,hrr.other (a:=⟨tb,q,none⟩) T.out.2.2.2.1 _,hbel.setCell (p:=⟨tb,q,none⟩) T.out.2.2.2.2 _⟩
        · rw [<-hz2,hz,Nat.div_div_eq_div_mul,show (256:Nat)=2 ^ 8 from rfl,<-Nat.pow_add]
          congr 2
          omega
        · have h:=hH.set q (.int .u8 (b0:Int))
          rw [z2g] at h
          have e:(UARR .u8 8 fun j=>if j=q then b0 else if q+1<=j then n / 2 ^ (8*(7 - j)) % 256 else 0)=UARR .u8 8 fun j=>if q<=j then n / 2 ^ (8*(7 - j)) % 256 else 0:=z0r fun j hj=>by
            by_cases e:j=q
            · subst e
              rw [if_pos rfl,if_pos (Nat.le_refl _),<-hb0,hz];congr 3
              omega
            · rw [if_neg e]
              by_cases e2:q+1<=j
              · rw [if_pos e2,if_pos (by omega)]
              · rw [if_neg e2,if_neg (by omega)]
          rw [e] at h;exact h
      rw [e0];clear A hz hH hrr hbel q8 hb0 hz2 hz64';go_wp2;go_roundg q
      case measure=>omega
      case rel=>exact ⟨z2,by first | rfl,by first | rfl | (rw [ew]),R.out⟩
theorem z4d {w:World} (d:Int) {B n c:Nat} {a:Option Addr} {l:List Nat} (h:w.ownsRow B 5 1 (.slice a n c) n (z01 (INTS l))) (hs:Small8 l) (hl:l.length<5000):
  Calls Tryz.prog 50 #[.int .i64 d,.slice (some ⟨w.heap.size,0,none⟩) 1 1] (w.alloc (.cells #[.slice a n c] 25)) fun e w'=>e=.returned (.agg (UARR .u8 32 (z0b d l)))/\Below (w.alloc (.cells #[.slice a n c] 25)).heap.size (w.alloc (.cells #[.slice a n c] 25)) w':=by
 have:=z90 d _ 1 1 _ _ (z5r h hs).1.zero (fun p hp=>by simp only [List.mem_singleton] at hp;subst hp;exact (z5r h hs).2) (by rw [z4Q];omega) (by decide);rw [z4Q] at this;exact this
theorem zdH (d:Int) (l r:Nat->Nat) (hl:∀ i,l i<256) (hr:∀ i,r i<256) (w:World):Calls Tryz.prog 31 #[.int .i64 d,.agg (UARR .u8 32 l),.agg (UARR .u8 32 r)] w fun e w'=>e=.returned (.agg (UARR .u8 32 (z0b d (1 :: ((List.range 32).map l ++ (List.range 32).map r)))))/\Below w.heap.size w w':=by
 have hz:=z1g;have ct:=fun W=>z8t l r hl hr W;have H:Aside ((∀ i,l i<256)/\(∀ i,r i<256)):=⟨hl,hr⟩
 obtain ⟨W,zb,lb,rb,hW,hzb,hlb,hrb,R,h4,h5⟩:∃ W zb lb rb,W=((w.alloc (.cells (UARR .u8 32 l) 24)).alloc (.cells (UARR .u8 32 r) 24)).alloc (.cells (UARR .u8 32 fun _=>0) 24)/\zb=w.heap.size+1+1/\lb=w.heap.size/\rb=w.heap.size+1/\Aside (Has W zb (UARR .u8 32 fun _=>0) 24/\Below w.heap.size w W/\w.heap.size<=zb)/\W.rangeAt lb 0 (z0c .u8 32 l)/\W.rangeAt rb 0 (z0c .u8 32 r):=by
  refine ⟨_,_,_,_,rfl,rfl,rfl,rfl,⟨Has.at _ _ _ (by simp),(((Below.refl _ _).alloc (Nat.le_refl _) _).alloc (by simp) _).alloc (by simp;omega) _,by omega⟩,(((Has.new w _ _).alloc _).alloc _).whole,((Has.at _ _ _ (by simp)).alloc _).whole⟩
 clear hl hr;go_enter Tryz.func31,Tryz.ntmps31
 go_wp2_with (first
  | (rw [<-hW];refine wpList_load_mid rfl 24 (.tmp 4) rfl w.heap.size 0 rfl (z0c .u8 32 l) (.array 32 5) (by rw [<-hlb];exact h4) Tryz.underlying24 rfl (by rw [z0f];exact z0U) ?_;rw [<-z0H])
  | (refine wpList_load_mid rfl 24 (.tmp 5) rfl (w.heap.size+1) 0 rfl (z0c .u8 32 r) (.array 32 5) (by rw [<-hrb];exact h5) Tryz.underlying24 rfl (by rw [z0f];exact z0U) ?_;rw [<-z0H]))
 rw [<-hzb];refine (ct _).mono ?_;rintro e w2 ⟨a',c',rfl,hown,hb⟩;rw [<-hW] at hown hb;clear ct h4 h5 hW hzb hlb hrb;have S:Aside (Has w2 zb (UARR .u8 32 fun _=>0) 24/\Below w.heap.size w w2):=⟨R.out.1.keep hb,R.out.2.1.trans (hb.mono R.out.2.1.size)⟩
 have cs:=z4d d hown (z2a (by decide) (z2k (z1d H.out.1) (z1d H.out.2))) (by simp);have Z:Aside (w.heap.size<=zb):=R.out.2.2;clear hown hb R;go_wp2_with fail
 refine cs.mono ?_;rintro e w3 ⟨rfl,hb3⟩;have hb4:Below w2.heap.size w2 w3:=((Below.refl _ _).alloc (Nat.le_refl _) _).trans (hb3.mono (by simp));have S2:Aside (Has w3 zb (UARR .u8 32 fun _=>0) 24/\Below w.heap.size w w3):=⟨S.out.1.keep hb4,S.out.2.trans (hb4.mono S.out.2.size)⟩
 clear cs hb3 hb4 S
 go_wp2_with (first
  | (refine wpList_store_row rfl 24 _ _ rfl _ _ rfl rfl _ _ S2.out.1 (z06 _) (by rw [z03,z03]) (z0p _ _ _) ?_))
 refine bodyPost_ret (v:=.agg (UARR .u8 32 (z0b d (1 :: ((List.range 32).map l ++ (List.range 32).map r))))) ?_ rfl ⟨rfl,z0e S2.out.2 Z.out _⟩;exact results_cell_row rfl _ _ zb 24 _ (0,0) _ rfl (S2.out.1.row _) Tryz.underlying24 rfl (z06 _)
theorem zdI (d:Int) (l r:Nat->Nat) (hl:∀ i,l i<256) (hr:∀ i,r i<256) (w:World):Calls Tryz.prog 33 #[.int .i64 d,.agg (UARR .u8 32 l),.agg (UARR .u8 32 r)] w fun e w'=>e=.returned (.agg (UARR .u8 32 (z0b d (2 :: ((List.range 32).map l ++ (List.range 32).map r)))))/\Below w.heap.size w w':=by
 have hz:=z1g;have ct:=fun W=>z8u l r hl hr W;have H:Aside ((∀ i,l i<256)/\(∀ i,r i<256)):=⟨hl,hr⟩
 obtain ⟨W,zb,lb,rb,hW,hzb,hlb,hrb,R,h4,h5⟩:∃ W zb lb rb,W=((w.alloc (.cells (UARR .u8 32 l) 24)).alloc (.cells (UARR .u8 32 r) 24)).alloc (.cells (UARR .u8 32 fun _=>0) 24)/\zb=w.heap.size+1+1/\lb=w.heap.size/\rb=w.heap.size+1/\Aside (Has W zb (UARR .u8 32 fun _=>0) 24/\Below w.heap.size w W/\w.heap.size<=zb)/\W.rangeAt lb 0 (z0c .u8 32 l)/\W.rangeAt rb 0 (z0c .u8 32 r):=by
  refine ⟨_,_,_,_,rfl,rfl,rfl,rfl,⟨Has.at _ _ _ (by simp),(((Below.refl _ _).alloc (Nat.le_refl _) _).alloc (by simp) _).alloc (by simp;omega) _,by omega⟩,(((Has.new w _ _).alloc _).alloc _).whole,((Has.at _ _ _ (by simp)).alloc _).whole⟩
 clear hl hr;go_enter Tryz.func33,Tryz.ntmps33
 go_wp2_with (first
  | (rw [<-hW];refine wpList_load_mid rfl 24 (.tmp 4) rfl w.heap.size 0 rfl (z0c .u8 32 l) (.array 32 5) (by rw [<-hlb];exact h4) Tryz.underlying24 rfl (by rw [z0f];exact z0U) ?_;rw [<-z0H])
  | (refine wpList_load_mid rfl 24 (.tmp 5) rfl (w.heap.size+1) 0 rfl (z0c .u8 32 r) (.array 32 5) (by rw [<-hrb];exact h5) Tryz.underlying24 rfl (by rw [z0f];exact z0U) ?_;rw [<-z0H]))
 rw [<-hzb];refine (ct _).mono ?_;rintro e w2 ⟨a',c',rfl,hown,hb⟩;rw [<-hW] at hown hb;clear ct h4 h5 hW hzb hlb hrb;have S:Aside (Has w2 zb (UARR .u8 32 fun _=>0) 24/\Below w.heap.size w w2):=⟨R.out.1.keep hb,R.out.2.1.trans (hb.mono R.out.2.1.size)⟩
 have cs:=z4d d hown (z2a (by decide) (z2k (z1d H.out.1) (z1d H.out.2))) (by simp);have Z:Aside (w.heap.size<=zb):=R.out.2.2;clear hown hb R;go_wp2_with fail
 refine cs.mono ?_;rintro e w3 ⟨rfl,hb3⟩;have hb4:Below w2.heap.size w2 w3:=((Below.refl _ _).alloc (Nat.le_refl _) _).trans (hb3.mono (by simp));have S2:Aside (Has w3 zb (UARR .u8 32 fun _=>0) 24/\Below w.heap.size w w3):=⟨S.out.1.keep hb4,S.out.2.trans (hb4.mono S.out.2.size)⟩
 clear cs hb3 hb4 S
 go_wp2_with (first
  | (refine wpList_store_row rfl 24 _ _ rfl _ _ rfl rfl _ _ S2.out.1 (z06 _) (by rw [z03,z03]) (z0p _ _ _) ?_))
 refine bodyPost_ret (v:=.agg (UARR .u8 32 (z0b d (2 :: ((List.range 32).map l ++ (List.range 32).map r))))) ?_ rfl ⟨rfl,z0e S2.out.2 Z.out _⟩;exact results_cell_row rfl _ _ zb 24 _ (0,0) _ rfl (S2.out.1.row _) Tryz.underlying24 rfl (z06 _)
theorem zdJ (d:Int) (n:Nat) (hn:n<2 ^ 64) (r:Nat->Nat) (hr:∀ i,r i<256) (w:World):Calls Tryz.prog 32 #[.int .i64 d,.int .u64 (n:Int),.agg (UARR .u8 32 r)] w fun e w'=>e=.returned (.agg (UARR .u8 32 (z0b d (3 :: (BE8 n ++ (List.range 32).map r)))))/\Below w.heap.size w w':=by
 have hz:=z1g;have ct:=fun W=>z8v n hn r hr W;have H:Aside ((∀ i,r i<256)):=hr
 obtain ⟨W,zb,rb,hW,hzb,hrb,R,h5⟩:∃ W zb rb,W=(w.alloc (.cells (UARR .u8 32 r) 24)).alloc (.cells (UARR .u8 32 fun _=>0) 24)/\zb=w.heap.size+1/\rb=w.heap.size/\Aside (Has W zb (UARR .u8 32 fun _=>0) 24/\Below w.heap.size w W/\w.heap.size<=zb)/\W.rangeAt rb 0 (z0c .u8 32 r):=by
  refine ⟨_,_,_,rfl,rfl,rfl,⟨Has.at _ _ _ (by simp),((Below.refl _ _).alloc (Nat.le_refl _) _).alloc (by simp) _,by omega⟩,((Has.new w _ _).alloc _).whole⟩
 clear hn hr;go_enter Tryz.func32,Tryz.ntmps32
 go_wp2_with (first
  | (rw [<-hW];refine wpList_load_mid rfl 24 (.tmp 5) rfl w.heap.size 0 rfl (z0c .u8 32 r) (.array 32 5) (by rw [<-hrb];exact h5) Tryz.underlying24 rfl (by rw [z0f];exact z0U) ?_;rw [<-z0H]))
 rw [<-hzb];refine (ct _).mono ?_;rintro e w2 ⟨a',c',rfl,hown,hb⟩;rw [<-hW] at hown hb;clear ct h5 hW hzb hrb;have S:Aside (Has w2 zb (UARR .u8 32 fun _=>0) 24/\Below w.heap.size w w2):=⟨R.out.1.keep hb,R.out.2.1.trans (hb.mono R.out.2.1.size)⟩
 have cs:=z4d d hown (z2a (by decide) (z2k (z8T n) (z1d H.out))) (by simp [BE8]);have Z:Aside (w.heap.size<=zb):=R.out.2.2;clear hown hb R;go_wp2_with fail
 refine cs.mono ?_;rintro e w3 ⟨rfl,hb3⟩;have hb4:Below w2.heap.size w2 w3:=((Below.refl _ _).alloc (Nat.le_refl _) _).trans (hb3.mono (by simp));have S2:Aside (Has w3 zb (UARR .u8 32 fun _=>0) 24/\Below w.heap.size w w3):=⟨S.out.1.keep hb4,S.out.2.trans (hb4.mono S.out.2.size)⟩
 clear cs hb3 hb4 S
 go_wp2_with (first
  | (refine wpList_store_row rfl 24 _ _ rfl _ _ rfl rfl _ _ S2.out.1 (z06 _) (by rw [z03,z03]) (z0p _ _ _) ?_))
 refine bodyPost_ret (v:=.agg (UARR .u8 32 (z0b d (3 :: (BE8 n ++ (List.range 32).map r))))) ?_ rfl ⟨rfl,z0e S2.out.2 Z.out _⟩;exact results_cell_row rfl _ _ zb 24 _ (0,0) _ rfl (S2.out.1.row _) Tryz.underlying24 rfl (z06 _)
end Go.Proofs.YtdggkbpabjgdfaaGreatDoor.HX
namespace Go.Proofs.YtdggkbpabjgdfaaGreatDoor
open Go.RowKit
theorem z36 (X:Nat) (hX:X<2 ^ 64) (w:World):Calls Tryz.prog 56 #[.int .u64 (X:Int)] w fun e w'=>
  ∃ g cap,e=.returned (.slice (some ⟨g,0,none⟩) (NTOP X+1) cap)/\w'.ownsRow w.heap.size 5 1 (.slice (some ⟨g,0,none⟩) (NTOP X+1) cap) (NTOP X+1) (z01 (z0s X))/\g<w'.heap.size/\Below w.heap.size w w':=by
 have HX:Aside (X<2 ^ 64):=hX;clear hX;go_enter Tryz.func56,Tryz.ntmps56;go_wp2;go_loopg [0,3] 10 (fun g s0 s3 wx=>∃ (j x:Nat),j+g=10/\Aside (x=X / 128 ^ j/\(∀ i,i<j->128<=X / 128 ^ i)/\wx.ownsRow w.heap.size 5 1 s3 j (z01 (z1z X j))/\Below w.heap.size w wx)/\s0=.int .u64 (x:Int))
 case atStart=>exact ⟨0,X,by omega,⟨by simp,fun i hi=>by omega,World.ownsRow_nil _ _ _ _,Below.refl _ _⟩,rfl⟩
 case round=>
  obtain ⟨j,x,hjg,A,rfl⟩:=hrel
  have hxl:(x:Int)<=18446744073709551615:=by
   have:=Nat.div_le_self X (128 ^ j);have h1:=A.out.1;have h2:=HX.out;omega
  have HXL:Aside ((x:Int)<=18446744073709551615):=hxl;clear hxl;by_cases hx:128<=(x:Int)
  ·go_wp2_with (at_builtin;refine z1k _ rfl (.tmp 6) (.tmp 11) rfl w.heap.size u3 j (z1z X j) rfl (A.out.2.2.1.alloc _) wr.heap.size 0 1 1 [(x:Int) % 128+128] rfl (z3R wr _ (by omega) (by omega)) (by omega) (by omega) (by have:=A.out.2.2.2.size;simp;omega) ?_;intro g cap w1 hown hgrow hg)
   have R:(x / 128=X / 128 ^ (j+1))/\(∀ i,i<j+1->128<=X / 128 ^ i)/\w1.ownsRow w.heap.size 5 1 (.slice (some ⟨g,0,none⟩) (j+1) cap) (j+1) (z01 (z1z X (j+1)))/\Below w.heap.size w w1:=by
    obtain ⟨hxe,hall,hown0,hb⟩:=A.out;refine ⟨by rw [hxe,Nat.div_div_eq_div_mul,<-Nat.pow_succ],fun i hi=>?_,?_,?_⟩
    ·by_cases e:i=j
     ·rw [e,<-hxe];omega
     ·exact hall i (by omega)
    ·rw [zbg,show ((X / 128 ^ j % 128+128:Nat):Int)=(x:Int) % 128+128 by rw [<-hxe];omega]
     exact hown
    ·exact (hb.alloc hb.size _).grown hgrow (by have:=hb.size;simp;omega) (fun k e=>(hown0.lt k e).1)
   have HR:Aside ((x / 128=X / 128 ^ (j+1))/\(∀ i,i<j+1->128<=X / 128 ^ i)/\w1.ownsRow w.heap.size 5 1 (.slice (some ⟨g,0,none⟩) (j+1) cap) (j+1) (z01 (z1z X (j+1)))/\Below w.heap.size w w1):=R
   have hj9:j<9:=by
    obtain ⟨hxe,hall,_,_⟩:=A.out;rcases Nat.lt_or_ge j 9 with h | h
    ·exact h
    ·have h1:=zgc X h
     have h2:X / 128 ^ 9<2:=Nat.div_lt_of_lt_mul (Nat.lt_of_lt_of_le HX.out (by decide));omega
   clear hown hgrow hg R A;go_wp2;go_roundg (gk - 1)
   case measure=>omega
   case rel=>exact ⟨j+1,x / 128,by omega,HR,by have:=HXL.out;rw [show IntKind.u64.wrap ((x:Int) / 128)=((x / 128:Nat):Int) by rw [z08];omega]⟩
  ·go_wp2_with (at_builtin;refine z1k _ rfl (.tmp 15) (.tmp 18) rfl w.heap.size u3 j (z1z X j) rfl (A.out.2.2.1.alloc _) wr.heap.size 0 1 1 [(x:Int)] rfl (z3R wr _ (by omega) (by omega)) (by omega) (by omega) (by have:=A.out.2.2.2.size;simp;omega) ?_;intro g cap w1 hown hgrow hg)
   obtain ⟨hxe,hall,hown0,hb⟩:=A.out;have hN:NTOP X=j:=zc8 HX.out hall (by rw [<-hxe];omega)
   have R:w1.ownsRow w.heap.size 5 1 (.slice (some ⟨g,0,none⟩) (NTOP X+1) cap) (NTOP X+1) (z01 (z0s X))/\g<w1.heap.size/\Below w.heap.size w w1:=by
    refine ⟨?_,hg,(hb.alloc hb.size _).grown hgrow (by have:=hb.size;simp;omega) (fun k e=>(hown0.lt k e).1)⟩;unfold z0s;rw [hN,<-hxe];exact hown
   have HR:Aside (w1.ownsRow w.heap.size 5 1 (.slice (some ⟨g,0,none⟩) (NTOP X+1) cap) (NTOP X+1) (z01 (z0s X))/\g<w1.heap.size/\Below w.heap.size w w1):=R;have HN:Aside (NTOP X=j):=hN;clear hown hgrow hg R A hxe hall hown0 hb hN;go_wp2;go_ret;obtain ⟨h1,h2,h3⟩:=HR.out;refine ⟨g,cap,?_,h1,h2,h3⟩;rw [HN.out];rfl
end Go.Proofs.YtdggkbpabjgdfaaGreatDoor
