/- FindProves: part 37. -/
import Derived.Maps.RangeWalk
import Derived.Test.YtlbcnaenhghieaaGreatDoorFindProvesP36
set_option maxHeartbeats 2000000
namespace Go.Proofs.YtlbcnaenhghieaaGreatDoor
set_option linter.unusedSimpArgs false
open Go.RowKit
set_option maxRecDepth 100000
@[go_sem] def FZ15OPSq0:Oper:=⟨some 79,.move (.tmp 1),22,"law.go:134",#[],none⟩
@[go_sem] def FZ15OPSq1:Oper:=⟨some 80,.move (.tmp 14),3,"law.go:134",#[],none⟩
@[go_sem] def FZ15OPSq2:Oper:=⟨some 81,.indexAddr 22 (.tmp 79) (.tmp 80),0,"law.go:134",#[⟨0,.data⟩,⟨1,.data⟩],none⟩
@[go_sem] def FZ15OPSq3:Oper:=⟨some 82,.load 25 (.tmp 81),25,"law.go:134",#[⟨2,.data⟩],none⟩
@[go_sem] def FZ15OPSq4:Oper:=⟨some 83,.load 25 (.tmp 7),25,"law.go:134",#[],none⟩
@[go_sem] def FZ15OPSq5:Oper:=⟨some 84,.binOp .eql 25 (.tmp 82) (.tmp 83) 25,4,"law.go:134",#[⟨3,.data⟩,⟨4,.data⟩],none⟩
def z6P:Array Oper:=#[FZ15OPSq0,FZ15OPSq1,FZ15OPSq2,FZ15OPSq3,FZ15OPSq4,FZ15OPSq5]
theorem zdT {Q:Exit->Act->World->Prop} {b d e f g j k l m o p q r s u x y A B C D F G I K L M N O P R T U V X Y Z aa ab ac ad ae af ag ah ai aj ak al am an ao ap aq ar au av aw ax ay az aA aB aC aD aE aF aG aH aI aJ aK aL aM aN aO aP aQ aR aS aT aU aV aW aX aY aZ a0 a1 a2 a3 a4 a5 a6 a7 a8 a9 ba bb bc bd be bf bg bh bi bj bk bl bm bn bo bp bq br bs bt bu bv bw bz bA bB bC bD bE bF bG bH bI bJ bK bL bM bN bO bP bQ bR bS bT bU bV bW bX bY bZ b0 b1 b2 b3 b4 b5 b6 b7 b8 b9 ca cb cc cd ce cf cg ch ci cj ck cl cm cn co cp cq cr cs ct cu cv cw cx cy cz cA cB cC cD cE cF cG:Value} (W:World) (gl ol n c i bx:Nat) (hi:(i:Int)<(n:Int)) (H E:List Int) (lH:H.length=32) (lE:E.length=32) (J:World->Prop) (h0:J W.drew) (hS:∀ w,J w->(fun w:World=>w.rangeAt gl (ol+i*32) (z00 E)/\w.rangeAt bx 0 (z00 H)) w) (hQ:∀ c (a:Act) (t:Tmp) (v:Value) w,Q (.panic c) (a.put (some t) v) w->Q (.panic c) a w)
  (hfin:∀ (w:World),(J w)->Q .normal {tmps:=#[b,.slice (some ⟨gl,ol,none⟩) n c,d,e,f,g,j,.pointer (some ⟨bx,0,none⟩),k,l,m,o,p,q,.int .i64 (i:Int),r,s,u,x,y,A,B,C,D,F,G,I,K,L,M,N,O,P,R,T,U,V,X,Y,Z,aa,ab,ac,ad,ae,af,ag,ah,ai,aj,ak,al,am,an,ao,ap,aq,ar,au,av,aw,ax,ay,az,aA,aB,aC,aD,aE,aF,aG,aH,aI,aJ,aK,aL,aM,aN,aO,.slice (some ⟨gl,ol,none⟩) n c,.int .i64 (i:Int),.pointer (some ⟨gl,(ol+i*32),none⟩),.agg (z00 E).toArray,.agg (z00 H).toArray,.bool (decide (E=H)),aV,aW,aX,aY,aZ,a0,a1,a2,a3,a4,a5,a6,a7,a8,a9,ba,bb,bc,bd,be,bf,bg,bh,bi,bj,bk,bl,bm,bn,bo,bp,bq,br,bs,bt,bu,bv,bw,bz,bA,bB,bC,bD,bE,bF,bG,bH,bI,bJ,bK,bL,bM,bN,bO,bP,bQ,bR,bS,bT,bU,bV,bW,bX,bY,bZ,b0,b1,b2,b3,b4,b5,b6,b7,b8,b9,ca,cb,cc,cd,ce,cf,cg,ch,ci,cj,ck,cl,cm,cn,co,cp,cq,cr,cs,ct,cu,cv,cw,cx,cy,cz,cA,cB,cC,cD,cE,cF,cG],defers:=[]} w):(Code.region 15 z6P true).wp Tryz.prog Q {tmps:=#[b,.slice (some ⟨gl,ol,none⟩) n c,d,e,f,g,j,.pointer (some ⟨bx,0,none⟩),k,l,m,o,p,q,.int .i64 (i:Int),r,s,u,x,y,A,B,C,D,F,G,I,K,L,M,N,O,P,R,T,U,V,X,Y,Z,aa,ab,ac,ad,ae,af,ag,ah,ai,aj,ak,al,am,an,ao,ap,aq,ar,au,av,aw,ax,ay,az,aA,aB,aC,aD,aE,aF,aG,aH,aI,aJ,aK,aL,aM,aN,aO,aP,aQ,aR,aS,aT,aU,aV,aW,aX,aY,aZ,a0,a1,a2,a3,a4,a5,a6,a7,a8,a9,ba,bb,bc,bd,be,bf,bg,bh,bi,bj,bk,bl,bm,bn,bo,bp,bq,br,bs,bt,bu,bv,bw,bz,bA,bB,bC,bD,bE,bF,bG,bH,bI,bJ,bK,bL,bM,bN,bO,bP,bQ,bR,bS,bT,bU,bV,bW,bX,bY,bZ,b0,b1,b2,b3,b4,b5,b6,b7,b8,b9,ca,cb,cc,cd,ce,cf,cg,ch,ci,cj,ck,cl,cm,cn,co,cp,cq,cr,cs,ct,cu,cv,cw,cx,cy,cz,cA,cB,cC,cD,cE,cF,cG],defers:=[]} W:=by
 have kst:∀ (w:World),(J w)->wpAnyH Tryz.prog .any z6P Q (fun w:World=>w.rangeAt gl (ol+i*32) (z00 E)/\w.rangeAt bx 0 (z00 H)) 0 #[tt,tt,tt,tt,tt,tt] {tmps:=#[b,.slice (some ⟨gl,ol,none⟩) n c,d,e,f,g,j,.pointer (some ⟨bx,0,none⟩),k,l,m,o,p,q,.int .i64 (i:Int),r,s,u,x,y,A,B,C,D,F,G,I,K,L,M,N,O,P,R,T,U,V,X,Y,Z,aa,ab,ac,ad,ae,af,ag,ah,ai,aj,ak,al,am,an,ao,ap,aq,ar,au,av,aw,ax,ay,az,aA,aB,aC,aD,aE,aF,aG,aH,aI,aJ,aK,aL,aM,aN,aO,.slice (some ⟨gl,ol,none⟩) n c,.int .i64 (i:Int),.pointer (some ⟨gl,(ol+i*32),none⟩),.agg (z00 E).toArray,.agg (z00 H).toArray,.bool (decide (E=H)),aV,aW,aX,aY,aZ,a0,a1,a2,a3,a4,a5,a6,a7,a8,a9,ba,bb,bc,bd,be,bf,bg,bh,bi,bj,bk,bl,bm,bn,bo,bp,bq,br,bs,bt,bu,bv,bw,bz,bA,bB,bC,bD,bE,bF,bG,bH,bI,bJ,bK,bL,bM,bN,bO,bP,bQ,bR,bS,bT,bU,bV,bW,bX,bY,bZ,b0,b1,b2,b3,b4,b5,b6,b7,b8,b9,ca,cb,cc,cd,ce,cf,cg,ch,ci,cj,ck,cl,cm,cn,co,cp,cq,cr,cs,ct,cu,cv,cw,cx,cy,cz,cA,cB,cC,cD,cE,cF,cG],defers:=[]} w:=fun  w hp=>by
  exact wpAnyH_done (by kernel_rfl) (hfin  w hp) _
 have hp:=h0;have hww:(fun w:World=>w.rangeAt gl (ol+i*32) (z00 E)/\w.rangeAt bx 0 (z00 H)) W.drew:=hS _ hp;have last:=kst W.drew hp
 have z:wpAnyH Tryz.prog .any z6P Q (fun w:World=>w.rangeAt gl (ol+i*32) (z00 E)/\w.rangeAt bx 0 (z00 H)) 6 #[ff,ff,ff,ff,ff,ff] {tmps:=#[b,.slice (some ⟨gl,ol,none⟩) n c,d,e,f,g,j,.pointer (some ⟨bx,0,none⟩),k,l,m,o,p,q,.int .i64 (i:Int),r,s,u,x,y,A,B,C,D,F,G,I,K,L,M,N,O,P,R,T,U,V,X,Y,Z,aa,ab,ac,ad,ae,af,ag,ah,ai,aj,ak,al,am,an,ao,ap,aq,ar,au,av,aw,ax,ay,az,aA,aB,aC,aD,aE,aF,aG,aH,aI,aJ,aK,aL,aM,aN,aO,aP,aQ,aR,aS,aT,aU,aV,aW,aX,aY,aZ,a0,a1,a2,a3,a4,a5,a6,a7,a8,a9,ba,bb,bc,bd,be,bf,bg,bh,bi,bj,bk,bl,bm,bn,bo,bp,bq,br,bs,bt,bu,bv,bw,bz,bA,bB,bC,bD,bE,bF,bG,bH,bI,bJ,bK,bL,bM,bN,bO,bP,bQ,bR,bS,bT,bU,bV,bW,bX,bY,bZ,b0,b1,b2,b3,b4,b5,b6,b7,b8,b9,ca,cb,cc,cd,ce,cf,cg,ch,ci,cj,ck,cl,cm,cn,co,cp,cq,cr,cs,ct,cu,cv,cw,cx,cy,cz,cA,cB,cC,cD,cE,cF,cG],defers:=[]} W.drew:=by
  refine tkP FZ15OPSq0 (.slice (some ⟨gl,ol,none⟩) n c) 0 hQ hww ?_;simp only [List.set];refine tkP FZ15OPSq1 (.int .i64 (i:Int)) 1 hQ hww ?_;simp only [List.set];refine tkP FZ15OPSq2 (.pointer (some ⟨gl,(ol+i*32),none⟩)) 2 hQ hww ?_;simp only [List.set];refine tkH FZ15OPSq3 (.agg (z00 E).toArray) 3 hQ (yieldsIf_load_mid (by rfl) 25 (.tmp 81) rfl gl (ol+i*32) rfl (z00 E) _ (fun w h=>h.1) Tryz.underlying25 rfl (z0g lE)) hww ?_;simp only [List.set];refine tkH FZ15OPSq4 (.agg (z00 H).toArray) 4 hQ (yieldsIf_load_mid (by rfl) 25 (.tmp 7) rfl bx 0 rfl (z00 H) _ (fun w h=>h.2) Tryz.underlying25 rfl (z0g lH)) hww ?_;simp only [List.set];refine tkH FZ15OPSq5 (.bool (decide (E=H))) 5 hQ (Or.inl ⟨by rfl,fun w hw=>z08 (z5T lE lH _ _ w)⟩) hww ?_;simp only [List.set];exact last
 exact wp_region_held_drew (S:=(fun w:World=>w.rangeAt gl (ol+i*32) (z00 E)/\w.rangeAt bx 0 (z00 H))) (by kernel_rfl) hww (fun _=>z)
@[go_sem] def FZ20OPSq0:Oper:=⟨some 96,.move (.tmp 10),28,"law.go:139",#[],none⟩
@[go_sem] def FZ20OPSq1:Oper:=⟨some 97,.call {callee:=.value (.func 6),args:=#[.tmp 96],argTypes:=#[28]},32,"law.go:139",#[⟨0,.data⟩],none⟩
@[go_sem] def FZ20OPSq2:Oper:=⟨some 98,.move (.tmp 2),23,"law.go:139",#[],none⟩
@[go_sem] def FZ20OPSq3:Oper:=⟨some 99,.move (.tmp 15),3,"law.go:139",#[],none⟩
@[go_sem] def FZ20OPSq4:Oper:=⟨some 100,.indexAddr 23 (.tmp 98) (.tmp 99),0,"law.go:139",#[⟨2,.data⟩,⟨3,.data⟩],none⟩
@[go_sem] def FZ20OPSq5:Oper:=⟨some 101,.load 36 (.tmp 100),36,"law.go:139",#[⟨4,.data⟩],none⟩
@[go_sem] def FZ20OPSq6:Oper:=⟨some 102,.call {callee:=.value (.func 10),args:=#[.tmp 97,.tmp 101],argTypes:=#[32,36]},29,"law.go:139",#[⟨1,.data⟩,⟨5,.data⟩,⟨1,.chain⟩],none⟩
@[go_sem] def FZ20OPSq7:Oper:=⟨some 103,.move (.tmp 12),34,"law.go:139",#[],none⟩
@[go_sem] def FZ20OPSq8:Oper:=⟨some 104,.nilCheck (.tmp 103),0,"law.go:139",#[⟨7,.data⟩],none⟩
@[go_sem] def FZ20OPSq9:Oper:=⟨some 105,.fieldAddr 41 (.tmp 104) 2,0,"law.go:139",#[⟨8,.data⟩],none⟩
@[go_sem] def FZ20OPSq10:Oper:=⟨some 106,.load 39 (.tmp 105),39,"law.go:139",#[⟨9,.data⟩],none⟩
@[go_sem] def FZ20OPSq11:Oper:=⟨some 107,.move (.tmp 2),23,"law.go:139",#[],none⟩
@[go_sem] def FZ20OPSq12:Oper:=⟨some 108,.move (.tmp 15),3,"law.go:139",#[],none⟩
@[go_sem] def FZ20OPSq13:Oper:=⟨some 109,.indexAddr 23 (.tmp 107) (.tmp 108),0,"law.go:139",#[⟨11,.data⟩,⟨12,.data⟩],none⟩
@[go_sem] def FZ20OPSq14:Oper:=⟨some 110,.load 36 (.tmp 109),36,"law.go:139",#[⟨13,.data⟩],none⟩
@[go_sem] def FZ20OPSq15:Oper:=⟨some 111,.call {callee:=.value (.func 11),args:=#[.tmp 106,.tmp 110],argTypes:=#[39,36]},29,"law.go:139",#[⟨10,.data⟩,⟨14,.data⟩,⟨6,.chain⟩],none⟩
@[go_sem] def FZ20OPSq16:Oper:=⟨some 112,.binOp .neq 29 (.tmp 102) (.tmp 111) 29,4,"law.go:139",#[⟨6,.data⟩,⟨15,.data⟩],none⟩
def z6Q:Array Oper:=#[FZ20OPSq0,FZ20OPSq1,FZ20OPSq2,FZ20OPSq3,FZ20OPSq4,FZ20OPSq5,FZ20OPSq6,FZ20OPSq7,FZ20OPSq8,FZ20OPSq9,FZ20OPSq10,FZ20OPSq11,FZ20OPSq12,FZ20OPSq13,FZ20OPSq14,FZ20OPSq15,FZ20OPSq16]
theorem zdU {Q:Exit->Act->World->Prop} {d f h j k l m p q r s u y A B C D E F G H I J K L M N O P R T U V X Y Z aa ab ac ad ae af ag ah ai aj ak al am an ao ap aq ar au av aw ax ay az aA aB aC aD aE aF aG aH aI aJ aK aL aM aN aO aP aQ aR aS aT aU aV aW aX aY aZ a0 a1 a2 a3 a4 a5 a6 a7 a8 a9 ba bb bc bd be bf bg bh bi bj bk bl bm bn bo bp bq br bs bt bu bv bw bx bz bA bB bC bD bE bF bG bH bI bJ bK bL bM bN bO bP bQ bR bS bT bU bV bW bX bY bZ b0 b2 b3 b4 b5 b6 b7 b8 b9 ca cb cc cd ce cf cg ch ci cj ck cl cm cn co cp cq cr cs ct cu cv cw cx cy cz cA cB cC cD cE cF cG:Value} (W:World) (g gt gs b o n c i x:Nat) (v:Int) (b1:(i:Int)<(n:Int)) (P0 P1 P2:World->Prop) (h0:P0 W.drew) (s0:∀ w,P0 w->(fun w:World=>w.cell? ⟨gt,2,none⟩=some (.pointer (some ⟨gs,0,none⟩))/\w.cell? ⟨b,o+i,none⟩=some (.int .u64 (x:Int))) w) (s1:∀ w,P1 w->(fun w:World=>w.cell? ⟨gt,2,none⟩=some (.pointer (some ⟨gs,0,none⟩))/\w.cell? ⟨b,o+i,none⟩=some (.int .u64 (x:Int))) w) (s2:∀ w,P2 w->(fun w:World=>w.cell? ⟨gt,2,none⟩=some (.pointer (some ⟨gs,0,none⟩))/\w.cell? ⟨b,o+i,none⟩=some (.int .u64 (x:Int))) w) (q0:∀ w,P0 w->Calls Tryz.prog 6 #[.pointer (some ⟨g,0,none⟩)] w fun e w'=>e=.returned (.pointer (some ⟨g,0,none⟩))/\P0 w') (q1:∀ w,P0 w->Calls Tryz.prog 10 #[.pointer (some ⟨g,0,none⟩),.int .u64 (x:Int)] w fun e w'=>e=.returned (.int .i64 v)/\P1 w') (q2:∀ w,P1 w->Calls Tryz.prog 11 #[.pointer (some ⟨gs,0,none⟩),.int .u64 (x:Int)] w fun e w'=>e=.returned (.int .i64 v)/\P2 w') (hQ:∀ c (a:Act) (t:Tmp) (v:Value) w,Q (.panic c) (a.put (some t) v) w->Q (.panic c) a w)
  (hfin:∀ (w:World),(P2 w)->Q .normal {tmps:=#[d,f,.slice (some ⟨b,o,none⟩) n c,h,j,k,l,m,p,q,.pointer (some ⟨g,0,none⟩),r,.pointer (some ⟨gt,0,none⟩),s,u,.int .i64 (i:Int),y,A,B,C,D,E,F,G,H,I,J,K,L,M,N,O,P,R,T,U,V,X,Y,Z,aa,ab,ac,ad,ae,af,ag,ah,ai,aj,ak,al,am,an,ao,ap,aq,ar,au,av,aw,ax,ay,az,aA,aB,aC,aD,aE,aF,aG,aH,aI,aJ,aK,aL,aM,aN,aO,aP,aQ,aR,aS,aT,aU,aV,aW,aX,aY,aZ,a0,a1,a2,a3,a4,a5,.pointer (some ⟨g,0,none⟩),.pointer (some ⟨g,0,none⟩),.slice (some ⟨b,o,none⟩) n c,.int .i64 (i:Int),.pointer (some ⟨b,o+i,none⟩),.int .u64 (x:Int),.int .i64 v,.pointer (some ⟨gt,0,none⟩),.pointer (some ⟨gt,0,none⟩),.pointer (some ⟨gt,2,none⟩),.pointer (some ⟨gs,0,none⟩),.slice (some ⟨b,o,none⟩) n c,.int .i64 (i:Int),.pointer (some ⟨b,o+i,none⟩),.int .u64 (x:Int),.int .i64 v,.bool false,bn,bo,bp,bq,br,bs,bt,bu,bv,bw,bx,bz,bA,bB,bC,bD,bE,bF,bG,bH,bI,bJ,bK,bL,bM,bN,bO,bP,bQ,bR,bS,bT,bU,bV,bW,bX,bY,bZ,b0,b2,b3,b4,b5,b6,b7,b8,b9,ca,cb,cc,cd,ce,cf,cg,ch,ci,cj,ck,cl,cm,cn,co,cp,cq,cr,cs,ct,cu,cv,cw,cx,cy,cz,cA,cB,cC,cD,cE,cF,cG],defers:=[]} w):(Code.region 20 z6Q true).wp Tryz.prog Q {tmps:=#[d,f,.slice (some ⟨b,o,none⟩) n c,h,j,k,l,m,p,q,.pointer (some ⟨g,0,none⟩),r,.pointer (some ⟨gt,0,none⟩),s,u,.int .i64 (i:Int),y,A,B,C,D,E,F,G,H,I,J,K,L,M,N,O,P,R,T,U,V,X,Y,Z,aa,ab,ac,ad,ae,af,ag,ah,ai,aj,ak,al,am,an,ao,ap,aq,ar,au,av,aw,ax,ay,az,aA,aB,aC,aD,aE,aF,aG,aH,aI,aJ,aK,aL,aM,aN,aO,aP,aQ,aR,aS,aT,aU,aV,aW,aX,aY,aZ,a0,a1,a2,a3,a4,a5,a6,a7,a8,a9,ba,bb,bc,bd,be,bf,bg,bh,bi,bj,bk,bl,bm,bn,bo,bp,bq,br,bs,bt,bu,bv,bw,bx,bz,bA,bB,bC,bD,bE,bF,bG,bH,bI,bJ,bK,bL,bM,bN,bO,bP,bQ,bR,bS,bT,bU,bV,bW,bX,bY,bZ,b0,b2,b3,b4,b5,b6,b7,b8,b9,ca,cb,cc,cd,ce,cf,cg,ch,ci,cj,ck,cl,cm,cn,co,cp,cq,cr,cs,ct,cu,cv,cw,cx,cy,cz,cA,cB,cC,cD,cE,cF,cG],defers:=[]} W:=by
 have kst:∀ (w:World),(P0 w)->wpAnyH Tryz.prog .any z6Q Q (fun w:World=>w.cell? ⟨gt,2,none⟩=some (.pointer (some ⟨gs,0,none⟩))/\w.cell? ⟨b,o+i,none⟩=some (.int .u64 (x:Int))) 4 #[tt,ff,tt,tt,tt,tt,ff,tt,tt,tt,tt,tt,tt,tt,tt,ff,ff] {tmps:=#[d,f,.slice (some ⟨b,o,none⟩) n c,h,j,k,l,m,p,q,.pointer (some ⟨g,0,none⟩),r,.pointer (some ⟨gt,0,none⟩),s,u,.int .i64 (i:Int),y,A,B,C,D,E,F,G,H,I,J,K,L,M,N,O,P,R,T,U,V,X,Y,Z,aa,ab,ac,ad,ae,af,ag,ah,ai,aj,ak,al,am,an,ao,ap,aq,ar,au,av,aw,ax,ay,az,aA,aB,aC,aD,aE,aF,aG,aH,aI,aJ,aK,aL,aM,aN,aO,aP,aQ,aR,aS,aT,aU,aV,aW,aX,aY,aZ,a0,a1,a2,a3,a4,a5,.pointer (some ⟨g,0,none⟩),a7,.slice (some ⟨b,o,none⟩) n c,.int .i64 (i:Int),.pointer (some ⟨b,o+i,none⟩),.int .u64 (x:Int),bc,.pointer (some ⟨gt,0,none⟩),.pointer (some ⟨gt,0,none⟩),.pointer (some ⟨gt,2,none⟩),.pointer (some ⟨gs,0,none⟩),.slice (some ⟨b,o,none⟩) n c,.int .i64 (i:Int),.pointer (some ⟨b,o+i,none⟩),.int .u64 (x:Int),bl,bm,bn,bo,bp,bq,br,bs,bt,bu,bv,bw,bx,bz,bA,bB,bC,bD,bE,bF,bG,bH,bI,bJ,bK,bL,bM,bN,bO,bP,bQ,bR,bS,bT,bU,bV,bW,bX,bY,bZ,b0,b2,b3,b4,b5,b6,b7,b8,b9,ca,cb,cc,cd,ce,cf,cg,ch,ci,cj,ck,cl,cm,cn,co,cp,cq,cr,cs,ct,cu,cv,cw,cx,cy,cz,cA,cB,cC,cD,cE,cF,cG],defers:=[]} w:=fun  w hp=>by
  refine wpAnyH_ready (rs:=[1]) (by kernel_rfl) (by simp) ?_;refine AllReadyH.cons (o:=FZ20OPSq1) rfl (fun KQ hKQ=>?_) ?_
  ·rw [if_pos (by rfl)]
   go_simp;refine (show Calls _ _ _ w (fun e w'=>e=.returned (.pointer (some ⟨g,0,none⟩))/\(P0 w')) from q0 w hp).mono ?_;rintro e w ⟨rfl,hp⟩;refine hKQ.out _ _ (s0 _ hp) (fun _=>?_);simp only [List.setIfInBounds_toArray,List.set];refine wpAnyH_ready (rs:=[6]) (by kernel_rfl) (by simp) ?_;refine AllReadyH.cons (o:=FZ20OPSq6) rfl (fun KQ hKQ=>?_) ?_
   ·rw [if_pos (by rfl)]
    go_simp;refine (show Calls _ _ _ w (fun e w'=>e=.returned (.int .i64 v)/\(P1 w')) from q1 w hp).mono ?_;rintro e w ⟨rfl,hp⟩;refine hKQ.out _ _ (s1 _ hp) (fun _=>?_);simp only [List.setIfInBounds_toArray,List.set];refine wpAnyH_ready (rs:=[15]) (by kernel_rfl) (by simp) ?_;refine AllReadyH.cons (o:=FZ20OPSq15) rfl (fun KQ hKQ=>?_) ?_
    ·rw [if_pos (by rfl)]
     go_simp;refine (show Calls _ _ _ w (fun e w'=>e=.returned (.int .i64 v)/\(P2 w')) from q2 w hp).mono ?_;rintro e w ⟨rfl,hp⟩;refine hKQ.out _ _ (s2 _ hp) (fun _=>?_);simp only [List.setIfInBounds_toArray,List.set];have hww:(fun w:World=>w.cell? ⟨gt,2,none⟩=some (.pointer (some ⟨gs,0,none⟩))/\w.cell? ⟨b,o+i,none⟩=some (.int .u64 (x:Int))) w:=s2 _ hp;refine tkP FZ20OPSq16 (.bool false) 16 hQ hww ?_;simp only [List.set];exact wpAnyH_done (by kernel_rfl) (hfin  w hp) _
    exact AllReadyH.nil
   exact AllReadyH.nil
  exact AllReadyH.nil
 have hp:=h0;have hww:(fun w:World=>w.cell? ⟨gt,2,none⟩=some (.pointer (some ⟨gs,0,none⟩))/\w.cell? ⟨b,o+i,none⟩=some (.int .u64 (x:Int))) W.drew:=s0 _ hp;have last:=kst W.drew hp
 have z:wpAnyH Tryz.prog .any z6Q Q (fun w:World=>w.cell? ⟨gt,2,none⟩=some (.pointer (some ⟨gs,0,none⟩))/\w.cell? ⟨b,o+i,none⟩=some (.int .u64 (x:Int))) 17 #[ff,ff,ff,ff,ff,ff,ff,ff,ff,ff,ff,ff,ff,ff,ff,ff,ff] {tmps:=#[d,f,.slice (some ⟨b,o,none⟩) n c,h,j,k,l,m,p,q,.pointer (some ⟨g,0,none⟩),r,.pointer (some ⟨gt,0,none⟩),s,u,.int .i64 (i:Int),y,A,B,C,D,E,F,G,H,I,J,K,L,M,N,O,P,R,T,U,V,X,Y,Z,aa,ab,ac,ad,ae,af,ag,ah,ai,aj,ak,al,am,an,ao,ap,aq,ar,au,av,aw,ax,ay,az,aA,aB,aC,aD,aE,aF,aG,aH,aI,aJ,aK,aL,aM,aN,aO,aP,aQ,aR,aS,aT,aU,aV,aW,aX,aY,aZ,a0,a1,a2,a3,a4,a5,a6,a7,a8,a9,ba,bb,bc,bd,be,bf,bg,bh,bi,bj,bk,bl,bm,bn,bo,bp,bq,br,bs,bt,bu,bv,bw,bx,bz,bA,bB,bC,bD,bE,bF,bG,bH,bI,bJ,bK,bL,bM,bN,bO,bP,bQ,bR,bS,bT,bU,bV,bW,bX,bY,bZ,b0,b2,b3,b4,b5,b6,b7,b8,b9,ca,cb,cc,cd,ce,cf,cg,ch,ci,cj,ck,cl,cm,cn,co,cp,cq,cr,cs,ct,cu,cv,cw,cx,cy,cz,cA,cB,cC,cD,cE,cF,cG],defers:=[]} W.drew:=by
  refine tkP FZ20OPSq0 (.pointer (some ⟨g,0,none⟩)) 0 hQ hww ?_;simp only [List.set];refine tkP FZ20OPSq2 (.slice (some ⟨b,o,none⟩) n c) 2 hQ hww ?_;simp only [List.set];refine tkP FZ20OPSq3 (.int .i64 (i:Int)) 3 hQ hww ?_;simp only [List.set];refine tkH FZ20OPSq4 (.pointer (some ⟨b,o+i,none⟩)) 4 hQ (Or.inl ⟨by rfl,fun w hw=>by have hx:=b1;go_simp⟩) hww ?_;simp only [List.set];refine tkH FZ20OPSq5 (.int .u64 (x:Int)) 5 hQ (Or.inl ⟨by rfl,fun w hw=>by have hx:=hw.2;go_simp⟩) hww ?_;simp only [List.set];refine tkP FZ20OPSq7 (.pointer (some ⟨gt,0,none⟩)) 7 hQ hww ?_;simp only [List.set];refine tkP FZ20OPSq8 (.pointer (some ⟨gt,0,none⟩)) 8 hQ hww ?_;simp only [List.set];refine tkP FZ20OPSq9 (.pointer (some ⟨gt,2,none⟩)) 9 hQ hww ?_;simp only [List.set];refine tkH FZ20OPSq10 (.pointer (some ⟨gs,0,none⟩)) 10 hQ (Or.inl ⟨by rfl,fun w hw=>by have hx:=hw.1;go_simp⟩) hww ?_;simp only [List.set];refine tkP FZ20OPSq11 (.slice (some ⟨b,o,none⟩) n c) 11 hQ hww ?_;simp only [List.set];refine tkP FZ20OPSq12 (.int .i64 (i:Int)) 12 hQ hww ?_;simp only [List.set];refine tkH FZ20OPSq13 (.pointer (some ⟨b,o+i,none⟩)) 13 hQ (Or.inl ⟨by rfl,fun w hw=>by have hx:=b1;go_simp⟩) hww ?_;simp only [List.set];refine tkH FZ20OPSq14 (.int .u64 (x:Int)) 14 hQ (Or.inl ⟨by rfl,fun w hw=>by have hx:=hw.2;go_simp⟩) hww ?_;simp only [List.set];exact last
 exact wp_region_held_drew (S:=(fun w:World=>w.cell? ⟨gt,2,none⟩=some (.pointer (some ⟨gs,0,none⟩))/\w.cell? ⟨b,o+i,none⟩=some (.int .u64 (x:Int)))) (by kernel_rfl) hww (fun _=>z)
@[go_sem] def FZ41OPSq0:Oper:=⟨some 182,.move (.tmp 23),42,"law.go:163",#[],none⟩
@[go_sem] def FZ41OPSq1:Oper:=⟨some 183,.move (.tmp 25),3,"law.go:163",#[],none⟩
@[go_sem] def FZ41OPSq2:Oper:=⟨some 184,.indexAddr 42 (.tmp 182) (.tmp 183),0,"law.go:163",#[⟨0,.data⟩,⟨1,.data⟩],none⟩
@[go_sem] def FZ41OPSq3:Oper:=⟨some 185,.load 48 (.tmp 184),48,"law.go:163",#[⟨2,.data⟩],none⟩
@[go_sem] def FZ41OPSq4:Oper:=⟨some 186,.move (.tmp 17),42,"law.go:163",#[],none⟩
@[go_sem] def FZ41OPSq5:Oper:=⟨some 187,.move (.tmp 25),3,"law.go:163",#[],none⟩
@[go_sem] def FZ41OPSq6:Oper:=⟨some 188,.indexAddr 42 (.tmp 186) (.tmp 187),0,"law.go:163",#[⟨4,.data⟩,⟨5,.data⟩],none⟩
@[go_sem] def FZ41OPSq7:Oper:=⟨some 189,.load 48 (.tmp 188),48,"law.go:163",#[⟨6,.data⟩],none⟩
@[go_sem] def FZ41OPSq8:Oper:=⟨some 190,.call {callee:=.value (.func 15),args:=#[.tmp 185,.tmp 189],argTypes:=#[48,48]},4,"law.go:163",#[⟨3,.data⟩,⟨7,.data⟩],none⟩
@[go_sem] def FZ41OPSq9:Oper:=⟨some 191,.unOp .not 4 (.tmp 190),4,"law.go:163",#[⟨8,.data⟩],none⟩
def z6R:Array Oper:=#[FZ41OPSq0,FZ41OPSq1,FZ41OPSq2,FZ41OPSq3,FZ41OPSq4,FZ41OPSq5,FZ41OPSq6,FZ41OPSq7,FZ41OPSq8,FZ41OPSq9]
theorem zdV {Q:Exit->Act->World->Prop} {b d f g j l m n p q r s u x y A B C D E F G H I K L M O P R T U V X Y Z aa ab ac ad ae af ag ah ai aj ak al am an ao ap aq ar au av aw ax ay az aA aB aC aD aE aF aG aH aI aJ aK aL aM aN aO aP aQ aR aS aT aU aV aW aX aY aZ a0 a1 a2 a3 a4 a5 a6 a7 a8 a9 ba bb bc bd be bf bg bh bi bj bk bl bm bn bo bp bq br bs bt bu bv bw bx bz bA bB bC bD bE bF bG bH bI bJ bK bL bM bN bO bP bQ bR bS bT bU bV bW bX bY bZ b0 b1 b2 b3 b4 b5 b6 b7 b8 b9 ca cb cc cd ce cf cg ch ci cj ck cl cm cn co cp cq cr cs ct cu cv cw cx cy cz cA cB cC cD cE cF cG:Value} (W:World) (g1 g2 k c1 c2 i N:Nat) (r1 r2:PRW) (hi:(i:Int)<(k:Int)) (J:World->Prop) (h0:J W.drew) (hS:∀ w,J w->(fun w:World=>w.rangeAt g1 (i*3) (PRW.cells N r1)/\w.rangeAt g2 (i*3) (PRW.cells N r2)) w) (q8:∀ w,J w->Calls Tryz.prog 15 #[.agg (PRW.cells N r1).toArray,.agg (PRW.cells N r2).toArray] w fun e w'=>e=.returned (.bool true)/\J w') (hQ:∀ c (a:Act) (t:Tmp) (v:Value) w,Q (.panic c) (a.put (some t) v) w->Q (.panic c) a w)
  (hfin:∀ (w:World),(J w)->Q .normal {tmps:=#[b,d,f,g,j,l,m,n,p,q,r,s,u,x,y,A,B,.slice (some ⟨g2,0,none⟩) k c2,C,D,E,F,G,.slice (some ⟨g1,0,none⟩) k c1,H,.int .i64 (i:Int),I,K,L,M,O,P,R,T,U,V,X,Y,Z,aa,ab,ac,ad,ae,af,ag,ah,ai,aj,ak,al,am,an,ao,ap,aq,ar,au,av,aw,ax,ay,az,aA,aB,aC,aD,aE,aF,aG,aH,aI,aJ,aK,aL,aM,aN,aO,aP,aQ,aR,aS,aT,aU,aV,aW,aX,aY,aZ,a0,a1,a2,a3,a4,a5,a6,a7,a8,a9,ba,bb,bc,bd,be,bf,bg,bh,bi,bj,bk,bl,bm,bn,bo,bp,bq,br,bs,bt,bu,bv,bw,bx,bz,bA,bB,bC,bD,bE,bF,bG,bH,bI,bJ,bK,bL,bM,bN,bO,bP,bQ,bR,bS,bT,bU,bV,bW,bX,bY,bZ,b0,b1,b2,b3,b4,b5,b6,b7,b8,b9,ca,cb,cc,cd,ce,cf,cg,ch,ci,cj,ck,cl,cm,cn,co,cp,cq,cr,cs,ct,cu,cv,.slice (some ⟨g1,0,none⟩) k c1,.int .i64 (i:Int),.pointer (some ⟨g1,i*3,none⟩),.agg (PRW.cells N r1).toArray,.slice (some ⟨g2,0,none⟩) k c2,.int .i64 (i:Int),.pointer (some ⟨g2,i*3,none⟩),.agg (PRW.cells N r2).toArray,.bool true,.bool false,cG],defers:=[]} w):(Code.region 41 z6R true).wp Tryz.prog Q {tmps:=#[b,d,f,g,j,l,m,n,p,q,r,s,u,x,y,A,B,.slice (some ⟨g2,0,none⟩) k c2,C,D,E,F,G,.slice (some ⟨g1,0,none⟩) k c1,H,.int .i64 (i:Int),I,K,L,M,O,P,R,T,U,V,X,Y,Z,aa,ab,ac,ad,ae,af,ag,ah,ai,aj,ak,al,am,an,ao,ap,aq,ar,au,av,aw,ax,ay,az,aA,aB,aC,aD,aE,aF,aG,aH,aI,aJ,aK,aL,aM,aN,aO,aP,aQ,aR,aS,aT,aU,aV,aW,aX,aY,aZ,a0,a1,a2,a3,a4,a5,a6,a7,a8,a9,ba,bb,bc,bd,be,bf,bg,bh,bi,bj,bk,bl,bm,bn,bo,bp,bq,br,bs,bt,bu,bv,bw,bx,bz,bA,bB,bC,bD,bE,bF,bG,bH,bI,bJ,bK,bL,bM,bN,bO,bP,bQ,bR,bS,bT,bU,bV,bW,bX,bY,bZ,b0,b1,b2,b3,b4,b5,b6,b7,b8,b9,ca,cb,cc,cd,ce,cf,cg,ch,ci,cj,ck,cl,cm,cn,co,cp,cq,cr,cs,ct,cu,cv,cw,cx,cy,cz,cA,cB,cC,cD,cE,cF,cG],defers:=[]} W:=by
 have kst:∀ (w:World),(J w)->wpAnyH Tryz.prog .any z6R Q (fun w:World=>w.rangeAt g1 (i*3) (PRW.cells N r1)/\w.rangeAt g2 (i*3) (PRW.cells N r2)) 2 #[tt,tt,tt,tt,tt,tt,tt,tt,ff,ff] {tmps:=#[b,d,f,g,j,l,m,n,p,q,r,s,u,x,y,A,B,.slice (some ⟨g2,0,none⟩) k c2,C,D,E,F,G,.slice (some ⟨g1,0,none⟩) k c1,H,.int .i64 (i:Int),I,K,L,M,O,P,R,T,U,V,X,Y,Z,aa,ab,ac,ad,ae,af,ag,ah,ai,aj,ak,al,am,an,ao,ap,aq,ar,au,av,aw,ax,ay,az,aA,aB,aC,aD,aE,aF,aG,aH,aI,aJ,aK,aL,aM,aN,aO,aP,aQ,aR,aS,aT,aU,aV,aW,aX,aY,aZ,a0,a1,a2,a3,a4,a5,a6,a7,a8,a9,ba,bb,bc,bd,be,bf,bg,bh,bi,bj,bk,bl,bm,bn,bo,bp,bq,br,bs,bt,bu,bv,bw,bx,bz,bA,bB,bC,bD,bE,bF,bG,bH,bI,bJ,bK,bL,bM,bN,bO,bP,bQ,bR,bS,bT,bU,bV,bW,bX,bY,bZ,b0,b1,b2,b3,b4,b5,b6,b7,b8,b9,ca,cb,cc,cd,ce,cf,cg,ch,ci,cj,ck,cl,cm,cn,co,cp,cq,cr,cs,ct,cu,cv,.slice (some ⟨g1,0,none⟩) k c1,.int .i64 (i:Int),.pointer (some ⟨g1,i*3,none⟩),.agg (PRW.cells N r1).toArray,.slice (some ⟨g2,0,none⟩) k c2,.int .i64 (i:Int),.pointer (some ⟨g2,i*3,none⟩),.agg (PRW.cells N r2).toArray,cE,cF,cG],defers:=[]} w:=fun  w hp=>by
  refine wpAnyH_ready (rs:=[8]) (by kernel_rfl) (by simp) ?_;refine AllReadyH.cons (o:=FZ41OPSq8) rfl (fun KQ hKQ=>?_) ?_
  ·rw [if_pos (by rfl)]
   go_simp;refine (show Calls _ _ _ w (fun e w'=>e=.returned (.bool true)/\(J w')) from q8 _ hp).mono ?_;rintro e w ⟨rfl,hp⟩;refine hKQ.out _ _ (hS _ hp) (fun _=>?_);simp only [List.setIfInBounds_toArray,List.set];have hww:(fun w:World=>w.rangeAt g1 (i*3) (PRW.cells N r1)/\w.rangeAt g2 (i*3) (PRW.cells N r2)) w:=hS _ hp;refine tkP FZ41OPSq9 (.bool false) 9 hQ hww ?_;simp only [List.set];exact wpAnyH_done (by kernel_rfl) (hfin  w hp) _
  exact AllReadyH.nil
 have hp:=h0;have hww:(fun w:World=>w.rangeAt g1 (i*3) (PRW.cells N r1)/\w.rangeAt g2 (i*3) (PRW.cells N r2)) W.drew:=hS _ hp;have last:=kst W.drew hp
 have z:wpAnyH Tryz.prog .any z6R Q (fun w:World=>w.rangeAt g1 (i*3) (PRW.cells N r1)/\w.rangeAt g2 (i*3) (PRW.cells N r2)) 10 #[ff,ff,ff,ff,ff,ff,ff,ff,ff,ff] {tmps:=#[b,d,f,g,j,l,m,n,p,q,r,s,u,x,y,A,B,.slice (some ⟨g2,0,none⟩) k c2,C,D,E,F,G,.slice (some ⟨g1,0,none⟩) k c1,H,.int .i64 (i:Int),I,K,L,M,O,P,R,T,U,V,X,Y,Z,aa,ab,ac,ad,ae,af,ag,ah,ai,aj,ak,al,am,an,ao,ap,aq,ar,au,av,aw,ax,ay,az,aA,aB,aC,aD,aE,aF,aG,aH,aI,aJ,aK,aL,aM,aN,aO,aP,aQ,aR,aS,aT,aU,aV,aW,aX,aY,aZ,a0,a1,a2,a3,a4,a5,a6,a7,a8,a9,ba,bb,bc,bd,be,bf,bg,bh,bi,bj,bk,bl,bm,bn,bo,bp,bq,br,bs,bt,bu,bv,bw,bx,bz,bA,bB,bC,bD,bE,bF,bG,bH,bI,bJ,bK,bL,bM,bN,bO,bP,bQ,bR,bS,bT,bU,bV,bW,bX,bY,bZ,b0,b1,b2,b3,b4,b5,b6,b7,b8,b9,ca,cb,cc,cd,ce,cf,cg,ch,ci,cj,ck,cl,cm,cn,co,cp,cq,cr,cs,ct,cu,cv,cw,cx,cy,cz,cA,cB,cC,cD,cE,cF,cG],defers:=[]} W.drew:=by
  refine tkP FZ41OPSq0 (.slice (some ⟨g1,0,none⟩) k c1) 0 hQ hww ?_;simp only [List.set];refine tkP FZ41OPSq1 (.int .i64 (i:Int)) 1 hQ hww ?_;simp only [List.set];refine tkP FZ41OPSq2 (.pointer (some ⟨g1,i*3,none⟩)) 2 hQ hww ?_;simp only [List.set];refine tkH FZ41OPSq3 (.agg (PRW.cells N r1).toArray) 3 hQ (yieldsIf_load_mid (by rfl) 48 (.tmp 184) rfl g1 (i*3) rfl (PRW.cells N r1) _ (fun w h=>h.1) Tryz.underlying48 rfl (by kernel_rfl)) hww ?_;simp only [List.set];refine tkP FZ41OPSq4 (.slice (some ⟨g2,0,none⟩) k c2) 4 hQ hww ?_;simp only [List.set];refine tkP FZ41OPSq5 (.int .i64 (i:Int)) 5 hQ hww ?_;simp only [List.set];refine tkP FZ41OPSq6 (.pointer (some ⟨g2,i*3,none⟩)) 6 hQ hww ?_;simp only [List.set];refine tkH FZ41OPSq7 (.agg (PRW.cells N r2).toArray) 7 hQ (yieldsIf_load_mid (by rfl) 48 (.tmp 188) rfl g2 (i*3) rfl (PRW.cells N r2) _ (fun w h=>h.2) Tryz.underlying48 rfl (by kernel_rfl)) hww ?_;simp only [List.set];exact last
 exact wp_region_held_drew (S:=(fun w:World=>w.rangeAt g1 (i*3) (PRW.cells N r1)/\w.rangeAt g2 (i*3) (PRW.cells N r2))) (by kernel_rfl) hww (fun _=>z)
end Go.Proofs.YtlbcnaenhghieaaGreatDoor
namespace Go.Proofs.YtlbcnaenhghieaaGreatDoor
open Go.RowKit Go.Maps
set_option maxRecDepth 100000
theorem zfJ {ops:Array Oper} {rest:List Oper} {o:Oper} {a:Act} {Q:Exit->Act->World->Prop} (w:World) (hgd:o.guard=none) (s x:Operand)
  (ho:o.op=.call {callee:=.builtin .append,args:=#[s,x],argTypes:=#[23,23]})
  (base:Nat) (v:Value) (n:Nat) (xs:List Nat) (hs:a.eval s=v) (hown:w.ownsRow base 36 1 v n (z06 xs))
  (b c:Nat) (y:Nat) (hx:a.eval x=.slice (some ⟨b,0,none⟩) 1 c) (hc:w.cell? ⟨b,0,none⟩=some (.int .u64 (y:Int)))
  (hb:n<=2 ^ 30) (hbase:base<=w.heap.size)
  (h:∀ g cap w',w'.ownsRow base 36 1 (.slice (some ⟨g,0,none⟩) (n+1) cap) (n+1) (z06 (xs ++ [y]))->w.grownBy w' v.ownBlock->(v.ownBlock=some g\/g=w.heap.size)->g<w'.heap.size->wpList Tryz.prog ops Q rest (a.put o.dst (.slice (some ⟨g,0,none⟩) (n+1) cap)) w'):wpList Tryz.prog ops Q (o :: rest) a w:=by
 obtain ⟨i,hi,hz,hs1,hby⟩:=info_parts z1u;refine wpList_append_lies w hgd s x 23 ho base 36 i (.int .u64 0) 1 8 Tryz.underlying23 hi hz hs1 hby rfl (by decide) v n (z06 xs) hs hown ⟨b,0,none⟩ 1 c [.int .u64 (y:Int)] hx rfl ?_ (fun u hu=>by simp at hu;subst hu;rfl) (by decide) (by simp only [maxLen];omega) (by omega) hbase w.heap.size rfl ?_
 ·intro j u hj
  cases j with
  | zero=>
    simp only [List.getElem?_cons_zero,Option.some.injEq] at hj;subst hj;exact hc
  | succ j=>simp at hj
 ·intro g cap w' h1 h2 h3 h4
  rw [<-z1y] at h1;exact h g cap w' h1 h2 h3 h4
def TRBK (w:World) (g:Nat) (C:HX.z01) (gt gs:Nat) (v:Value) (x:Nat):Prop:=x=g\/HX.FOOT w g C x\/RBK gt gs v x
structure TRIO (w wx:World) (g:Nat) (C:HX.z01) (B2 gt gs:Nat) (d D:Int) (n:Nat) (l:List RND) (a:Option Addr) (c:Nat) (F:Nat->Nat->Nat) (nT p:Nat) (v:Value) (m:Option Nat) (f:Nat->List Int) (nF:Nat) (u:Value) (X:List Nat):Prop where
 tree:HX.FOREST wx w.heap.size g d 2 nT C F
 sd:SIDES w wx g C B2 gt gs D n l a c
 find:FIND wx w.heap.size p v m f nF
 own:wx.ownsRow w.heap.size 36 1 u X.length (z06 X)
 offF:∀ x,FFT p v m x->¬ TRBK wx g C gt gs (.slice a l.length c) x
 offL:∀ x,u.ownBlock=some x->¬ TRBK wx g C gt gs (.slice a l.length c) x/\¬ FFT p v m x
theorem SIDES.held {w0 wx w':World} {g B2 gt gs n c:Nat} {C:HX.z01} {D:Int} {l:List RND} {a:Option Addr} (h:SIDES w0 wx g C B2 gt gs D n l a c) (hg:w'.heap[g]?=wx.heap[g]?) (hf:∀ x,HX.FOOT w' g C x->HX.FOOT wx g C x) (hR:∀ x,RBK gt gs (.slice a l.length c) x->w'.heap[x]?=wx.heap[x]?) (hb:Below w0.heap.size wx w'):SIDES w0 w' g C B2 gt gs D n l a c:=
 ⟨(World.cell?_of_block (a:=⟨g,4,none⟩) hg).trans h.pin,h.rt.keep (hR gt (.inl rfl)) (hR gs (.inr (.inl rfl))) (fun k e=>hR k (.inr (.inr e))),fun x hx=>⟨(h.off x hx).1,fun h1=>(h.off x hx).2 (hf x h1)⟩,h.bel.trans hb,h.lo⟩
section
variable {w wx w':World} {g B2 gt gs n c nT p nF:Nat} {C C':HX.z01} {d D:Int} {l:List RND} {a:Option Addr} {F:Nat->Nat->Nat} {v:Value} {m:Option Nat} {f:Nat->List Int} {u:Value} {X:List Nat}
theorem TRIO.tlt (h:TRIO w wx g C B2 gt gs d D n l a c F nT p v m f nF u X) {x:Nat} (hx:TRBK wx g C gt gs (.slice a l.length c) x):x<wx.heap.size:=by
 rcases hx with rfl | hx | hx
 ·exact h.tree.store.lt
 ·exact h.tree.store.foot_lt hx
 ·exact h.sd.rt.blk hx
theorem TRIO.trees (h:TRIO w wx g C B2 gt gs d D n l a c F nT p v m f nF u X) (one:∀ x,TRBK wx g C gt gs (.slice a l.length c) x->w'.heap[x]?=wx.heap[x]?) (hb:Below w.heap.size wx w'):HX.FOREST w' w.heap.size g d 2 nT C F/\SIDES w w' g C B2 gt gs D n l a c/\∀ x,TRBK w' g C gt gs (.slice a l.length c) x->TRBK wx g C gt gs (.slice a l.length c) x:=by
 obtain ⟨k1,k2⟩:=h.tree.held (one g (.inl rfl)) (fun x hx=>one x (.inr (.inl hx)));exact ⟨k1,h.sd.held (one g (.inl rfl)) k2 (fun x hx=>one x (.inr (.inr hx))) hb,fun x hx=>hx.imp id (Or.imp (k2 x) id)⟩
theorem TRIO.below (h:TRIO w wx g C B2 gt gs d D n l a c F nT p v m f nF u X) (hb:Below wx.heap.size wx w'):TRIO w w' g C B2 gt gs d D n l a c F nT p v m f nF u X:=by
 obtain ⟨k1,k2,k3⟩:=h.trees (fun x hx=>hb.block x (h.tlt hx)) (hb.mono h.sd.bel.size);exact ⟨k1,k2,h.find.keep hb,z0J h.own fun x e=>hb.block x (h.own.lt x e).2,fun x hx h1=>h.offF x hx (k3 x h1),fun x e=>⟨fun h1=>(h.offL x e).1 (k3 x h1),(h.offL x e).2⟩⟩
theorem TRIO.append {nT':Nat} {F':Nat->Nat->Nat} (h:TRIO w wx g C B2 gt gs d D n l a c F nT p v m f nF u X) (hF:HX.FOREST w' w.heap.size g d 2 nT' C' F') (hst:HX.TSTEP wx w' g C C') (hb:Below w.heap.size wx w'):TRIO w w' g C' B2 gt gs d D n l a c F' nT' p v m f nF u X:=by
 have foot:∀ x,x<wx.heap.size->TRBK w' g C' gt gs (.slice a l.length c) x->TRBK wx g C gt gs (.slice a l.length c) x:=fun x hx h1=>by
  rcases h1 with e | h1 | h1
  ·exact .inl e
  ·rcases hst.foot x h1 with h2 | h2
   ·exact .inr (.inl h2)
   ·omega
  ·exact .inr (.inr h1)
 have same:∀ x,x<wx.heap.size->¬ TRBK wx g C gt gs (.slice a l.length c) x->w'.heap[x]?=wx.heap[x]?:=fun x hx hn=>hst.same x hx (fun e=>hn (.inl e)) (fun e=>hn (.inr (.inl e)));exact ⟨hF,h.sd.step hst hb,h.find.at fun k e=>same k (h.find.lt k e).2 (h.offF k e),z0J h.own fun k e=>same k (h.own.lt k e).2 (h.offL k e).1,fun x e h1=>h.offF x e (foot x (h.find.lt x e).2 h1),fun x e=>⟨fun h1=>(h.offL x e).1 (foot x (h.own.lt x e).2 h1),(h.offL x e).2⟩⟩
theorem TRIO.add {v':Value} {m':Option Nat} {nF':Nat} (h:TRIO w wx g C B2 gt gs d D n l a c F nT p v m f nF u X) (hF:FIND w' w.heap.size p v' m' f nF') (hst:FSTP wx w' p v m v' m'):TRIO w w' g C B2 gt gs d D n l a c F nT p v' m' f nF' u X:=by
 have hb:Below w.heap.size wx w':=⟨hst.os,hst.tape,hst.output,hst.size,fun k hk=>hst.block k (Nat.lt_of_lt_of_le hk h.sd.bel.size) fun e=>by have:=(h.find.lt k e).1;omega⟩
 obtain ⟨k1,k2,k3⟩:=h.trees (fun x hx=>hst.block x (h.tlt hx) fun e=>h.offF x e hx) hb;have hs:=hst.size;refine ⟨k1,k2,hF,z0J h.own fun k e=>hst.block k (h.own.lt k e).2 (h.offL k e).2,fun x e h1=>?_,fun x e=>⟨fun h1=>(h.offL x e).1 (k3 x h1),fun h1=>?_⟩⟩
 ·rcases hst.foot x e with h2 | h2
  ·exact h.offF x h2 (k3 x h1)
  ·have:=h.tlt (k3 x h1)
   omega
 ·rcases hst.foot x h1 with h2 | h2
  ·exact (h.offL x e).2 h2
  ·have:=(h.own.lt x e).2
   omega
theorem TRIO.put {y g7 c7:Nat} (h:TRIO w wx g C B2 gt gs d D n l a c F nT p v m f nF u X) (hown:w'.ownsRow w.heap.size 36 1 (.slice (some ⟨g7,0,none⟩) (X.length+1) c7) (X.length+1) (z06 (X ++ [y]))) (hg:wx.grownBy w' u.ownBlock) (hat:u.ownBlock=some g7\/g7=wx.heap.size):TRIO w w' g C B2 gt gs d D n l a c F nT p v m f nF (.slice (some ⟨g7,0,none⟩) (X.length+1) c7) (X ++ [y]):=by
 have same:∀ x,x<wx.heap.size->u.ownBlock≠some x->w'.heap[x]?=wx.heap[x]?:=fun x hx hn=>hg.block x hx fun e=>hn e.symm;have hb:Below w.heap.size wx w':=⟨hg.os,hg.tape,hg.output,hg.size,fun k hk=>same k (Nat.lt_of_lt_of_le hk h.sd.bel.size) fun e=>by have:=(h.own.lt k e).1;omega⟩
 obtain ⟨k1,k2,k3⟩:=h.trees (fun x hx=>same x (h.tlt hx) fun e=>(h.offL x e).1 hx) hb;refine ⟨k1,k2,h.find.at fun k e=>same k (h.find.lt k e).2 fun e2=>(h.offL k e2).2 e,by rw [List.length_append];exact hown,fun x e h1=>h.offF x e (k3 x h1),fun x e=>?_⟩;have hx:g7=x:=by simpa [Value.ownBlock] using e
 subst hx;rcases hat with h1 | h1
 ·exact ⟨fun h2=>(h.offL g7 h1).1 (k3 g7 h2),(h.offL g7 h1).2⟩
 ·exact ⟨fun h2=>by have:=h.tlt (k3 g7 h2);omega,fun h2=>by have:=(h.find.lt g7 h2).2;omega⟩
structure KEPB (wz wx:World) (g:Nat) (C:HX.z01) (gt gs:Nat) (l:List RND) (a:Option Addr) (c:Nat) (S:Nat->Prop):Prop where
 lt:∀ k,S k->k<wx.heap.size
 off:∀ k,S k->¬ TRBK wx g C gt gs (.slice a l.length c) k
 same:∀ k,S k->wx.heap[k]?=wz.heap[k]?
theorem KEPB.step {wz:World} {S:Nat->Prop} (h:KEPB wz wx g C gt gs l a c S) (hst:HX.TSTEP wx w' g C C'):KEPB wz w' g C' gt gs l a c S:=by
 refine ⟨fun k hk=>Nat.lt_of_lt_of_le (h.lt k hk) hst.size,fun k hk h1=>h.off k hk ?_,fun k hk=>(hst.same k (h.lt k hk) (fun e=>h.off k hk (.inl e)) (fun e=>h.off k hk (.inr (.inl e)))).trans (h.same k hk)⟩;rcases h1 with e | h1 | h1
 ·exact .inl e
 ·rcases hst.foot k h1 with h2 | h2
  ·exact .inr (.inl h2)
  ·have:=h.lt k hk
   omega
 ·exact .inr (.inr h1)
def BOTHK (w wz wx:World) (g N B2 gt gs:Nat) (D:Int) (n:Nat) (a:Option Addr) (c:Nat) (S:Nat->Prop) (l:List RND) (C:HX.z01) (alive:Nat):Prop:=BOTHD w wx g 2 N N B2 gt gs D n a c l C alive/\KEPB wz wx g C gt gs l a c S
def zcc (w wz wx:World) (g N B2 gt gs:Nat) (D:Int) (n:Nat) (a:Option Addr) (c:Nat) (S:Nat->Prop) (l:List RND) (p:Nat):Prop:=
 ∃ C alive,HX.STORE wx w.heap.size g 2 N alive N C/\SIDES w wx g C B2 gt gs D n l a c/\TWIN C 2 N alive (if RDRP l p=0 then l.set p ZRN else l)/\(∀ v∈l,∀ x∈v.hash,0<=x/\x<=255)/\KEPB wz wx g C gt gs l a c S
theorem BOTHK.below {wz:World} {N alive:Nat} {S:Nat->Prop} (h:BOTHK w wz wx g N B2 gt gs D n a c S l C alive) (hb:Below wx.heap.size wx w'):BOTHK w wz w' g N B2 gt gs D n a c S l C alive:=⟨h.1.below hb,h.2.step (HX.STEP.below h.1.st hb).tree⟩
theorem zab {wz:World} {N alive:Nat} {S:Nat->Prop} (h:BOTHK w wz wx g N B2 gt gs D n a c S l C alive) (q:Nat) (hp:q<2 ^ 64) (hg:w.heap.size<=g) (hlen:N<2 ^ 40):
  Calls Tryz.prog 10 #[.pointer (some ⟨g,0,none⟩),.int .u64 (q:Int)] wx fun e w'=>e=.returned (.int .i64 (RDRP l q))/\zcc w wz w' g N B2 gt gs D n a c S l q:=by
 obtain ⟨h,hk⟩:=h;by_cases hl:q<N
 ·have h0:=h.tw.near hl
  cases hA:HX.AT C 2 q with
  | none=>
    refine (HX.zdv h.st h.sd.pins q hp hl rfl hA).mono ?_;rintro e w' ⟨rfl,hb⟩;refine ⟨by rw [h0],C,alive,h.st.below hb,h.sd.below h.st hb,?_,h.byte,hk.step (HX.STEP.below h.st hb).tree⟩;rw [if_pos h0];exact h.tw.dead hl hA
  | some f=>
    have hc:=h.tw.count;have hle:=zdP (fun p=>(HX.AT C 2 p).isSome) N
    have hal:alive - 1+1=alive:=by
     have:=z5A (P:=fun p=>(HX.AT C 2 p).isSome) (Q:=fun r=>if r=q then false else (HX.AT C 2 r).isSome) (p:=q) (by simp [hA]) (by simp) (fun r hr=>by simp [hr]) hl;omega
    refine (HX.zdw h.st h.sd.pins q (alive - 1) f hp hl rfl hA hal (by omega) hg).mono ?_;rintro e w' ⟨rfl,C',s1,s2,s3,s4,s5⟩;refine ⟨by rw [h0],C',alive - 1,s1,h.sd.step s4.tree s5,?_,h.byte,hk.step s4.tree⟩;rw [if_pos h0];exact (h.tw.drop hl hA s2).2
 ·have h0:=h.tw.far (p:=q) (by omega)
  refine (HX.zfc h.st q (by omega)).mono ?_;rintro e w' ⟨rfl,rfl⟩;refine ⟨by rw [h0],C,alive,h.st,h.sd,?_,h.byte,hk⟩;rw [if_neg (by rw [h0];decide)];exact h.tw
theorem z94 {wz:World} {N:Nat} {S:Nat->Prop} (q:Nat) (h:zcc w wz wx g N B2 gt gs D n a c S l q):
  Calls Tryz.prog 11 #[.pointer (some ⟨gs,0,none⟩),.int .u64 (q:Int)] wx fun e w'=>e=.returned (.int .i64 (RDRP l q))/\∃ l' C alive,BOTHK w wz w' g N B2 gt gs D n a c S l' C alive:=by
 obtain ⟨C,alive,h1,h2,h3,h4,h5⟩:=h;refine (zfn h2.rt.store q).mono ?_;rintro e w' ⟨rfl,k1,k2⟩;have hl:(if RDRP l q=0 then l.set q ZRN else l).length=l.length:=by split <;> simp
 obtain ⟨m1,m2⟩:=h2.rdrop h1 (l':=if RDRP l q=0 then l.set q ZRN else l) hl k1 k2;have one:∀ x,x<wx.heap.size->(Value.slice a l.length c).ownBlock≠some x->w'.heap[x]?=wx.heap[x]?:=fun x hx hne=>k2.block x hx (fun e=>hne e.symm);obtain ⟨_,j2,_⟩:=h1.held (one g h1.lt fun e=>(h2.off g (.inr (.inr e))).1 rfl) (fun x hf=>one x (h1.foot_lt hf) fun e=>(h2.off x (.inr (.inr e))).2 hf);refine ⟨rfl,_,C,alive,⟨m1,m2,h3,fun v hv=>?_⟩,fun k hk=>Nat.lt_of_lt_of_le (h5.lt k hk) k2.size,fun k hk hx=>h5.off k hk ?_,fun k hk=>(one k (h5.lt k hk) fun e=>h5.off k hk (.inr (.inr (.inr (.inr e))))).trans (h5.same k hk)⟩
 ·split at hv
  ·rcases List.mem_or_eq_of_mem_set hv with hv | rfl
   ·exact h4 v hv
   ·exact z5B
  ·exact h4 v hv
 ·rw [hl] at hx
  exact hx.imp id (Or.imp (j2 k) id)
end
end Go.Proofs.YtlbcnaenhghieaaGreatDoor

namespace Go.Proofs.YtlbcnaenhghieaaGreatDoor
open Go.RowKit Go.Maps
set_option maxRecDepth 100000
def ZENT:Array Value:=ZARR ++ #[.int .i64 0]
theorem zh0 (w:World):(zeroValue 75).run Tryz.prog w=.ok (.agg ZENT) w:=by kernel_rfl
theorem zh1:ZENT=(z00 ZND ++ [Value.int .i64 0]).toArray:=by kernel_rfl
theorem zdW {w:World} {g:Nat} {x y:List Value} (h:Has w g x.toArray 75) (hx:x.length=33) (hy:y.length=33) (h1:∀ v∈y,v.oneCell'=true):(storeCells ⟨g,0,none⟩ y 0).run Tryz.prog w=.ok () (w.setRow g y.toArray):=by
 have:=run_storeCells_from (P:=Tryz.prog) g 75 y 0 _ w h (by simp [hx,hy]) h1;simpa using this
structure FLESS (w w1:World) (B p b g c bx:Nat) (f:Nat->List Int) (n:Nat):Prop where
 box:Has w1 p #[.slice (some ⟨g,0,none⟩) (n+1) c,.map (some b)] 57
 own:w1.ownsRow B 75 33 (.slice (some ⟨g,0,none⟩) (n+1) c) (n+1) (ECS f (n+1))
 ent:Has w1 bx (ENT f n).toArray 75
 map:FMAP w1 b f n
 step:FSTP w w1 p (.slice (some ⟨g,0,none⟩) (n+1) c) (some b) (.slice (some ⟨g,0,none⟩) (n+1) c) (some b)
theorem FLESS.range {w w1:World} {B p b g c bx n:Nat} {f:Nat->List Int} (h:FLESS w w1 B p b g c bx f n) (_hh:FISH (f n)):w1.rangeAt bx 0 (z00 (f n)):=fun j u hj=>by
 rw [Nat.zero_add,h.ent.cell,List.getElem?_toArray,ENT,List.getElem?_append_left (List.getElem?_eq_some_iff.1 hj).1];exact hj
theorem FLESS.last {w w1:World} {B p b g c bx n:Nat} {f:Nat->List Int} {l:Int} (h:FLESS w w1 B p b g c bx f n) (hh:FISH (f n)) (hl:LSTI f n (f n)=l):w1.cell? ⟨bx,32,none⟩=some (.int .i64 l):=by
 rw [h.ent.cell,List.getElem?_toArray,ENT,List.getElem?_append_right (by simp [z00,hh.1]),hl];simp [z00,hh.1]
end Go.Proofs.YtlbcnaenhghieaaGreatDoor
