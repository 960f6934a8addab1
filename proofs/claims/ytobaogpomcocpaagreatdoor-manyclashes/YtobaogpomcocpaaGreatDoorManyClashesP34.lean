/- ManyClashes: part 34. -/
import Derived.Test.YtobaogpomcocpaaGreatDoorManyClashesP33
set_option maxRecDepth 100000
set_option maxHeartbeats 16000000
set_option linter.unusedSimpArgs false
open Go.RowKit
namespace Go.Proofs.YtobaogpomcocpaaGreatDoor
@[go_sem] def MCL11OPSq0:Oper:=⟨some 148,.fieldAddr 35 (.tmp 23) 0,0,"law.go:215",#[],none⟩
@[go_sem] def MCL11OPSq1:Oper:=⟨some 149,.load 27 (.tmp 148),27,"law.go:215",#[⟨0,.data⟩],none⟩
@[go_sem] def MCL11OPSq2:Oper:=⟨some 150,.fieldAddr 35 (.tmp 23) 1,0,"law.go:215",#[],none⟩
@[go_sem] def MCL11OPSq3:Oper:=⟨some 151,.load 27 (.tmp 150),27,"law.go:215",#[⟨2,.data⟩],none⟩
@[go_sem] def MCL11OPSq4:Oper:=⟨some 152,.call {callee:=.value (.func 10),args:=#[.tmp 149,.tmp 151],argTypes:=#[27,27]},4,"law.go:215",#[⟨1,.data⟩,⟨3,.data⟩],none⟩
@[go_sem] def MCL11OPSq5:Oper:=⟨some 153,.unOp .not 4 (.tmp 152),4,"law.go:215",#[⟨4,.data⟩],none⟩
@[go_sem] def MCL11OPSq6:Oper:=⟨some 154,.move (.tmp 153),4,"law.go:215",#[⟨5,.data⟩,⟨4,.chain⟩],none⟩
@[go_sem] def MCL11OPSq7:Oper:=⟨some 155,.fieldAddr 35 (.tmp 23) 0,0,"law.go:215",#[⟨6,.guard⟩],some (6,true)⟩
@[go_sem] def MCL11OPSq8:Oper:=⟨some 156,.load 27 (.tmp 155),27,"law.go:215",#[⟨7,.data⟩,⟨6,.guard⟩],some (6,true)⟩
@[go_sem] def MCL11OPSq9:Oper:=⟨some 157,.call {callee:=.builtin .len,args:=#[.tmp 156],argTypes:=#[27]},3,"law.go:215",#[⟨8,.data⟩,⟨6,.guard⟩],some (6,true)⟩
@[go_sem] def MCL11OPSq10:Oper:=⟨some 158,.binOp .leq 3 (.tmp 157) (.const (.int .i64 200)) 3,4,"law.go:215",#[⟨9,.data⟩,⟨6,.guard⟩],some (6,true)⟩
@[go_sem] def MCL11OPSq11:Oper:=⟨some 159,.pick (.tmp 154) (.tmp 158) (.const (.bool false)),4,"law.go:215",#[⟨6,.data⟩,⟨10,.data⟩],none⟩
@[go_sem] def MCL11OPSq12:Oper:=⟨some 160,.move (.tmp 159),4,"law.go:215",#[⟨11,.data⟩,⟨6,.chain⟩],none⟩
@[go_sem] def MCL11OPSq13:Oper:=⟨some 161,.fieldAddr 35 (.tmp 23) 1,0,"law.go:215",#[⟨12,.guard⟩],some (12,true)⟩
@[go_sem] def MCL11OPSq14:Oper:=⟨some 162,.load 27 (.tmp 161),27,"law.go:215",#[⟨13,.data⟩,⟨12,.guard⟩],some (12,true)⟩
@[go_sem] def MCL11OPSq15:Oper:=⟨some 163,.call {callee:=.builtin .len,args:=#[.tmp 162],argTypes:=#[27]},3,"law.go:215",#[⟨14,.data⟩,⟨12,.guard⟩],some (12,true)⟩
@[go_sem] def MCL11OPSq16:Oper:=⟨some 164,.binOp .leq 3 (.tmp 163) (.const (.int .i64 200)) 3,4,"law.go:215",#[⟨15,.data⟩,⟨12,.guard⟩],some (12,true)⟩
@[go_sem] def MCL11OPSq17:Oper:=⟨some 165,.pick (.tmp 160) (.tmp 164) (.const (.bool false)),4,"law.go:215",#[⟨12,.data⟩,⟨16,.data⟩],none⟩
@[go_sem] def MCL11OPSq18:Oper:=⟨some 166,.move (.tmp 165),4,"law.go:215",#[⟨17,.data⟩,⟨12,.chain⟩],none⟩
@[go_sem] def MCL11OPSq19:Oper:=⟨some 167,.move (.tmp 0),3,"law.go:215",#[⟨18,.guard⟩],some (18,true)⟩
@[go_sem] def MCL11OPSq20:Oper:=⟨some 168,.fieldAddr 35 (.tmp 23) 0,0,"law.go:215",#[⟨18,.guard⟩],some (18,true)⟩
@[go_sem] def MCL11OPSq21:Oper:=⟨some 169,.load 27 (.tmp 168),27,"law.go:215",#[⟨20,.data⟩,⟨18,.guard⟩],some (18,true)⟩
@[go_sem] def MCL11OPSq22:Oper:=⟨some 170,.buildSlice 63 1 #[(0,.tmp 169)],63,"law.go:215",#[⟨21,.data⟩,⟨18,.guard⟩],some (18,true)⟩
@[go_sem] def MCL11OPSq23:Oper:=⟨some 171,.call {callee:=.value (.func 12),args:=#[.tmp 167,.tmp 170],argTypes:=#[3,63]},23,"law.go:215",#[⟨19,.data⟩,⟨22,.data⟩,⟨18,.chain⟩,⟨18,.guard⟩],some (18,true)⟩
@[go_sem] def MCL11OPSq24:Oper:=⟨some 172,.move (.tmp 0),3,"law.go:215",#[⟨18,.guard⟩],some (18,true)⟩
@[go_sem] def MCL11OPSq25:Oper:=⟨some 173,.fieldAddr 35 (.tmp 23) 1,0,"law.go:215",#[⟨18,.guard⟩],some (18,true)⟩
@[go_sem] def MCL11OPSq26:Oper:=⟨some 174,.load 27 (.tmp 173),27,"law.go:215",#[⟨25,.data⟩,⟨18,.guard⟩],some (18,true)⟩
@[go_sem] def MCL11OPSq27:Oper:=⟨some 175,.buildSlice 63 1 #[(0,.tmp 174)],63,"law.go:215",#[⟨26,.data⟩,⟨18,.guard⟩],some (18,true)⟩
@[go_sem] def MCL11OPSq28:Oper:=⟨some 176,.call {callee:=.value (.func 12),args:=#[.tmp 172,.tmp 175],argTypes:=#[3,63]},23,"law.go:215",#[⟨24,.data⟩,⟨27,.data⟩,⟨23,.chain⟩,⟨18,.guard⟩],some (18,true)⟩
@[go_sem] def MCL11OPSq29:Oper:=⟨some 177,.binOp .eql 23 (.tmp 171) (.tmp 176) 23,4,"law.go:215",#[⟨23,.data⟩,⟨28,.data⟩,⟨18,.guard⟩],some (18,true)⟩
@[go_sem] def MCL11OPSq30:Oper:=⟨some 178,.pick (.tmp 166) (.tmp 177) (.const (.bool false)),4,"law.go:215",#[⟨18,.data⟩,⟨29,.data⟩],none⟩
@[go_sem] def MCL11OPSq31:Oper:=⟨some 27,.assign (.tmp 178),4,"law.go:215",#[⟨30,.data⟩,⟨28,.chain⟩,⟨0,.phase⟩,⟨1,.phase⟩,⟨2,.phase⟩,⟨3,.phase⟩,⟨4,.phase⟩,⟨5,.phase⟩,⟨6,.phase⟩,⟨7,.phase⟩,⟨8,.phase⟩,⟨9,.phase⟩,⟨10,.phase⟩,⟨11,.phase⟩,⟨12,.phase⟩,⟨13,.phase⟩,⟨14,.phase⟩,⟨15,.phase⟩,⟨16,.phase⟩,⟨17,.phase⟩,⟨18,.phase⟩,⟨19,.phase⟩,⟨20,.phase⟩,⟨21,.phase⟩,⟨22,.phase⟩,⟨23,.phase⟩,⟨24,.phase⟩,⟨25,.phase⟩,⟨26,.phase⟩,⟨27,.phase⟩,⟨28,.phase⟩,⟨29,.phase⟩,⟨30,.phase⟩],none⟩
def xV:Array Oper:=#[MCL11OPSq0,MCL11OPSq1,MCL11OPSq2,MCL11OPSq3,MCL11OPSq4,MCL11OPSq5,MCL11OPSq6,MCL11OPSq7,MCL11OPSq8,MCL11OPSq9,MCL11OPSq10,MCL11OPSq11,MCL11OPSq12,MCL11OPSq13,MCL11OPSq14,MCL11OPSq15,MCL11OPSq16,MCL11OPSq17,MCL11OPSq18,MCL11OPSq19,MCL11OPSq20,MCL11OPSq21,MCL11OPSq22,MCL11OPSq23,MCL11OPSq24,MCL11OPSq25,MCL11OPSq26,MCL11OPSq27,MCL11OPSq28,MCL11OPSq29,MCL11OPSq30,MCL11OPSq31]
theorem Gt{Q:Exit->Act->World->Prop}{f h i k l p q s u x y A D E F G H I J K L M N O R T U V X Y Z aa ab ac ad ae af ag ah ai aj ak al am an ao ap aq ar au av aw ax ay az aA aB aC aD aE aF aG aH aI aJ aK aL aM aN aO aP aQ aR aS aT aU aV aW aX aY aZ a0 a1 a2 a3 a4 a5 a6 a7 a8 a9 ba bb bc bd be bf bg bh bi bj bk bl bm bn bo bp bq br bs bt bu bv bw bx bz bA bB bC bD bE bF bG bH bI bJ bK bL bM bN bO bP bQ bR bS bT bU bV bW bX bY bZ b0 b1 b2 b3 b4 b5 b6 b7 b8 b9 ca cb cc cd ce cf cg ch ci cj ck cl cm cn co cp cq cr cs ct cu cv cw cx cy cz cA cB cC cD cE cF cG cH cI cJ cK cL cM cN cO cP cQ cR cS cT cU cV cW cX cY cZ c0 c4 c5 c6 c7 c8 c9:Value}(W:World)(d:Int)(B:Nat)(a:Option Addr)(n c:Nat)(b:Option Addr)(m c':Nat)(FA GA:Array Value)(r:Bool)(P:World->Prop)(h0:P W.drew)(hS:∀ w,P w->(fun w:World=>w.cell? ⟨B,0,none⟩=some (.slice a n c)/\w.cell? ⟨B,1,none⟩=some (.slice b m c')) w)(hal:∀ w o,P w->P (w.alloc o))(hn:(n:Int)<=200)(hm:(m:Int)<=200)(heq:∀ w,(Op.equalIn 10000 23 (.agg FA) (.agg GA)).run Tryz.prog w=.ok r w)(c1:∀ w,P w->Calls Tryz.prog 10 #[.slice a n c,.slice b m c'] w fun e w'=>e=.returned (.bool false)/\P w')(c2:(∀ w g,P w->HX.Has w g #[.slice a n c] 27->Calls Tryz.prog 12 #[.int .i64 d,.slice (some ⟨g,0,none⟩) 1 1] w fun e w'=>e=.returned (.agg FA)/\P w'/\(∀ (j:Nat) C t,HX.Has w j C t->HX.Has w' j C t)))(c3:(∀ w g2,P w->HX.Has w g2 #[.slice b m c'] 27->Calls Tryz.prog 12 #[.int .i64 d,.slice (some ⟨g2,0,none⟩) 1 1] w fun e w'=>e=.returned (.agg GA)/\P w'/\(∀ (j:Nat) C t,HX.Has w j C t->HX.Has w' j C t)))(hQ:∀ c (a:Act) (t:Tmp) (v:Value) w,Q (.panic c) (a.put (some t) v) w->Q (.panic c) a w)
  (hfin:∀ (g:Nat) (g2:Nat) (w:World),(P w/\HX.Has w g #[.slice a n c] 27/\HX.Has w g2 #[.slice b m c'] 27)->Q .normal ⟨#[.int .i64 d,f,h,i,k,l,p,q,s,u,x,y,A,D,E,F,G,H,I,J,K,L,M,.pointer (some ⟨B,0,none⟩),N,O,R,.bool r,U,V,X,Y,Z,aa,ab,ac,ad,ae,af,ag,ah,ai,aj,ak,al,am,an,ao,ap,aq,ar,au,av,aw,ax,ay,az,aA,aB,aC,aD,aE,aF,aG,aH,aI,aJ,aK,aL,aM,aN,aO,aP,aQ,aR,aS,aT,aU,aV,aW,aX,aY,aZ,a0,a1,a2,a3,a4,a5,a6,a7,a8,a9,ba,bb,bc,bd,be,bf,bg,bh,bi,bj,bk,bl,bm,bn,bo,bp,bq,br,bs,bt,bu,bv,bw,bx,bz,bA,bB,bC,bD,bE,bF,bG,bH,bI,bJ,bK,bL,bM,bN,bO,bP,bQ,bR,bS,bT,bU,bV,bW,bX,bY,bZ,b0,b1,b2,b3,.pointer (some ⟨B,0,none⟩),.slice a n c,.pointer (some ⟨B,1,none⟩),.slice b m c',.bool false,.bool true,.bool true,.pointer (some ⟨B,0,none⟩),.slice a n c,.int .i64 (n:Int),.bool true,.bool true,.bool true,.pointer (some ⟨B,1,none⟩),.slice b m c',.int .i64 (m:Int),.bool true,.bool true,.bool true,.int .i64 d,.pointer (some ⟨B,0,none⟩),.slice a n c,.slice (some ⟨g,0,none⟩) 1 1,.agg FA,.int .i64 d,.pointer (some ⟨B,1,none⟩),.slice b m c',.slice (some ⟨g2,0,none⟩) 1 1,.agg GA,.bool r,.bool r,cz,cA,cB,cC,cD,cE,cF,cG,cH,cI,cJ,cK,cL,cM,cN,cO,cP,cQ,cR,cS,cT,cU,cV,cW,cX,cY,cZ,c0,c4,c5,c6,c7,c8,c9],[]⟩ w):(Code.region 11 xV true).wp Tryz.prog Q ⟨#[.int .i64 d,f,h,i,k,l,p,q,s,u,x,y,A,D,E,F,G,H,I,J,K,L,M,.pointer (some ⟨B,0,none⟩),N,O,R,T,U,V,X,Y,Z,aa,ab,ac,ad,ae,af,ag,ah,ai,aj,ak,al,am,an,ao,ap,aq,ar,au,av,aw,ax,ay,az,aA,aB,aC,aD,aE,aF,aG,aH,aI,aJ,aK,aL,aM,aN,aO,aP,aQ,aR,aS,aT,aU,aV,aW,aX,aY,aZ,a0,a1,a2,a3,a4,a5,a6,a7,a8,a9,ba,bb,bc,bd,be,bf,bg,bh,bi,bj,bk,bl,bm,bn,bo,bp,bq,br,bs,bt,bu,bv,bw,bx,bz,bA,bB,bC,bD,bE,bF,bG,bH,bI,bJ,bK,bL,bM,bN,bO,bP,bQ,bR,bS,bT,bU,bV,bW,bX,bY,bZ,b0,b1,b2,b3,b4,b5,b6,b7,b8,b9,ca,cb,cc,cd,ce,cf,cg,ch,ci,cj,ck,cl,cm,cn,co,cp,cq,cr,cs,ct,cu,cv,cw,cx,cy,cz,cA,cB,cC,cD,cE,cF,cG,cH,cI,cJ,cK,cL,cM,cN,cO,cP,cQ,cR,cS,cT,cU,cV,cW,cX,cY,cZ,c0,c4,c5,c6,c7,c8,c9],[]⟩ W:=by
 have kst4_22_23_27:∀ (g:Nat) (g2:Nat) (w:World),(P w/\HX.Has w g #[.slice a n c] 27/\HX.Has w g2 #[.slice b m c'] 27)->wpAnyH Tryz.prog .any xV Q (fun w:World=>w.cell? ⟨B,0,none⟩=some (.slice a n c)/\w.cell? ⟨B,1,none⟩=some (.slice b m c')) 4 #[tt,tt,tt,tt,tt,tt,tt,tt,tt,tt,tt,tt,tt,tt,tt,tt,tt,tt,tt,tt,tt,tt,tt,tt,tt,tt,tt,tt,ff,ff,ff,ff] ⟨#[.int .i64 d,f,h,i,k,l,p,q,s,u,x,y,A,D,E,F,G,H,I,J,K,L,M,.pointer (some ⟨B,0,none⟩),N,O,R,T,U,V,X,Y,Z,aa,ab,ac,ad,ae,af,ag,ah,ai,aj,ak,al,am,an,ao,ap,aq,ar,au,av,aw,ax,ay,az,aA,aB,aC,aD,aE,aF,aG,aH,aI,aJ,aK,aL,aM,aN,aO,aP,aQ,aR,aS,aT,aU,aV,aW,aX,aY,aZ,a0,a1,a2,a3,a4,a5,a6,a7,a8,a9,ba,bb,bc,bd,be,bf,bg,bh,bi,bj,bk,bl,bm,bn,bo,bp,bq,br,bs,bt,bu,bv,bw,bx,bz,bA,bB,bC,bD,bE,bF,bG,bH,bI,bJ,bK,bL,bM,bN,bO,bP,bQ,bR,bS,bT,bU,bV,bW,bX,bY,bZ,b0,b1,b2,b3,.pointer (some ⟨B,0,none⟩),.slice a n c,.pointer (some ⟨B,1,none⟩),.slice b m c',.bool false,.bool true,.bool true,.pointer (some ⟨B,0,none⟩),.slice a n c,.int .i64 (n:Int),.bool true,.bool true,.bool true,.pointer (some ⟨B,1,none⟩),.slice b m c',.int .i64 (m:Int),.bool true,.bool true,.bool true,.int .i64 d,.pointer (some ⟨B,0,none⟩),.slice a n c,.slice (some ⟨g,0,none⟩) 1 1,.agg FA,.int .i64 d,.pointer (some ⟨B,1,none⟩),.slice b m c',.slice (some ⟨g2,0,none⟩) 1 1,cw,cx,cy,cz,cA,cB,cC,cD,cE,cF,cG,cH,cI,cJ,cK,cL,cM,cN,cO,cP,cQ,cR,cS,cT,cU,cV,cW,cX,cY,cZ,c0,c4,c5,c6,c7,c8,c9],[]⟩ w:=fun g g2 w hp=>by
  refine wpAnyH_ready (rs:=[28]) (by kernel_rfl) (by simp) ?_;refine AllReadyH.cons (o:=MCL11OPSq28) rfl (fun KQ hKQ=>?_) ?_
  ·rw[if_pos (by rfl)]
   go_simp;refine(show Calls _ _ _ w (fun e w'=>e=.returned (.agg GA)/\(P w'/\HX.Has w' g #[.slice a n c] 27/\HX.Has w' g2 #[.slice b m c'] 27)) from (c3 w g2 (hp.1) (hp.2.2)).mono fun e w' hh=>⟨hh.1,hh.2.1,hh.2.2 _ _ _ (hp.2.1),hh.2.2 _ _ _ (hp.2.2)⟩).mono ?_;rintro e w ⟨rfl,hp⟩;refine hKQ.out _ _ (hS _ hp.1) (fun _=>?_);simp only[List.setIfInBounds_toArray,List.set];have hww:(fun w:World=>w.cell? ⟨B,0,none⟩=some (.slice a n c)/\w.cell? ⟨B,1,none⟩=some (.slice b m c')) w:=hS _ hp.1;refine tkH MCL11OPSq29 (.bool r) 29 hQ (Or.inl ⟨by rfl,fun w _=>by have hx:=heq w;go_simp⟩) hww ?_;simp only[List.set];refine tkP MCL11OPSq30 (.bool r) 30 hQ hww ?_;simp only[List.set];refine tkP MCL11OPSq31 (.bool r) 31 hQ hww ?_;simp only[List.set];exact wpAnyH_done (by kernel_rfl) (hfin g g2 w hp) _
  exact AllReadyH.nil
 have kst4_22_27:∀ (g:Nat) (g2:Nat) (w:World),(P w/\HX.Has w g #[.slice a n c] 27/\HX.Has w g2 #[.slice b m c'] 27)->wpAnyH Tryz.prog .any xV Q (fun w:World=>w.cell? ⟨B,0,none⟩=some (.slice a n c)/\w.cell? ⟨B,1,none⟩=some (.slice b m c')) 5 #[tt,tt,tt,tt,tt,tt,tt,tt,tt,tt,tt,tt,tt,tt,tt,tt,tt,tt,tt,tt,tt,tt,tt,ff,tt,tt,tt,tt,ff,ff,ff,ff] ⟨#[.int .i64 d,f,h,i,k,l,p,q,s,u,x,y,A,D,E,F,G,H,I,J,K,L,M,.pointer (some ⟨B,0,none⟩),N,O,R,T,U,V,X,Y,Z,aa,ab,ac,ad,ae,af,ag,ah,ai,aj,ak,al,am,an,ao,ap,aq,ar,au,av,aw,ax,ay,az,aA,aB,aC,aD,aE,aF,aG,aH,aI,aJ,aK,aL,aM,aN,aO,aP,aQ,aR,aS,aT,aU,aV,aW,aX,aY,aZ,a0,a1,a2,a3,a4,a5,a6,a7,a8,a9,ba,bb,bc,bd,be,bf,bg,bh,bi,bj,bk,bl,bm,bn,bo,bp,bq,br,bs,bt,bu,bv,bw,bx,bz,bA,bB,bC,bD,bE,bF,bG,bH,bI,bJ,bK,bL,bM,bN,bO,bP,bQ,bR,bS,bT,bU,bV,bW,bX,bY,bZ,b0,b1,b2,b3,.pointer (some ⟨B,0,none⟩),.slice a n c,.pointer (some ⟨B,1,none⟩),.slice b m c',.bool false,.bool true,.bool true,.pointer (some ⟨B,0,none⟩),.slice a n c,.int .i64 (n:Int),.bool true,.bool true,.bool true,.pointer (some ⟨B,1,none⟩),.slice b m c',.int .i64 (m:Int),.bool true,.bool true,.bool true,.int .i64 d,.pointer (some ⟨B,0,none⟩),.slice a n c,.slice (some ⟨g,0,none⟩) 1 1,cr,.int .i64 d,.pointer (some ⟨B,1,none⟩),.slice b m c',.slice (some ⟨g2,0,none⟩) 1 1,cw,cx,cy,cz,cA,cB,cC,cD,cE,cF,cG,cH,cI,cJ,cK,cL,cM,cN,cO,cP,cQ,cR,cS,cT,cU,cV,cW,cX,cY,cZ,c0,c4,c5,c6,c7,c8,c9],[]⟩ w:=fun g g2 w hp=>by
  refine wpAnyH_ready (rs:=[23]) (by kernel_rfl) (by simp) ?_;refine AllReadyH.cons (o:=MCL11OPSq23) rfl (fun KQ hKQ=>?_) ?_
  ·rw[if_pos (by rfl)]
   go_simp;refine(show Calls _ _ _ w (fun e w'=>e=.returned (.agg FA)/\(P w'/\HX.Has w' g #[.slice a n c] 27/\HX.Has w' g2 #[.slice b m c'] 27)) from (c2 w g (hp.1) (hp.2.1)).mono fun e w' hh=>⟨hh.1,hh.2.1,hh.2.2 _ _ _ (hp.2.1),hh.2.2 _ _ _ (hp.2.2)⟩).mono ?_;rintro e w' ⟨rfl,hp⟩;exact hKQ.out _ _ (hS _ hp.1) (fun _=>kst4_22_23_27 g g2 w' hp)
  exact AllReadyH.nil
 have kst4_22:∀ (g:Nat) (w:World),(P w/\HX.Has w g #[.slice a n c] 27)->wpAnyH Tryz.prog .any xV Q (fun w:World=>w.cell? ⟨B,0,none⟩=some (.slice a n c)/\w.cell? ⟨B,1,none⟩=some (.slice b m c')) 6 #[tt,tt,tt,tt,tt,tt,tt,tt,tt,tt,tt,tt,tt,tt,tt,tt,tt,tt,tt,tt,tt,tt,tt,ff,tt,tt,tt,ff,ff,ff,ff,ff] ⟨#[.int .i64 d,f,h,i,k,l,p,q,s,u,x,y,A,D,E,F,G,H,I,J,K,L,M,.pointer (some ⟨B,0,none⟩),N,O,R,T,U,V,X,Y,Z,aa,ab,ac,ad,ae,af,ag,ah,ai,aj,ak,al,am,an,ao,ap,aq,ar,au,av,aw,ax,ay,az,aA,aB,aC,aD,aE,aF,aG,aH,aI,aJ,aK,aL,aM,aN,aO,aP,aQ,aR,aS,aT,aU,aV,aW,aX,aY,aZ,a0,a1,a2,a3,a4,a5,a6,a7,a8,a9,ba,bb,bc,bd,be,bf,bg,bh,bi,bj,bk,bl,bm,bn,bo,bp,bq,br,bs,bt,bu,bv,bw,bx,bz,bA,bB,bC,bD,bE,bF,bG,bH,bI,bJ,bK,bL,bM,bN,bO,bP,bQ,bR,bS,bT,bU,bV,bW,bX,bY,bZ,b0,b1,b2,b3,.pointer (some ⟨B,0,none⟩),.slice a n c,.pointer (some ⟨B,1,none⟩),.slice b m c',.bool false,.bool true,.bool true,.pointer (some ⟨B,0,none⟩),.slice a n c,.int .i64 (n:Int),.bool true,.bool true,.bool true,.pointer (some ⟨B,1,none⟩),.slice b m c',.int .i64 (m:Int),.bool true,.bool true,.bool true,.int .i64 d,.pointer (some ⟨B,0,none⟩),.slice a n c,.slice (some ⟨g,0,none⟩) 1 1,cr,.int .i64 d,.pointer (some ⟨B,1,none⟩),.slice b m c',cv,cw,cx,cy,cz,cA,cB,cC,cD,cE,cF,cG,cH,cI,cJ,cK,cL,cM,cN,cO,cP,cQ,cR,cS,cT,cU,cV,cW,cX,cY,cZ,c0,c4,c5,c6,c7,c8,c9],[]⟩ w:=fun g w hp=>by
  refine wpAnyH_ready (rs:=[23,27]) (by kernel_rfl) (by simp) ?_;refine AllReadyH.cons (o:=MCL11OPSq23) rfl (fun KQ hKQ=>?_) ?_
  ·rw[if_pos (by rfl)]
   go_simp;refine(show Calls _ _ _ w (fun e w'=>e=.returned (.agg FA)/\(P w'/\HX.Has w' g #[.slice a n c] 27)) from (c2 w g (hp.1) (hp.2)).mono fun e w' hh=>⟨hh.1,hh.2.1,hh.2.2 _ _ _ (hp.2)⟩).mono ?_;rintro e w ⟨rfl,hp⟩;refine hKQ.out _ _ (hS _ hp.1) (fun _=>?_);simp only[List.setIfInBounds_toArray,List.set];refine wpAnyH_ready (rs:=[27]) (by kernel_rfl) (by simp) ?_;refine AllReadyH.cons (o:=MCL11OPSq27) rfl (fun KQ hKQ=>?_) ?_
   ·exact zP (by rfl) (by go_simp) (have hp:(fun(g:Nat) (g2:Nat) (w:World)=>(P w/\HX.Has w g #[.slice a n c] 27/\HX.Has w g2 #[.slice b m c'] 27)) g w.heap.size _:=⟨hal _ _ hp.1,hp.2.alloc _,HX.Has.new w _ _⟩;hKQ.out _ _ (hS _ hp.1) (fun _=>kst4_22_23_27 g w.heap.size _ hp))
   exact AllReadyH.nil
  refine AllReadyH.cons (o:=MCL11OPSq27) rfl (fun KQ hKQ=>?_) ?_
  ·exact zP (by rfl) (by go_simp) (have hp:(fun(g:Nat) (g2:Nat) (w:World)=>(P w/\HX.Has w g #[.slice a n c] 27/\HX.Has w g2 #[.slice b m c'] 27)) g w.heap.size _:=⟨hal _ _ hp.1,hp.2.alloc _,HX.Has.new w _ _⟩;hKQ.out _ _ (hS _ hp.1) (fun _=>kst4_22_27 g w.heap.size _ hp))
  exact AllReadyH.nil
 have kst4_27:∀ (g2:Nat) (w:World),(P w/\HX.Has w g2 #[.slice b m c'] 27)->wpAnyH Tryz.prog .any xV Q (fun w:World=>w.cell? ⟨B,0,none⟩=some (.slice a n c)/\w.cell? ⟨B,1,none⟩=some (.slice b m c')) 6 #[tt,tt,tt,tt,tt,tt,tt,tt,tt,tt,tt,tt,tt,tt,tt,tt,tt,tt,tt,tt,tt,tt,ff,ff,tt,tt,tt,tt,ff,ff,ff,ff] ⟨#[.int .i64 d,f,h,i,k,l,p,q,s,u,x,y,A,D,E,F,G,H,I,J,K,L,M,.pointer (some ⟨B,0,none⟩),N,O,R,T,U,V,X,Y,Z,aa,ab,ac,ad,ae,af,ag,ah,ai,aj,ak,al,am,an,ao,ap,aq,ar,au,av,aw,ax,ay,az,aA,aB,aC,aD,aE,aF,aG,aH,aI,aJ,aK,aL,aM,aN,aO,aP,aQ,aR,aS,aT,aU,aV,aW,aX,aY,aZ,a0,a1,a2,a3,a4,a5,a6,a7,a8,a9,ba,bb,bc,bd,be,bf,bg,bh,bi,bj,bk,bl,bm,bn,bo,bp,bq,br,bs,bt,bu,bv,bw,bx,bz,bA,bB,bC,bD,bE,bF,bG,bH,bI,bJ,bK,bL,bM,bN,bO,bP,bQ,bR,bS,bT,bU,bV,bW,bX,bY,bZ,b0,b1,b2,b3,.pointer (some ⟨B,0,none⟩),.slice a n c,.pointer (some ⟨B,1,none⟩),.slice b m c',.bool false,.bool true,.bool true,.pointer (some ⟨B,0,none⟩),.slice a n c,.int .i64 (n:Int),.bool true,.bool true,.bool true,.pointer (some ⟨B,1,none⟩),.slice b m c',.int .i64 (m:Int),.bool true,.bool true,.bool true,.int .i64 d,.pointer (some ⟨B,0,none⟩),.slice a n c,cq,cr,.int .i64 d,.pointer (some ⟨B,1,none⟩),.slice b m c',.slice (some ⟨g2,0,none⟩) 1 1,cw,cx,cy,cz,cA,cB,cC,cD,cE,cF,cG,cH,cI,cJ,cK,cL,cM,cN,cO,cP,cQ,cR,cS,cT,cU,cV,cW,cX,cY,cZ,c0,c4,c5,c6,c7,c8,c9],[]⟩ w:=fun g2 w hp=>by
  refine wpAnyH_ready (rs:=[22]) (by kernel_rfl) (by simp) ?_;refine AllReadyH.cons (o:=MCL11OPSq22) rfl (fun KQ hKQ=>?_) ?_
  ·exact zP (by rfl) (by go_simp) (have hp:(fun(g:Nat) (g2:Nat) (w:World)=>(P w/\HX.Has w g #[.slice a n c] 27/\HX.Has w g2 #[.slice b m c'] 27)) w.heap.size g2 _:=⟨hal _ _ hp.1,HX.Has.new w _ _,hp.2.alloc _⟩;hKQ.out _ _ (hS _ hp.1) (fun _=>kst4_22_27 w.heap.size g2 _ hp))
  exact AllReadyH.nil
 have kst:∀ (w:World),(P w)->wpAnyH Tryz.prog .any xV Q (fun w:World=>w.cell? ⟨B,0,none⟩=some (.slice a n c)/\w.cell? ⟨B,1,none⟩=some (.slice b m c')) 28 #[tt,tt,tt,tt,ff,ff,ff,ff,ff,ff,ff,ff,ff,ff,ff,ff,ff,ff,ff,ff,ff,ff,ff,ff,ff,ff,ff,ff,ff,ff,ff,ff] ⟨#[.int .i64 d,f,h,i,k,l,p,q,s,u,x,y,A,D,E,F,G,H,I,J,K,L,M,.pointer (some ⟨B,0,none⟩),N,O,R,T,U,V,X,Y,Z,aa,ab,ac,ad,ae,af,ag,ah,ai,aj,ak,al,am,an,ao,ap,aq,ar,au,av,aw,ax,ay,az,aA,aB,aC,aD,aE,aF,aG,aH,aI,aJ,aK,aL,aM,aN,aO,aP,aQ,aR,aS,aT,aU,aV,aW,aX,aY,aZ,a0,a1,a2,a3,a4,a5,a6,a7,a8,a9,ba,bb,bc,bd,be,bf,bg,bh,bi,bj,bk,bl,bm,bn,bo,bp,bq,br,bs,bt,bu,bv,bw,bx,bz,bA,bB,bC,bD,bE,bF,bG,bH,bI,bJ,bK,bL,bM,bN,bO,bP,bQ,bR,bS,bT,bU,bV,bW,bX,bY,bZ,b0,b1,b2,b3,.pointer (some ⟨B,0,none⟩),.slice a n c,.pointer (some ⟨B,1,none⟩),.slice b m c',b8,b9,ca,cb,cc,cd,ce,cf,cg,ch,ci,cj,ck,cl,cm,cn,co,cp,cq,cr,cs,ct,cu,cv,cw,cx,cy,cz,cA,cB,cC,cD,cE,cF,cG,cH,cI,cJ,cK,cL,cM,cN,cO,cP,cQ,cR,cS,cT,cU,cV,cW,cX,cY,cZ,c0,c4,c5,c6,c7,c8,c9],[]⟩ w:=fun  w hp=>by
  refine wpAnyH_ready (rs:=[4]) (by kernel_rfl) (by simp) ?_;refine AllReadyH.cons (o:=MCL11OPSq4) rfl (fun KQ hKQ=>?_) ?_
  ·rw[if_pos (by rfl)]
   go_simp;refine(show Calls _ _ _ w (fun e w'=>e=.returned (.bool false)/\(P w')) from c1 w hp).mono ?_;rintro e w ⟨rfl,hp⟩;refine hKQ.out _ _ (hS _ hp) (fun _=>?_);simp only[List.setIfInBounds_toArray,List.set];have hww:(fun w:World=>w.cell? ⟨B,0,none⟩=some (.slice a n c)/\w.cell? ⟨B,1,none⟩=some (.slice b m c')) w:=hS _ hp;refine tkP MCL11OPSq5 (.bool true) 5 hQ hww ?_;simp only[List.set];refine tkP MCL11OPSq6 (.bool true) 6 hQ hww ?_;simp only[List.set];refine tkP MCL11OPSq7 (.pointer (some ⟨B,0,none⟩)) 7 hQ hww ?_;simp only[List.set];refine tkH MCL11OPSq8 (.slice a n c) 8 hQ (Or.inl ⟨by rfl,fun w hw=>by have hx:=hw.1;go_simp⟩) hww ?_;simp only[List.set];refine tkP MCL11OPSq9 (.int .i64 (n:Int)) 9 hQ hww ?_;simp only[List.set];refine tkH MCL11OPSq10 (.bool true) 10 hQ (Or.inl ⟨by rfl,fun w _=>by have hx:=hn;go_simp⟩) hww ?_;simp only[List.set];refine tkP MCL11OPSq11 (.bool true) 11 hQ hww ?_;simp only[List.set];refine tkP MCL11OPSq12 (.bool true) 12 hQ hww ?_;simp only[List.set];refine tkP MCL11OPSq13 (.pointer (some ⟨B,1,none⟩)) 13 hQ hww ?_;simp only[List.set];refine tkH MCL11OPSq14 (.slice b m c') 14 hQ (Or.inl ⟨by rfl,fun w hw=>by have hx:=hw.2;go_simp⟩) hww ?_;simp only[List.set];refine tkP MCL11OPSq15 (.int .i64 (m:Int)) 15 hQ hww ?_;simp only[List.set];refine tkH MCL11OPSq16 (.bool true) 16 hQ (Or.inl ⟨by rfl,fun w _=>by have hx:=hm;go_simp⟩) hww ?_;simp only[List.set];refine tkP MCL11OPSq17 (.bool true) 17 hQ hww ?_;simp only[List.set]
   refine tkP MCL11OPSq18 (.bool true) 18 hQ hww ?_;simp only[List.set];refine tkP MCL11OPSq19 (.int .i64 d) 19 hQ hww ?_;simp only[List.set];refine tkP MCL11OPSq20 (.pointer (some ⟨B,0,none⟩)) 20 hQ hww ?_;simp only[List.set];refine tkH MCL11OPSq21 (.slice a n c) 21 hQ (Or.inl ⟨by rfl,fun w hw=>by have hx:=hw.1;go_simp⟩) hww ?_;simp only[List.set];refine tkP MCL11OPSq24 (.int .i64 d) 24 hQ hww ?_;simp only[List.set];refine tkP MCL11OPSq25 (.pointer (some ⟨B,1,none⟩)) 25 hQ hww ?_;simp only[List.set];refine tkH MCL11OPSq26 (.slice b m c') 26 hQ (Or.inl ⟨by rfl,fun w hw=>by have hx:=hw.2;go_simp⟩) hww ?_;simp only[List.set];refine wpAnyH_ready (rs:=[22,27]) (by kernel_rfl) (by simp) ?_;refine AllReadyH.cons (o:=MCL11OPSq22) rfl (fun KQ hKQ=>?_) ?_
   ·exact zP (by rfl) (by go_simp) (have hp:(fun(g:Nat) (w:World)=>(P w/\HX.Has w g #[.slice a n c] 27)) w.heap.size _:=⟨hal _ _ hp,HX.Has.new w _ _⟩;hKQ.out _ _ (hS _ hp.1) (fun _=>kst4_22 w.heap.size _ hp))
   refine AllReadyH.cons (o:=MCL11OPSq27) rfl (fun KQ hKQ=>?_) ?_
   ·exact zP (by rfl) (by go_simp) (have hp:(fun(g2:Nat) (w:World)=>(P w/\HX.Has w g2 #[.slice b m c'] 27)) w.heap.size _:=⟨hal _ _ hp,HX.Has.new w _ _⟩;hKQ.out _ _ (hS _ hp.1) (fun _=>kst4_27 w.heap.size _ hp))
   exact AllReadyH.nil
  exact AllReadyH.nil
 have hp:=h0;have hww:(fun w:World=>w.cell? ⟨B,0,none⟩=some (.slice a n c)/\w.cell? ⟨B,1,none⟩=some (.slice b m c')) W.drew:=hS _ hp;have last:=kst W.drew hp
 have z:wpAnyH Tryz.prog .any xV Q (fun w:World=>w.cell? ⟨B,0,none⟩=some (.slice a n c)/\w.cell? ⟨B,1,none⟩=some (.slice b m c')) 32 #[ff,ff,ff,ff,ff,ff,ff,ff,ff,ff,ff,ff,ff,ff,ff,ff,ff,ff,ff,ff,ff,ff,ff,ff,ff,ff,ff,ff,ff,ff,ff,ff] ⟨#[.int .i64 d,f,h,i,k,l,p,q,s,u,x,y,A,D,E,F,G,H,I,J,K,L,M,.pointer (some ⟨B,0,none⟩),N,O,R,T,U,V,X,Y,Z,aa,ab,ac,ad,ae,af,ag,ah,ai,aj,ak,al,am,an,ao,ap,aq,ar,au,av,aw,ax,ay,az,aA,aB,aC,aD,aE,aF,aG,aH,aI,aJ,aK,aL,aM,aN,aO,aP,aQ,aR,aS,aT,aU,aV,aW,aX,aY,aZ,a0,a1,a2,a3,a4,a5,a6,a7,a8,a9,ba,bb,bc,bd,be,bf,bg,bh,bi,bj,bk,bl,bm,bn,bo,bp,bq,br,bs,bt,bu,bv,bw,bx,bz,bA,bB,bC,bD,bE,bF,bG,bH,bI,bJ,bK,bL,bM,bN,bO,bP,bQ,bR,bS,bT,bU,bV,bW,bX,bY,bZ,b0,b1,b2,b3,b4,b5,b6,b7,b8,b9,ca,cb,cc,cd,ce,cf,cg,ch,ci,cj,ck,cl,cm,cn,co,cp,cq,cr,cs,ct,cu,cv,cw,cx,cy,cz,cA,cB,cC,cD,cE,cF,cG,cH,cI,cJ,cK,cL,cM,cN,cO,cP,cQ,cR,cS,cT,cU,cV,cW,cX,cY,cZ,c0,c4,c5,c6,c7,c8,c9],[]⟩ W.drew:=by
  refine tkP MCL11OPSq0 (.pointer (some ⟨B,0,none⟩)) 0 hQ hww ?_;simp only[List.set];refine tkH MCL11OPSq1 (.slice a n c) 1 hQ (Or.inl ⟨by rfl,fun w hw=>by have hx:=hw.1;go_simp⟩) hww ?_;simp only[List.set];refine tkP MCL11OPSq2 (.pointer (some ⟨B,1,none⟩)) 2 hQ hww ?_;simp only[List.set];refine tkH MCL11OPSq3 (.slice b m c') 3 hQ (Or.inl ⟨by rfl,fun w hw=>by have hx:=hw.2;go_simp⟩) hww ?_;simp only[List.set];exact last
 exact wp_region_held_drew (S:=(fun w:World=>w.cell? ⟨B,0,none⟩=some (.slice a n c)/\w.cell? ⟨B,1,none⟩=some (.slice b m c'))) (by kernel_rfl) hww (fun _=>z)
theorem Jn(d:Int)(root:List Int)(hroot:IsH root)(N:Nat)(ai:Option Addr)(n ci:Nat)(L:List Nat)(al:Option Addr)(nl cl:Nat)(lv:List Int)(ab:Option Addr)(k cb:Nat)(b:List Int)(w:World)(hl:L.length=n)(hn:n<=200)(hL:NUML w ai L)(hFl:Flat w al nl lv)(hcl:nl<=cl)(hB:Bytes w ab k b)(hkb:k<=cb)(hk:k<=6400)(hi:∀ x∈L,x<2 ^ 64):
  Calls Tryz.prog 5 #[.int .i64 d,.agg (za root).toArray,.int .u64 (N:Int),.slice ai n ci,.slice al nl cl,.slice ab k cb] w fun e w'=>e=.returned (.int .i64 (MVA d root N L nl lv b))/\Below w.heap.size w w':=by
 have SV:=Xq d root N L nl lv b;have hMT:=xT (b:=b) hB.2.2;have hbl:b.length=k:=hB.1;generalize MVA d root N L nl lv b=V at *
 obtain⟨w1,e1⟩:∃ w1,w.alloc (.cells (za root).toArray 23)=w1:=⟨_,rfl⟩
 obtain⟨b7,hb7⟩:∃ b,w.heap.size=b:=⟨_,rfl⟩
 have hb1:Below w.heap.size w w1:=by rw[<-e1];exact(Below.refl _ _).alloc (Nat.le_refl _) _
 have hR1:Has w1 b7 (za root).toArray 23:=by rw[<-e1,<-hb7];exact Has.new _ _ _
 have cd:=UC ab k cb b w1 (hB.below hb1) hkb (by omega);have HA:Aside (L.length=n/\n<=200/\NUML w ai L/\Flat w al nl lv/\nl<=cl/\(∀ x∈L,x<2 ^ 64)/\k<=6400/\b.length=k):=⟨hl,hn,hL,hFl,hcl,hi,hk,hbl⟩
 have H1:Aside (Below w.heap.size w w1/\Has w1 b7 (za root).toArray 23):=⟨hb1,hR1⟩
 have HM:Aside ((MDC b).1=0->(MDC b).2.1<=4611686018427387904/\zf (MDC b).2.2.1 (MDC b).2.1=0/\(MDC b).2.2.2.length=32*(zc (TPS (MDC b).2.1) (MDC b).2.2.1).length/\(MDC b).2.2.1.length+(MDC b).2.2.2.length<=b.length/\∀ x∈(MDC b).2.2.2,0<=x/\x<=255):=hMT;have HV:Aside (MVAS d root N L nl lv b V/\IsH root):=⟨SV,hroot⟩
 clear hl hn hL hFl hcl hi hB hkb hk hb1 hR1 SV hMT hroot hbl;obtain⟨E,hE⟩:∃ E,(MDC b).1=E:=⟨_,rfl⟩
 obtain⟨Z,hZ⟩:∃ Z,(MDC b).2.1=Z:=⟨_,rfl⟩
 obtain⟨M,hM⟩:∃ M,(MDC b).2.2.1=M:=⟨_,rfl⟩
 obtain⟨nd,hnd⟩:∃ nd,(MDC b).2.2.2=nd:=⟨_,rfl⟩
 have HD:Aside (((MDC b).1=E/\(MDC b).2.1=Z/\(MDC b).2.2.1=M/\(MDC b).2.2.2=nd)):=⟨hE,hZ,hM,hnd⟩
 unfold DECM at cd;rw[hE,hZ,hM,hnd] at cd;clear hE hZ hM hnd;go_enter Tryz.func5,Tryz.ntmps5;go_upto_region 1 with fail
 clear e1 hb7;go_wp2_with fail
 refine cd.mono ?_;rintro e w2 ⟨a3,c3,a4,K,c4,rfl,o3,o4,hK,hb2⟩;clear cd;have hb12:Below w.heap.size w w2:=H1.out.1.trans (hb2.mono H1.out.1.size);go_upto_region 2 with fail
 obtain⟨w3,e3⟩:∃ w3,w2.alloc (.cells #[.int .u64 (Z:Int),.slice a3 M.length c3,.slice a4 K c4] 45)=w3:=⟨_,rfl⟩
 have hb3:Below w2.heap.size w2 w3:=by rw[<-e3];exact(Below.refl _ _).alloc (Nat.le_refl _) _
 have hP3:Has w3 w2.heap.size #[.int .u64 (Z:Int),.slice a3 M.length c3,.slice a4 K c4] 45:=by rw[<-e3];exact Has.new _ _ _
 rw[e3];have W3:Aside (Below w.heap.size w w3/\Has w3 b7 (za root).toArray 23/\Has w3 w2.heap.size #[.int .u64 (Z:Int),.slice a3 M.length c3,.slice a4 K c4] 45/\w3.ownsRow w1.heap.size 24 1 (.slice a3 M.length c3) M.length (ze M)/\w3.ownsRow w1.heap.size 23 32 (.slice a4 K c4) K (za nd)/\nd.length=32*K):=⟨hb12.trans (hb3.mono hb12.size),(H1.out.2.keep hb2).keep hb3,hP3,yx o3 fun k e=>hb3.block k (o3.lt k e).2,yx o4 fun k e=>hb3.block k (o4.lt k e).2,hK⟩
 have x0:=hP3.cell 0;have x1:=hP3.cell 1;have x2:=hP3.cell 2;generalize w2.heap.size=b13 at *
 clear e3 hb3 hP3 hb2 hb12 o3 o4 hK H1;by_cases hE:E=0
 case neg=>
  have FN:Aside (V=E/\Below w.heap.size w w3):=⟨by rw[<-HD.out.1];exact HV.out.1.dec (by rw[HD.out.1];exact hE),W3.out.1⟩
  have hne:(E == 0)=false:=beq_eq_false_iff_ne.2 hE;clear HV HM HA HD W3 hE;go_wp2_with fail
  go_ret;exact⟨by rw[FN.out.1];rfl,FN.out.2⟩
 subst hE;by_cases hZ:Z=N
 case neg=>
  have FN:Aside (V=30/\Below w.heap.size w w3):=⟨HV.out.1.size HD.out.1 (by rw[HD.out.2.1];exact hZ),W3.out.1⟩
  have hne:((Z:Int) == (N:Int))=false:=beq_eq_false_iff_ne.2 (by omega);clear HV HM HA HD W3 hZ;go_wp2_with fail
  go_ret;exact⟨by rw[FN.out.1];rfl,FN.out.2⟩
 subst hZ;have ce:=UK a3 ai M.length n c3 ci M L rfl HA.out.1 (by have:=HM.out HD.out.1;rw[HD.out.2.2.1,HD.out.2.2.2] at this;have:=HA.out;omega) w3 (xD W3.out.2.2.2.1 rfl) (HA.out.2.2.1.keep W3.out.1);go_wp2_with fail
 refine ce.mono ?_;rintro e w4 ⟨rfl,hb4⟩;clear ce x0 x1 x2;have hb34:Below w.heap.size w w4:=W3.out.1.trans (hb4.mono W3.out.1.size);by_cases hML:M=L
 case neg=>
  have FN:Aside (V=32/\Below w.heap.size w w4):=⟨HV.out.1.index HD.out.1 HD.out.2.1 (by rw[HD.out.2.2.1];exact hML),hb34⟩
  have hne:decide (M=L)=false:=decide_eq_false hML;rw[hne];clear HV HM HA HD W3 hb4 hb34 hne hML;go_wp2_with fail
  go_ret;exact⟨by rw[FN.out.1];rfl,FN.out.2⟩
 subst hML;rw[show decide (M=M)=true by simp];have hMZ:=HM.out HD.out.1;rw[HD.out.2.1,HD.out.2.2.1,HD.out.2.2.2] at hMZ;obtain⟨m1,m2,m3,m4,m5⟩:=hMZ;have hP4:=W3.out.2.2.1.keep hb4;have x0:=hP4.cell 0;have x1:=hP4.cell 1;have x2:=hP4.cell 2;have hMW:MWA M Z K=0:=ZY m2 (by have:=W3.out.2.2.2.2.2;omega);have hcap4:=jj W3.out.2.2.2.2.1;have cc:=UI d M Z (by omega) a3 M.length c3 a4 K c4 al nl cl lv nd w4 rfl (by have:=HA.out;omega) HA.out.2.2.2.2.2.1 (by have:=HA.out;have:=W3.out.2.2.2.2.2;omega) ((xD W3.out.2.2.2.1 rfl).keep hb4) ((xg W3.out.2.2.2.2.1 m5).below hb4) hcap4.1 (HA.out.2.2.2.1.below hb34) HA.out.2.2.2.2.1;have HLN:Aside (M.length=n):=HA.out.1;have W4:Aside (Below w.heap.size w w4/\Has w4 b7 (za root).toArray 23):=⟨hb34,W3.out.2.1.keep hb4⟩
 have HS:Aside (Z<=4611686018427387904/\HSS nl lv/\HSS K nd):=⟨m1,⟨HA.out.2.2.2.1.1,HA.out.2.2.2.1.2.2⟩,⟨W3.out.2.2.2.2.2,m5⟩⟩
 clear m1 m2 m3 m4 m5 hP4 hcap4 W3 HA HM hb4 hb34;by_cases hnl:nl=M.length
 case neg=>
  have FN:Aside (V=70/\Below w.heap.size w w4):=⟨HV.out.1.count HD.out.1 HD.out.2.1 HD.out.2.2.1 hnl,W4.out.1⟩
  have hne:((nl:Int) == (n:Int))=false:=beq_eq_false_iff_ne.2 (by have:=HLN.out;omega);clear HV HD HS hnl hMW W4 cc HLN;go_wp2_with fail
  go_ret;exact⟨by rw[FN.out.1];rfl,FN.out.2⟩
 have hnn:(nl:Int)=(n:Int):=by have:=HLN.out;omega
 have hME:MCE M Z K nl=0:=Yg hMW hnl;have hMC:MCL d M Z K nl lv nd=(0,PC Z,MUPS d (TPS Z) M lv nd):=by unfold MCL;rw[if_pos hME]
 have hrg:=vY (d:=d) (L:=M) (N:=Z) HS.out.2.1 HS.out.2.2;rw[hMC] at cc hrg;have HR:Aside ((∀ y∈MUPS d (TPS Z) M lv nd,0<=y/\y<=255)/\nl=M.length):=⟨hrg,hnl⟩
 have HZ:Aside (Z<=4611686018427387904):=HS.out.1;clear hME hMC hrg hnl hMW HS HLN;have HF:Aside (∀ W a c,W.ownsRow w4.heap.size 23 32 (.slice a (PC Z) c) (PC Z) (za (MUPS d (TPS Z) M lv nd))->Calls Tryz.prog 20 #[.int .i64 d,.int .u64 (Z:Int),.slice a (PC Z) c] W fun e w'=>e=.returned (.tuple #[.agg (za (zy d Z (FLD d (MUPS d (TPS Z) M lv nd) (PC Z)))).toArray,.int .i64 0])/\Below W.heap.size W w'):=fun W a c h=>Gj d Z HZ.out a (PC Z) c rfl (MUPS d (TPS Z) M lv nd) W (xg h HR.out.1)
 have HVV:Aside ((zy d Z (FLD d (MUPS d (TPS Z) M lv nd) (PC Z))≠root->V=80)/\(zy d Z (FLD d (MUPS d (TPS Z) M lv nd) (PC Z))=root->V=0)/\IsH root):=by
  have h1:=HV.out.1.unlike HD.out.1 HD.out.2.1 HD.out.2.2.1 HR.out.2;have h2:=HV.out.1.ok HD.out.1 HD.out.2.1 HD.out.2.2.1 HR.out.2;rw[HD.out.2.2.2] at h1 h2;exact⟨h1,h2,HV.out.2⟩
 have hYH:=qM d Z (FLD d (MUPS d (TPS Z) M lv nd) (PC Z));clear HV HD HR HZ;generalize zy d Z (FLD d (MUPS d (TPS Z) M lv nd) (PC Z))=Y at *
 generalize MUPS d (TPS Z) M lv nd=U at *
 generalize PC Z=pz at *
 go_wp2_with fail
 refine cc.mono ?_;rintro e w5 ⟨a6,c6,rfl,o6,hb5⟩;clear cc x0 x1 x2;have cg:=HF.out w5 a6 c6 o6;have W5:Aside (Below w.heap.size w w5/\Has w5 b7 (za root).toArray 23):=⟨W4.out.1.trans (hb5.mono W4.out.1.size),W4.out.2.keep hb5⟩
 clear HF o6 hb5 W4;have y32:=hYH.1;have r32:=HVV.out.2.2.1;go_wp2_with fail
 refine cg.mono ?_;rintro e w6 ⟨rfl,hb6⟩;clear cg
 have R1:Aside (Below w.heap.size w (w6.alloc (.cells (za Y).toArray 23))/\Has (w6.alloc (.cells (za Y).toArray 23)) b7 (za root).toArray 23/\Has (w6.alloc (.cells (za Y).toArray 23)) w6.heap.size (za Y).toArray 23):=by
  have hb:=W5.out.1.trans (hb6.mono W5.out.1.size);exact⟨hb.alloc hb.size _,(W5.out.2.keep hb6).alloc _,Has.new _ _ _⟩
 clear hb6 W5
 go_upto_region 12 with (first
  | (refine wpList_store_row rfl 23 (.tmp 17) (.tmp 53) rfl _ _ rfl rfl 23 _ (Has.new w6 _ _) (zd y32) (by simp[za,y32]) (zx Y) ?_;rw[World.setRow_alloc_new])
  | fail)
 generalize w6.alloc (.cells (za Y).toArray 23)=W6 at *
 generalize w6.heap.size=b16 at *
 have hb:=R1.out.1;have h7:=R1.out.2.1;have h9:=R1.out.2.2;have hq:=Un hYH HVV.out.2.2;clear R1 hYH;by_cases hYr:Y=root
 ·have FN:Aside (V=0):=HVV.out.2.1 hYr
  rw[decide_eq_true hYr] at hq;clear HVV hYr
  go_wp2_with (first
   | (refine wpList_load_row rfl 23 (.tmp 17) rfl b16 rfl 23 (za Y).toArray (0,0) _ h9 Tryz.underlying23 rfl (zd y32) ?_)
   | (refine wpList_load_row rfl 23 (.tmp 7) rfl b7 rfl 23 (za root).toArray (0,0) _ h7 Tryz.underlying23 rfl (zd r32) ?_)
   | fail)
  go_ret;exact⟨by rw[FN.out];rfl,hb⟩
 ·have FN:Aside (V=80):=HVV.out.1 hYr
  rw[decide_eq_false hYr] at hq;clear HVV hYr
  go_wp2_with (first
   | (refine wpList_load_row rfl 23 (.tmp 17) rfl b16 rfl 23 (za Y).toArray (0,0) _ h9 Tryz.underlying23 rfl (zd y32) ?_)
   | (refine wpList_load_row rfl 23 (.tmp 7) rfl b7 rfl 23 (za root).toArray (0,0) _ h7 Tryz.underlying23 rfl (zd r32) ?_)
   | fail)
  go_ret;exact⟨by rw[FN.out];rfl,hb⟩
structure APT (a b x y:Value):Prop where
 ab:∀ g,a.ownBlock=some g->b.ownBlock≠some g
 ax:∀ g,a.ownBlock=some g->x.ownBlock≠some g
 ay:∀ g,a.ownBlock=some g->y.ownBlock≠some g
 bx:∀ g,b.ownBlock=some g->x.ownBlock≠some g
 byy:∀ g,b.ownBlock=some g->y.ownBlock≠some g
 xy:∀ g,x.ownBlock=some g->y.ownBlock≠some g
structure MIX (w0 w:World) (B:Nat) (K:Nat->Prop) (a:Value) (na:Nat) (xa:List Value) (b:Value) (nb:Nat) (xb:List Value) (x:Value) (mx:Nat) (xx:List Value) (y:Value) (my:Nat) (xy:List Value):Prop where
 ra:w.ownsRow B 24 1 a na xa
 rb:w.ownsRow B 24 1 b nb xb
 rx:w.ownsRow B 23 32 x mx xx
 ry:w.ownsRow B 23 32 y my xy
 ap:APT a b x y
 hm:∀ g,(a.ownBlock=some g\/b.ownBlock=some g\/x.ownBlock=some g\/y.ownBlock=some g)->K g\/w0.heap.size<=g
 kp:∀ k,k<w0.heap.size->¬ K k->w.heap[k]?=w0.heap[k]?
 bl:Below B w0 w
 sz:w0.heap.size<=w.heap.size
 bs:B<=w0.heap.size
section
variable {w0 w:World} {B:Nat} {K:Nat->Prop} {a:Value} {na:Nat} {xa:List Value} {b:Value} {nb:Nat} {xb:List Value} {x:Value} {mx:Nat} {xx:List Value} {y:Value} {my:Nat} {xy:List Value}
structure OFF (z:Nat) (a b x y:Value):Prop where
 a:a.ownBlock≠some z
 b:b.ownBlock≠some z
 x:x.ownBlock≠some z
 y:y.ownBlock≠some z
end
def H7:List Int:=7 :: List.replicate 31 0
theorem z2z:(za H7).toArray=#[.int .u8 7,.int .u8 0,.int .u8 0,.int .u8 0,.int .u8 0,.int .u8 0,.int .u8 0,.int .u8 0,.int .u8 0,.int .u8 0,.int .u8 0,.int .u8 0,.int .u8 0,.int .u8 0,.int .u8 0,.int .u8 0,.int .u8 0,.int .u8 0,.int .u8 0,.int .u8 0,.int .u8 0,.int .u8 0,.int .u8 0,.int .u8 0,.int .u8 0,.int .u8 0,.int .u8 0,.int .u8 0,.int .u8 0,.int .u8 0,.int .u8 0,.int .u8 0]:=rfl
theorem Gu:PLCA [1,2] 7=[0,4,9,10]:=by decide +kernel
theorem KD:zf [1,2] 7=0:=by decide +kernel
theorem Gv:MENC [0,2] 3 1 H7=(0,78 :: 3 :: 2 :: 0 :: 1 :: H7):=by decide +kernel
theorem uY(w:World)(x y:Nat):NUML (w.alloc (.cells #[.int .u64 (x:Int),.int .u64 (y:Int)] 24)) (some ⟨w.heap.size,0,none⟩) [x,y]:=fun _=>by
 refine⟨w.heap.size,0,rfl,by simp,fun i z hz=>?_⟩;have h:=(Has.new w #[.int .u64 (x:Int),.int .u64 (y:Int)] 24).cell (0+i);rw[h,Nat.zero_add];match i with
 | 0=>simp at hz;subst hz;rfl
 | 1=>simp at hz;subst hz;rfl
 | i+2=>simp at hz
theorem ub{w:World}{B s n c:Nat}{t:TypeId}{a:Option Addr}{xs:List Value}(h:w.ownsRow B t s (.slice a n c) n xs)(hn:0<n):∃ g,a=some ⟨g,0,none⟩:=by
 rcases h.2 with ⟨e,h0⟩ | ⟨g,cap,cur,e,_⟩
 ·omega
 ·simp only[Value.slice.injEq] at e
  exact⟨g,e.1⟩
theorem Gw(w:World):Flat (w.alloc (.cells (za H7).toArray 23)) (some ⟨w.heap.size,0,none⟩) 1 H7:=by
 refine⟨rfl,fun _=>⟨w.heap.size,0,rfl,by simp,fun j hj=>?_⟩,by decide⟩;rw[(Has.new w (za H7).toArray 23).cell (0+j),Nat.zero_add,List.getElem?_toArray];exact zN H7 j hj
theorem Gx(w:World)(hT:Tabled w)(h0:0<w.heap.size):Calls Tryz.prog 11 #[] w fun e w'=>e=.returned (.bool true)/\Below w.heap.size w w':=by
 obtain⟨w1,e1⟩:∃ w1,w.alloc (.cells #[.int .u64 1,.int .u64 2] 24)=w1:=⟨_,rfl⟩
 have hb1:Below w.heap.size w w1:=by rw[<-e1];exact(Below.refl _ _).alloc (Nat.le_refl _) _
 have s1:w1.heap.size=w.heap.size+1:=by rw[<-e1];simp
 have cp:=UF [1,2] 7 (some ⟨w.heap.size,0,none⟩) 2 2 w1 rfl (by decide) (by decide) (fun h=>by cases h) (fun x e=>by cases e;exact⟨by show w.heap.size<w1.heap.size;omega,rfl⟩) (by rw[<-e1];exact uY w 1 2) (hT.below h0 hb1) (by omega);rw[Gu,KD] at cp;have B1:Aside (Below w.heap.size w w1/\Tabled w/\0<w.heap.size):=⟨hb1,hT,h0⟩
 clear hb1 s1 hT h0;go_enter Tryz.func11,Tryz.ntmps11;go_wp2_with fail
 refine cp.mono ?_;rintro e w2 ⟨a2,c2,rfl,hown2,hb2⟩;clear cp e1;have R2:Aside (w2.ownsRow w1.heap.size 24 1 (.slice a2 4 c2) 4 (ze [0,4,9,10])/\Below w.heap.size w w2):=⟨hown2,B1.out.1.trans (hb2.mono B1.out.1.size)⟩
 clear hown2 hb2;obtain⟨w3,e3⟩:∃ w3,w2.alloc (.cells #[.int .u64 0,.int .u64 2] 24)=w3:=⟨_,rfl⟩
 have s3:w3.heap.size=w2.heap.size+1:=by rw[<-e3];simp
 obtain⟨w4,e4⟩:∃ w4,w3.alloc (.cells (za H7).toArray 23)=w4:=⟨_,rfl⟩
 have hb3:Below w2.heap.size w2 w3:=by rw[<-e3];exact(Below.refl _ _).alloc (Nat.le_refl _) _
 have hb4':Below w3.heap.size w3 w4:=by rw[<-e4];exact(Below.refl _ _).alloc (Nat.le_refl _) _
 have hb4:Below w2.heap.size w2 w4:=hb3.trans (hb4'.mono hb3.size);have hbw4:Below w.heap.size w w4:=R2.out.2.trans (hb4.mono R2.out.2.size)
 have hN4:NUML w4 (some ⟨w2.heap.size,0,none⟩) [0,2]:=by
  have h1:=uY w2 0 2;have h2:NUML w3 (some ⟨w2.heap.size,0,none⟩) [0,2]:=by rw[<-e3];exact h1
  exact h2.below hb4' (fun x e=>by cases e;show w2.heap.size<w3.heap.size;omega)
 have hF4:Flat w4 (some ⟨w2.heap.size+1,0,none⟩) 1 H7:=by rw[<-e4,<-s3];exact Gw w3
 have ce:=UG [0,2] 3 (some ⟨w2.heap.size,0,none⟩) 2 2 (some ⟨w2.heap.size+1,0,none⟩) 1 1 H7 w4 rfl (by decide) (by decide) (fun h=>by cases h) (fun x e=>by cases e;exact⟨by show w2.heap.size<w4.heap.size;have:=hb4'.size;omega,rfl⟩) (by decide) hN4 hF4 (B1.out.2.1.below B1.out.2.2 hbw4) (by have:=B1.out.2.2;have:=hbw4.size;omega);rw[Gv] at ce;rw[z2z] at e4;have hM:MBOX 3 (some ⟨w2.heap.size,0,none⟩) 2 2 (some ⟨w2.heap.size+1,0,none⟩) 1 1=#[.int .u64 3,.slice (some ⟨w2.heap.size,0,none⟩) 2 2,.slice (some ⟨w2.heap.size+1,0,none⟩) 1 1]:=rfl;rw[hM] at ce;have R4:Aside (w4.ownsRow w1.heap.size 24 1 (.slice a2 4 c2) 4 (ze [0,4,9,10])/\Below w.heap.size w w4):=⟨zG R2.out.1 hb4,hbw4⟩
 clear hM hb3 hb4' hb4 hbw4 hN4 hF4 R2 B1;go_wp2_with fail
 refine ce.mono ?_;rintro e w5 ⟨a5,c5,rfl,hown5,hb5⟩;clear ce e3 e4;have o2:=zG R4.out.1 hb5;obtain⟨g2,rfl⟩:=ub o2 (by decide);obtain⟨g5,rfl⟩:=ub hown5 (by decide);have y0:w5.cell? ⟨g2,0,none⟩=some (.int .u64 0):=o2.cellAt 0 (by decide);have y1:w5.cell? ⟨g2,1,none⟩=some (.int .u64 4):=o2.cellAt 1 (by decide);have y2:w5.cell? ⟨g2,2,none⟩=some (.int .u64 9):=o2.cellAt 2 (by decide);have z0:w5.cell? ⟨g5,0,none⟩=some (.int .u8 78):=hown5.cellAt 0 (by decide);have z4:w5.cell? ⟨g5,4,none⟩=some (.int .u8 1):=hown5.cellAt 4 (by decide);have z5:w5.cell? ⟨g5,5,none⟩=some (.int .u8 7):=hown5.cellAt 5 (by decide);have FN:Aside (Below w.heap.size w w5):=R4.out.2.trans (hb5.mono R4.out.2.size);have hlen:(78 :: 3 :: 2 :: 0 :: 1 :: H7).length=37:=rfl;rw[hlen];clear o2 hown5 hb5 R4 s3;go_wp2_with fail
 go_ret;exact⟨rfl,FN.out⟩
theorem z0O{ops:Array Oper}{rest:List Oper}{o:Oper}{a:Act}{Q:Exit->Act->World->Prop}(w:World)(hgd:o.guard=none)(s x:Operand)
   (ho:o.op=.call {callee:=.builtin .append,args:=#[s,x],argTypes:=#[25,25]})
   (base:Nat) (v:Value) (n:Nat) (xs:List Value) (hs:a.eval s=v) (hown:w.ownsRow base 24 1 v n xs)
   (ad:Option Addr) (m c:Nat) (L:List Nat) (hx:a.eval x=.slice ad m c) (hL:NUML w ad L) (hl:L.length=m) (hc:ad=none->c=0)
   (hb:n+m<=2 ^ 30) (hbase:base<=w.heap.size)
   (hh:∀ a' c' w',w'.ownsRow base 24 1 (.slice a' (n+m) c') (n+m) (xs ++ ze L)->w.grownBy w' v.ownBlock->wpList Tryz.prog ops Q rest (a.put o.dst (.slice a' (n+m) c')) w'):wpList Tryz.prog ops Q (o :: rest) a w:=by
 obtain⟨i,hi,hz,hs1,hby⟩:=info_parts xA;cases ad with
 | none=>
   obtain rfl:=hc rfl
   have hL0:L=[]:=by
    cases L with
    | nil=>rfl
    | cons y l=>
      obtain⟨b,o',e,_⟩:=hL (by simp);cases e
   subst hL0;obtain rfl:m=0:=by simpa using hl.symm
   refine wpList_append_own_none hgd s x 25 ho base 24 i 1 Tryz.underlying25 hi v n xs hs hown hx ?_;obtain⟨a',c',rfl⟩:=y9 hown;have:=hh a' c' w (by simpa[ze] using hown) ⟨rfl,rfl,rfl,Nat.le_refl _,fun _ _ _=>rfl⟩;simpa using this
 | some ad=>
   have hcells:∀ j u,(ze L)[j]?=some u->w.cell? (ad.add j)=some u:=by
    intro j u hu;have hj:j<L.length:=by have:=(List.getElem?_eq_some_iff.1 hu).1;rwa [qj] at this
    obtain⟨g,o',e,_,hr⟩:=hL (by omega);cases e;rw[Addr.add_mid,hr j _ (List.getElem?_eq_getElem hj)];rw[ze,List.getElem?_map,List.getElem?_eq_getElem hj] at hu;exact hu
   refine wpList_append_own w hgd s x 25 ho base 24 i (.int .u64 0) 1 8 Tryz.underlying25 hi hz hs1 hby rfl (by decide) v n xs hs hown ad m c (ze L) hx (by rw[qj];omega) hcells (fun u hu=>by
    obtain⟨y,_,rfl⟩:=List.mem_map.1 hu;rfl) (by simp only[maxLen];omega) (by omega) hbase ?_
   intro v' w' h1 h2 _;obtain⟨a',c',rfl⟩:=y9 h1;exact hh a' c' w' h1 h2
theorem KE(w:World):(w.alloc (.cells #[] 24)).ownsRow w.heap.size 24 1 (.slice (some ⟨w.heap.size,0,none⟩) 0 0) 0 []:=
 World.ownsRow_lit w #[] 0 (Nat.le_refl _) (by simp[maxLen]) rfl
theorem Gy{w:World}{base g n cap:Nat}{L:List Nat}{x:Nat}(hl:L.length=n)(h:w.ownsRow base 24 1 (.slice (some ⟨g,0,none⟩) (n+1) cap) (n+1) (ze (L ++ [x]))):w.ownsRow base 24 1 (.slice (some ⟨g,0,none⟩) n cap) n (ze L)/\n+1<=cap/\w.cell? ⟨g,n,none⟩=some (.int .u64 (x:Int))/\g<w.heap.size:=by
 have hr:w.cell? ⟨g,n,none⟩=some (.int .u64 (x:Int)):=by
  rw[h.cellAt n (by omega),jc,List.getElem?_append_right (by rw[qj];omega),qj,hl,Nat.sub_self];rfl
 rcases h.2 with ⟨e,_⟩ | ⟨g',cap',cur,e,hb,hg,h1,h2,h3,h4⟩
 ·cases e
 ·cases e
  refine⟨⟨by rw[qj,hl,Nat.mul_one],.inr ⟨g,cap,cur,rfl,hb,hg,by omega,h2,h3,?_⟩⟩,h1,hr,(Array.getElem?_eq_some_iff.1 hg).1⟩;have h5:=congrArg (List.take (n*1)) h4;rw[List.take_take,show min (n*1) ((n+1)*1)=n*1 by omega] at h5;rw[h5,jc,List.take_left' (by rw[qj,hl,Nat.mul_one])]
structure NUMD (w w':World) (g n cap:Nat) (L:List Nat):Prop where
 own:w'.ownsRow w.heap.size 24 1 (.slice (some ⟨g,0,none⟩) n cap) n (ze L)
 room:n+1<=cap
 mark:w'.cell? ⟨g,n,none⟩=some (.int .u64 171)
 lt:g<w'.heap.size
 base:w.heap.size<=g
 below:Below w.heap.size w w'
theorem NUMD.lies{w w':World}{g n cap:Nat}{L:List Nat}(h:NUMD w w' g n cap L)(hl:L.length=n):NUML w' (some ⟨g,0,none⟩) L:=fun _=>⟨g,0,rfl,h.lt,fun i x hx=>by
 have hi:i<L.length:=(List.getElem?_eq_some_iff.1 hx).1;rw[Nat.zero_add,h.own.cellAt i (by omega),ze,List.getElem?_map,hx];rfl⟩
theorem kk(a:Option Addr)(n c:Nat)(L:List Nat)(hl:L.length=n)(hn:n<2 ^ 20)(hc:a=none->c=0)(w:World)(hL:NUML w a L):Calls Tryz.prog 6 #[.slice a n c] w fun e w'=>∃ g cap,e=.returned (.slice (some ⟨g,0,none⟩) n cap)/\NUMD w w' g n cap L:=by
 have HA:Aside (L.length=n/\n<2 ^ 20/\(a=none->c=0)/\NUML w a L):=⟨hl,hn,hc,hL⟩
 clear hl hn hc hL;go_enter Tryz.func6,Tryz.ntmps6
 go_wp2_with (first
  | (at_builtin;refine z0O _ rfl (.tmp 3) (.tmp 4) rfl w.heap.size (.slice (some ⟨w.heap.size,0,none⟩) 0 0) 0 [] rfl (KE w) a n c L rfl (fun hp=>by
      obtain⟨b,o,e,hlt,hcc⟩:=HA.out.2.2.2 hp;exact⟨b,o,e,by simp;omega,fun i x hx=>(((Below.refl w.heap.size w).alloc (Nat.le_refl _) _).cell (p:=⟨b,o+i,none⟩) hlt).trans (hcc i x hx)⟩) HA.out.1 HA.out.2.2.1 (by have:=HA.out.2.1;omega) (by simp) ?_;rw[Nat.zero_add,List.nil_append];intro a1 c1 w1 hown1 hgrow1
     have R1:Aside (w1.ownsRow w.heap.size 24 1 (.slice a1 n c1) n (ze L)/\Below w.heap.size w w1):=⟨hown1,((Below.refl _ w).alloc (Nat.le_refl _) _).grown hgrow1 (by simp) (fun k e=>by cases e;exact Nat.le_refl _)⟩
     clear hown1 hgrow1)
  | (at_builtin;refine jG _ rfl (.tmp 5) (.tmp 6) rfl w.heap.size (.slice a1 n c1) n L rfl (R1.out.1.alloc _) w1.heap.size 1 171 rfl ((Has.new _ _ _).cell 0) (by have:=HA.out.2.1;omega) (by have:=R1.out.2.size;simp;omega) ?_;intro g2 c2 w2 hown2 hgrow2 hg2
     obtain⟨f1,f2,f3,f4⟩:=Gy HA.out.1 hown2;have hcap:(n:Int)<=(c2:Int):=by omega
     have R2:Aside (NUMD w w2 g2 n c2 L):=⟨f1,f2,f3,f4,(f1.lt g2 rfl).1,(R1.out.2.alloc R1.out.2.size _).grown hgrow2 (by have:=R1.out.2.size;simp;omega) (fun k e=>(R1.out.1.lt k e).1)⟩
     clear hown2 hgrow2 hg2 f1 f2 f3 f4))
 go_ret;exact⟨_,_,rfl,R2.out⟩
theorem KF{ops:Array Oper}{rest:List Oper}{o:Oper}{a:Act}{w:World}{Q:Exit->Act->World->Prop}(hw:Region.wanted o (yielded ops a.tmps)=true)(ty:TypeId)(x:Operand)(ho:o.op=.load ty x)
  (b off:Nat)(hx:a.eval x=.pointer (some ⟨b,off,none⟩))(cs:List Value)(d:TypeDesc)(hc:w.rangeAt b off cs)(hu:Tryz.prog.underlying ty=some d)(hd:d.isRow=true)(hi:(Tryz.prog.info? ty).map (·.size)=some cs.length)
  (h:wpList Tryz.prog ops Q rest (a.put o.dst (.agg cs.toArray)) w):wpList Tryz.prog ops Q (o :: rest) a w:=by
 simp only[wpList];rw[if_pos hw];exact .inl (wp_load_mid ty x ho b off hx cs d hc hu hd hi h)
theorem z0P{ops:Array Oper}{rest:List Oper}{o:Oper}{a:Act}{w w':World}{Q:Exit->Act->World->Prop}{v:Value}(hw:Region.wanted o (yielded ops a.tmps)=true)(hrun:(execOp a.eval o).run Tryz.prog w=.ok (.value v) w')(h:wpList Tryz.prog ops Q rest (a.put o.dst v) w'):wpList Tryz.prog ops Q (o :: rest) a w:=by
 simp only[wpList];rw[if_pos hw];refine .inl ?_;unfold Oper.wp;rw[hrun];exact h
theorem KG(a b:Option Addr)(n ca cb:Nat)(L:List Nat)(hl:L.length=n)(hn:n<=2 ^ 24)(w:World)(hA:NUML w a L)(hB:NUML w b L):
  Calls Tryz.prog 18 #[.slice a n ca,.slice b n cb] w fun e w'=>e=.returned (.bool true)/\Below w.heap.size w w':=by
 rcases Nat.eq_zero_or_pos n with h | h
 ·subst h
  clear hA hB hl;go_enter Tryz.func18,Tryz.ntmps18;go_wp2;refine wp_loop_rounds 1 ?_;rw[rounds_succ];go_wp2;go_ret;exact⟨rfl,Below.refl _ _⟩
 ·obtain⟨ga,oa,rfl,la,hca⟩:=hA (by omega)
  obtain⟨gb,ob,rfl,lb,hcb⟩:=hB (by omega);have HC:Aside ((∀ (i x:Nat),L[i]?=some x->w.cell? ⟨ga,oa+i,none⟩=some (.int .u64 (x:Int)))/\(∀ (i x:Nat),L[i]?=some x->w.cell? ⟨gb,ob+i,none⟩=some (.int .u64 (x:Int)))/\ga<w.heap.size/\gb<w.heap.size/\L.length=n/\n<=2 ^ 24):=⟨hca,hcb,la,lb,hl,hn⟩
  clear hA hB hca hcb la lb hl hn;go_enter Tryz.func18,Tryz.ntmps18;go_wp2;go_loopg [5] n (fun g s5 wx=>∃ k:Nat,k+g=n/\s5=.int .i64 k/\Aside (Below w.heap.size w wx))
  case atStart=>exact⟨0,by omega,rfl,Below.refl _ _⟩
  case round=>
   obtain⟨k,hkg,rfl,A⟩:=hrel;cases gk with
   | zero=>
     obtain rfl:k=n:=by omega
     go_wp2;go_ret;exact⟨rfl,A.out⟩
   | succ g=>
     have hlt:(k:Int)<(n:Int):=by omega
     obtain⟨x,ex⟩:∃ x,L[k]?=some x:=⟨_,List.getElem?_eq_getElem (by have:=HC.out.2.2.2.2.1;omega)⟩
     have h1:wr.cell? ⟨ga,oa+k,none⟩=some (.int .u64 (x:Int)):=(A.out.cell (by exact HC.out.2.2.1)).trans (HC.out.1 k x ex);have h2:wr.cell? ⟨gb,ob+k,none⟩=some (.int .u64 (x:Int)):=(A.out.cell (by exact HC.out.2.2.2.1)).trans (HC.out.2.1 k x ex);have hk24:k<2 ^ 24:=by have:=HC.out.2.2.2.2.2;omega
     clear ex;go_wp2;go_quiet (fail)
     go_wp2;go_roundg g
     case measure=>omega
     case rel=>exact⟨k+1,by omega,by go_num,below_drewN A.out _⟩
end Go.Proofs.YtobaogpomcocpaaGreatDoor
