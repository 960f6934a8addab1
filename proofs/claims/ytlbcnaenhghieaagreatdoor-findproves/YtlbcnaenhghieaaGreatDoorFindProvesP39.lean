/- FindProves: part 39. -/
import Derived.Test.YtlbcnaenhghieaaGreatDoorFindProvesP38
set_option maxHeartbeats 2000000
namespace Go.Proofs.YtlbcnaenhghieaaGreatDoor.HX
open Go.RowKit
set_option maxRecDepth 100000
theorem z7z {ops:Array Oper} {o:Oper} {a:Act} {w:World} {K:Act->World->Prop} {Q:Exit->Act->World->Prop} {E:Prop} (hg:o.guard=none) (ty:TypeId) (x:Operand) (ho:o.op=.load ty x)
  (b k:Nat) (hx:a.eval x=.pointer (some ⟨b,k,none⟩)) (cs:List Value) (d:TypeDesc) (hc:w.rangeAt b k cs) (hu:Tryz.prog.underlying ty=some d) (hd:d.isRow=true) (hi:(Tryz.prog.info? ty).map (·.size)=some cs.length)
  (h:K (a.put o.dst (.agg cs.toArray)) w):if Region.wanted o (yielded ops a.tmps)=true then Oper.wp Tryz.prog o a w K Q else E:=by
 have hw:Region.wanted o (yielded ops a.tmps)=true:=by simp [Region.wanted,hg]
 rw [if_pos hw];exact wp_load_mid ty x ho b k hx cs d hc hu hd hi h
@[go_sem] def MA6OPSq0:Oper:=⟨some 28,.move (.tmp 0),28,"mmr.go:53",#[],none⟩
@[go_sem] def MA6OPSq1:Oper:=⟨some 29,.nilCheck (.tmp 28),0,"mmr.go:53",#[⟨0,.data⟩],none⟩
@[go_sem] def MA6OPSq2:Oper:=⟨some 30,.fieldAddr 65 (.tmp 29) 0,0,"mmr.go:53",#[⟨1,.data⟩],none⟩
@[go_sem] def MA6OPSq3:Oper:=⟨some 31,.load 25 (.tmp 3),25,"mmr.go:53",#[],none⟩
@[go_sem] def MA6OPSq4:Oper:=⟨some 32,.call {callee:=.value (.func 21),args:=#[.tmp 30,.tmp 31],argTypes:=#[63,25]},36,"mmr.go:53",#[⟨2,.data⟩,⟨3,.data⟩],none⟩
def z98:Array Oper:=#[MA6OPSq0,MA6OPSq1,MA6OPSq2,MA6OPSq3,MA6OPSq4]
theorem z99 {Q:Exit->Act->World->Prop} {d f i j k l n p q r s u y A B C D E F G H K L M N O P R T U V X Y Z aa ab ac ad ae af ag ah ai aj ak al am an ao ap aq ar:Value} (W:World) (g b m:Nat) (x:Nat->Nat) (I J:World->Prop) (h0:I W.drew) (hI:∀ w,I w->w.rangeAt b 0 (z05 .u8 32 x)) (hJ:∀ w,J w->w.rangeAt b 0 (z05 .u8 32 x))
  (c1:∀ w,I w->Calls Tryz.prog 21 #[.pointer (some ⟨g,0,none⟩),.agg (UARR .u8 32 x)] w fun e w'=>e=.returned (.int .u64 (m:Int))/\J w') (hQ:∀ c (a:Act) (t:Tmp) (v:Value) w,Q (.panic c) (a.put (some t) v) w->Q (.panic c) a w)
  (hfin:∀ (w:World),(J w)->Q .normal {tmps:=#[.pointer (some ⟨g,0,none⟩),d,f,.pointer (some ⟨b,0,none⟩),i,j,k,l,n,p,q,r,s,u,y,A,B,C,D,E,F,G,H,K,L,M,N,O,.pointer (some ⟨g,0,none⟩),.pointer (some ⟨g,0,none⟩),.pointer (some ⟨g,0,none⟩),.agg (UARR .u8 32 x),.int .u64 (m:Int),X,Y,Z,aa,ab,ac,ad,ae,af,ag,ah,ai,aj,ak,al,am,an,ao,ap,aq,ar],defers:=[]} w):(Code.region 6 z98 true).wp Tryz.prog Q {tmps:=#[.pointer (some ⟨g,0,none⟩),d,f,.pointer (some ⟨b,0,none⟩),i,j,k,l,n,p,q,r,s,u,y,A,B,C,D,E,F,G,H,K,L,M,N,O,P,R,T,U,V,X,Y,Z,aa,ab,ac,ad,ae,af,ag,ah,ai,aj,ak,al,am,an,ao,ap,aq,ar],defers:=[]} W:=by
 have kst:∀ (w:World),(I w)->wpAnyH Tryz.prog .any z98 Q (fun w:World=>w.rangeAt b 0 (z05 .u8 32 x)) 1 #[true,true,true,true,false] {tmps:=#[.pointer (some ⟨g,0,none⟩),d,f,.pointer (some ⟨b,0,none⟩),i,j,k,l,n,p,q,r,s,u,y,A,B,C,D,E,F,G,H,K,L,M,N,O,.pointer (some ⟨g,0,none⟩),.pointer (some ⟨g,0,none⟩),.pointer (some ⟨g,0,none⟩),.agg (UARR .u8 32 x),V,X,Y,Z,aa,ab,ac,ad,ae,af,ag,ah,ai,aj,ak,al,am,an,ao,ap,aq,ar],defers:=[]} w:=fun  w hp=>by
  refine wpAnyH_ready (rs:=[4]) (by kernel_rfl) (by simp) ?_;refine AllReadyH.cons (o:=MA6OPSq4) rfl (fun KQ hKQ=>?_) ?_
  ·rw [if_pos (by rfl)]
   go_simp;refine (show Calls _ _ _ w (fun e w'=>e=.returned (.int .u64 (m:Int))/\(J w')) from c1 w hp).mono ?_;rintro e w ⟨rfl,hp⟩;refine hKQ.out _ _ (hJ _ hp) (fun _=>?_);simp only [List.setIfInBounds_toArray,List.set];exact wpAnyH_done (by kernel_rfl) (hfin  w hp) _
  exact AllReadyH.nil
 have hp:=h0;have hww:(fun w:World=>w.rangeAt b 0 (z05 .u8 32 x)) W.drew:=hI _ hp;have last:=kst W.drew hp
 have z:wpAnyH Tryz.prog .any z98 Q (fun w:World=>w.rangeAt b 0 (z05 .u8 32 x)) 5 #[false,false,false,false,false] {tmps:=#[.pointer (some ⟨g,0,none⟩),d,f,.pointer (some ⟨b,0,none⟩),i,j,k,l,n,p,q,r,s,u,y,A,B,C,D,E,F,G,H,K,L,M,N,O,P,R,T,U,V,X,Y,Z,aa,ab,ac,ad,ae,af,ag,ah,ai,aj,ak,al,am,an,ao,ap,aq,ar],defers:=[]} W.drew:=by
  refine tkP MA6OPSq0 (.pointer (some ⟨g,0,none⟩)) 0 hQ hww ?_;simp only [List.set];refine tkP MA6OPSq1 (.pointer (some ⟨g,0,none⟩)) 1 hQ hww ?_;simp only [List.set];refine tkP MA6OPSq2 (.pointer (some ⟨g,0,none⟩)) 2 hQ hww ?_;simp only [List.set];refine tkH MA6OPSq3 (.agg (UARR .u8 32 x)) 3 hQ (yieldsIf_load_mid (by rfl) 25 (.tmp 3) rfl b 0 rfl (z05 .u8 32 x) _ (fun w h=>h) Tryz.underlying25 rfl (by rw [z0a];exact z0M)) hww ?_;simp only [List.set];exact last
 exact wp_region_held_drew (S:=(fun w:World=>w.rangeAt b 0 (z05 .u8 32 x))) (by kernel_rfl) hww (fun _=>z)
@[go_sem] def MA11OPSq0:Oper:=⟨some 47,.move (.tmp 0),28,"mmr.go:56",#[],none⟩
@[go_sem] def MA11OPSq1:Oper:=⟨some 48,.nilCheck (.tmp 47),0,"mmr.go:56",#[⟨0,.data⟩],none⟩
@[go_sem] def MA11OPSq2:Oper:=⟨some 49,.fieldAddr 65 (.tmp 48) 0,0,"mmr.go:56",#[⟨1,.data⟩],none⟩
@[go_sem] def MA11OPSq3:Oper:=⟨some 50,.load 25 (.tmp 8),25,"mmr.go:56",#[],none⟩
@[go_sem] def MA11OPSq4:Oper:=⟨some 51,.call {callee:=.value (.func 21),args:=#[.tmp 49,.tmp 50],argTypes:=#[63,25]},36,"mmr.go:56",#[⟨2,.data⟩,⟨3,.data⟩],none⟩
def z6S:Array Oper:=#[MA11OPSq0,MA11OPSq1,MA11OPSq2,MA11OPSq3,MA11OPSq4]
theorem zac {Q:Exit->Act->World->Prop} {d f i j k l n p q r s u y A B C D E F G H K L M N O P R T U V X Y Z aa ab ac ad ae af ag ah ai aj ak al am an ao ap aq ar:Value} (W:World) (g b m:Nat) (x:Nat->Nat) (I J:World->Prop) (h0:I W.drew) (hI:∀ w,I w->w.rangeAt b 0 (z05 .u8 32 x)) (hJ:∀ w,J w->w.rangeAt b 0 (z05 .u8 32 x))
  (c1:∀ w,I w->Calls Tryz.prog 21 #[.pointer (some ⟨g,0,none⟩),.agg (UARR .u8 32 x)] w fun e w'=>e=.returned (.int .u64 (m:Int))/\J w') (hQ:∀ c (a:Act) (t:Tmp) (v:Value) w,Q (.panic c) (a.put (some t) v) w->Q (.panic c) a w)
  (hfin:∀ (w:World),(J w)->Q .normal {tmps:=#[.pointer (some ⟨g,0,none⟩),d,f,i,j,k,l,n,.pointer (some ⟨b,0,none⟩),p,q,r,s,u,y,A,B,C,D,E,F,G,H,K,L,M,N,O,P,R,T,U,V,X,Y,Z,aa,ab,ac,ad,ae,af,ag,ah,ai,aj,ak,.pointer (some ⟨g,0,none⟩),.pointer (some ⟨g,0,none⟩),.pointer (some ⟨g,0,none⟩),.agg (UARR .u8 32 x),.int .u64 (m:Int),aq,ar],defers:=[]} w):(Code.region 11 z6S true).wp Tryz.prog Q {tmps:=#[.pointer (some ⟨g,0,none⟩),d,f,i,j,k,l,n,.pointer (some ⟨b,0,none⟩),p,q,r,s,u,y,A,B,C,D,E,F,G,H,K,L,M,N,O,P,R,T,U,V,X,Y,Z,aa,ab,ac,ad,ae,af,ag,ah,ai,aj,ak,al,am,an,ao,ap,aq,ar],defers:=[]} W:=by
 have kst:∀ (w:World),(I w)->wpAnyH Tryz.prog .any z6S Q (fun w:World=>w.rangeAt b 0 (z05 .u8 32 x)) 1 #[true,true,true,true,false] {tmps:=#[.pointer (some ⟨g,0,none⟩),d,f,i,j,k,l,n,.pointer (some ⟨b,0,none⟩),p,q,r,s,u,y,A,B,C,D,E,F,G,H,K,L,M,N,O,P,R,T,U,V,X,Y,Z,aa,ab,ac,ad,ae,af,ag,ah,ai,aj,ak,.pointer (some ⟨g,0,none⟩),.pointer (some ⟨g,0,none⟩),.pointer (some ⟨g,0,none⟩),.agg (UARR .u8 32 x),ap,aq,ar],defers:=[]} w:=fun  w hp=>by
  refine wpAnyH_ready (rs:=[4]) (by kernel_rfl) (by simp) ?_;refine AllReadyH.cons (o:=MA11OPSq4) rfl (fun KQ hKQ=>?_) ?_
  ·rw [if_pos (by rfl)]
   go_simp;refine (show Calls _ _ _ w (fun e w'=>e=.returned (.int .u64 (m:Int))/\(J w')) from c1 w hp).mono ?_;rintro e w ⟨rfl,hp⟩;refine hKQ.out _ _ (hJ _ hp) (fun _=>?_);simp only [List.setIfInBounds_toArray,List.set];exact wpAnyH_done (by kernel_rfl) (hfin  w hp) _
  exact AllReadyH.nil
 have hp:=h0;have hww:(fun w:World=>w.rangeAt b 0 (z05 .u8 32 x)) W.drew:=hI _ hp;have last:=kst W.drew hp
 have z:wpAnyH Tryz.prog .any z6S Q (fun w:World=>w.rangeAt b 0 (z05 .u8 32 x)) 5 #[false,false,false,false,false] {tmps:=#[.pointer (some ⟨g,0,none⟩),d,f,i,j,k,l,n,.pointer (some ⟨b,0,none⟩),p,q,r,s,u,y,A,B,C,D,E,F,G,H,K,L,M,N,O,P,R,T,U,V,X,Y,Z,aa,ab,ac,ad,ae,af,ag,ah,ai,aj,ak,al,am,an,ao,ap,aq,ar],defers:=[]} W.drew:=by
  refine tkP MA11OPSq0 (.pointer (some ⟨g,0,none⟩)) 0 hQ hww ?_;simp only [List.set];refine tkP MA11OPSq1 (.pointer (some ⟨g,0,none⟩)) 1 hQ hww ?_;simp only [List.set];refine tkP MA11OPSq2 (.pointer (some ⟨g,0,none⟩)) 2 hQ hww ?_;simp only [List.set];refine tkH MA11OPSq3 (.agg (UARR .u8 32 x)) 3 hQ (yieldsIf_load_mid (by rfl) 25 (.tmp 8) rfl b 0 rfl (z05 .u8 32 x) _ (fun w h=>h) Tryz.underlying25 rfl (by rw [z0a];exact z0M)) hww ?_;simp only [List.set];exact last
 exact wp_region_held_drew (S:=(fun w:World=>w.rangeAt b 0 (z05 .u8 32 x))) (by kernel_rfl) hww (fun _=>z)
@[go_sem] def MA10OPSq0:Oper:=⟨some 38,.move (.tmp 0),28,"mmr.go:55",#[],none⟩
@[go_sem] def MA10OPSq1:Oper:=⟨some 39,.nilCheck (.tmp 38),0,"mmr.go:55",#[⟨0,.data⟩],none⟩
@[go_sem] def MA10OPSq2:Oper:=⟨some 40,.fieldAddr 65 (.tmp 39) 1,0,"mmr.go:55",#[⟨1,.data⟩],none⟩
@[go_sem] def MA10OPSq3:Oper:=⟨some 41,.load 3 (.tmp 40),3,"mmr.go:55",#[⟨2,.data⟩],none⟩
@[go_sem] def MA10OPSq4:Oper:=⟨some 42,.move (.tmp 0),28,"mmr.go:55",#[],none⟩
@[go_sem] def MA10OPSq5:Oper:=⟨some 43,.move (.tmp 6),36,"mmr.go:55",#[],none⟩
@[go_sem] def MA10OPSq6:Oper:=⟨some 44,.call {callee:=.value (.func 24),args:=#[.tmp 42,.tmp 43],argTypes:=#[28,36]},25,"mmr.go:55",#[⟨4,.data⟩,⟨5,.data⟩],none⟩
@[go_sem] def MA10OPSq7:Oper:=⟨some 45,.load 25 (.tmp 8),25,"mmr.go:55",#[],none⟩
@[go_sem] def MA10OPSq8:Oper:=⟨some 46,.call {callee:=.value (.func 23),args:=#[.tmp 41,.tmp 44,.tmp 45],argTypes:=#[3,25,25]},25,"mmr.go:55",#[⟨3,.data⟩,⟨6,.data⟩,⟨7,.data⟩,⟨6,.chain⟩],none⟩
@[go_sem] def MA10OPSq9:Oper:=⟨none,.store 25 (.tmp 8) (.tmp 46),0,"mmr.go:55",#[⟨8,.data⟩,⟨8,.chain⟩,⟨0,.phase⟩,⟨1,.phase⟩,⟨2,.phase⟩,⟨3,.phase⟩,⟨4,.phase⟩,⟨5,.phase⟩,⟨6,.phase⟩,⟨7,.phase⟩,⟨8,.phase⟩],none⟩
def z2U:Array Oper:=#[MA10OPSq0,MA10OPSq1,MA10OPSq2,MA10OPSq3,MA10OPSq4,MA10OPSq5,MA10OPSq6,MA10OPSq7,MA10OPSq8,MA10OPSq9]
theorem zad {Q:Exit->Act->World->Prop} {f h i j k m n q r s u A B C D E F G H J K L M N O P R T U V X Y Z aa ab ac ad ae af ag ah ai aj ak al am an ao ap aq ar:Value} (W:World) (g b p:Nat) (d:Int) (l x y:Nat->Nat) (I:World->Prop) (h0:I W.drew) (hI:∀ w,I w->w.cell? ⟨g,5,none⟩=some (.int .i64 d)/\w.rangeAt b 0 (z05 .u8 32 x)/\Has w b (UARR .u8 32 x) 25) (hK5:∀ w,I w->(w.setRow b (UARR .u8 32 y)).cell? ⟨g,5,none⟩=some (.int .i64 d))
  (c1:∀ w,I w->Calls Tryz.prog 24 #[.pointer (some ⟨g,0,none⟩),.int .u64 (p:Int)] w fun e w'=>e=.returned (.agg (UARR .u8 32 l))/\I w') (c2:∀ w,I w->Calls Tryz.prog 23 #[.int .i64 d,.agg (UARR .u8 32 l),.agg (UARR .u8 32 x)] w fun e w'=>e=.returned (.agg (UARR .u8 32 y))/\I w') (hQ:∀ c (a:Act) (t:Tmp) (v:Value) w,Q (.panic c) (a.put (some t) v) w->Q (.panic c) a w)
  (hfin:∀ (w:World),(∃ w0:World,I w0/\w=w0.setRow b (UARR .u8 32 y))->Q .normal {tmps:=#[.pointer (some ⟨g,0,none⟩),f,h,i,j,k,.int .u64 (p:Int),m,.pointer (some ⟨b,0,none⟩),n,q,r,s,u,A,B,C,D,E,F,G,H,J,K,L,M,N,O,P,R,T,U,V,X,Y,Z,aa,ab,.pointer (some ⟨g,0,none⟩),.pointer (some ⟨g,0,none⟩),.pointer (some ⟨g,5,none⟩),.int .i64 d,.pointer (some ⟨g,0,none⟩),.int .u64 (p:Int),.agg (UARR .u8 32 l),.agg (UARR .u8 32 x),.agg (UARR .u8 32 y),al,am,an,ao,ap,aq,ar],defers:=[]} w):(Code.region 10 z2U true).wp Tryz.prog Q {tmps:=#[.pointer (some ⟨g,0,none⟩),f,h,i,j,k,.int .u64 (p:Int),m,.pointer (some ⟨b,0,none⟩),n,q,r,s,u,A,B,C,D,E,F,G,H,J,K,L,M,N,O,P,R,T,U,V,X,Y,Z,aa,ab,ac,ad,ae,af,ag,ah,ai,aj,ak,al,am,an,ao,ap,aq,ar],defers:=[]} W:=by
 have kst6_7_8_9:∀ (w:World),(∃ w0:World,I w0/\w=w0.setRow b (UARR .u8 32 y))->wpAnyH Tryz.prog .any z2U Q (fun w:World=>w.cell? ⟨g,5,none⟩=some (.int .i64 d)) 0 #[tt,tt,tt,tt,tt,tt,tt,tt,tt,tt] {tmps:=#[.pointer (some ⟨g,0,none⟩),f,h,i,j,k,.int .u64 (p:Int),m,.pointer (some ⟨b,0,none⟩),n,q,r,s,u,A,B,C,D,E,F,G,H,J,K,L,M,N,O,P,R,T,U,V,X,Y,Z,aa,ab,.pointer (some ⟨g,0,none⟩),.pointer (some ⟨g,0,none⟩),.pointer (some ⟨g,5,none⟩),.int .i64 d,.pointer (some ⟨g,0,none⟩),.int .u64 (p:Int),.agg (UARR .u8 32 l),.agg (UARR .u8 32 x),.agg (UARR .u8 32 y),al,am,an,ao,ap,aq,ar],defers:=[]} w:=fun  w hp=>by
  exact wpAnyH_done (by kernel_rfl) (hfin  w hp) _
 have kst6_7:∀ (w:World),(I w)->wpAnyH Tryz.prog .any z2U Q (fun w:World=>w.cell? ⟨g,5,none⟩=some (.int .i64 d)) 2 #[tt,tt,tt,tt,tt,tt,tt,tt,ff,ff] {tmps:=#[.pointer (some ⟨g,0,none⟩),f,h,i,j,k,.int .u64 (p:Int),m,.pointer (some ⟨b,0,none⟩),n,q,r,s,u,A,B,C,D,E,F,G,H,J,K,L,M,N,O,P,R,T,U,V,X,Y,Z,aa,ab,.pointer (some ⟨g,0,none⟩),.pointer (some ⟨g,0,none⟩),.pointer (some ⟨g,5,none⟩),.int .i64 d,.pointer (some ⟨g,0,none⟩),.int .u64 (p:Int),.agg (UARR .u8 32 l),.agg (UARR .u8 32 x),ak,al,am,an,ao,ap,aq,ar],defers:=[]} w:=fun  w hp=>by
  refine wpAnyH_ready (rs:=[8]) (by kernel_rfl) (by simp) ?_;refine AllReadyH.cons (o:=MA10OPSq8) rfl (fun KQ hKQ=>?_) ?_
  ·rw [if_pos (by rfl)]
   go_simp;refine (show Calls _ _ _ w (fun e w'=>e=.returned (.agg (UARR .u8 32 y))/\(I w')) from c2 w hp).mono ?_;rintro e w ⟨rfl,hp⟩;refine hKQ.out _ _ ((hI _ hp).1) (fun _=>?_);simp only [List.setIfInBounds_toArray,List.set];refine wpAnyH_ready (rs:=[9]) (by kernel_rfl) (by simp) ?_;refine AllReadyH.cons (o:=MA10OPSq9) rfl (fun KQ hKQ=>?_) ?_
   ·exact z0L rfl (z10 (z64 (hI _ hp).2.2 y)) (have hp:(fun (w:World)=>(∃ w0:World,I w0/\w=w0.setRow b (UARR .u8 32 y)))  _:=⟨w,hp,rfl⟩;hKQ.out _ _ ((by obtain ⟨w0,h1,h2⟩:=hp; (first | rw [h2] | skip);exact hK5 _ h1)) (fun _=>kst6_7_8_9  _ hp))
   exact AllReadyH.nil
  exact AllReadyH.nil
 have kst7:∀ (w:World),(I w)->wpAnyH Tryz.prog .any z2U Q (fun w:World=>w.cell? ⟨g,5,none⟩=some (.int .i64 d)) 3 #[tt,tt,tt,tt,tt,tt,ff,tt,ff,ff] {tmps:=#[.pointer (some ⟨g,0,none⟩),f,h,i,j,k,.int .u64 (p:Int),m,.pointer (some ⟨b,0,none⟩),n,q,r,s,u,A,B,C,D,E,F,G,H,J,K,L,M,N,O,P,R,T,U,V,X,Y,Z,aa,ab,.pointer (some ⟨g,0,none⟩),.pointer (some ⟨g,0,none⟩),.pointer (some ⟨g,5,none⟩),.int .i64 d,.pointer (some ⟨g,0,none⟩),.int .u64 (p:Int),ai,.agg (UARR .u8 32 x),ak,al,am,an,ao,ap,aq,ar],defers:=[]} w:=fun  w hp=>by
  refine wpAnyH_ready (rs:=[6]) (by kernel_rfl) (by simp) ?_;refine AllReadyH.cons (o:=MA10OPSq6) rfl (fun KQ hKQ=>?_) ?_
  ·rw [if_pos (by rfl)]
   go_simp;refine (show Calls _ _ _ w (fun e w'=>e=.returned (.agg (UARR .u8 32 l))/\(I w')) from c1 w hp).mono ?_;rintro e w' ⟨rfl,hp⟩;exact hKQ.out _ _ ((hI _ hp).1) (fun _=>kst6_7  w' hp)
  exact AllReadyH.nil
 have kst:∀ (w:World),(I w)->wpAnyH Tryz.prog .any z2U Q (fun w:World=>w.cell? ⟨g,5,none⟩=some (.int .i64 d)) 4 #[tt,tt,tt,tt,tt,tt,ff,ff,ff,ff] {tmps:=#[.pointer (some ⟨g,0,none⟩),f,h,i,j,k,.int .u64 (p:Int),m,.pointer (some ⟨b,0,none⟩),n,q,r,s,u,A,B,C,D,E,F,G,H,J,K,L,M,N,O,P,R,T,U,V,X,Y,Z,aa,ab,.pointer (some ⟨g,0,none⟩),.pointer (some ⟨g,0,none⟩),.pointer (some ⟨g,5,none⟩),.int .i64 d,.pointer (some ⟨g,0,none⟩),.int .u64 (p:Int),ai,aj,ak,al,am,an,ao,ap,aq,ar],defers:=[]} w:=fun  w hp=>by
  refine wpAnyH_ready (rs:=[6,7]) (by kernel_rfl) (by simp) ?_;refine AllReadyH.cons (o:=MA10OPSq6) rfl (fun KQ hKQ=>?_) ?_
  ·rw [if_pos (by rfl)]
   go_simp;refine (show Calls _ _ _ w (fun e w'=>e=.returned (.agg (UARR .u8 32 l))/\(I w')) from c1 w hp).mono ?_;rintro e w ⟨rfl,hp⟩;refine hKQ.out _ _ ((hI _ hp).1) (fun _=>?_);simp only [List.setIfInBounds_toArray,List.set];refine wpAnyH_ready (rs:=[7]) (by kernel_rfl) (by simp) ?_;refine AllReadyH.cons (o:=MA10OPSq7) rfl (fun KQ hKQ=>?_) ?_
   ·exact z7z rfl 25 (.tmp 8) rfl b 0 rfl (z05 .u8 32 x) _ (hI _ hp).2.1 Tryz.underlying25 rfl (by rw [z0a];exact z0M) (have hp:(fun (w:World)=>(I w))  w:=hp;hKQ.out _ _ ((hI _ hp).1) (fun _=>kst6_7  _ hp))
   exact AllReadyH.nil
  refine AllReadyH.cons (o:=MA10OPSq7) rfl (fun KQ hKQ=>?_) ?_
  ·exact z7z rfl 25 (.tmp 8) rfl b 0 rfl (z05 .u8 32 x) _ (hI _ hp).2.1 Tryz.underlying25 rfl (by rw [z0a];exact z0M) (have hp:(fun (w:World)=>(I w))  w:=hp;hKQ.out _ _ ((hI _ hp).1) (fun _=>kst7  _ hp))
  exact AllReadyH.nil
 have hp:=h0;have hww:(fun w:World=>w.cell? ⟨g,5,none⟩=some (.int .i64 d)) W.drew:=(hI _ hp).1;have last:=kst W.drew hp
 have z:wpAnyH Tryz.prog .any z2U Q (fun w:World=>w.cell? ⟨g,5,none⟩=some (.int .i64 d)) 10 #[ff,ff,ff,ff,ff,ff,ff,ff,ff,ff] {tmps:=#[.pointer (some ⟨g,0,none⟩),f,h,i,j,k,.int .u64 (p:Int),m,.pointer (some ⟨b,0,none⟩),n,q,r,s,u,A,B,C,D,E,F,G,H,J,K,L,M,N,O,P,R,T,U,V,X,Y,Z,aa,ab,ac,ad,ae,af,ag,ah,ai,aj,ak,al,am,an,ao,ap,aq,ar],defers:=[]} W.drew:=by
  refine tkP MA10OPSq0 (.pointer (some ⟨g,0,none⟩)) 0 hQ hww ?_;simp only [List.set];refine tkP MA10OPSq1 (.pointer (some ⟨g,0,none⟩)) 1 hQ hww ?_;simp only [List.set];refine tkP MA10OPSq2 (.pointer (some ⟨g,5,none⟩)) 2 hQ hww ?_;simp only [List.set];refine tkH MA10OPSq3 (.int .i64 d) 3 hQ (Or.inl ⟨by rfl,fun w hw=>by have hx:w.cell? ⟨g,5,none⟩=some (.int .i64 d):=hw;go_simp⟩) hww ?_;simp only [List.set];refine tkP MA10OPSq4 (.pointer (some ⟨g,0,none⟩)) 4 hQ hww ?_;simp only [List.set];refine tkP MA10OPSq5 (.int .u64 (p:Int)) 5 hQ hww ?_;simp only [List.set];exact last
 exact wp_region_held_drew (S:=(fun w:World=>w.cell? ⟨g,5,none⟩=some (.int .i64 d))) (by kernel_rfl) hww (fun _=>z)
def HASHES (w:World) (a:Option Addr) (n:Nat) (hs:Nat->Nat->Nat):Prop:=0<n->∃ b o,a=some ⟨b,o,none⟩/\b<w.heap.size/\∀ i,i<n->w.rangeAt b (o+i*32) (z05 .u8 32 (hs i))
theorem HASHES.below {w w':World} {a:Option Addr} {n:Nat} {hs:Nat->Nat->Nat} (h:HASHES w a n hs) (hb:Below w.heap.size w w'):HASHES w' a n hs:=fun hn=>by
 obtain ⟨b,o,e,hl,hc⟩:=h hn;exact ⟨b,o,e,Nat.lt_of_lt_of_le hl hb.size,fun i hi=>z5g (hc i hi) hb hl⟩
def zi4 (d:Int) (l r:Nat->Nat):Nat->Nat:=z0F d (2 :: ((List.range 32).map l ++ (List.range 32).map r))
def zi5 (d:Int) (n:Nat) (r:Nat->Nat):Nat->Nat:=z0F d (3 :: (BE8 n ++ (List.range 32).map r))
def FAF (d:Int) (hs:Nat->Nat->Nat) (n:Nat):Nat->Nat->Nat
 | 0=>hs (n - 1)
 | k+1=>zi4 d (hs (n - 2 - k)) (FAF d hs n k)
def FLDF (d:Int) (hs:Nat->Nat->Nat) (n:Nat):Nat->Nat:=if n=0 then fun _=>0 else FAF d hs n (n - 1)
theorem zcf {w:World} {B n:Nat} {v:Value} {l:List (Nat->Nat)} (h:w.ownsRow B 25 32 v n (HL l)) (hl:l.length=n):∃ a c,v=.slice a n c/\HASHES w a n (fun i=>l.getD i fun _=>0):=by
 obtain ⟨a,c,rfl⟩:=z4D h;refine ⟨a,c,rfl,fun hn=>?_⟩;rcases h.2 with ⟨e,h0⟩ | ⟨g,cap,cur,e,_,hg,_⟩
 ·omega
 ·simp only [Value.slice.injEq] at e
  obtain ⟨rfl,_,rfl⟩:=e;refine ⟨g,0,rfl,(h.lt g rfl).2,fun i hi j u hj=>?_⟩;have hj32:j<32:=by have:=(List.getElem?_eq_some_iff.1 hj).1;rwa [z0a] at this
  have hli:l[i]?=some (l.getD i fun _=>0):=by rw [List.getD_eq_getElem?_getD,List.getElem?_eq_getElem (by omega)];rfl
  rw [z0Z _ _ _ _ hj32] at hj;rw [<-hj,Nat.zero_add,h.cellAt (i*32+j) (by omega)];exact z8A l i j _ hli hj32
def z9a (d:Int) (f:Nat->Nat->Nat) (m:Nat):Nat->Nat:=zi5 d m (FLDF d (fun i=>(PKV d f m).getD i fun _=>0) (PC m))
end Go.Proofs.YtlbcnaenhghieaaGreatDoor.HX
namespace Go.Proofs.YtlbcnaenhghieaaGreatDoor
open Go.RowKit
set_option maxRecDepth 100000
theorem z9b (f:Nat->Nat):NATS (LST f)=(List.range 32).map f:=by
 unfold NATS;apply List.map_congr_left;intro i hi;have hi':i<32:=by simpa using hi
 unfold FNC LST;rw [List.getD_eq_getElem?_getD,List.getElem?_map,List.getElem?_range hi'];simp
theorem zdY (d:Int) (a b:Nat->Nat):z0X d (LST a) (LST b)=LST (HX.z7N d a b):=by
 unfold z0X HX.z7N;rw [z9b,z9b]
theorem zdZ (d:Int) (f:Nat->Nat->Nat) (h k:Nat):TVAL d f (h+1) k=z0X d (TVAL d f h (2*k)) (TVAL d f h (2*k+1)):=by
 unfold TVAL;rw [zdY,HX.VAL]
end Go.Proofs.YtlbcnaenhghieaaGreatDoor
namespace Go.Proofs.YtlbcnaenhghieaaGreatDoor.HX
open Go.RowKit
set_option maxRecDepth 100000
structure GROWING (w wx:World) (B g:Nat) (d:Int) (log n j b:Nat) (C Cj:z01) (f:Nat->Nat->Nat):Prop where
 store:STORE wx B g log (z02 n+1+j) (z02 n+1+j) (z02 n+1+j) Cj
 width:wx.cell? ⟨g,5,none⟩=some (.int .i64 d)
 size:wx.cell? ⟨g,6,none⟩=some (.int .u64 ((n+1:Nat):Int))
 free:wx.frozen? ⟨g,6,none⟩=false
 old:∀ h k,(k+1)*2 ^ h<=n->AT Cj log (PLC h k)=some (VAL d f h k)
 new:∀ i,i<=j->AT Cj log (z02 n+i)=some (VAL d f i (n / 2 ^ i))
 ones:ONES n j
 held:Has wx b (UARR .u8 32 (VAL d f j (n / 2 ^ j))) 25
 off:¬ FOOT wx g Cj b
 step:TSTEP w wx g C Cj
 below:Below B w wx
 base:w.heap.size<=b
theorem GROWING.lt {w wx:World} {B g:Nat} {d:Int} {log n j b:Nat} {C Cj:z01} {f:Nat->Nat->Nat} (h:GROWING w wx B g d log n j b C Cj f):b≠g/\b<wx.heap.size/\g<wx.heap.size:=by
 refine ⟨fun e=>?_,h.held.lt,h.store.lt⟩;obtain ⟨cs,t,fr,k1,_,_,k4⟩:=h.store.kind;have h1:=h.held;unfold Has at h1;rw [e,k1] at h1;cases Option.some.inj h1;exact k4 rfl
theorem GROWING.keep {w wx w':World} {B g:Nat} {d:Int} {log n j b:Nat} {C Cj:z01} {f:Nat->Nat->Nat} (h:GROWING w wx B g d log n j b C Cj f) (hBx:B<=wx.heap.size) (hb:Below wx.heap.size wx w'):GROWING w w' B g d log n j b C Cj f:=by
 have hg:=h.store.lt;have hst:=STEP.below h.store hb;refine ⟨h.store.below hb,(hb.cell (p:=⟨g,5,none⟩) hg).trans h.width,(hb.cell (p:=⟨g,6,none⟩) hg).trans h.size,(World.frozen?_of_block (w:=wx) (by exact hb.block g hg)).trans h.free,h.old,h.new,h.ones,h.held.keep hb,fun hf=>?_,h.step.trans hst.tree,h.below.trans (hb.mono hBx),h.base⟩;rcases hst.foot b hf with h1 | h1
 ·exact h.off h1
 ·have:=h.lt.2.1
  omega
theorem GROWING.moved {w wx:World} {B g:Nat} {d:Int} {log n j b:Nat} {C Cj:z01} {f:Nat->Nat->Nat} (h:GROWING w wx B g d log n j b C Cj f) (hBx:B<=wx.heap.size):
  GROWING w (wx.alloc (.cells (UARR .u8 32 (VAL d f j (n / 2 ^ j))) 25)) B g d log n j wx.heap.size C Cj f:=by
 have hk:=h.keep hBx ((Below.refl _ _).alloc (Nat.le_refl _) (.cells (UARR .u8 32 (VAL d f j (n / 2 ^ j))) 25));refine ⟨hk.store,hk.width,hk.size,hk.free,hk.old,hk.new,hk.ones,Has.new _ _ _,fun hf=>?_,hk.step,hk.below,h.step.size⟩;exact absurd (h.store.foot_lt (h.store.foot_below ((Below.refl wx.heap.size wx).alloc (Nat.le_refl _) _) hf)) (Nat.lt_irrefl _)
theorem GROWING.off_row {w wx:World} {B g:Nat} {d:Int} {log n j b:Nat} {C Cj:z01} {f:Nat->Nat->Nat} (h:GROWING w wx B g d log n j b C Cj f) (hBw:B<=w.heap.size) (y:Nat->Nat):
  STORE (wx.setRow b (UARR .u8 32 y)) B g log (z02 n+1+j) (z02 n+1+j) (z02 n+1+j) Cj/\(∀ i,(wx.setRow b (UARR .u8 32 y)).cell? ⟨g,i,none⟩=wx.cell? ⟨g,i,none⟩)/\(wx.setRow b (UARR .u8 32 y)).frozen? ⟨g,6,none⟩=false/\Has (wx.setRow b (UARR .u8 32 y)) b (UARR .u8 32 y) 25/\¬ FOOT (wx.setRow b (UARR .u8 32 y)) g Cj b/\TSTEP w (wx.setRow b (UARR .u8 32 y)) g C Cj/\Below B w (wx.setRow b (UARR .u8 32 y)):=by
 have hblk:∀ x,x≠b->(wx.setRow b (UARR .u8 32 y)).heap[x]?=wx.heap[x]?:=fun x hx=>setRow_other wx b x _ hx;have hsz:(wx.setRow b (UARR .u8 32 y)).heap.size=wx.heap.size:=by simp
 obtain ⟨hbg,hbl,hgl⟩:=h.lt;obtain ⟨s1,s2,s3⟩:=h.store.same (b:=b) (fun x _ hx=>hblk x hx) h.off (fun e=>hbg e.symm);refine ⟨s1,s3,(World.frozen?_of_block (w:=wx) (by exact hblk g (fun e=>hbg e.symm))).trans h.free,h.held.row _,fun hf=>h.off (s2 b hf),⟨fun x hx=>h.step.foot x (s2 x hx),fun x hx hxg hf=>?_,by rw [hsz];exact h.step.size,(s3 4).trans h.step.pin⟩,z0d h.below (Nat.le_trans hBw h.base) _⟩;have hxb:x≠b:=fun e=>by have:=h.base;omega
 exact (hblk x hxb).trans (h.step.same x hx hxg hf)
theorem z6T {w wx w':World} {B g:Nat} {d:Int} {log n j b:Nat} {C Cj:z01} {f:Nat->Nat->Nat} {y:Nat->Nat}
  (hw5:wx.cell? ⟨g,5,none⟩=some (.int .i64 d)) (hw6:wx.cell? ⟨g,6,none⟩=some (.int .u64 ((n+1:Nat):Int)))
  (hold:∀ h k,(k+1)*2 ^ h<=n->AT Cj log (PLC h k)=some (VAL d f h k)) (hnew:∀ i,i<=j->AT Cj log (z02 n+i)=some (VAL d f i (n / 2 ^ i))) (hones:ONES n (j+1))
  (hheld:Has wx b (UARR .u8 32 y) 25) (hy:y=VAL d f (j+1) (n / 2 ^ (j+1))) (hoff:¬ FOOT wx g Cj b) (hbg:b≠g) (hstep:TSTEP w wx g C Cj) (hbel:Below B w wx) (hbase:w.heap.size<=b)
  (hP:z3y wx B g log (z02 n+1+j) (z02 n+1+j) (z02 n+1+j) Cj y w'):∃ C',GROWING w w' B g d log n (j+1) b C C' f:=by
 obtain ⟨C',s1,s2,s3,s4⟩:=hP;have hbl:=hheld.lt;refine ⟨C',⟨s1,(s3.pins 5 (by decide)).trans hw5,(s3.pins 6 (by decide)).trans hw6,s1.live 6 (by decide),fun h k hk=>?_,fun i hi=>?_,hones,?_,fun hf=>?_,hstep.trans s3.tree,hbel.trans s4,hbase⟩⟩
 ·rw [s2,if_neg ?_]
  ·exact hold h k hk
  ·have h1:=z3l hk
   omega
 ·by_cases e:i=j+1
  ·subst e
   rw [s2,if_pos (by omega),hy]
  ·rw [s2,if_neg (by omega)]
   exact hnew i (by omega)
 ·rw [<-hy]
  exact (s3.same b hbl hbg hoff).trans hheld
 ·rcases s3.foot b hf with h1 | h1
  ·exact hoff h1
  ·omega
end Go.Proofs.YtlbcnaenhghieaaGreatDoor.HX
