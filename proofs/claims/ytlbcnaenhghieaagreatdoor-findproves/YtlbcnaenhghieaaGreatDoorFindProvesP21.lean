/- FindProves: part 21. -/
import Derived.Test.YtlbcnaenhghieaaGreatDoorFindProvesP20
set_option maxHeartbeats 4000000
namespace Go.Proofs.YtlbcnaenhghieaaGreatDoor.HX
open Go.RowKit Go.Maps
set_option maxRecDepth 100000
theorem z9N {P:Program} {ops:Array Oper} {o:Oper} {a:Act} {w:World} {K:Act->World->Prop} {Q:Exit->Act->World->Prop} {E:Prop} (hg:o.guard=none) (m k:Operand) (t tk:TypeId) (hop:o.op=Op.call {callee:=Callee.builtin Builtin.delete,args:=#[m,k],argTypes:=#[t,tk]})
  (mv kv:Value) (hm:a.eval m=mv) (hk:a.eval k=kv) (v:Value) (w':World) (hrun:(Builtin.delete_ #[t,tk] o.type #[mv,kv]).run P w=.ok v w') (hK:K (a.put o.dst v) w'):if Region.wanted o (yielded ops a.tmps)=true then Oper.wp P o a w K Q else E:=by
 have hw:Region.wanted o (yielded ops a.tmps)=true:=by simp [Region.wanted,hg]
 rw [if_pos hw];unfold Oper.wp;simp [execOp,hop,resolve,invoke,builtin,hm,hk,hrun,Result.andThen];exact hK
@[go_sem] def TK4OPSq0:Oper:=⟨some 35,.move (.tmp 6),137,"chunk.go:80",#[],none⟩
@[go_sem] def TK4OPSq1:Oper:=⟨some 36,.nilCheck (.tmp 35),0,"chunk.go:80",#[⟨0,.data⟩],none⟩
@[go_sem] def TK4OPSq2:Oper:=⟨some 37,.fieldAddr 139 (.tmp 36) 1,0,"chunk.go:80",#[⟨1,.data⟩],none⟩
@[go_sem] def TK4OPSq3:Oper:=⟨some 38,.load 36 (.tmp 37),36,"chunk.go:80",#[⟨2,.data⟩],none⟩
@[go_sem] def TK4OPSq4:Oper:=⟨some 39,.move (.tmp 1),36,"chunk.go:80",#[],none⟩
@[go_sem] def TK4OPSq5:Oper:=⟨some 40,.call {callee:=.value (.func 76),args:=#[.tmp 39],argTypes:=#[36]},36,"chunk.go:80",#[⟨4,.data⟩],none⟩
@[go_sem] def TK4OPSq6:Oper:=⟨some 41,.binOp .andNot 36 (.tmp 38) (.tmp 40) 36,36,"chunk.go:80",#[⟨3,.data⟩,⟨5,.data⟩],none⟩
@[go_sem] def TK4OPSq7:Oper:=⟨some 42,.nilCheck (.tmp 35),0,"chunk.go:80",#[⟨0,.data⟩,⟨0,.phase⟩,⟨1,.phase⟩,⟨2,.phase⟩,⟨3,.phase⟩,⟨4,.phase⟩,⟨5,.phase⟩,⟨6,.phase⟩],none⟩
@[go_sem] def TK4OPSq8:Oper:=⟨some 43,.fieldAddr 139 (.tmp 42) 1,0,"chunk.go:80",#[⟨7,.data⟩,⟨0,.phase⟩,⟨1,.phase⟩,⟨2,.phase⟩,⟨3,.phase⟩,⟨4,.phase⟩,⟨5,.phase⟩,⟨6,.phase⟩],none⟩
@[go_sem] def TK4OPSq9:Oper:=⟨none,.store 36 (.tmp 43) (.tmp 41),0,"chunk.go:80",#[⟨8,.data⟩,⟨6,.data⟩,⟨5,.chain⟩,⟨0,.phase⟩,⟨1,.phase⟩,⟨2,.phase⟩,⟨3,.phase⟩,⟨4,.phase⟩,⟨5,.phase⟩,⟨6,.phase⟩],none⟩
def z2c:Array Oper:=#[TK4OPSq0,TK4OPSq1,TK4OPSq2,TK4OPSq3,TK4OPSq4,TK4OPSq5,TK4OPSq6,TK4OPSq7,TK4OPSq8,TK4OPSq9]
theorem zi1 {Q:Exit->Act->World->Prop} (b d f g j k l m n q r u x y z A B C D E F G H I J L M N O P R S T U V X Y Z aa ab ac ad ae af ag ah ai aj ak al am an ao ap aq ar au av:Value) (W:World) (gr i p bt live lb:Nat) (hc1:W.cell? ⟨gr,i*3+1,none⟩=some (.int .u64 (live:Int))) (hf:W.frozen? ⟨gr,i*3+1,none⟩=false) (hor:bits .andNot .u64 (live:Int) (bt:Int)=(lb:Int)) (cB:∀ w,Calls Tryz.prog 76 #[.int .u64 (p:Int)] w fun e w'=>e=.returned (.int .u64 (bt:Int))/\w=w') (hQ:∀ c (a:Act) (t:Tmp) (v:Value) w,Q (.panic c) (a.put (some t) v) w->Q (.panic c) a w)
  (h:Q .normal {tmps:=#[b,.int .u64 (p:Int),d,f,g,j,.pointer (some ⟨gr,i*3,none⟩),k,l,m,n,q,r,u,x,y,z,A,B,C,D,E,F,G,H,I,J,L,M,N,O,P,R,S,T,.pointer (some ⟨gr,i*3,none⟩),.pointer (some ⟨gr,i*3,none⟩),.pointer (some ⟨gr,i*3+1,none⟩),.int .u64 (live:Int),.int .u64 (p:Int),.int .u64 (bt:Int),.int .u64 (lb:Int),.pointer (some ⟨gr,i*3,none⟩),.pointer (some ⟨gr,i*3+1,none⟩),ae,af,ag,ah,ai,aj,ak,al,am,an,ao,ap,aq,ar,au,av],defers:=[]} (World.setCell W.drew ⟨gr,i*3+1,none⟩ (.int .u64 (lb:Int)))):(Code.region 4 z2c true).wp Tryz.prog Q {tmps:=#[b,.int .u64 (p:Int),d,f,g,j,.pointer (some ⟨gr,i*3,none⟩),k,l,m,n,q,r,u,x,y,z,A,B,C,D,E,F,G,H,I,J,L,M,N,O,P,R,S,T,U,V,X,Y,Z,aa,ab,ac,ad,ae,af,ag,ah,ai,aj,ak,al,am,an,ao,ap,aq,ar,au,av],defers:=[]} W:=by
 have d1:W.drew.cell? ⟨gr,i*3+1,none⟩=some (.int .u64 (live:Int)):=hc1;have d2:W.drew.frozen? ⟨gr,i*3+1,none⟩=false:=hf
 have s3_5_6_7_8_9:wpAny Tryz.prog .any z2c Q 0 #[tt,tt,tt,tt,tt,tt,tt,tt,tt,tt] {tmps:=#[b,.int .u64 (p:Int),d,f,g,j,.pointer (some ⟨gr,i*3,none⟩),k,l,m,n,q,r,u,x,y,z,A,B,C,D,E,F,G,H,I,J,L,M,N,O,P,R,S,T,.pointer (some ⟨gr,i*3,none⟩),.pointer (some ⟨gr,i*3,none⟩),.pointer (some ⟨gr,i*3+1,none⟩),.int .u64 (live:Int),.int .u64 (p:Int),.int .u64 (bt:Int),.int .u64 (lb:Int),.pointer (some ⟨gr,i*3,none⟩),.pointer (some ⟨gr,i*3+1,none⟩),ae,af,ag,ah,ai,aj,ak,al,am,an,ao,ap,aq,ar,au,av],defers:=[]} (World.setCell W.drew ⟨gr,i*3+1,none⟩ (.int .u64 (lb:Int))):=by
  exact wpAny_done (by kernel_rfl) h _
 have s3_5_6_7_8:wpAny Tryz.prog .any z2c Q 1 #[tt,tt,tt,tt,tt,tt,tt,tt,tt,ff] {tmps:=#[b,.int .u64 (p:Int),d,f,g,j,.pointer (some ⟨gr,i*3,none⟩),k,l,m,n,q,r,u,x,y,z,A,B,C,D,E,F,G,H,I,J,L,M,N,O,P,R,S,T,.pointer (some ⟨gr,i*3,none⟩),.pointer (some ⟨gr,i*3,none⟩),.pointer (some ⟨gr,i*3+1,none⟩),.int .u64 (live:Int),.int .u64 (p:Int),.int .u64 (bt:Int),.int .u64 (lb:Int),.pointer (some ⟨gr,i*3,none⟩),.pointer (some ⟨gr,i*3+1,none⟩),ae,af,ag,ah,ai,aj,ak,al,am,an,ao,ap,aq,ar,au,av],defers:=[]} W.drew:=by
  refine wpAny_ready (rs:=[9]) (by kernel_rfl) (by simp) ?_;refine AllReady.cons (o:=TK4OPSq9) rfl (fun K hK=>z0L rfl (z10 (z69 d1 d2)) (hK _ _ s3_5_6_7_8_9)) ?_;exact AllReady.nil
 have s3_5_6_7:wpAny Tryz.prog .any z2c Q 2 #[tt,tt,tt,tt,tt,tt,tt,tt,ff,ff] {tmps:=#[b,.int .u64 (p:Int),d,f,g,j,.pointer (some ⟨gr,i*3,none⟩),k,l,m,n,q,r,u,x,y,z,A,B,C,D,E,F,G,H,I,J,L,M,N,O,P,R,S,T,.pointer (some ⟨gr,i*3,none⟩),.pointer (some ⟨gr,i*3,none⟩),.pointer (some ⟨gr,i*3+1,none⟩),.int .u64 (live:Int),.int .u64 (p:Int),.int .u64 (bt:Int),.int .u64 (lb:Int),.pointer (some ⟨gr,i*3,none⟩),ad,ae,af,ag,ah,ai,aj,ak,al,am,an,ao,ap,aq,ar,au,av],defers:=[]} W.drew:=by
  refine wpAny_ready (rs:=[8]) (by kernel_rfl) (by simp) ?_;refine AllReady.cons (o:=TK4OPSq8) rfl (fun K hK=>z07 (v:=.pointer (some ⟨gr,i*3+1,none⟩)) rfl (z08 (by go_simp)) (hK _ _ s3_5_6_7_8)) ?_;exact AllReady.nil
 have s3_5_6:wpAny Tryz.prog .any z2c Q 3 #[tt,tt,tt,tt,tt,tt,tt,ff,ff,ff] {tmps:=#[b,.int .u64 (p:Int),d,f,g,j,.pointer (some ⟨gr,i*3,none⟩),k,l,m,n,q,r,u,x,y,z,A,B,C,D,E,F,G,H,I,J,L,M,N,O,P,R,S,T,.pointer (some ⟨gr,i*3,none⟩),.pointer (some ⟨gr,i*3,none⟩),.pointer (some ⟨gr,i*3+1,none⟩),.int .u64 (live:Int),.int .u64 (p:Int),.int .u64 (bt:Int),.int .u64 (lb:Int),ac,ad,ae,af,ag,ah,ai,aj,ak,al,am,an,ao,ap,aq,ar,au,av],defers:=[]} W.drew:=by
  refine wpAny_ready (rs:=[7]) (by kernel_rfl) (by simp) ?_;refine AllReady.cons (o:=TK4OPSq7) rfl (fun K hK=>z07 (v:=.pointer (some ⟨gr,i*3,none⟩)) rfl rfl (hK _ _ s3_5_6_7)) ?_;exact AllReady.nil
 have s3_5:wpAny Tryz.prog .any z2c Q 4 #[tt,tt,tt,tt,tt,tt,ff,ff,ff,ff] {tmps:=#[b,.int .u64 (p:Int),d,f,g,j,.pointer (some ⟨gr,i*3,none⟩),k,l,m,n,q,r,u,x,y,z,A,B,C,D,E,F,G,H,I,J,L,M,N,O,P,R,S,T,.pointer (some ⟨gr,i*3,none⟩),.pointer (some ⟨gr,i*3,none⟩),.pointer (some ⟨gr,i*3+1,none⟩),.int .u64 (live:Int),.int .u64 (p:Int),.int .u64 (bt:Int),ab,ac,ad,ae,af,ag,ah,ai,aj,ak,al,am,an,ao,ap,aq,ar,au,av],defers:=[]} W.drew:=by
  refine wpAny_ready (rs:=[6]) (by kernel_rfl) (by simp) ?_;refine AllReady.cons (o:=TK4OPSq6) rfl (fun K hK=>z07 (v:=.int .u64 (lb:Int)) rfl (z08 (by go_simp)) (hK _ _ s3_5_6)) ?_;exact AllReady.nil
 have s5:wpAny Tryz.prog .any z2c Q 5 #[tt,tt,tt,ff,tt,tt,ff,ff,ff,ff] {tmps:=#[b,.int .u64 (p:Int),d,f,g,j,.pointer (some ⟨gr,i*3,none⟩),k,l,m,n,q,r,u,x,y,z,A,B,C,D,E,F,G,H,I,J,L,M,N,O,P,R,S,T,.pointer (some ⟨gr,i*3,none⟩),.pointer (some ⟨gr,i*3,none⟩),.pointer (some ⟨gr,i*3+1,none⟩),Y,.int .u64 (p:Int),.int .u64 (bt:Int),ab,ac,ad,ae,af,ag,ah,ai,aj,ak,al,am,an,ao,ap,aq,ar,au,av],defers:=[]} W.drew:=by
  refine wpAny_ready (rs:=[3]) (by kernel_rfl) (by simp) ?_;refine AllReady.cons (o:=TK4OPSq3) rfl (fun K hK=>z07 (v:=.int .u64 (live:Int)) rfl (z08 (z3j d1)) (hK _ _ s3_5)) ?_;exact AllReady.nil
 have s3:wpAny Tryz.prog .any z2c Q 5 #[tt,tt,tt,tt,tt,ff,ff,ff,ff,ff] {tmps:=#[b,.int .u64 (p:Int),d,f,g,j,.pointer (some ⟨gr,i*3,none⟩),k,l,m,n,q,r,u,x,y,z,A,B,C,D,E,F,G,H,I,J,L,M,N,O,P,R,S,T,.pointer (some ⟨gr,i*3,none⟩),.pointer (some ⟨gr,i*3,none⟩),.pointer (some ⟨gr,i*3+1,none⟩),.int .u64 (live:Int),.int .u64 (p:Int),aa,ab,ac,ad,ae,af,ag,ah,ai,aj,ak,al,am,an,ao,ap,aq,ar,au,av],defers:=[]} W.drew:=by
  refine wpAny_ready (rs:=[5]) (by kernel_rfl) (by simp) ?_;refine AllReady.cons (o:=TK4OPSq5) rfl (fun K hK=>?_) ?_
  ·rw [if_pos (by rfl)]
   go_simp;refine (cB (W.drew)).mono ?_;rintro e w' ⟨rfl,rfl⟩;exact hK _ _ s3_5
  exact AllReady.nil
 have s:wpAny Tryz.prog .any z2c Q 6 #[tt,tt,tt,ff,tt,ff,ff,ff,ff,ff] {tmps:=#[b,.int .u64 (p:Int),d,f,g,j,.pointer (some ⟨gr,i*3,none⟩),k,l,m,n,q,r,u,x,y,z,A,B,C,D,E,F,G,H,I,J,L,M,N,O,P,R,S,T,.pointer (some ⟨gr,i*3,none⟩),.pointer (some ⟨gr,i*3,none⟩),.pointer (some ⟨gr,i*3+1,none⟩),Y,.int .u64 (p:Int),aa,ab,ac,ad,ae,af,ag,ah,ai,aj,ak,al,am,an,ao,ap,aq,ar,au,av],defers:=[]} W.drew:=by
  refine wpAny_ready (rs:=[3,5]) (by kernel_rfl) (by simp) ?_;refine AllReady.cons (o:=TK4OPSq3) rfl (fun K hK=>z07 (v:=.int .u64 (live:Int)) rfl (z08 (z3j d1)) (hK _ _ s3)) ?_;refine AllReady.cons (o:=TK4OPSq5) rfl (fun K hK=>?_) ?_
  ·rw [if_pos (by rfl)]
   go_simp;refine (cB (W.drew)).mono ?_;rintro e w' ⟨rfl,rfl⟩;exact hK _ _ s5
  exact AllReady.nil
 refine wp_region_any (by kernel_rfl) ?_;refine tkB TK4OPSq0 (.pointer (some ⟨gr,i*3,none⟩)) 0 hQ ?_;simp only [List.set];refine tkB TK4OPSq1 (.pointer (some ⟨gr,i*3,none⟩)) 1 hQ ?_;simp only [List.set];refine tkB TK4OPSq2 (.pointer (some ⟨gr,i*3+1,none⟩)) 2 hQ ?_;simp only [List.set];refine tkB TK4OPSq4 (.int .u64 (p:Int)) 4 hQ ?_;simp only [List.set];exact s
@[go_sem] def ST1OPSq0:Oper:=⟨some 9,.move (.tmp 0),32,"store.go:212",#[],none⟩
@[go_sem] def ST1OPSq1:Oper:=⟨some 10,.nilCheck (.tmp 9),0,"store.go:212",#[⟨0,.data⟩],none⟩
@[go_sem] def ST1OPSq2:Oper:=⟨some 11,.fieldAddr 63 (.tmp 10) 3,0,"store.go:212",#[⟨1,.data⟩],none⟩
@[go_sem] def ST1OPSq3:Oper:=⟨some 12,.load 60 (.tmp 11),60,"store.go:212",#[⟨2,.data⟩],none⟩
@[go_sem] def ST1OPSq4:Oper:=⟨some 13,.load 113 (.tmp 4),113,"store.go:212",#[],none⟩
@[go_sem] def ST1OPSq5:Oper:=⟨some 14,.lookup 60 (.tmp 12) (.tmp 13) false,115,"store.go:212",#[⟨3,.data⟩,⟨4,.data⟩],none⟩
@[go_sem] def ST1OPSq6:Oper:=⟨some 5,.assign (.tmp 14),115,"store.go:212",#[⟨5,.data⟩,⟨0,.phase⟩,⟨1,.phase⟩,⟨2,.phase⟩,⟨3,.phase⟩,⟨4,.phase⟩,⟨5,.phase⟩],none⟩
def z37:Array Oper:=#[ST1OPSq0,ST1OPSq1,ST1OPSq2,ST1OPSq3,ST1OPSq4,ST1OPSq5,ST1OPSq6]
theorem zhp {Q:Exit->Act->World->Prop} (b d e f i j l m n p q r u x y z A B C D E F G H I J L M N O:Value) (W:World) (g b4 k:Nat) (mv v:Value) (h3:W.cell? ⟨g,3,none⟩=some mv) (h4:Has W b4 #[.int .u64 (k:Int)] 113) (hlook:(Instr.lookup 60 mv (KEY k) false).run Tryz.prog W.drew=.ok v W.drew) (hQ:∀ c (a:Act) (t:Tmp) (v:Value) w,Q (.panic c) (a.put (some t) v) w->Q (.panic c) a w)
  (h:Q .normal {tmps:=#[.pointer (some ⟨g,0,none⟩),b,d,e,.pointer (some ⟨b4,0,none⟩),v,i,j,l,.pointer (some ⟨g,0,none⟩),.pointer (some ⟨g,0,none⟩),.pointer (some ⟨g,3,none⟩),mv,KEY k,v,x,y,z,A,B,C,D,E,F,G,H,I,J,L,M,N,O],defers:=[]} W.drew):(Code.region 1 z37 true).wp Tryz.prog Q {tmps:=#[.pointer (some ⟨g,0,none⟩),b,d,e,.pointer (some ⟨b4,0,none⟩),f,i,j,l,m,n,p,q,r,u,x,y,z,A,B,C,D,E,F,G,H,I,J,L,M,N,O],defers:=[]} W:=by
 have d3:W.drew.cell? ⟨g,3,none⟩=some mv:=h3;have d4:Has W.drew b4 #[.int .u64 (k:Int)] 113:=h4
 have s3_4_5_6:wpAny Tryz.prog .any z37 Q 0 #[tt,tt,tt,tt,tt,tt,tt] {tmps:=#[.pointer (some ⟨g,0,none⟩),b,d,e,.pointer (some ⟨b4,0,none⟩),v,i,j,l,.pointer (some ⟨g,0,none⟩),.pointer (some ⟨g,0,none⟩),.pointer (some ⟨g,3,none⟩),mv,KEY k,v,x,y,z,A,B,C,D,E,F,G,H,I,J,L,M,N,O],defers:=[]} W.drew:=by
  exact wpAny_done (by kernel_rfl) h _
 have s3_4_5:wpAny Tryz.prog .any z37 Q 1 #[tt,tt,tt,tt,tt,tt,ff] {tmps:=#[.pointer (some ⟨g,0,none⟩),b,d,e,.pointer (some ⟨b4,0,none⟩),f,i,j,l,.pointer (some ⟨g,0,none⟩),.pointer (some ⟨g,0,none⟩),.pointer (some ⟨g,3,none⟩),mv,KEY k,v,x,y,z,A,B,C,D,E,F,G,H,I,J,L,M,N,O],defers:=[]} W.drew:=by
  refine wpAny_ready (rs:=[6]) (by kernel_rfl) (by simp) ?_;refine AllReady.cons (o:=ST1OPSq6) rfl (fun K hK=>z07 (v:=v) rfl rfl (hK _ _ s3_4_5_6)) ?_;exact AllReady.nil
 have s3_4:wpAny Tryz.prog .any z37 Q 2 #[tt,tt,tt,tt,tt,ff,ff] {tmps:=#[.pointer (some ⟨g,0,none⟩),b,d,e,.pointer (some ⟨b4,0,none⟩),f,i,j,l,.pointer (some ⟨g,0,none⟩),.pointer (some ⟨g,0,none⟩),.pointer (some ⟨g,3,none⟩),mv,KEY k,u,x,y,z,A,B,C,D,E,F,G,H,I,J,L,M,N,O],defers:=[]} W.drew:=by
  refine wpAny_ready (rs:=[5]) (by kernel_rfl) (by simp) ?_;refine AllReady.cons (o:=ST1OPSq5) rfl (fun K hK=>z07 (v:=v) rfl (z08 (hlook)) (hK _ _ s3_4_5)) ?_;exact AllReady.nil
 have s4:wpAny Tryz.prog .any z37 Q 3 #[tt,tt,tt,ff,tt,ff,ff] {tmps:=#[.pointer (some ⟨g,0,none⟩),b,d,e,.pointer (some ⟨b4,0,none⟩),f,i,j,l,.pointer (some ⟨g,0,none⟩),.pointer (some ⟨g,0,none⟩),.pointer (some ⟨g,3,none⟩),q,KEY k,u,x,y,z,A,B,C,D,E,F,G,H,I,J,L,M,N,O],defers:=[]} W.drew:=by
  refine wpAny_ready (rs:=[3]) (by kernel_rfl) (by simp) ?_;refine AllReady.cons (o:=ST1OPSq3) rfl (fun K hK=>z07 (v:=mv) rfl (z08 (z1J d3)) (hK _ _ s3_4)) ?_;exact AllReady.nil
 have s3:wpAny Tryz.prog .any z37 Q 3 #[tt,tt,tt,tt,ff,ff,ff] {tmps:=#[.pointer (some ⟨g,0,none⟩),b,d,e,.pointer (some ⟨b4,0,none⟩),f,i,j,l,.pointer (some ⟨g,0,none⟩),.pointer (some ⟨g,0,none⟩),.pointer (some ⟨g,3,none⟩),mv,r,u,x,y,z,A,B,C,D,E,F,G,H,I,J,L,M,N,O],defers:=[]} W.drew:=by
  refine wpAny_ready (rs:=[4]) (by kernel_rfl) (by simp) ?_;refine AllReady.cons (o:=ST1OPSq4) rfl (fun K hK=>z07 (v:=KEY k) rfl (z08 (z1K d4)) (hK _ _ s3_4)) ?_;exact AllReady.nil
 have s:wpAny Tryz.prog .any z37 Q 4 #[tt,tt,tt,ff,ff,ff,ff] {tmps:=#[.pointer (some ⟨g,0,none⟩),b,d,e,.pointer (some ⟨b4,0,none⟩),f,i,j,l,.pointer (some ⟨g,0,none⟩),.pointer (some ⟨g,0,none⟩),.pointer (some ⟨g,3,none⟩),q,r,u,x,y,z,A,B,C,D,E,F,G,H,I,J,L,M,N,O],defers:=[]} W.drew:=by
  refine wpAny_ready (rs:=[3,4]) (by kernel_rfl) (by simp) ?_;refine AllReady.cons (o:=ST1OPSq3) rfl (fun K hK=>z07 (v:=mv) rfl (z08 (z1J d3)) (hK _ _ s3)) ?_;refine AllReady.cons (o:=ST1OPSq4) rfl (fun K hK=>z07 (v:=KEY k) rfl (z08 (z1K d4)) (hK _ _ s4)) ?_;exact AllReady.nil
 refine wp_region_any (by kernel_rfl) ?_;refine tkB ST1OPSq0 (.pointer (some ⟨g,0,none⟩)) 0 hQ ?_;simp only [List.set];refine tkB ST1OPSq1 (.pointer (some ⟨g,0,none⟩)) 1 hQ ?_;simp only [List.set];refine tkB ST1OPSq2 (.pointer (some ⟨g,3,none⟩)) 2 hQ ?_;simp only [List.set];exact s
@[go_sem] def ST5OPSq0:Oper:=⟨some 27,.move (.tmp 0),32,"store.go:216",#[],none⟩
@[go_sem] def ST5OPSq1:Oper:=⟨some 28,.nilCheck (.tmp 27),0,"store.go:216",#[⟨0,.data⟩],none⟩
@[go_sem] def ST5OPSq2:Oper:=⟨some 29,.fieldAddr 63 (.tmp 28) 3,0,"store.go:216",#[⟨1,.data⟩],none⟩
@[go_sem] def ST5OPSq3:Oper:=⟨some 30,.load 60 (.tmp 29),60,"store.go:216",#[⟨2,.data⟩],none⟩
@[go_sem] def ST5OPSq4:Oper:=⟨some 31,.load 113 (.tmp 4),113,"store.go:216",#[],none⟩
@[go_sem] def ST5OPSq5:Oper:=⟨none,.call {callee:=.builtin .delete,args:=#[.tmp 30,.tmp 31],argTypes:=#[60,113]},0,"store.go:216",#[⟨3,.data⟩,⟨4,.data⟩],none⟩
def z3z:Array Oper:=#[ST5OPSq0,ST5OPSq1,ST5OPSq2,ST5OPSq3,ST5OPSq4,ST5OPSq5]
theorem zhq {Q:Exit->Act->World->Prop} (d e f i j l m n p q r u x y z A B C D E F G H I J L M N O P:Value) (W:World) (g b4 k b:Nat) (w5:World) (h3:W.cell? ⟨g,3,none⟩=some (.map (some b))) (h4:Has W b4 #[.int .u64 (k:Int)] 113) (hdel:(Builtin.delete_ #[60,113] 0 #[.map (some b),KEY k]).run Tryz.prog W.drew=.ok (.tuple #[]) w5) (hQ:∀ c (a:Act) (t:Tmp) (v:Value) w,Q (.panic c) (a.put (some t) v) w->Q (.panic c) a w)
  (h:Q .normal {tmps:=#[.pointer (some ⟨g,0,none⟩),d,e,f,.pointer (some ⟨b4,0,none⟩),i,j,l,m,n,p,q,r,u,x,y,z,A,B,C,D,E,F,G,H,I,J,.pointer (some ⟨g,0,none⟩),.pointer (some ⟨g,0,none⟩),.pointer (some ⟨g,3,none⟩),.map (some b),KEY k],defers:=[]} (w5)):(Code.region 5 z3z true).wp Tryz.prog Q {tmps:=#[.pointer (some ⟨g,0,none⟩),d,e,f,.pointer (some ⟨b4,0,none⟩),i,j,l,m,n,p,q,r,u,x,y,z,A,B,C,D,E,F,G,H,I,J,L,M,N,O,P],defers:=[]} W:=by
 have d3:W.drew.cell? ⟨g,3,none⟩=some (.map (some b)):=h3;have d4:Has W.drew b4 #[.int .u64 (k:Int)] 113:=h4
 have s3_4_5:wpAny Tryz.prog .any z3z Q 0 #[tt,tt,tt,tt,tt,tt] {tmps:=#[.pointer (some ⟨g,0,none⟩),d,e,f,.pointer (some ⟨b4,0,none⟩),i,j,l,m,n,p,q,r,u,x,y,z,A,B,C,D,E,F,G,H,I,J,.pointer (some ⟨g,0,none⟩),.pointer (some ⟨g,0,none⟩),.pointer (some ⟨g,3,none⟩),.map (some b),KEY k],defers:=[]} (w5):=by
  exact wpAny_done (by kernel_rfl) h _
 have s3_4:wpAny Tryz.prog .any z3z Q 1 #[tt,tt,tt,tt,tt,ff] {tmps:=#[.pointer (some ⟨g,0,none⟩),d,e,f,.pointer (some ⟨b4,0,none⟩),i,j,l,m,n,p,q,r,u,x,y,z,A,B,C,D,E,F,G,H,I,J,.pointer (some ⟨g,0,none⟩),.pointer (some ⟨g,0,none⟩),.pointer (some ⟨g,3,none⟩),.map (some b),KEY k],defers:=[]} W.drew:=by
  refine wpAny_ready (rs:=[5]) (by kernel_rfl) (by simp) ?_;refine AllReady.cons (o:=ST5OPSq5) rfl (fun K hK=>z9N rfl (.tmp 30) (.tmp 31) 60 113 rfl (.map (some b)) (KEY k) rfl rfl (.tuple #[]) w5 hdel (hK _ _ s3_4_5)) ?_;exact AllReady.nil
 have s4:wpAny Tryz.prog .any z3z Q 2 #[tt,tt,tt,ff,tt,ff] {tmps:=#[.pointer (some ⟨g,0,none⟩),d,e,f,.pointer (some ⟨b4,0,none⟩),i,j,l,m,n,p,q,r,u,x,y,z,A,B,C,D,E,F,G,H,I,J,.pointer (some ⟨g,0,none⟩),.pointer (some ⟨g,0,none⟩),.pointer (some ⟨g,3,none⟩),O,KEY k],defers:=[]} W.drew:=by
  refine wpAny_ready (rs:=[3]) (by kernel_rfl) (by simp) ?_;refine AllReady.cons (o:=ST5OPSq3) rfl (fun K hK=>z07 (v:=.map (some b)) rfl (z08 (z1J d3)) (hK _ _ s3_4)) ?_;exact AllReady.nil
 have s3:wpAny Tryz.prog .any z3z Q 2 #[tt,tt,tt,tt,ff,ff] {tmps:=#[.pointer (some ⟨g,0,none⟩),d,e,f,.pointer (some ⟨b4,0,none⟩),i,j,l,m,n,p,q,r,u,x,y,z,A,B,C,D,E,F,G,H,I,J,.pointer (some ⟨g,0,none⟩),.pointer (some ⟨g,0,none⟩),.pointer (some ⟨g,3,none⟩),.map (some b),P],defers:=[]} W.drew:=by
  refine wpAny_ready (rs:=[4]) (by kernel_rfl) (by simp) ?_;refine AllReady.cons (o:=ST5OPSq4) rfl (fun K hK=>z07 (v:=KEY k) rfl (z08 (z1K d4)) (hK _ _ s3_4)) ?_;exact AllReady.nil
 have s:wpAny Tryz.prog .any z3z Q 3 #[tt,tt,tt,ff,ff,ff] {tmps:=#[.pointer (some ⟨g,0,none⟩),d,e,f,.pointer (some ⟨b4,0,none⟩),i,j,l,m,n,p,q,r,u,x,y,z,A,B,C,D,E,F,G,H,I,J,.pointer (some ⟨g,0,none⟩),.pointer (some ⟨g,0,none⟩),.pointer (some ⟨g,3,none⟩),O,P],defers:=[]} W.drew:=by
  refine wpAny_ready (rs:=[3,4]) (by kernel_rfl) (by simp) ?_;refine AllReady.cons (o:=ST5OPSq3) rfl (fun K hK=>z07 (v:=.map (some b)) rfl (z08 (z1J d3)) (hK _ _ s3)) ?_;refine AllReady.cons (o:=ST5OPSq4) rfl (fun K hK=>z07 (v:=KEY k) rfl (z08 (z1K d4)) (hK _ _ s4)) ?_;exact AllReady.nil
 refine wp_region_any (by kernel_rfl) ?_;refine tkB ST5OPSq0 (.pointer (some ⟨g,0,none⟩)) 0 hQ ?_;simp only [List.set];refine tkB ST5OPSq1 (.pointer (some ⟨g,0,none⟩)) 1 hQ ?_;simp only [List.set];refine tkB ST5OPSq2 (.pointer (some ⟨g,3,none⟩)) 2 hQ ?_;simp only [List.set];exact s
def TOOK (w w':World) (B g gr cap i m gh ch n1 lb:Nat) (xs ys:List Value):Prop:=
 ((lb≠0/\Has w' g #[.slice (some ⟨gr,0,none⟩) m cap] 128/\w'.ownsRow B 139 3 (.slice (some ⟨gr,0,none⟩) m cap) m xs)\/
   (lb=0/\Has w' g #[.slice (some ⟨gr,0,none⟩) (m - 1) cap] 128/\w'.ownsRow B 139 3 (.slice (some ⟨gr,0,none⟩) (m - 1) cap) (m - 1) (xs.take (i*3) ++ xs.drop ((i+1)*3))))/\
 w'.ownsRow B 25 32 (.slice (some ⟨gh,0,none⟩) n1 ch) n1 ys/\w.heap.size<=w'.heap.size/\Below B w w'/\∀ b,b<w.heap.size->b≠g->b≠gr->b≠gh->w'.heap[b]?=w.heap[b]?
theorem z2n {w w':World} {B s n cap b:Nat} {t:TypeId} {xs:List Value} (h:w.ownsRow B t s (.slice (some ⟨b,0,none⟩) n cap) n xs) (hb:w'.heap[b]?=w.heap[b]?):w'.ownsRow B t s (.slice (some ⟨b,0,none⟩) n cap) n xs:=z35 h fun b' e=>by cases e;exact hb
theorem zaP {xs:List Value} (h:∀ u∈xs,u.oneCell'=true) (j:Nat) (v:Value) (hv:v.oneCell'=true):∀ u∈xs.set j v,u.oneCell'=true:=fun u hu=>by
 rcases List.mem_or_eq_of_mem_set hu with h1 | h1
 ·exact h u h1
 ·rw [h1];exact hv
theorem zf7 (B g gr i m cap p k live lb n0 n1 rk r1 gh ch:Nat) (xs ys:List Value) (w:World) (hbx:Has w g #[.slice (some ⟨gr,0,none⟩) m cap] 128) (hrow:w.ownsRow B 139 3 (.slice (some ⟨gr,0,none⟩) m cap) m xs) (him:i<m)
  (hl:xs[i*3+1]?=some (.int .u64 (live:Int))) (hhv:xs[i*3+2]?=some (.slice (some ⟨gh,0,none⟩) n0 ch)) (hown:w.ownsRow B 25 32 (.slice (some ⟨gh,0,none⟩) n0 ch) n0 ys) (hrk:RK live k=rk) (hr1:rk+1=r1) (hn1:n0 - 1=n1) (hrn:rk<n0) (hn0:n0<=1000) (hlive:live<2 ^ 64) (hk:p % 64=k) (hp:p<2 ^ 64) (hBg:B<=g)
  (hlb:bits .andNot .u64 (live:Int) ((2 ^ k:Nat):Int)=(lb:Int)) (hy1:∀ u∈ys,u.oneCell'=true) (hx1:∀ u∈xs,u.oneCell'=true) (hne:gh≠gr/\g≠gr/\g≠gh)
  (cf:Calls Tryz.prog 74 #[.pointer (some ⟨g,0,none⟩),.int .u64 (p:Int)] w fun e w'=>e=.returned (.tuple #[.int .i64 (i:Int),.bool true])/\Below w.heap.size w w'):
  Calls Tryz.prog 54 #[.pointer (some ⟨g,0,none⟩),.int .u64 (p:Int)] w fun e w'=>(∃ v,e=.returned v)/\TOOK w w' B g gr cap i m gh ch n1 lb ((xs.set (i*3+2) (.slice (some ⟨gh,0,none⟩) n1 ch)).set (i*3+1) (.int .u64 (lb:Int))) (ys.take (rk*32) ++ ys.drop (r1*32)):=by
 have him':(i:Int)<(m:Int):=by omega
 have H:Aside (Has w g #[.slice (some ⟨gr,0,none⟩) m cap] 128/\w.ownsRow B 139 3 (.slice (some ⟨gr,0,none⟩) m cap) m xs/\i<m/\xs[i*3+1]?=some (.int .u64 (live:Int))/\xs[i*3+2]?=some (.slice (some ⟨gh,0,none⟩) n0 ch)/\w.ownsRow B 25 32 (.slice (some ⟨gh,0,none⟩) n0 ch) n0 ys/\(RK live k=rk/\rk+1=r1/\n0 - 1=n1/\rk<n0/\n0<=1000)/\live<2 ^ 64/\p % 64=k/\p<2 ^ 64/\B<=g/\(∀ u∈ys,u.oneCell'=true)/\(∀ u∈xs,u.oneCell'=true)/\gh≠gr/\g≠gr/\g≠gh):=⟨hbx,hrow,him,hl,hhv,hown,⟨hrk,hr1,hn1,hrn,hn0⟩,hlive,hk,hp,hBg,hy1,hx1,hne.1,hne.2.1,hne.2.2⟩
 have HB:Aside (bits .andNot .u64 (live:Int) ((2 ^ k:Nat):Int)=(lb:Int)):=hlb;clear hbx hrow him hl hhv hown hrk hr1 hn1 hrn hn0 hlive hk hp hBg hlb hy1 hx1 hne;go_enter Tryz.func54,Tryz.ntmps54;go_wp2_with fail
 refine cf.mono ?_;rintro e w1 ⟨rfl,hb1⟩;clear cf;obtain ⟨a1,a2,a3,a4,a5,a6,⟨a7,a8,a9,a10,a11⟩,a12,a13,a14,a15,a16,a17,a18,a19,a20⟩:=H.out;have hbx1:=a1.keep hb1;have hrow1:=z2l a2 hb1;have hown1:=z2l a6 hb1;have hcb:=hbx1.cell 0;obtain ⟨x1,x2,x3,x4⟩:=z0O hrow1 a4;obtain ⟨y1,y2,y3,y4⟩:=z0O hrow1 a5;have hkk:k<64:=by rw [<-a13];exact Nat.mod_lt _ (by decide)
 have cB:∀ w,Calls Tryz.prog 76 #[.int .u64 (p:Int)] w fun e w'=>e=.returned (.int .u64 ((2 ^ k:Nat):Int))/\w=w':=fun w=>by have:=z3V p a14 w;rw [a13] at this;exact this
 have cR:Calls Tryz.prog 75 #[.pointer (some ⟨gr,i*3,none⟩),.int .u64 ((2 ^ k:Nat):Int)] w1 fun e w'=>e=.returned (.int .i64 (rk:Int))/\w1=w':=by
  have:=z4V gr (i*3) live k a12 hkk w1 x1;rw [z4W (by omega),a7] at this;exact this
 have cD:=zbP B gh n0 ch rk r1 n1 ys w1 hown1 a16 a10 a8 a9;have hwr:wrap64 ((rk:Int)+1)=(r1:Int):=by unfold wrap64;omega
 have hwr2:IntKind.i64.wrap ((rk:Int)+1)=(r1:Int):=(IntWalk.i64_left _).trans hwr
 have hwi:Aside (wrap64 ((i:Int)+1)=((i+1:Nat):Int)):=by
  have:=(z3Z hrow1).2.2;show wrap64 _=_;unfold wrap64;unfold maxLen at this;omega
 have hb2k:Aside (2 ^ k<2 ^ 64):=Nat.pow_lt_pow_right (by decide) hkk;obtain ⟨bt,hbt⟩:∃ bt,2 ^ k=bt:=⟨_,rfl⟩
 have HBT:Aside (bits .andNot .u64 (live:Int) (bt:Int)=(lb:Int)):=by rw [<-hbt];exact HB.out
 rw [hbt] at cB cR;have HH:Aside (Has w1 g #[.slice (some ⟨gr,0,none⟩) m cap] 128/\w1.ownsRow B 139 3 (.slice (some ⟨gr,0,none⟩) m cap) m xs/\Below w.heap.size w w1/\g<w.heap.size/\gr<w.heap.size/\gh<w.heap.size):=⟨hbx1,hrow1,hb1,a1.lt,(z0O a2 a4).2.2.1,(z3Z a6).2.2.2.2.1⟩
 clear a1 a2 a3 a4 a5 a6 a7 a8 a9 a10 a11 a12 a13 a14 a15 a16 a17 a18 a19 a20 hbx1 hrow1 hown1 hbt hkk x2 x3 x4 y2 y3 y4 hb1
 go_wp2_with (first
  | (refine (cB _).mono ?_;rintro e w' ⟨rfl,rfl⟩)
  | (refine cR.mono ?_;rintro e w' ⟨rfl,rfl⟩)
  | fail)
 refine cD.mono ?_;rintro e w2 ⟨rfl,d1,d2,d3⟩;clear cD cR hwr hwr2 hcb x1 y1;obtain ⟨b1,b2,b3,b4,b5,b6⟩:=HH.out;obtain ⟨a1,a2,a3,a4,a5,a6, -,a12,a13,a14,a15,a16,a17,a18,a19,a20⟩:=H.out;have hbx2:Has w2 g #[.slice (some ⟨gr,0,none⟩) m cap] 128:=(d2 g a20).trans b1;have hrow2:=z2n b2 (d2 gr (fun e=>a18 e.symm));obtain ⟨x1,x2,x3,x4⟩:=z0O hrow2 a4;obtain ⟨y1,y2,y3,y4⟩:=z0O hrow2 a5;have hrow3:=z2S hrow2 (i*3+2) (.slice (some ⟨gh,0,none⟩) n1 ch);obtain ⟨w3,hw3⟩:∃ w3,w2.setCell ⟨gr,i*3+2,none⟩ (.slice (some ⟨gh,0,none⟩) n1 ch)=w3:=⟨_,rfl⟩
 rw [hw3] at hrow3;have hset3:∀ b,b≠gr->w3.heap[b]?=w2.heap[b]?:=fun b hb=>by rw [<-hw3];exact Below.heap_setCell _ _ _ b (by exact hb)
 have hbx3:Has w3 g #[.slice (some ⟨gr,0,none⟩) m cap] 128:=(hset3 g a19).trans hbx2;have hown3:=z2n d1 (hset3 gh a18);have l3:(xs.set (i*3+2) (.slice (some ⟨gh,0,none⟩) n1 ch))[i*3+1]?=some (.int .u64 (live:Int)):=by rw [List.getElem?_set_ne (by omega)];exact a4
 obtain ⟨z1,z2, -,z4⟩:=z0O hrow3 l3;have hB3:Below B w w3:=by rw [<-hw3];exact ((b3.mono (by omega)).trans d3).setCell (p:=⟨gr,i*3+2,none⟩) z4 _
 have HT:Aside (Has w3 g #[.slice (some ⟨gr,0,none⟩) m cap] 128/\w3.ownsRow B 139 3 (.slice (some ⟨gr,0,none⟩) m cap) m (xs.set (i*3+2) (.slice (some ⟨gh,0,none⟩) n1 ch))/\w3.ownsRow B 25 32 (.slice (some ⟨gh,0,none⟩) n1 ch) n1 (ys.take (rk*32) ++ ys.drop (r1*32))/\Below B w w3/\(∀ b,b<w.heap.size->b≠g->b≠gr->b≠gh->w3.heap[b]?=w.heap[b]?)/\B<=gr):=⟨hbx3,hrow3,hown3,hB3,fun b hb _ h1 h2=>(hset3 b h1).trans ((d2 b h2).trans (b3.block b hb)),z4⟩
 clear hbx2 hrow2 hrow3 hset3 hbx3 hown3 hB3 d1 d2 d3 x1 x2 x3 x4 y3 y4 b1 b2 b3 b4 b5 b6 a1 a2 a3 a4 a5 a6 a12 a13 a14 a15 a16 a17 a18 a19 a20 l3 z4;go_upto_region 4 with fail
 refine zi1 _ _ _ _ _ _ _ _ _ _ _ _ _ _ _ _ _ _ _ _ _ _ _ _ _ _ _ _ _ _ _ _ _ _ _ _ _ _ _ _ _ _ _ _ _ _ _ _ _ _ _ _ _ _ _ _ _ _ w3 gr i p bt live lb z1 z2 HBT.out cB (fun _ _ _ _ _ h=>h) ?_;dsimp only;clear cB hw3 y1 y2 z1 z2;obtain ⟨c1,c2,c3,c4,c5,c6⟩:=HT.out;have c2':w3.drew.ownsRow B 139 3 (.slice (some ⟨gr,0,none⟩) m cap) m (xs.set (i*3+2) (.slice (some ⟨gh,0,none⟩) n1 ch)):=c2;have hrow4:=z2S c2' (i*3+1) (.int .u64 (lb:Int));obtain ⟨w4,hw4⟩:∃ w4,w3.drew.setCell ⟨gr,i*3+1,none⟩ (.int .u64 (lb:Int))=w4:=⟨_,rfl⟩
 rw [hw4] at hrow4 ⊢;obtain ⟨xs1,hxs1⟩:∃ xs1,(xs.set (i*3+2) (.slice (some ⟨gh,0,none⟩) n1 ch)).set (i*3+1) (.int .u64 (lb:Int))=xs1:=⟨_,rfl⟩
 rw [hxs1] at hrow4;have HX:Aside ((xs.set (i*3+2) (.slice (some ⟨gh,0,none⟩) n1 ch)).set (i*3+1) (.int .u64 (lb:Int))=xs1):=hxs1
 have hone:Aside (∀ u∈xs1,u.oneCell'=true):=by
  rw [<-hxs1];exact zaP (zaP H.out.2.2.2.2.2.2.2.2.2.2.2.2.1 _ _ rfl) _ _ rfl
 have hset4:∀ b,b≠gr->w4.heap[b]?=w3.heap[b]?:=fun b hb=>by rw [<-hw4];exact Below.heap_setCell _ _ _ b (by exact hb)
 have hlen:i*3+1<xs.length:=(List.getElem?_eq_some_iff.1 H.out.2.2.2.1).1;have l4:xs1[i*3+1]?=some (.int .u64 (lb:Int)):=by rw [<-hxs1,List.getElem?_set_self (by simpa using hlen)]
 obtain ⟨z1,z2, -, -⟩:=z0O hrow4 l4;obtain ⟨a1,a2,a3,a4,a5,a6, -,a12,a13,a14,a15,a16,a17,a18,a19,a20⟩:=H.out;have hbx4:Has w4 g #[.slice (some ⟨gr,0,none⟩) m cap] 128:=(hset4 g a19).trans c1;have hown4:=z2n c3 (hset4 gh a18);have hB4:Below B w w4:=by rw [<-hw4];exact c4.drew.setCell (p:=⟨gr,i*3+1,none⟩) c6 _
 have hfr4:∀ b,b<w.heap.size->b≠g->b≠gr->b≠gh->w4.heap[b]?=w.heap[b]?:=fun b h1 h2 h3 h4=>(hset4 b h3).trans (c5 b h1 h2 h3 h4);by_cases hz:lb=0
 ·have hzb:((lb:Int) == 0)=true:=by simp;omega
  obtain ⟨i1,hi1⟩:∃ i1,i+1=i1:=⟨_,rfl⟩
  obtain ⟨m1,hm1⟩:∃ m1,m - 1=m1:=⟨_,rfl⟩
  have cD:=zbQ B gr m cap i i1 m1 xs1 w4 hrow4 hone.out a3 hi1 hm1;have hcb:=hbx4.cell 0;have hwi1:wrap64 ((i:Int)+1)=(i1:Int):=by rw [<-hi1];exact hwi.out
  have hwi2:IntKind.i64.wrap ((i:Int)+1)=(i1:Int):=(IntWalk.i64_left _).trans hwi1;have HI:Aside (i+1=i1/\m - 1=m1/\lb=0):=⟨hi1,hm1,hz⟩
  have HF:Aside (Has w4 g #[.slice (some ⟨gr,0,none⟩) m cap] 128/\w4.ownsRow B 25 32 (.slice (some ⟨gh,0,none⟩) n1 ch) n1 (ys.take (rk*32) ++ ys.drop (r1*32))/\Below B w w4/\∀ b,b<w.heap.size->b≠g->b≠gr->b≠gh->w4.heap[b]?=w.heap[b]?):=⟨hbx4,hown4,hB4,hfr4⟩
  clear c1 c2 c3 c4 c5 c6 c2' hrow4 hset4 a1 a2 a3 a4 a5 a6 a12 a13 a14 a15 a16 a17 a18 a19 a20 hbx4 hown4 hB4 hfr4 hz l4 hlen hxs1 hw4 hi1 hm1 z2;go_wp2_with fail
  refine cD.mono ?_;rintro e w5 ⟨rfl,d1,d2,d3⟩;clear cD;obtain ⟨f1,f2,f3,f4⟩:=HF.out;obtain ⟨a1,a2,a3,a4,a5,a6, -,a12,a13,a14,a15,a16,a17,a18,a19,a20⟩:=H.out;have hbx5:Has w5 g #[.slice (some ⟨gr,0,none⟩) m cap] 128:=(d2 g a19).trans f1;have hbx6:Has (w5.setCell ⟨g,0,none⟩ (.slice (some ⟨gr,0,none⟩) m1 cap)) g #[.slice (some ⟨gr,0,none⟩) m1 cap] 128:=hbx5.set 0 _;have hset6:∀ b,b≠g->(w5.setCell ⟨g,0,none⟩ (.slice (some ⟨gr,0,none⟩) m1 cap)).heap[b]?=w5.heap[b]?:=fun b hb=>Below.heap_setCell _ _ _ b (by exact hb)
  have E:Aside (TOOK w (w5.setCell ⟨g,0,none⟩ (.slice (some ⟨gr,0,none⟩) m1 cap)) B g gr cap i m gh ch n1 lb xs1 (ys.take (rk*32) ++ ys.drop (r1*32))):=by
   have hB6:Below B w (w5.setCell ⟨g,0,none⟩ (.slice (some ⟨gr,0,none⟩) m1 cap)):=(f3.trans d3).setCell (p:=⟨g,0,none⟩) a15 _;refine ⟨.inr ⟨HI.out.2.2,by rw [HI.out.2.1];exact hbx6,?_⟩,z2n (z2n f2 (d2 gh a18)) (hset6 gh (fun e=>a20 e.symm)),hB6.size,hB6,fun b h1 h2 h3 h4=>(hset6 b h2).trans ((d2 b h3).trans (f4 b h1 h2 h3 h4))⟩;rw [HI.out.2.1,HI.out.1];exact z2n d1 (hset6 gr (fun e=>a19 e.symm))
  have k1:=hbx5.cell 0;have k2:=hbx5.frozen 0;clear f1 f2 f3 f4 a1 a2 a3 a4 a5 a6 a12 a13 a14 a15 a16 a17 a18 a19 a20 d1 d2 d3 hset6 hbx6 hbx5 hwi1 hwi2 hcb z1 hzb;go_wp2;go_end0
  rw [HX.out];exact ⟨⟨_,rfl⟩,E.out⟩
 ·have hzb:((lb:Int) == 0)=false:=by simp;omega
  have E:Aside (TOOK w w4 B g gr cap i m gh ch n1 lb xs1 (ys.take (rk*32) ++ ys.drop (r1*32))):=⟨.inl ⟨hz,hbx4,hrow4⟩,hown4,hB4.size,hB4,hfr4⟩
  clear c1 c2 c3 c4 c5 c6 c2' hrow4 hset4 a1 a2 a3 a4 a5 a6 a12 a13 a14 a15 a16 a17 a18 a19 a20 hbx4 hown4 hB4 hfr4 hz l4 hlen hxs1 hw4;go_wp2;go_end0
  rw [HX.out];exact ⟨⟨_,rfl⟩,E.out⟩
def CLR (X k:Nat):Nat:=X &&& (2 ^ 64 - 1 - 2 ^ k)
theorem zf8 {k j:Nat} (hk:k<64):(2 ^ 64 - 1 - 2 ^ k).testBit j=(decide (j<64) && !decide (k=j)):=by
 have h2:2 ^ 64 - 1 - 2 ^ k=2 ^ 64 - (2 ^ k+1):=by omega
 rw [h2,Nat.testBit_two_pow_sub_succ (Nat.pow_lt_pow_right (by decide) hk),Nat.testBit_two_pow]
theorem z2T {X k j:Nat} (hX:X<2 ^ 64) (hk:k<64):(CLR X k).testBit j=(X.testBit j && !decide (k=j)):=by
 unfold CLR;rw [Nat.testBit_and,zf8 hk];by_cases h:j<64
 ·simp [h]
 ·have:X.testBit j=false:=Nat.testBit_lt_two_pow (Nat.lt_of_lt_of_le hX (Nat.pow_le_pow_right (by decide) (by omega)))
  simp [this]
theorem zdo {X k:Nat} (hX:X<2 ^ 64):CLR X k<2 ^ 64:=Nat.lt_of_le_of_lt Nat.and_le_left hX
theorem zdp {X k:Nat} (hX:X<2 ^ 64) (hk:k<64) (h:X.testBit k=true):CLR X k ||| 2 ^ k=X:=by
 apply Nat.eq_of_testBit_eq;intro j;rw [z4E,z2T hX hk];by_cases e:k=j
 ·subst e;simp [h]
 ·simp [e]
theorem zdq {X k:Nat} (hX:X<2 ^ 64) (hk:k<64):(CLR X k).testBit k=false:=by rw [z2T hX hk];simp
theorem zdr {X k:Nat} (hX:X<2 ^ 64) (hk:k<64) (h:X.testBit k=true) (j:Nat):RK X j=RK (CLR X k) j+if k<j then 1 else 0:=by
 have:=z7M (zdq hX hk) j;rw [zdp hX hk h] at this;exact this
theorem zgy {X k:Nat} (hX:X<2 ^ 64) (hk:k<64) (h:X.testBit k=true):POP X=POP (CLR X k)+1:=by
 have:=zdm (zdq hX hk) hk;rw [zdp hX hk h] at this;exact this
theorem zgz {X k:Nat} (hX:X<2 ^ 64) (hk:k<64):bits .andNot .u64 (X:Int) ((2 ^ k:Nat):Int)=((CLR X k:Nat):Int):=by
 unfold CLR;have h2:2 ^ k<2 ^ 64:=Nat.pow_lt_pow_right (by decide) hk;exact u64_andNot_nat X (2 ^ k) (by omega) (by omega)
theorem z4F {α:Type} (f:α->List Value) (s:Nat) (hf:∀ x,(f x).length=s):∀ (l:List α) (i:Nat),(l.flatMap f).take (i*s)=(l.take i).flatMap f
 | [],i=>by simp
 | x :: l,0=>by simp
 | x :: l,i+1=>by
   rw [List.flatMap_cons,List.take_succ_cons,List.flatMap_cons,Nat.succ_mul,List.take_append,hf,List.take_of_length_le (by rw [hf];omega),Nat.add_sub_cancel,z4F f s hf l i]
theorem z4G {α:Type} (f:α->List Value) (s:Nat) (hf:∀ x,(f x).length=s):∀ (l:List α) (i:Nat),(l.flatMap f).drop (i*s)=(l.drop i).flatMap f
 | [],i=>by simp
 | x :: l,0=>by simp
 | x :: l,i+1=>by
   rw [List.flatMap_cons,List.drop_succ_cons,Nat.succ_mul,<-z4G f s hf l i,List.drop_append,hf,List.drop_of_length_le (by rw [hf];omega),Nat.add_sub_cancel,List.nil_append]
theorem zhr (hs:List (Nat->Nat)) (k:Nat):(HL hs).take (k*32) ++ (HL hs).drop ((k+1)*32)=HL (hs.eraseIdx k):=by
 unfold HL;rw [z4F _ 32 (fun _=>z0a _ _ _),z4G _ 32 (fun _=>z0a _ _ _),List.eraseIdx_eq_take_drop_succ,List.flatMap_append]
theorem zhs (rs:List ROW) (i:Nat):(RC rs).take (i*3) ++ (RC rs).drop ((i+1)*3)=RC (rs.eraseIdx i):=by
 unfold RC;rw [z4F _ 3 (fun _=>rfl),z4G _ 3 (fun _=>rfl),List.eraseIdx_eq_take_drop_succ,List.flatMap_append]
theorem zds:∀ (rs:List ROW) (i:Nat) (r r':ROW),rs[i]?=some r->r'.num=r.num->RC (rs.set i r')=((RC rs).set (i*3+2) r'.v).set (i*3+1) (.int .u64 (r'.live:Int))
 | [],_,_,_,h,_=>by simp at h
 | x :: rs,0,r,r',h,hn=>by
   simp at h;subst h;simp [RC,hn]
 | x :: rs,i+1,r,r',h,hn=>by
   have ih:=zds rs i r r' (by simpa using h) hn;have e1:RC (x :: rs)=[.int .u64 (x.num:Int),.int .u64 (x.live:Int),x.v] ++ RC rs:=by simp [RC]
   have e2:RC ((x :: rs).set (i+1) r')=[.int .u64 (x.num:Int),.int .u64 (x.live:Int),x.v] ++ RC (rs.set i r'):=by simp [RC]
   rw [e2,e1,ih,List.set_append_right _ _ (by simp;omega),List.set_append_right _ _ (by simp;omega)];simp only [List.length_cons,List.length_nil];rw [show (i+1)*3+2 - (0+1+1+1)=i*3+2 by omega,show (i+1)*3+1 - (0+1+1+1)=i*3+1 by omega]
theorem zht {rs:List ROW}:∀ u∈RC rs,u.oneCell'=true:=fun u hu=>by
 simp only [RC,List.mem_flatMap] at hu;obtain ⟨r,_,hu⟩:=hu;simp at hu;rcases hu with rfl | rfl | rfl <;> rfl
theorem zhu {hs:List (Nat->Nat)}:∀ u∈HL hs,u.oneCell'=true:=fun u hu=>by
 simp only [HL,List.mem_flatMap] at hu;obtain ⟨r,_,hu⟩:=hu;exact z3h _ _ _ u hu
def FEWER (rs rs':List ROW) (i:Nat) (r':ROW):Prop:=∃ φ:Nat->Nat,(∀ a b,a<b->φ a<φ b)/\(∀ j s,rs'[j]?=some s->(φ j≠i/\rs[φ j]?=some s)\/(φ j=i/\s=r'/\r'.live≠0))/\(∀ j s,j≠i->rs[j]?=some s->s∈rs')/\(r'.live≠0->r'∈rs')/\rs'.length<=rs.length
theorem zdt {rs:List ROW} {i:Nat} {r':ROW} (hi:i<rs.length) (h:r'.live≠0):FEWER rs (rs.set i r') i r':=by
 refine ⟨fun j=>j,fun a b h=>h,fun j s hs=>?_,fun j s hj hs=>?_,fun _=>List.mem_set hi r',by simp⟩
 ·by_cases e:i=j
  ·subst e
   rw [List.getElem?_set_self hi] at hs;exact .inr ⟨rfl,(Option.some.inj hs).symm,h⟩
  ·rw [List.getElem?_set_ne e] at hs
   exact .inl ⟨fun h=>e h.symm,hs⟩
 ·have:(rs.set i r')[j]?=some s:=by rw [List.getElem?_set_ne (fun e=>hj e.symm)];exact hs
  exact List.mem_of_getElem? this
theorem z9O {rs:List ROW} {i:Nat} {r':ROW} (hi:i<rs.length) (h:r'.live=0):FEWER rs (rs.eraseIdx i) i r':=by
 refine ⟨fun j=>if j<i then j else j+1,fun a b h=>?_,fun j s hs=>.inl ?_,fun j s hj hs=>?_,fun h'=>absurd h h',by rw [List.length_eraseIdx];split <;> omega⟩
 ·dsimp only
  split <;> split <;> omega
 ·rw [List.getElem?_eraseIdx] at hs
  dsimp only;split
  ·rename_i e
   rw [if_pos e] at hs;exact ⟨by omega,hs⟩
  ·rename_i e
   rw [if_neg e] at hs;exact ⟨by omega,hs⟩
 ·by_cases e:j<i
  ·have:(rs.eraseIdx i)[j]?=some s:=by rw [List.getElem?_eraseIdx,if_pos e];exact hs
   exact List.mem_of_getElem? this
  ·have:(rs.eraseIdx i)[j - 1]?=some s:=by rw [List.getElem?_eraseIdx,if_neg (by omega),show j - 1+1=j by omega];exact hs
   exact List.mem_of_getElem? this
abbrev RISE (rs:List ROW):Prop:=∀ (i j:Nat) (r s:ROW),i<j->rs[i]?=some r->rs[j]?=some s->r.num<s.num
theorem FEWER.rise {rs rs':List ROW} {i:Nat} {r r':ROW} (h:FEWER rs rs' i r') (hr:rs[i]?=some r) (hn:r'.num=r.num) (hR:RISE rs):RISE rs':=fun a b x y hab hx hy=>by
 obtain ⟨φ,m,f,_⟩:=h;have hm:=m a b hab
 have key:∀ j s,rs'[j]?=some s->∃ s0,rs[φ j]?=some s0/\s0.num=s.num:=fun j s hs=>by
  rcases f j s hs with ⟨_,h1⟩ | ⟨h1,h2,_⟩
  ·exact ⟨s,h1,rfl⟩
  ·exact ⟨r,by rw [h1];exact hr,by rw [h2,hn]⟩
 obtain ⟨x0,hx0,ex⟩:=key a x hx;obtain ⟨y0,hy0,ey⟩:=key b y hy;rw [<-ex,<-ey];exact hR _ _ _ _ hm hx0 hy0
theorem z5x {rs:List ROW} {p:Nat} {s:ROW} (hR:RISE rs) (hs:s∈rs) (hn:s.num=p / 64):LOOK rs p=if s.live.testBit (p % 64) then s.hs[RK s.live (p % 64)]? else none:=by
 obtain ⟨j,hj⟩:=List.getElem?_of_mem hs;exact z6K hj hn hR
theorem FEWER.back {rs rs':List ROW} {i:Nat} {r' s:ROW} (h:FEWER rs rs' i r') (hs:s∈rs'):(∃ j,j≠i/\rs[j]?=some s)\/(s=r'/\r'.live≠0):=by
 obtain ⟨φ,m,f,_⟩:=h;obtain ⟨j,hj⟩:=List.getElem?_of_mem hs;rcases f j s hj with ⟨h1,h2⟩ | ⟨_,h2⟩
 ·exact .inl ⟨_,h1,h2⟩
 ·exact .inr h2
theorem zbR {rs rs':List ROW} {i p k gh ch:Nat} {r:ROW} (hr:rs[i]?=some r) (hn:r.num=p / 64) (hk:p % 64=k) (hl:r.live<2 ^ 64) (hb:r.live.testBit k=true) (hR:RISE rs) (h:FEWER rs rs' i ⟨r.num,CLR r.live k,gh,ch,r.hs.eraseIdx (RK r.live k)⟩) (p':Nat):
  LOOK rs' p'=if p'=p then none else LOOK rs p':=by
 have hR':=h.rise hr rfl hR;have hk64:k<64:=by rw [<-hk];exact Nat.mod_lt _ (by decide)
 by_cases e:p' / 64=r.num
 ·have hL := z6K hr e.symm hR
  by_cases e0:CLR r.live k=0
  ·have hno:∀ s∈rs',s.num≠p' / 64:=fun s hs en=>by
    rcases h.back hs with ⟨j,hj,hjs⟩ | ⟨_,h2⟩
    ·rcases Nat.lt_or_gt_of_ne hj with h1 | h1
     ·have:=hR j i s r h1 hjs hr;omega
     ·have:=hR i j r s h1 hr hjs;omega
    ·exact h2 e0
   rw [z3i hno];by_cases e2:p'=p
   ·rw [if_pos e2]
   ·rw [if_neg e2,hL]
    have hj:¬ k=p' % 64:=by omega
    have:=z2T (j:=p' % 64) hl hk64;rw [e0] at this;simp [hj] at this;rw [this];rfl
  ·obtain ⟨φ,m,f1,f2,f3,f4⟩:=h
   rw [z5x hR' (f3 e0) (by exact e.symm),z2T hl hk64];dsimp only;by_cases e2:p'=p
   ·have hj:k=p' % 64:=by omega
    rw [if_pos e2];simp [hj]
   ·have hj:¬ k=p' % 64:=by omega
    rw [if_neg e2,hL];simp only [hj,decide_false,Bool.not_false,Bool.and_true];cases hb2:r.live.testBit (p' % 64)
    ·rfl
    ·rw [if_pos rfl,if_pos rfl,List.getElem?_eraseIdx]
     have h1:=zdr hl hk64 hb (p' % 64);have h2:=zdr hl hk64 hb k;rw [if_neg (Nat.lt_irrefl _)] at h2;by_cases e3:k<p' % 64
     ·rw [if_pos e3] at h1
      have h3:=z6I (CLR r.live k) (i:=k) (j:=p' % 64) (by omega);rw [if_neg (by omega),h1]
     ·rw [if_neg e3] at h1
      have h3:=z6I (CLR r.live k) (i:=p' % 64+1) (j:=k) (by omega);rw [RK,z2T hl hk64,hb2] at h3;simp [hj] at h3;rw [if_pos (by omega),h1,Nat.add_zero]
 ·have e2:p'≠p:=fun h=>e (by rw [h];exact hn.symm)
  rw [if_neg e2];by_cases hs:∃ s∈rs,s.num=p' / 64
  ·obtain ⟨s,hs,en⟩:=hs
   obtain ⟨j,hj⟩:=List.getElem?_of_mem hs;have hji:j≠i:=fun h=>by subst h;rw [hr] at hj;cases hj;omega
   obtain ⟨φ,m,f1,f2,f3,f4⟩:=h;rw [z5x hR hs en,z5x hR' (f2 j s hji hj) en]
  ·rw [z3i (rs:=rs) (fun s h1 h2=>hs ⟨s,h1,h2⟩),z3i]
   intro s h1 h2;rcases h.back h1 with ⟨j,_,hjs⟩ | ⟨h3,_⟩
   ·exact hs ⟨s,List.mem_of_getElem? hjs,h2⟩
   ·rw [h3] at h2;exact e h2.symm
end Go.Proofs.YtlbcnaenhghieaaGreatDoor.HX
