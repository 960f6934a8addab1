/- FindProves: part 14. -/
import Derived.Test.YtlbcnaenhghieaaGreatDoorFindProvesP13
set_option maxHeartbeats 2000000
namespace Go.Proofs.YtlbcnaenhghieaaGreatDoor.HX
open Go.RowKit
set_option maxRecDepth 100000
theorem z08 {s:Sem Value} {w w':World} {v:Value} (h:s.run Tryz.prog w=.ok v w'):(do pure (Next.value (<-s)):Sem Next).run Tryz.prog w=.ok (.value v) w':=by
 simp [h]
theorem z10 {s:Sem Unit} {w w':World} (h:s.run Tryz.prog w=.ok () w'):(do s;pure Next.skip:Sem Next).run Tryz.prog w=.ok .skip w':=by
 simp [h]
theorem z0L {ops:Array Oper} {o:Oper} {a:Act} {w w':World} {K:Act->World->Prop} {Q:Exit->Act->World->Prop} {E:Prop} (hg:o.guard=none)
  (hrun:(execOp a.eval o).run Tryz.prog w=.ok .skip w') (h:K (a.put o.dst undef) w'):if Region.wanted o (yielded ops a.tmps)=true then Oper.wp Tryz.prog o a w K Q else E:=by
 have hw:Region.wanted o (yielded ops a.tmps)=true:=by simp [Region.wanted,hg]
 rw [if_pos hw];unfold Oper.wp;rw [hrun];exact h
theorem z2P {ops:Array Oper} {Q:Exit->Act->World->Prop} {md:Region.Mode} {S:World->Prop} {fuel:Nat} {listed:Array Bool} {a:Act} {w:World} {o:Oper} (i:Nat) (hr:Region.ready md ops listed=[i]) (ho:ops[i]?=some o)
  (h:∀ K':Act->World->Prop,Shut (∀ a w,S w->(S w->wpAnyH Tryz.prog md ops Q S fuel (listed.setIfInBounds i true) a w)->K' a w)->if Region.wanted o (yielded ops a.tmps)=true then Oper.wp Tryz.prog o a w K' Q else K' (a.put o.dst undef) w):wpAnyH Tryz.prog md ops Q S (fuel+1) listed a w:=
 wpAnyH_ready hr (by simp) (AllReadyH.cons ho h AllReadyH.nil)
theorem zdj {w:World} {g b o:Nat} {cs:List Value} (h:w.rangeAt b o cs) (hb:b≠g) (c:Array Value):(w.setRow g c).rangeAt b o cs:=fun j v hv=>by
 rw [cell_setRow_other w g c _ hb];exact h j v hv
theorem z64 {w:World} {g:Nat} {f:Nat->Nat} (h:Has w g (UARR .u8 32 f) 25) (F:Nat->Nat):(Instr.storeAt 25 (.pointer (some ⟨g,0,none⟩)) (.agg (UARR .u8 32 F))).run Tryz.prog w=.ok () (w.setRow g (UARR .u8 32 F)):=by
 simp only [Instr.storeAt,Instr.sureAddr,Sem.run_bind,Sem.run_pure,Result.andThen];exact run_storeVar_row w g 25 25 (UARR .u8 32 f) (UARR .u8 32 F) h (z04 _) (by rw [z03,z03]) (z0j _ _ _)
@[go_sem] def G2OPSq0:Oper:=⟨some 15,.move (.tmp 7),4,"chunk.go:56",#[],none⟩
@[go_sem] def G2OPSq1:Oper:=⟨some 16,.unOp .not 4 (.tmp 15),4,"chunk.go:56",#[⟨0,.data⟩],none⟩
@[go_sem] def G2OPSq2:Oper:=⟨some 17,.move (.tmp 16),4,"chunk.go:56",#[⟨1,.data⟩],none⟩
@[go_sem] def G2OPSq3:Oper:=⟨some 18,.move (.tmp 0),115,"chunk.go:56",#[⟨2,.guard⟩],some (2,false)⟩
@[go_sem] def G2OPSq4:Oper:=⟨some 19,.nilCheck (.tmp 18),0,"chunk.go:56",#[⟨3,.data⟩,⟨2,.guard⟩],some (2,false)⟩
@[go_sem] def G2OPSq5:Oper:=⟨some 20,.fieldAddr 128 (.tmp 19) 0,0,"chunk.go:56",#[⟨4,.data⟩,⟨2,.guard⟩],some (2,false)⟩
@[go_sem] def G2OPSq6:Oper:=⟨some 21,.load 126 (.tmp 20),126,"chunk.go:56",#[⟨5,.data⟩,⟨2,.guard⟩],some (2,false)⟩
@[go_sem] def G2OPSq7:Oper:=⟨some 22,.move (.tmp 6),3,"chunk.go:56",#[⟨2,.guard⟩],some (2,false)⟩
@[go_sem] def G2OPSq8:Oper:=⟨some 23,.indexAddr 126 (.tmp 21) (.tmp 22),0,"chunk.go:56",#[⟨6,.data⟩,⟨7,.data⟩,⟨2,.guard⟩],some (2,false)⟩
@[go_sem] def G2OPSq9:Oper:=⟨some 24,.fieldAddr 139 (.tmp 23) 1,0,"chunk.go:56",#[⟨8,.data⟩,⟨2,.guard⟩],some (2,false)⟩
@[go_sem] def G2OPSq10:Oper:=⟨some 25,.load 36 (.tmp 24),36,"chunk.go:56",#[⟨9,.data⟩,⟨2,.guard⟩],some (2,false)⟩
@[go_sem] def G2OPSq11:Oper:=⟨some 26,.move (.tmp 1),36,"chunk.go:56",#[⟨2,.guard⟩],some (2,false)⟩
@[go_sem] def G2OPSq12:Oper:=⟨some 27,.call {callee:=.value (.func 76),args:=#[.tmp 26],argTypes:=#[36]},36,"chunk.go:56",#[⟨11,.data⟩,⟨2,.chain⟩,⟨2,.guard⟩],some (2,false)⟩
@[go_sem] def G2OPSq13:Oper:=⟨some 28,.binOp .and 36 (.tmp 25) (.tmp 27) 36,36,"chunk.go:56",#[⟨10,.data⟩,⟨12,.data⟩,⟨2,.guard⟩],some (2,false)⟩
@[go_sem] def G2OPSq14:Oper:=⟨some 29,.binOp .eql 36 (.tmp 28) (.const (.int .u64 0)) 36,4,"chunk.go:56",#[⟨13,.data⟩,⟨2,.guard⟩],some (2,false)⟩
@[go_sem] def G2OPSq15:Oper:=⟨some 30,.pick (.tmp 17) (.const (.bool true)) (.tmp 29),4,"chunk.go:56",#[⟨2,.data⟩,⟨14,.data⟩],none⟩
def z65:Array Oper:=#[G2OPSq0,G2OPSq1,G2OPSq2,G2OPSq3,G2OPSq4,G2OPSq5,G2OPSq6,G2OPSq7,G2OPSq8,G2OPSq9,G2OPSq10,G2OPSq11,G2OPSq12,G2OPSq13,G2OPSq14,G2OPSq15]
theorem get2 {Q:Exit->Act->World->Prop} (b d f j k l m q r s u x y z A B C D E F G H I J L M N O P R T U V X Y Z aa ab ac ad ae af ag ah:Value) (W:World) (g gr n cap i p live bit lb:Nat) (hi:(i:Int)<(n:Int)) (h1:W.cell? ⟨g,0,none⟩=some (.slice (some ⟨gr,0,none⟩) n cap)) (h2:W.cell? ⟨gr,i*3+1,none⟩=some (.int .u64 (live:Int))) (cB:∀ w,Calls Tryz.prog 76 #[.int .u64 (p:Int)] w fun e w'=>e=.returned (.int .u64 (bit:Int))/\w=w') (hbits:bits .and .u64 (live:Int) (bit:Int)=(lb:Int)) (heq:(((lb:Nat):Int) == 0)=decide (lb=0)) (hQ:∀ c (a:Act) (t:Tmp) (v:Value) w,Q (.panic c) (a.put (some t) v) w->Q (.panic c) a w)
  (h:∀ w,(fun w=>w.cell? ⟨g,0,none⟩=some (.slice (some ⟨gr,0,none⟩) n cap)/\w.cell? ⟨gr,i*3+1,none⟩=some (.int .u64 (live:Int))/\Below W.heap.size W w) w->Q .normal {tmps:=#[.pointer (some ⟨g,0,none⟩),.int .u64 (p:Int),b,d,f,j,.int .i64 (i:Int),.bool true,k,l,m,q,r,s,u,.bool true,.bool false,.bool false,.pointer (some ⟨g,0,none⟩),.pointer (some ⟨g,0,none⟩),.pointer (some ⟨g,0,none⟩),.slice (some ⟨gr,0,none⟩) n cap,.int .i64 (i:Int),.pointer (some ⟨gr,i*3,none⟩),.pointer (some ⟨gr,i*3+1,none⟩),.int .u64 (live:Int),.int .u64 (p:Int),.int .u64 (bit:Int),.int .u64 (lb:Int),.bool (decide (lb=0)),.bool (decide (lb=0)),O,P,R,T,U,V,X,Y,Z,aa,ab,ac,ad,ae,af,ag,ah],defers:=[]} w):(Code.region 2 z65 true).wp Tryz.prog Q {tmps:=#[.pointer (some ⟨g,0,none⟩),.int .u64 (p:Int),b,d,f,j,.int .i64 (i:Int),.bool true,k,l,m,q,r,s,u,x,y,z,A,B,C,D,E,F,G,H,I,J,L,M,N,O,P,R,T,U,V,X,Y,Z,aa,ab,ac,ad,ae,af,ag,ah],defers:=[]} W:=by
 have hs0:(fun w=>w.cell? ⟨g,0,none⟩=some (.slice (some ⟨gr,0,none⟩) n cap)/\w.cell? ⟨gr,i*3+1,none⟩=some (.int .u64 (live:Int))/\Below W.heap.size W w) W.drew:=⟨h1,h2,(Below.refl _ _).drew⟩
 have cB':∀ w,(fun w=>w.cell? ⟨g,0,none⟩=some (.slice (some ⟨gr,0,none⟩) n cap)/\w.cell? ⟨gr,i*3+1,none⟩=some (.int .u64 (live:Int))/\Below W.heap.size W w) w->Calls Tryz.prog 76 #[.int .u64 (p:Int)] w fun e w'=>e=.returned (.int .u64 (bit:Int))/\w=w':=fun w _=>cB w;clear cB
 have k1:∀ w,(fun w=>w.cell? ⟨g,0,none⟩=some (.slice (some ⟨gr,0,none⟩) n cap)/\w.cell? ⟨gr,i*3+1,none⟩=some (.int .u64 (live:Int))/\Below W.heap.size W w) w->wpAnyH Tryz.prog .any z65 Q (fun w=>w.cell? ⟨g,0,none⟩=some (.slice (some ⟨gr,0,none⟩) n cap)/\w.cell? ⟨gr,i*3+1,none⟩=some (.int .u64 (live:Int))/\Below W.heap.size W w) 3 #[tt,tt,tt,tt,tt,tt,tt,tt,tt,tt,tt,tt,tt,ff,ff,ff] {tmps:=#[.pointer (some ⟨g,0,none⟩),.int .u64 (p:Int),b,d,f,j,.int .i64 (i:Int),.bool true,k,l,m,q,r,s,u,.bool true,.bool false,.bool false,.pointer (some ⟨g,0,none⟩),.pointer (some ⟨g,0,none⟩),.pointer (some ⟨g,0,none⟩),.slice (some ⟨gr,0,none⟩) n cap,.int .i64 (i:Int),.pointer (some ⟨gr,i*3,none⟩),.pointer (some ⟨gr,i*3+1,none⟩),.int .u64 (live:Int),.int .u64 (p:Int),.int .u64 (bit:Int),L,M,N,O,P,R,T,U,V,X,Y,Z,aa,ab,ac,ad,ae,af,ag,ah],defers:=[]} w:=fun w hw=>by
  have hww:(fun w=>w.cell? ⟨g,0,none⟩=some (.slice (some ⟨gr,0,none⟩) n cap)/\w.cell? ⟨gr,i*3+1,none⟩=some (.int .u64 (live:Int))/\Below W.heap.size W w) w:=hw;have last:wpAnyH Tryz.prog .any z65 Q (fun w=>w.cell? ⟨g,0,none⟩=some (.slice (some ⟨gr,0,none⟩) n cap)/\w.cell? ⟨gr,i*3+1,none⟩=some (.int .u64 (live:Int))/\Below W.heap.size W w) 0 #[tt,tt,tt,tt,tt,tt,tt,tt,tt,tt,tt,tt,tt,tt,tt,tt] {tmps:=#[.pointer (some ⟨g,0,none⟩),.int .u64 (p:Int),b,d,f,j,.int .i64 (i:Int),.bool true,k,l,m,q,r,s,u,.bool true,.bool false,.bool false,.pointer (some ⟨g,0,none⟩),.pointer (some ⟨g,0,none⟩),.pointer (some ⟨g,0,none⟩),.slice (some ⟨gr,0,none⟩) n cap,.int .i64 (i:Int),.pointer (some ⟨gr,i*3,none⟩),.pointer (some ⟨gr,i*3+1,none⟩),.int .u64 (live:Int),.int .u64 (p:Int),.int .u64 (bit:Int),.int .u64 (lb:Int),.bool (decide (lb=0)),.bool (decide (lb=0)),O,P,R,T,U,V,X,Y,Z,aa,ab,ac,ad,ae,af,ag,ah],defers:=[]} w:=wpAnyH_done (by kernel_rfl) (h w hw) _;refine tkP G2OPSq13 (.int .u64 (lb:Int)) 13 hQ hww ?_;simp only [List.set];refine tkP G2OPSq14 (.bool (decide (lb=0))) 14 hQ hww ?_;simp only [List.set];refine tkP G2OPSq15 (.bool (decide (lb=0))) 15 hQ hww ?_;simp only [List.set];exact last
 have k0:∀ w,(fun w=>w.cell? ⟨g,0,none⟩=some (.slice (some ⟨gr,0,none⟩) n cap)/\w.cell? ⟨gr,i*3+1,none⟩=some (.int .u64 (live:Int))/\Below W.heap.size W w) w->wpAnyH Tryz.prog .any z65 Q (fun w=>w.cell? ⟨g,0,none⟩=some (.slice (some ⟨gr,0,none⟩) n cap)/\w.cell? ⟨gr,i*3+1,none⟩=some (.int .u64 (live:Int))/\Below W.heap.size W w) 16 #[ff,ff,ff,ff,ff,ff,ff,ff,ff,ff,ff,ff,ff,ff,ff,ff] {tmps:=#[.pointer (some ⟨g,0,none⟩),.int .u64 (p:Int),b,d,f,j,.int .i64 (i:Int),.bool true,k,l,m,q,r,s,u,x,y,z,A,B,C,D,E,F,G,H,I,J,L,M,N,O,P,R,T,U,V,X,Y,Z,aa,ab,ac,ad,ae,af,ag,ah],defers:=[]} w:=fun w hw=>by
  have hww:(fun w=>w.cell? ⟨g,0,none⟩=some (.slice (some ⟨gr,0,none⟩) n cap)/\w.cell? ⟨gr,i*3+1,none⟩=some (.int .u64 (live:Int))/\Below W.heap.size W w) w:=hw
  have last:wpAnyH Tryz.prog .any z65 Q (fun w=>w.cell? ⟨g,0,none⟩=some (.slice (some ⟨gr,0,none⟩) n cap)/\w.cell? ⟨gr,i*3+1,none⟩=some (.int .u64 (live:Int))/\Below W.heap.size W w) 4 #[tt,tt,tt,tt,tt,tt,tt,tt,tt,tt,tt,tt,ff,ff,ff,ff] {tmps:=#[.pointer (some ⟨g,0,none⟩),.int .u64 (p:Int),b,d,f,j,.int .i64 (i:Int),.bool true,k,l,m,q,r,s,u,.bool true,.bool false,.bool false,.pointer (some ⟨g,0,none⟩),.pointer (some ⟨g,0,none⟩),.pointer (some ⟨g,0,none⟩),.slice (some ⟨gr,0,none⟩) n cap,.int .i64 (i:Int),.pointer (some ⟨gr,i*3,none⟩),.pointer (some ⟨gr,i*3+1,none⟩),.int .u64 (live:Int),.int .u64 (p:Int),J,L,M,N,O,P,R,T,U,V,X,Y,Z,aa,ab,ac,ad,ae,af,ag,ah],defers:=[]} w:=by
   refine z2P (o:=G2OPSq12) 12 (by kernel_rfl) rfl (fun K hK=>?_);rw [if_pos (by rfl)];go_simp;refine (cB' _ hww).mono ?_;rintro e w' ⟨rfl,rfl⟩;exact hK.out _ _ hww (fun _=>k1 w hw)
  refine tkP G2OPSq0 (.bool true) 0 hQ hww ?_;simp only [List.set];refine tkP G2OPSq1 (.bool false) 1 hQ hww ?_;simp only [List.set];refine tkP G2OPSq2 (.bool false) 2 hQ hww ?_;simp only [List.set];refine tkP G2OPSq3 (.pointer (some ⟨g,0,none⟩)) 3 hQ hww ?_;simp only [List.set];refine tkP G2OPSq4 (.pointer (some ⟨g,0,none⟩)) 4 hQ hww ?_;simp only [List.set];refine tkP G2OPSq5 (.pointer (some ⟨g,0,none⟩)) 5 hQ hww ?_;simp only [List.set];refine tkH G2OPSq6 (.slice (some ⟨gr,0,none⟩) n cap) 6 hQ (Or.inl ⟨by rfl,fun w hw=>by have hx:=hw.1;go_simp⟩) hww ?_;simp only [List.set];refine tkP G2OPSq7 (.int .i64 (i:Int)) 7 hQ hww ?_;simp only [List.set];refine tkP G2OPSq8 (.pointer (some ⟨gr,i*3,none⟩)) 8 hQ hww ?_;simp only [List.set];refine tkP G2OPSq9 (.pointer (some ⟨gr,i*3+1,none⟩)) 9 hQ hww ?_;simp only [List.set];refine tkH G2OPSq10 (.int .u64 (live:Int)) 10 hQ (Or.inl ⟨by rfl,fun w hw=>by have hx:=hw.2.1;go_simp⟩) hww ?_;simp only [List.set];refine tkP G2OPSq11 (.int .u64 (p:Int)) 11 hQ hww ?_;simp only [List.set];exact last
 exact wp_region_held_drew (S:=(fun w=>w.cell? ⟨g,0,none⟩=some (.slice (some ⟨gr,0,none⟩) n cap)/\w.cell? ⟨gr,i*3+1,none⟩=some (.int .u64 (live:Int))/\Below W.heap.size W w)) (by kernel_rfl) hs0 (fun _=>k0 _ hs0)
@[go_sem] def G2nOPSq0:Oper:=⟨some 15,.move (.tmp 7),4,"chunk.go:56",#[],none⟩
@[go_sem] def G2nOPSq1:Oper:=⟨some 16,.unOp .not 4 (.tmp 15),4,"chunk.go:56",#[⟨0,.data⟩],none⟩
@[go_sem] def G2nOPSq2:Oper:=⟨some 17,.move (.tmp 16),4,"chunk.go:56",#[⟨1,.data⟩],none⟩
@[go_sem] def G2nOPSq3:Oper:=⟨some 18,.move (.tmp 0),115,"chunk.go:56",#[⟨2,.guard⟩],some (2,false)⟩
@[go_sem] def G2nOPSq4:Oper:=⟨some 19,.nilCheck (.tmp 18),0,"chunk.go:56",#[⟨3,.data⟩,⟨2,.guard⟩],some (2,false)⟩
@[go_sem] def G2nOPSq5:Oper:=⟨some 20,.fieldAddr 128 (.tmp 19) 0,0,"chunk.go:56",#[⟨4,.data⟩,⟨2,.guard⟩],some (2,false)⟩
@[go_sem] def G2nOPSq6:Oper:=⟨some 21,.load 126 (.tmp 20),126,"chunk.go:56",#[⟨5,.data⟩,⟨2,.guard⟩],some (2,false)⟩
@[go_sem] def G2nOPSq7:Oper:=⟨some 22,.move (.tmp 6),3,"chunk.go:56",#[⟨2,.guard⟩],some (2,false)⟩
@[go_sem] def G2nOPSq8:Oper:=⟨some 23,.indexAddr 126 (.tmp 21) (.tmp 22),0,"chunk.go:56",#[⟨6,.data⟩,⟨7,.data⟩,⟨2,.guard⟩],some (2,false)⟩
@[go_sem] def G2nOPSq9:Oper:=⟨some 24,.fieldAddr 139 (.tmp 23) 1,0,"chunk.go:56",#[⟨8,.data⟩,⟨2,.guard⟩],some (2,false)⟩
@[go_sem] def G2nOPSq10:Oper:=⟨some 25,.load 36 (.tmp 24),36,"chunk.go:56",#[⟨9,.data⟩,⟨2,.guard⟩],some (2,false)⟩
@[go_sem] def G2nOPSq11:Oper:=⟨some 26,.move (.tmp 1),36,"chunk.go:56",#[⟨2,.guard⟩],some (2,false)⟩
@[go_sem] def G2nOPSq12:Oper:=⟨some 27,.call {callee:=.value (.func 76),args:=#[.tmp 26],argTypes:=#[36]},36,"chunk.go:56",#[⟨11,.data⟩,⟨2,.chain⟩,⟨2,.guard⟩],some (2,false)⟩
@[go_sem] def G2nOPSq13:Oper:=⟨some 28,.binOp .and 36 (.tmp 25) (.tmp 27) 36,36,"chunk.go:56",#[⟨10,.data⟩,⟨12,.data⟩,⟨2,.guard⟩],some (2,false)⟩
@[go_sem] def G2nOPSq14:Oper:=⟨some 29,.binOp .eql 36 (.tmp 28) (.const (.int .u64 0)) 36,4,"chunk.go:56",#[⟨13,.data⟩,⟨2,.guard⟩],some (2,false)⟩
@[go_sem] def G2nOPSq15:Oper:=⟨some 30,.pick (.tmp 17) (.const (.bool true)) (.tmp 29),4,"chunk.go:56",#[⟨2,.data⟩,⟨14,.data⟩],none⟩
def z8x:Array Oper:=#[G2nOPSq0,G2nOPSq1,G2nOPSq2,G2nOPSq3,G2nOPSq4,G2nOPSq5,G2nOPSq6,G2nOPSq7,G2nOPSq8,G2nOPSq9,G2nOPSq10,G2nOPSq11,G2nOPSq12,G2nOPSq13,G2nOPSq14,G2nOPSq15]
theorem zhX {Q:Exit->Act->World->Prop} (b d e f i j k l m n o q r s u x y z A B C D E F G H I J K L M N O P R T U V X Y Z aa ab ac ad:Value) (W:World) (g p:Nat) (hQ:∀ c (a:Act) (t:Tmp) (v:Value) w,Q (.panic c) (a.put (some t) v) w->Q (.panic c) a w)
  (h:∀ w,(fun w=>w=W.drew) w->Q .normal {tmps:=#[.pointer (some ⟨g,0,none⟩),.int .u64 (p:Int),b,d,e,f,i,.bool false,j,k,l,m,n,o,q,.bool false,.bool true,.bool true,undef,undef,undef,undef,undef,undef,undef,undef,undef,undef,undef,undef,.bool true,K,L,M,N,O,P,R,T,U,V,X,Y,Z,aa,ab,ac,ad],defers:=[]} w):(Code.region 2 z8x true).wp Tryz.prog Q {tmps:=#[.pointer (some ⟨g,0,none⟩),.int .u64 (p:Int),b,d,e,f,i,.bool false,j,k,l,m,n,o,q,r,s,u,x,y,z,A,B,C,D,E,F,G,H,I,J,K,L,M,N,O,P,R,T,U,V,X,Y,Z,aa,ab,ac,ad],defers:=[]} W:=by
 have hs0:(fun w=>w=W.drew) W.drew:=rfl
 have k0:∀ w,(fun w=>w=W.drew) w->wpAnyH Tryz.prog .any z8x Q (fun w=>w=W.drew) 16 #[ff,ff,ff,ff,ff,ff,ff,ff,ff,ff,ff,ff,ff,ff,ff,ff] {tmps:=#[.pointer (some ⟨g,0,none⟩),.int .u64 (p:Int),b,d,e,f,i,.bool false,j,k,l,m,n,o,q,r,s,u,x,y,z,A,B,C,D,E,F,G,H,I,J,K,L,M,N,O,P,R,T,U,V,X,Y,Z,aa,ab,ac,ad],defers:=[]} w:=fun w hw=>by
  have hww:(fun w=>w=W.drew) w:=hw;have last:wpAnyH Tryz.prog .any z8x Q (fun w=>w=W.drew) 0 #[tt,tt,tt,tt,tt,tt,tt,tt,tt,tt,tt,tt,tt,tt,tt,tt] {tmps:=#[.pointer (some ⟨g,0,none⟩),.int .u64 (p:Int),b,d,e,f,i,.bool false,j,k,l,m,n,o,q,.bool false,.bool true,.bool true,undef,undef,undef,undef,undef,undef,undef,undef,undef,undef,undef,undef,.bool true,K,L,M,N,O,P,R,T,U,V,X,Y,Z,aa,ab,ac,ad],defers:=[]} w:=wpAnyH_done (by kernel_rfl) (h w hw) _;refine tkP G2nOPSq0 (.bool false) 0 hQ hww ?_;simp only [List.set];refine tkP G2nOPSq1 (.bool true) 1 hQ hww ?_;simp only [List.set];refine tkP G2nOPSq2 (.bool true) 2 hQ hww ?_;simp only [List.set];refine tkH G2nOPSq3 undef 3 hQ (Or.inr ⟨by rfl,rfl⟩) hww ?_;simp only [List.set];refine tkH G2nOPSq4 undef 4 hQ (Or.inr ⟨by rfl,rfl⟩) hww ?_;simp only [List.set];refine tkH G2nOPSq5 undef 5 hQ (Or.inr ⟨by rfl,rfl⟩) hww ?_;simp only [List.set];refine tkH G2nOPSq6 undef 6 hQ (Or.inr ⟨by rfl,rfl⟩) hww ?_;simp only [List.set];refine tkH G2nOPSq7 undef 7 hQ (Or.inr ⟨by rfl,rfl⟩) hww ?_;simp only [List.set];refine tkH G2nOPSq8 undef 8 hQ (Or.inr ⟨by rfl,rfl⟩) hww ?_;simp only [List.set];refine tkH G2nOPSq9 undef 9 hQ (Or.inr ⟨by rfl,rfl⟩) hww ?_;simp only [List.set];refine tkH G2nOPSq10 undef 10 hQ (Or.inr ⟨by rfl,rfl⟩) hww ?_;simp only [List.set];refine tkH G2nOPSq11 undef 11 hQ (Or.inr ⟨by rfl,rfl⟩) hww ?_;simp only [List.set]
  refine tkH G2nOPSq12 undef 12 hQ (Or.inr ⟨by rfl,rfl⟩) hww ?_;simp only [List.set];refine tkH G2nOPSq13 undef 13 hQ (Or.inr ⟨by rfl,rfl⟩) hww ?_;simp only [List.set];refine tkH G2nOPSq14 undef 14 hQ (Or.inr ⟨by rfl,rfl⟩) hww ?_;simp only [List.set];refine tkP G2nOPSq15 (.bool true) 15 hQ hww ?_;simp only [List.set];exact last
 exact wp_region_held_drew (S:=(fun w=>w=W.drew)) (by kernel_rfl) hs0 (fun _=>k0 _ hs0)
@[go_sem] def G5OPSq0:Oper:=⟨some 38,.move (.tmp 8),137,"chunk.go:60",#[],none⟩
@[go_sem] def G5OPSq1:Oper:=⟨some 39,.nilCheck (.tmp 38),0,"chunk.go:60",#[⟨0,.data⟩],none⟩
@[go_sem] def G5OPSq2:Oper:=⟨some 40,.fieldAddr 139 (.tmp 39) 2,0,"chunk.go:60",#[⟨1,.data⟩],none⟩
@[go_sem] def G5OPSq3:Oper:=⟨some 41,.load 22 (.tmp 40),22,"chunk.go:60",#[⟨2,.data⟩],none⟩
@[go_sem] def G5OPSq4:Oper:=⟨some 42,.move (.tmp 8),137,"chunk.go:60",#[],none⟩
@[go_sem] def G5OPSq5:Oper:=⟨some 43,.move (.tmp 1),36,"chunk.go:60",#[],none⟩
@[go_sem] def G5OPSq6:Oper:=⟨some 44,.call {callee:=.value (.func 76),args:=#[.tmp 43],argTypes:=#[36]},36,"chunk.go:60",#[⟨5,.data⟩],none⟩
@[go_sem] def G5OPSq7:Oper:=⟨some 45,.call {callee:=.value (.func 75),args:=#[.tmp 42,.tmp 44],argTypes:=#[137,36]},3,"chunk.go:60",#[⟨4,.data⟩,⟨6,.data⟩,⟨6,.chain⟩],none⟩
@[go_sem] def G5OPSq8:Oper:=⟨some 46,.indexAddr 22 (.tmp 41) (.tmp 45),0,"chunk.go:60",#[⟨3,.data⟩,⟨7,.data⟩],none⟩
@[go_sem] def G5OPSq9:Oper:=⟨some 47,.load 25 (.tmp 46),25,"chunk.go:60",#[⟨8,.data⟩],none⟩
@[go_sem] def G5OPSq10:Oper:=⟨none,.store 25 (.tmp 4) (.tmp 47),0,"chunk.go:60",#[⟨9,.data⟩,⟨7,.chain⟩,⟨0,.phase⟩,⟨1,.phase⟩,⟨2,.phase⟩,⟨3,.phase⟩,⟨4,.phase⟩,⟨5,.phase⟩,⟨6,.phase⟩,⟨7,.phase⟩,⟨8,.phase⟩,⟨9,.phase⟩],none⟩
@[go_sem] def G5OPSq11:Oper:=⟨some 5,.assign (.const (.bool true)),4,"chunk.go:60",#[⟨10,.chain⟩,⟨0,.phase⟩,⟨1,.phase⟩,⟨2,.phase⟩,⟨3,.phase⟩,⟨4,.phase⟩,⟨5,.phase⟩,⟨6,.phase⟩,⟨7,.phase⟩,⟨8,.phase⟩,⟨9,.phase⟩,⟨10,.phase⟩],none⟩
def z2G:Array Oper:=#[G5OPSq0,G5OPSq1,G5OPSq2,G5OPSq3,G5OPSq4,G5OPSq5,G5OPSq6,G5OPSq7,G5OPSq8,G5OPSq9,G5OPSq10,G5OPSq11]
theorem get5 {Q:Exit->Act->World->Prop} (b d f g j l n q r s u x y A C D E F G I J L M N O P R T U V X Y Z aa ab ac ad ae af ag ah ai aj ak al:Value) (W:World) (B gr i p live bit m ch gh k r4:Nat) (H z:Nat->Nat) (hk:(k:Int)<(m:Int)) (h1:W.cell? ⟨gr,i*3+1,none⟩=some (.int .u64 (live:Int))) (h2:W.cell? ⟨gr,i*3+2,none⟩=some (.slice (some ⟨gh,0,none⟩) m ch)) (h3:W.rangeAt gh (k*32) (z05 .u8 32 H)) (h4:Has W r4 (UARR .u8 32 z) 25) (n1:gr≠r4) (n2:gh≠r4) (n3:B<=r4) (cB:∀ w,Calls Tryz.prog 76 #[.int .u64 (p:Int)] w fun e w'=>e=.returned (.int .u64 (bit:Int))/\w=w') (cR:∀ w,w.cell? ⟨gr,i*3+1,none⟩=some (.int .u64 (live:Int))->Calls Tryz.prog 75 #[.pointer (some ⟨gr,i*3,none⟩),.int .u64 (bit:Int)] w fun e w'=>e=.returned (.int .i64 (k:Int))/\w=w') (hQ:∀ c (a:Act) (t:Tmp) (v:Value) w,Q (.panic c) (a.put (some t) v) w->Q (.panic c) a w)
  (h:∀ w,(fun w=>w.cell? ⟨gr,i*3+1,none⟩=some (.int .u64 (live:Int))/\w.cell? ⟨gr,i*3+2,none⟩=some (.slice (some ⟨gh,0,none⟩) m ch)/\w.rangeAt gh (k*32) (z05 .u8 32 H)/\Below B W w/\∃ z,Has w r4 (UARR .u8 32 z) 25) w->Q .normal {tmps:=#[b,.int .u64 (p:Int),d,f,.pointer (some ⟨r4,0,none⟩),.bool true,j,l,.pointer (some ⟨gr,i*3,none⟩),n,q,r,s,u,x,y,A,C,D,E,F,G,I,J,L,M,N,O,P,R,T,U,V,X,Y,Z,aa,ab,.pointer (some ⟨gr,i*3,none⟩),.pointer (some ⟨gr,i*3,none⟩),.pointer (some ⟨gr,i*3+2,none⟩),.slice (some ⟨gh,0,none⟩) m ch,.pointer (some ⟨gr,i*3,none⟩),.int .u64 (p:Int),.int .u64 (bit:Int),.int .i64 (k:Int),.pointer (some ⟨gh,k*32,none⟩),.agg (UARR .u8 32 H)],defers:=[]} (World.setRow w r4 (UARR .u8 32 H))):(Code.region 5 z2G true).wp Tryz.prog Q {tmps:=#[b,.int .u64 (p:Int),d,f,.pointer (some ⟨r4,0,none⟩),g,j,l,.pointer (some ⟨gr,i*3,none⟩),n,q,r,s,u,x,y,A,C,D,E,F,G,I,J,L,M,N,O,P,R,T,U,V,X,Y,Z,aa,ab,ac,ad,ae,af,ag,ah,ai,aj,ak,al],defers:=[]} W:=by
 have hs0:(fun w=>w.cell? ⟨gr,i*3+1,none⟩=some (.int .u64 (live:Int))/\w.cell? ⟨gr,i*3+2,none⟩=some (.slice (some ⟨gh,0,none⟩) m ch)/\w.rangeAt gh (k*32) (z05 .u8 32 H)/\Below B W w/\∃ z,Has w r4 (UARR .u8 32 z) 25) W.drew:=⟨h1,h2,(World.rangeAt_drew _ _ _ _).2 h3,(Below.refl _ _).drew,z,h4⟩
 have cB':∀ w,(fun w=>w.cell? ⟨gr,i*3+1,none⟩=some (.int .u64 (live:Int))/\w.cell? ⟨gr,i*3+2,none⟩=some (.slice (some ⟨gh,0,none⟩) m ch)/\w.rangeAt gh (k*32) (z05 .u8 32 H)/\Below B W w/\∃ z,Has w r4 (UARR .u8 32 z) 25) w->Calls Tryz.prog 76 #[.int .u64 (p:Int)] w fun e w'=>e=.returned (.int .u64 (bit:Int))/\w=w':=fun w _=>cB w;have cR':∀ w,(fun w=>w.cell? ⟨gr,i*3+1,none⟩=some (.int .u64 (live:Int))/\w.cell? ⟨gr,i*3+2,none⟩=some (.slice (some ⟨gh,0,none⟩) m ch)/\w.rangeAt gh (k*32) (z05 .u8 32 H)/\Below B W w/\∃ z,Has w r4 (UARR .u8 32 z) 25) w->Calls Tryz.prog 75 #[.pointer (some ⟨gr,i*3,none⟩),.int .u64 (bit:Int)] w fun e w'=>e=.returned (.int .i64 (k:Int))/\w=w':=fun w h=>cR w h.1;have rS:∀ w,(fun w=>w.cell? ⟨gr,i*3+1,none⟩=some (.int .u64 (live:Int))/\w.cell? ⟨gr,i*3+2,none⟩=some (.slice (some ⟨gh,0,none⟩) m ch)/\w.rangeAt gh (k*32) (z05 .u8 32 H)/\Below B W w/\∃ z,Has w r4 (UARR .u8 32 z) 25) w->(Instr.storeAt 25 (.pointer (some ⟨r4,0,none⟩)) (.agg (UARR .u8 32 H))).run Tryz.prog w=.ok () (World.setRow w r4 (UARR .u8 32 H)):=fun w h=>by obtain ⟨z,hz⟩:=h.2.2.2.2;exact z64 hz H
 have kS:∀ w,(fun w=>w.cell? ⟨gr,i*3+1,none⟩=some (.int .u64 (live:Int))/\w.cell? ⟨gr,i*3+2,none⟩=some (.slice (some ⟨gh,0,none⟩) m ch)/\w.rangeAt gh (k*32) (z05 .u8 32 H)/\Below B W w/\∃ z,Has w r4 (UARR .u8 32 z) 25) w->(fun w=>w.cell? ⟨gr,i*3+1,none⟩=some (.int .u64 (live:Int))/\w.cell? ⟨gr,i*3+2,none⟩=some (.slice (some ⟨gh,0,none⟩) m ch)/\w.rangeAt gh (k*32) (z05 .u8 32 H)/\Below B W w/\∃ z,Has w r4 (UARR .u8 32 z) 25) (World.setRow w r4 (UARR .u8 32 H)):=fun w h=>⟨(cell_setRow_other w r4 _ _ n1).trans h.1,(cell_setRow_other w r4 _ _ n1).trans h.2.1,zdj h.2.2.1 n2 _,z0d h.2.2.2.1 n3 _,H,by obtain ⟨z,hz⟩:=h.2.2.2.2;exact hz.row _⟩
 clear cB cR
 have k3:∀ w,(fun w=>w.cell? ⟨gr,i*3+1,none⟩=some (.int .u64 (live:Int))/\w.cell? ⟨gr,i*3+2,none⟩=some (.slice (some ⟨gh,0,none⟩) m ch)/\w.rangeAt gh (k*32) (z05 .u8 32 H)/\Below B W w/\∃ z,Has w r4 (UARR .u8 32 z) 25) w->wpAnyH Tryz.prog .any z2G Q (fun w=>w.cell? ⟨gr,i*3+1,none⟩=some (.int .u64 (live:Int))/\w.cell? ⟨gr,i*3+2,none⟩=some (.slice (some ⟨gh,0,none⟩) m ch)/\w.rangeAt gh (k*32) (z05 .u8 32 H)/\Below B W w/\∃ z,Has w r4 (UARR .u8 32 z) 25) 1 #[tt,tt,tt,tt,tt,tt,tt,tt,tt,tt,tt,ff] {tmps:=#[b,.int .u64 (p:Int),d,f,.pointer (some ⟨r4,0,none⟩),g,j,l,.pointer (some ⟨gr,i*3,none⟩),n,q,r,s,u,x,y,A,C,D,E,F,G,I,J,L,M,N,O,P,R,T,U,V,X,Y,Z,aa,ab,.pointer (some ⟨gr,i*3,none⟩),.pointer (some ⟨gr,i*3,none⟩),.pointer (some ⟨gr,i*3+2,none⟩),.slice (some ⟨gh,0,none⟩) m ch,.pointer (some ⟨gr,i*3,none⟩),.int .u64 (p:Int),.int .u64 (bit:Int),.int .i64 (k:Int),.pointer (some ⟨gh,k*32,none⟩),.agg (UARR .u8 32 H)],defers:=[]} (World.setRow w r4 (UARR .u8 32 H)):=fun w hw=>by
  have hww:(fun w=>w.cell? ⟨gr,i*3+1,none⟩=some (.int .u64 (live:Int))/\w.cell? ⟨gr,i*3+2,none⟩=some (.slice (some ⟨gh,0,none⟩) m ch)/\w.rangeAt gh (k*32) (z05 .u8 32 H)/\Below B W w/\∃ z,Has w r4 (UARR .u8 32 z) 25) (World.setRow w r4 (UARR .u8 32 H)):=(kS _ hw)
  have last:wpAnyH Tryz.prog .any z2G Q (fun w=>w.cell? ⟨gr,i*3+1,none⟩=some (.int .u64 (live:Int))/\w.cell? ⟨gr,i*3+2,none⟩=some (.slice (some ⟨gh,0,none⟩) m ch)/\w.rangeAt gh (k*32) (z05 .u8 32 H)/\Below B W w/\∃ z,Has w r4 (UARR .u8 32 z) 25) 0 #[tt,tt,tt,tt,tt,tt,tt,tt,tt,tt,tt,tt] {tmps:=#[b,.int .u64 (p:Int),d,f,.pointer (some ⟨r4,0,none⟩),.bool true,j,l,.pointer (some ⟨gr,i*3,none⟩),n,q,r,s,u,x,y,A,C,D,E,F,G,I,J,L,M,N,O,P,R,T,U,V,X,Y,Z,aa,ab,.pointer (some ⟨gr,i*3,none⟩),.pointer (some ⟨gr,i*3,none⟩),.pointer (some ⟨gr,i*3+2,none⟩),.slice (some ⟨gh,0,none⟩) m ch,.pointer (some ⟨gr,i*3,none⟩),.int .u64 (p:Int),.int .u64 (bit:Int),.int .i64 (k:Int),.pointer (some ⟨gh,k*32,none⟩),.agg (UARR .u8 32 H)],defers:=[]} (World.setRow w r4 (UARR .u8 32 H)):=wpAnyH_done (by kernel_rfl) (h w hw) _;refine tkP G5OPSq11 (.bool true) 11 hQ hww ?_;simp only [List.set];exact last
 have k2:∀ w,(fun w=>w.cell? ⟨gr,i*3+1,none⟩=some (.int .u64 (live:Int))/\w.cell? ⟨gr,i*3+2,none⟩=some (.slice (some ⟨gh,0,none⟩) m ch)/\w.rangeAt gh (k*32) (z05 .u8 32 H)/\Below B W w/\∃ z,Has w r4 (UARR .u8 32 z) 25) w->wpAnyH Tryz.prog .any z2G Q (fun w=>w.cell? ⟨gr,i*3+1,none⟩=some (.int .u64 (live:Int))/\w.cell? ⟨gr,i*3+2,none⟩=some (.slice (some ⟨gh,0,none⟩) m ch)/\w.rangeAt gh (k*32) (z05 .u8 32 H)/\Below B W w/\∃ z,Has w r4 (UARR .u8 32 z) 25) 4 #[tt,tt,tt,tt,tt,tt,tt,tt,ff,ff,ff,ff] {tmps:=#[b,.int .u64 (p:Int),d,f,.pointer (some ⟨r4,0,none⟩),g,j,l,.pointer (some ⟨gr,i*3,none⟩),n,q,r,s,u,x,y,A,C,D,E,F,G,I,J,L,M,N,O,P,R,T,U,V,X,Y,Z,aa,ab,.pointer (some ⟨gr,i*3,none⟩),.pointer (some ⟨gr,i*3,none⟩),.pointer (some ⟨gr,i*3+2,none⟩),.slice (some ⟨gh,0,none⟩) m ch,.pointer (some ⟨gr,i*3,none⟩),.int .u64 (p:Int),.int .u64 (bit:Int),.int .i64 (k:Int),ak,al],defers:=[]} w:=fun w hw=>by
  have hww:(fun w=>w.cell? ⟨gr,i*3+1,none⟩=some (.int .u64 (live:Int))/\w.cell? ⟨gr,i*3+2,none⟩=some (.slice (some ⟨gh,0,none⟩) m ch)/\w.rangeAt gh (k*32) (z05 .u8 32 H)/\Below B W w/\∃ z,Has w r4 (UARR .u8 32 z) 25) w:=hw
  have last:wpAnyH Tryz.prog .any z2G Q (fun w=>w.cell? ⟨gr,i*3+1,none⟩=some (.int .u64 (live:Int))/\w.cell? ⟨gr,i*3+2,none⟩=some (.slice (some ⟨gh,0,none⟩) m ch)/\w.rangeAt gh (k*32) (z05 .u8 32 H)/\Below B W w/\∃ z,Has w r4 (UARR .u8 32 z) 25) 2 #[tt,tt,tt,tt,tt,tt,tt,tt,tt,tt,ff,ff] {tmps:=#[b,.int .u64 (p:Int),d,f,.pointer (some ⟨r4,0,none⟩),g,j,l,.pointer (some ⟨gr,i*3,none⟩),n,q,r,s,u,x,y,A,C,D,E,F,G,I,J,L,M,N,O,P,R,T,U,V,X,Y,Z,aa,ab,.pointer (some ⟨gr,i*3,none⟩),.pointer (some ⟨gr,i*3,none⟩),.pointer (some ⟨gr,i*3+2,none⟩),.slice (some ⟨gh,0,none⟩) m ch,.pointer (some ⟨gr,i*3,none⟩),.int .u64 (p:Int),.int .u64 (bit:Int),.int .i64 (k:Int),.pointer (some ⟨gh,k*32,none⟩),.agg (UARR .u8 32 H)],defers:=[]} w:=by
   refine z2P (o:=G5OPSq10) 10 (by kernel_rfl) rfl (fun K hK=>?_);exact z0L rfl (z10 (rS _ hww)) (hK.out _ _ (kS _ hww) (fun _=>k3 w hw))
  refine tkP G5OPSq8 (.pointer (some ⟨gh,k*32,none⟩)) 8 hQ hww ?_;simp only [List.set];refine tkH G5OPSq9 (.agg (UARR .u8 32 H)) 9 hQ (yieldsIf_load_mid (by rfl) 25 (.tmp 46) rfl gh (k*32) rfl (z05 .u8 32 H) _ (fun w h=>h.2.2.1) Tryz.underlying25 rfl (by rw [z0a];exact z0M)) hww ?_;simp only [List.set];exact last
 have k1:∀ w,(fun w=>w.cell? ⟨gr,i*3+1,none⟩=some (.int .u64 (live:Int))/\w.cell? ⟨gr,i*3+2,none⟩=some (.slice (some ⟨gh,0,none⟩) m ch)/\w.rangeAt gh (k*32) (z05 .u8 32 H)/\Below B W w/\∃ z,Has w r4 (UARR .u8 32 z) 25) w->wpAnyH Tryz.prog .any z2G Q (fun w=>w.cell? ⟨gr,i*3+1,none⟩=some (.int .u64 (live:Int))/\w.cell? ⟨gr,i*3+2,none⟩=some (.slice (some ⟨gh,0,none⟩) m ch)/\w.rangeAt gh (k*32) (z05 .u8 32 H)/\Below B W w/\∃ z,Has w r4 (UARR .u8 32 z) 25) 5 #[tt,tt,tt,tt,tt,tt,tt,ff,ff,ff,ff,ff] {tmps:=#[b,.int .u64 (p:Int),d,f,.pointer (some ⟨r4,0,none⟩),g,j,l,.pointer (some ⟨gr,i*3,none⟩),n,q,r,s,u,x,y,A,C,D,E,F,G,I,J,L,M,N,O,P,R,T,U,V,X,Y,Z,aa,ab,.pointer (some ⟨gr,i*3,none⟩),.pointer (some ⟨gr,i*3,none⟩),.pointer (some ⟨gr,i*3+2,none⟩),.slice (some ⟨gh,0,none⟩) m ch,.pointer (some ⟨gr,i*3,none⟩),.int .u64 (p:Int),.int .u64 (bit:Int),aj,ak,al],defers:=[]} w:=fun w hw=>by
  have hww:(fun w=>w.cell? ⟨gr,i*3+1,none⟩=some (.int .u64 (live:Int))/\w.cell? ⟨gr,i*3+2,none⟩=some (.slice (some ⟨gh,0,none⟩) m ch)/\w.rangeAt gh (k*32) (z05 .u8 32 H)/\Below B W w/\∃ z,Has w r4 (UARR .u8 32 z) 25) w:=hw
  have last:wpAnyH Tryz.prog .any z2G Q (fun w=>w.cell? ⟨gr,i*3+1,none⟩=some (.int .u64 (live:Int))/\w.cell? ⟨gr,i*3+2,none⟩=some (.slice (some ⟨gh,0,none⟩) m ch)/\w.rangeAt gh (k*32) (z05 .u8 32 H)/\Below B W w/\∃ z,Has w r4 (UARR .u8 32 z) 25) 5 #[tt,tt,tt,tt,tt,tt,tt,ff,ff,ff,ff,ff] {tmps:=#[b,.int .u64 (p:Int),d,f,.pointer (some ⟨r4,0,none⟩),g,j,l,.pointer (some ⟨gr,i*3,none⟩),n,q,r,s,u,x,y,A,C,D,E,F,G,I,J,L,M,N,O,P,R,T,U,V,X,Y,Z,aa,ab,.pointer (some ⟨gr,i*3,none⟩),.pointer (some ⟨gr,i*3,none⟩),.pointer (some ⟨gr,i*3+2,none⟩),.slice (some ⟨gh,0,none⟩) m ch,.pointer (some ⟨gr,i*3,none⟩),.int .u64 (p:Int),.int .u64 (bit:Int),aj,ak,al],defers:=[]} w:=by
   refine z2P (o:=G5OPSq7) 7 (by kernel_rfl) rfl (fun K hK=>?_);rw [if_pos (by rfl)];go_simp;refine (cR' _ hww).mono ?_;rintro e w' ⟨rfl,rfl⟩;exact hK.out _ _ hww (fun _=>k2 w hw)
  exact last
 have k0:∀ w,(fun w=>w.cell? ⟨gr,i*3+1,none⟩=some (.int .u64 (live:Int))/\w.cell? ⟨gr,i*3+2,none⟩=some (.slice (some ⟨gh,0,none⟩) m ch)/\w.rangeAt gh (k*32) (z05 .u8 32 H)/\Below B W w/\∃ z,Has w r4 (UARR .u8 32 z) 25) w->wpAnyH Tryz.prog .any z2G Q (fun w=>w.cell? ⟨gr,i*3+1,none⟩=some (.int .u64 (live:Int))/\w.cell? ⟨gr,i*3+2,none⟩=some (.slice (some ⟨gh,0,none⟩) m ch)/\w.rangeAt gh (k*32) (z05 .u8 32 H)/\Below B W w/\∃ z,Has w r4 (UARR .u8 32 z) 25) 12 #[ff,ff,ff,ff,ff,ff,ff,ff,ff,ff,ff,ff] {tmps:=#[b,.int .u64 (p:Int),d,f,.pointer (some ⟨r4,0,none⟩),g,j,l,.pointer (some ⟨gr,i*3,none⟩),n,q,r,s,u,x,y,A,C,D,E,F,G,I,J,L,M,N,O,P,R,T,U,V,X,Y,Z,aa,ab,ac,ad,ae,af,ag,ah,ai,aj,ak,al],defers:=[]} w:=fun w hw=>by
  have hww:(fun w=>w.cell? ⟨gr,i*3+1,none⟩=some (.int .u64 (live:Int))/\w.cell? ⟨gr,i*3+2,none⟩=some (.slice (some ⟨gh,0,none⟩) m ch)/\w.rangeAt gh (k*32) (z05 .u8 32 H)/\Below B W w/\∃ z,Has w r4 (UARR .u8 32 z) 25) w:=hw
  have last:wpAnyH Tryz.prog .any z2G Q (fun w=>w.cell? ⟨gr,i*3+1,none⟩=some (.int .u64 (live:Int))/\w.cell? ⟨gr,i*3+2,none⟩=some (.slice (some ⟨gh,0,none⟩) m ch)/\w.rangeAt gh (k*32) (z05 .u8 32 H)/\Below B W w/\∃ z,Has w r4 (UARR .u8 32 z) 25) 6 #[tt,tt,tt,tt,tt,tt,ff,ff,ff,ff,ff,ff] {tmps:=#[b,.int .u64 (p:Int),d,f,.pointer (some ⟨r4,0,none⟩),g,j,l,.pointer (some ⟨gr,i*3,none⟩),n,q,r,s,u,x,y,A,C,D,E,F,G,I,J,L,M,N,O,P,R,T,U,V,X,Y,Z,aa,ab,.pointer (some ⟨gr,i*3,none⟩),.pointer (some ⟨gr,i*3,none⟩),.pointer (some ⟨gr,i*3+2,none⟩),.slice (some ⟨gh,0,none⟩) m ch,.pointer (some ⟨gr,i*3,none⟩),.int .u64 (p:Int),ai,aj,ak,al],defers:=[]} w:=by
   refine z2P (o:=G5OPSq6) 6 (by kernel_rfl) rfl (fun K hK=>?_);rw [if_pos (by rfl)];go_simp;refine (cB' _ hww).mono ?_;rintro e w' ⟨rfl,rfl⟩;exact hK.out _ _ hww (fun _=>k1 w hw)
  refine tkP G5OPSq0 (.pointer (some ⟨gr,i*3,none⟩)) 0 hQ hww ?_;simp only [List.set];refine tkP G5OPSq1 (.pointer (some ⟨gr,i*3,none⟩)) 1 hQ hww ?_;simp only [List.set];refine tkP G5OPSq2 (.pointer (some ⟨gr,i*3+2,none⟩)) 2 hQ hww ?_;simp only [List.set];refine tkH G5OPSq3 (.slice (some ⟨gh,0,none⟩) m ch) 3 hQ (Or.inl ⟨by rfl,fun w hw=>by have hx:=hw.2.1;go_simp⟩) hww ?_;simp only [List.set];refine tkP G5OPSq4 (.pointer (some ⟨gr,i*3,none⟩)) 4 hQ hww ?_;simp only [List.set];refine tkP G5OPSq5 (.int .u64 (p:Int)) 5 hQ hww ?_;simp only [List.set];exact last
 exact wp_region_held_drew (S:=(fun w=>w.cell? ⟨gr,i*3+1,none⟩=some (.int .u64 (live:Int))/\w.cell? ⟨gr,i*3+2,none⟩=some (.slice (some ⟨gh,0,none⟩) m ch)/\w.rangeAt gh (k*32) (z05 .u8 32 H)/\Below B W w/\∃ z,Has w r4 (UARR .u8 32 z) 25)) (by kernel_rfl) hs0 (fun _=>k0 _ hs0)
def RK (X:Nat):Nat->Nat
 | 0=>0
 | k+1=>RK X k+if X.testBit k then 1 else 0
theorem z8y (X:Nat):∀ k,RK X (k+1)=(if X.testBit 0 then 1 else 0)+RK (X / 2) k
 | 0=>by simp [RK]
 | k+1=>by rw [RK,z8y X k,RK,Nat.testBit_succ];omega
theorem zaF:∀ (n X:Nat),DSUM 1 n X=RK X n
 | 0,_=>rfl
 | n+1,X=>by
   rw [DSUM,z8y,zaF n,Nat.pow_one];congr 1
   rw [Nat.testBit_zero];rcases Nat.mod_two_eq_zero_or_one X with h | h <;> simp [h]
theorem z34 (X:Nat):POP X=RK X 64:=zaF 64 X
theorem z8z {X Y:Nat}:∀ {k:Nat},(∀ i,i<k->X.testBit i=Y.testBit i)->RK X k=RK Y k
 | 0,_=>rfl
 | k+1,h=>by rw [RK,RK,z8z (fun i hi=>h i (by omega)),h k (by omega)]
theorem z6I (X:Nat) {i j:Nat} (h:i<=j):RK X i<=RK X j:=by
 induction h with
 | refl=>exact Nat.le_refl _
 | step _ ih=>rw [RK];omega
theorem z6J {X:Nat} {k:Nat}:∀ {j:Nat},k<=j->(∀ i,k<=i->i<j->X.testBit i=false)->RK X j=RK X k
 | 0,h,_=>by
   have e:k=0:=by omega
   subst e;rfl
 | j + 1,h,hi=>by
   by_cases e:k=j+1
   ·subst e;rfl
   ·rw [RK,z6J (j:=j) (by omega) (fun i a b=>hi i a (by omega)),hi j (by omega) (by omega)]
    simp
theorem z4W {X k:Nat} (hk:k<=64):POP (X % 2 ^ k)=RK X k:=by
 rw [z34,z6J (k:=k) hk (fun i a _=>by rw [Nat.testBit_mod_two_pow];simp;omega)];exact z8z fun i hi=>by rw [Nat.testBit_mod_two_pow];simp [hi]
theorem z7L {X k:Nat} (hk:k<64) (h:X.testBit k=true):RK X k<POP X:=by
 rw [z34];have:=z6I X (i:=k+1) (j:=64) (by omega);rw [RK,h] at this;simp at this;omega
theorem zf1 {X k:Nat}:X &&& 2 ^ k=0↔X.testBit k=false:=by
 constructor
 ·intro h
  have:=congrArg (fun x=>x.testBit k) h;simpa [Nat.testBit_and] using this
 ·intro h
  apply Nat.eq_of_testBit_eq;intro i;rw [Nat.testBit_and,Nat.testBit_two_pow];by_cases e:k=i
  ·subst e;simp [h]
  ·simp [e]
structure ROW where
 num:Nat
 live:Nat
 gh:Nat
 ch:Nat
 hs:List (Nat->Nat)
abbrev ROW.v (r:ROW):Value:=.slice (some ⟨r.gh,0,none⟩) r.hs.length r.ch
def ROW.rw (r:ROW):RW:=⟨r.num,r.live,some ⟨r.gh,0,none⟩,r.hs.length,r.ch⟩
def HL (hs:List (Nat->Nat)):List Value:=hs.flatMap fun h=>z05 .u8 32 h
def RC (rs:List ROW):List Value:=rs.flatMap fun r=>[.int .u64 (r.num:Int),.int .u64 (r.live:Int),r.v]
theorem z8A:∀ (hs:List (Nat->Nat)) (k i:Nat) (h:Nat->Nat),hs[k]?=some h->i<32->(HL hs)[k*32+i]?=some (.int .u8 ((h i:Nat):Int))
 | [],_,_,_,e,_=>by simp at e
 | x :: hs,0,i,h,e,hi=>by
   simp only [List.getElem?_cons_zero,Option.some.injEq] at e;subst e;unfold HL;rw [List.flatMap_cons,List.getElem?_append_left (by rw [z0a];omega),Nat.zero_mul,Nat.zero_add,z0Z _ _ _ _ hi]
 | x :: hs,k+1,i,h,e,hi=>by
   simp only [List.getElem?_cons_succ] at e;have ih:=z8A hs k i h e hi;unfold HL at ih ⊢;rw [List.flatMap_cons,List.getElem?_append_right (by rw [z0a];omega),z0a,show (k+1)*32+i - 32=k*32+i by omega];exact ih
theorem z4z:∀ rs:List ROW,(RC rs).length=rs.length*3
 | []=>rfl
 | r :: rs=>by
   have ih:=z4z rs;unfold RC at ih ⊢;rw [List.flatMap_cons,List.length_append,ih,List.length_cons];simp;omega
theorem z2z:∀ (rs:List ROW) (k i:Nat) (r:ROW),rs[k]?=some r->i<3->(RC rs)[k*3+i]?=[.int .u64 (r.num:Int),.int .u64 (r.live:Int),r.v][i]?
 | [],_,_,_,e,_=>by simp at e
 | x :: rs,0,i,r,e,hi=>by
   simp only [List.getElem?_cons_zero,Option.some.injEq] at e;subst e;unfold RC;rw [List.flatMap_cons,List.getElem?_append_left (by simp;omega),Nat.zero_mul,Nat.zero_add]
 | x :: rs,k+1,i,r,e,hi=>by
   simp only [List.getElem?_cons_succ] at e;have ih:=z2z rs k i r e hi;unfold RC at ih ⊢;rw [List.flatMap_cons,List.getElem?_append_right (by simp;omega)];simp only [List.length_cons,List.length_nil];rw [show (k+1)*3+i - (0+1+1+1)=k*3+i by omega];exact ih
structure CHUNK (w:World) (B g:Nat) (rs:List ROW):Prop where
 box:∃ v,Has w g #[v] 128/\w.ownsRow B 139 3 v rs.length (RC rs)
 far:B<=g
 few:rs.length<2 ^ 40
 rise:∀ (i j:Nat) (r s:ROW),i<j->rs[i]?=some r->rs[j]?=some s->r.num<s.num
 row:∀ r∈rs,r.num<2 ^ 58/\r.live<2 ^ 64/\r.hs.length=POP r.live/\(∀ h∈r.hs,∀ i,h i<256)/\w.ownsRow B 25 32 r.v r.hs.length (HL r.hs)
 apart:∀ (i j:Nat) (r s:ROW),i≠j->rs[i]?=some r->rs[j]?=some s->r.gh≠s.gh
 lives:∀ r∈rs,∃ j,j<64/\r.live.testBit j=true
def LOOK (rs:List ROW) (p:Nat):Option (Nat->Nat):=(rs.find? fun r=>r.num == p / 64).bind fun r=>if r.live.testBit (p % 64) then r.hs[RK r.live (p % 64)]? else none
theorem z3i {rs:List ROW} {p:Nat} (h:∀ r∈rs,r.num≠p / 64):LOOK rs p=none:=by
 unfold LOOK;rw [List.find?_eq_none.2 (fun r hr=>by simpa using h r hr)];rfl
theorem z6K {rs:List ROW} {p i:Nat} {r:ROW} (hr:rs[i]?=some r) (hn:r.num=p / 64) (hd:∀ (i j:Nat) (r s:ROW),i<j->rs[i]?=some r->rs[j]?=some s->r.num<s.num):LOOK rs p=if r.live.testBit (p % 64) then r.hs[RK r.live (p % 64)]? else none:=by
 have hf:(rs.find? fun r=>r.num == p / 64)=some r:=by
  cases hc:rs.find? fun r=>r.num == p / 64 with
  | none=>exact absurd (List.find?_eq_none.1 hc r (List.mem_of_getElem? hr)) (by simp [hn])
  | some s=>
    have hs:=List.find?_some hc;obtain ⟨j,hj⟩:=List.getElem?_of_mem (List.mem_of_find?_eq_some hc);have hs':s.num=p / 64:=by simpa using hs
    rcases Nat.lt_trichotomy i j with h | h | h
    ·have:=hd i j r s h hr hj;omega
    ·subst h;rw [hr] at hj;exact hj.symm
    ·have:=hd j i s r h hj hr;omega
 unfold LOOK;rw [hf];rfl
theorem z66 {rs:List ROW} {i:Nat} {q:RW} (h:(rs.map ROW.rw)[i]?=some q):∃ r,rs[i]?=some r/\q=r.rw:=by
 rw [List.getElem?_map] at h;obtain ⟨r,hr,rfl⟩:=Option.map_eq_some_iff.1 h;exact ⟨r,hr,rfl⟩
theorem CHUNK.rises {w:World} {B g:Nat} {rs:List ROW} (h:CHUNK w B g rs):z7K (rs.map ROW.rw):=fun i j q s hij hq hs=>by
 obtain ⟨r,hr,rfl⟩:=z66 hq;obtain ⟨t,ht,rfl⟩:=z66 hs;exact h.rise i j r t hij hr ht
theorem CHUNK.lies {w:World} {B g:Nat} {rs:List ROW} (h:CHUNK w B g rs):∃ a cap,Has w g #[.slice a rs.length cap] 128/\z2R w a (rs.map ROW.rw)/\(0<rs.length->∃ gr,a=some ⟨gr,0,none⟩/\B<=gr/\gr<w.heap.size)/\w.ownsRow B 139 3 (.slice a rs.length cap) rs.length (RC rs):=by
 obtain ⟨v,hv,ho⟩:=h.box;rcases ho.2 with ⟨rfl,h0⟩ | ⟨gr,cap,cur,rfl,hb,hg,hle,hm,hsz,hx⟩
 ·have hr:rs=[]:=List.eq_nil_of_length_eq_zero h0
  subst hr;exact ⟨none,0,hv,fun h=>by simp at h,fun h=>by simp at h,ho⟩
 ·have hlt:gr<w.heap.size:=(Array.getElem?_eq_some_iff.1 hg).1
  refine ⟨_,cap,hv,fun _=>⟨gr,0,rfl,hlt,fun j q hq=>?_⟩,fun _=>⟨gr,rfl,hb,hlt⟩,ho⟩;obtain ⟨r,hr,rfl⟩:=z66 hq;have hj:j<rs.length:=(List.getElem?_eq_some_iff.1 hr).1;have g0:=z2z rs j 0 r hr (by decide);have g1:=z2z rs j 1 r hr (by decide);have g2:=z2z rs j 2 r hr (by decide);refine ⟨?_,?_,?_⟩
  ·rw [Nat.zero_add,ho.cellAt (j*3) (by omega)]
   exact g0
  ·rw [Nat.zero_add,ho.cellAt (j*3+1) (by omega)]
   exact g1
  ·rw [Nat.zero_add,ho.cellAt (j*3+2) (by omega)]
   exact g2
theorem CHUNK.hash {w:World} {B g k:Nat} {rs:List ROW} {r:ROW} {h:Nat->Nat} (hC:CHUNK w B g rs) (hr:r∈rs) (hh:r.hs[k]?=some h):w.rangeAt r.gh (k*32) (z05 .u8 32 h):=fun j v hv=>by
 have hj:j<32:=by have:=(List.getElem?_eq_some_iff.1 hv).1;rw [z0a] at this;exact this
 rw [z0Z _ _ _ _ hj] at hv;have hk:k<r.hs.length:=(List.getElem?_eq_some_iff.1 hh).1;rw [(hC.row r hr).2.2.2.2.cellAt (k*32+j) (by omega),z8A r.hs k j h hh hj,hv]
end Go.Proofs.YtlbcnaenhghieaaGreatDoor.HX
