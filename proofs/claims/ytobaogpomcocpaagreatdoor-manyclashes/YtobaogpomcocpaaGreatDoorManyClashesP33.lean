/- ManyClashes: part 33. -/
import Derived.Test.YtobaogpomcocpaaGreatDoorManyClashesP32
set_option maxRecDepth 100000
set_option maxHeartbeats 2000000
open Go.RowKit
namespace Go.Proofs.YtobaogpomcocpaaGreatDoor
namespace HX
theorem zP{ops:Array Oper}{o:Oper}{a:Act}{w w':World}{K:Act->World->Prop}{Q:Exit->Act->World->Prop}{E:Prop}{v:Value}(hw:Region.wanted o (yielded ops a.tmps)=true)
  (hrun:(execOp a.eval o).run Tryz.prog w=.ok (.value v) w')(h:K (a.put o.dst v) w'):if Region.wanted o (yielded ops a.tmps)=true then Oper.wp Tryz.prog o a w K Q else E:=by
 rw[if_pos hw];unfold Oper.wp;rw[hrun];exact h
@[go_sem] def HAOPSq0:Oper:=⟨some 5,.fieldAddr 35 (.tmp 3) 0,0,"clash.go:16",#[],none⟩
@[go_sem] def HAOPSq1:Oper:=⟨some 6,.load 27 (.tmp 5),27,"clash.go:16",#[⟨0,.data⟩],none⟩
@[go_sem] def HAOPSq2:Oper:=⟨some 7,.fieldAddr 35 (.tmp 3) 1,0,"clash.go:16",#[],none⟩
@[go_sem] def HAOPSq3:Oper:=⟨some 8,.load 27 (.tmp 7),27,"clash.go:16",#[⟨2,.data⟩],none⟩
@[go_sem] def HAOPSq4:Oper:=⟨some 9,.call {callee:=.value (.func 30),args:=#[.tmp 6,.tmp 8],argTypes:=#[27,27]},4,"clash.go:16",#[⟨1,.data⟩,⟨3,.data⟩],none⟩
@[go_sem] def HAOPSq5:Oper:=⟨some 10,.unOp .not 4 (.tmp 9),4,"clash.go:16",#[⟨4,.data⟩],none⟩
@[go_sem] def HAOPSq6:Oper:=⟨some 11,.move (.tmp 10),4,"clash.go:16",#[⟨5,.data⟩,⟨4,.chain⟩],none⟩
@[go_sem] def HAOPSq7:Oper:=⟨some 12,.move (.tmp 0),3,"clash.go:16",#[⟨6,.guard⟩],some (6,true)⟩
@[go_sem] def HAOPSq8:Oper:=⟨some 13,.fieldAddr 35 (.tmp 3) 0,0,"clash.go:16",#[⟨6,.guard⟩],some (6,true)⟩
@[go_sem] def HAOPSq9:Oper:=⟨some 14,.load 27 (.tmp 13),27,"clash.go:16",#[⟨8,.data⟩,⟨6,.guard⟩],some (6,true)⟩
@[go_sem] def HAOPSq10:Oper:=⟨some 15,.buildSlice 63 1 #[(0,.tmp 14)],63,"clash.go:16",#[⟨9,.data⟩,⟨6,.guard⟩],some (6,true)⟩
@[go_sem] def HAOPSq11:Oper:=⟨some 16,.call {callee:=.value (.func 31),args:=#[.tmp 12,.tmp 15],argTypes:=#[3,63]},23,"clash.go:16",#[⟨7,.data⟩,⟨10,.data⟩,⟨6,.chain⟩,⟨6,.guard⟩],some (6,true)⟩
@[go_sem] def HAOPSq12:Oper:=⟨some 17,.move (.tmp 0),3,"clash.go:16",#[⟨6,.guard⟩],some (6,true)⟩
@[go_sem] def HAOPSq13:Oper:=⟨some 18,.fieldAddr 35 (.tmp 3) 1,0,"clash.go:16",#[⟨6,.guard⟩],some (6,true)⟩
@[go_sem] def HAOPSq14:Oper:=⟨some 19,.load 27 (.tmp 18),27,"clash.go:16",#[⟨13,.data⟩,⟨6,.guard⟩],some (6,true)⟩
@[go_sem] def HAOPSq15:Oper:=⟨some 20,.buildSlice 63 1 #[(0,.tmp 19)],63,"clash.go:16",#[⟨14,.data⟩,⟨6,.guard⟩],some (6,true)⟩
@[go_sem] def HAOPSq16:Oper:=⟨some 21,.call {callee:=.value (.func 31),args:=#[.tmp 17,.tmp 20],argTypes:=#[3,63]},23,"clash.go:16",#[⟨12,.data⟩,⟨15,.data⟩,⟨11,.chain⟩,⟨6,.guard⟩],some (6,true)⟩
@[go_sem] def HAOPSq17:Oper:=⟨some 22,.binOp .eql 23 (.tmp 16) (.tmp 21) 23,4,"clash.go:16",#[⟨11,.data⟩,⟨16,.data⟩,⟨6,.guard⟩],some (6,true)⟩
@[go_sem] def HAOPSq18:Oper:=⟨some 23,.pick (.tmp 11) (.tmp 22) (.const (.bool false)),4,"clash.go:16",#[⟨6,.data⟩,⟨17,.data⟩],none⟩
@[go_sem] def HAOPSq19:Oper:=⟨some 4,.assign (.tmp 23),4,"clash.go:16",#[⟨18,.data⟩,⟨16,.chain⟩,⟨0,.phase⟩,⟨1,.phase⟩,⟨2,.phase⟩,⟨3,.phase⟩,⟨4,.phase⟩,⟨5,.phase⟩,⟨6,.phase⟩,⟨7,.phase⟩,⟨8,.phase⟩,⟨9,.phase⟩,⟨10,.phase⟩,⟨11,.phase⟩,⟨12,.phase⟩,⟨13,.phase⟩,⟨14,.phase⟩,⟨15,.phase⟩,⟨16,.phase⟩,⟨17,.phase⟩,⟨18,.phase⟩],none⟩
def yd:Array Oper:=#[HAOPSq0,HAOPSq1,HAOPSq2,HAOPSq3,HAOPSq4,HAOPSq5,HAOPSq6,HAOPSq7,HAOPSq8,HAOPSq9,HAOPSq10,HAOPSq11,HAOPSq12,HAOPSq13,HAOPSq14,HAOPSq15,HAOPSq16,HAOPSq17,HAOPSq18,HAOPSq19]
theorem z2y{Q:Exit->Act->World->Prop}(f g i j k l p q r s u x y z A C D E F G H:Value)(W:World)(d:Int)(B:Nat)(a:Option Addr)(n c:Nat)(b:Option Addr)(m c':Nat)(S:World->Prop)(hS:∀ w,S w->w.cell? ⟨B,0,none⟩=some (.slice a n c)/\w.cell? ⟨B,1,none⟩=some (.slice b m c'))(hS0:S W.drew)(c1:∀ w,S w->Calls Tryz.prog 30 #[.slice a n c,.slice b m c'] w fun e w'=>e=.returned (.bool true)/\S w')(hQ:∀ c (a:Act) (t:Tmp) (v:Value) w,Q (.panic c) (a.put (some t) v) w->Q (.panic c) a w)
  (h:∀ w,S w->Q .normal ⟨#[.int .i64 d,f,g,.pointer (some ⟨B,0,none⟩),.bool false,.pointer (some ⟨B,0,none⟩),.slice a n c,.pointer (some ⟨B,1,none⟩),.slice b m c',.bool true,.bool false,.bool false,undef,undef,undef,undef,undef,undef,undef,undef,undef,undef,undef,.bool false],[]⟩ w):(Code.region 1 yd true).wp Tryz.prog Q ⟨#[.int .i64 d,f,g,.pointer (some ⟨B,0,none⟩),.bool false,i,j,k,l,p,q,r,s,u,x,y,z,A,C,D,E,F,G,H],[]⟩ W:=by
 have hs0:S W.drew:=hS0
 have k1:∀ w,S w->wpAnyH Tryz.prog .any yd Q S 15 #[tt,tt,tt,tt,tt,ff,ff,ff,ff,ff,ff,ff,ff,ff,ff,ff,ff,ff,ff,ff] ⟨#[.int .i64 d,f,g,.pointer (some ⟨B,0,none⟩),.bool false,.pointer (some ⟨B,0,none⟩),.slice a n c,.pointer (some ⟨B,1,none⟩),.slice b m c',.bool true,q,r,s,u,x,y,z,A,C,D,E,F,G,H],[]⟩ w:=fun w hw=>by
  have hww:S w:=hw;have last:wpAnyH Tryz.prog .any yd Q S 0 #[tt,tt,tt,tt,tt,tt,tt,tt,tt,tt,tt,tt,tt,tt,tt,tt,tt,tt,tt,tt] ⟨#[.int .i64 d,f,g,.pointer (some ⟨B,0,none⟩),.bool false,.pointer (some ⟨B,0,none⟩),.slice a n c,.pointer (some ⟨B,1,none⟩),.slice b m c',.bool true,.bool false,.bool false,undef,undef,undef,undef,undef,undef,undef,undef,undef,undef,undef,.bool false],[]⟩ w:=wpAnyH_done (by kernel_rfl) (h w hw) _;refine tkP HAOPSq5 (.bool false) 5 hQ hww ?_;simp only[List.set];refine tkP HAOPSq6 (.bool false) 6 hQ hww ?_;simp only[List.set];refine tkH HAOPSq7 undef 7 hQ (Or.inr ⟨by rfl,rfl⟩) hww ?_;simp only[List.set];refine tkH HAOPSq8 undef 8 hQ (Or.inr ⟨by rfl,rfl⟩) hww ?_;simp only[List.set];refine tkH HAOPSq9 undef 9 hQ (Or.inr ⟨by rfl,rfl⟩) hww ?_;simp only[List.set];refine tkH HAOPSq10 undef 10 hQ (Or.inr ⟨by rfl,rfl⟩) hww ?_;simp only[List.set];refine tkH HAOPSq11 undef 11 hQ (Or.inr ⟨by rfl,rfl⟩) hww ?_;simp only[List.set];refine tkH HAOPSq12 undef 12 hQ (Or.inr ⟨by rfl,rfl⟩) hww ?_;simp only[List.set];refine tkH HAOPSq13 undef 13 hQ (Or.inr ⟨by rfl,rfl⟩) hww ?_;simp only[List.set];refine tkH HAOPSq14 undef 14 hQ (Or.inr ⟨by rfl,rfl⟩) hww ?_;simp only[List.set];refine tkH HAOPSq15 undef 15 hQ (Or.inr ⟨by rfl,rfl⟩) hww ?_;simp only[List.set];refine tkH HAOPSq16 undef 16 hQ (Or.inr ⟨by rfl,rfl⟩) hww ?_;simp only[List.set];refine tkH HAOPSq17 undef 17 hQ (Or.inr ⟨by rfl,rfl⟩) hww ?_;simp only[List.set]
  refine tkP HAOPSq18 (.bool false) 18 hQ hww ?_;simp only[List.set];refine tkP HAOPSq19 (.bool false) 19 hQ hww ?_;simp only[List.set];exact last
 have k0:∀ w,S w->wpAnyH Tryz.prog .any yd Q S 20 #[ff,ff,ff,ff,ff,ff,ff,ff,ff,ff,ff,ff,ff,ff,ff,ff,ff,ff,ff,ff] ⟨#[.int .i64 d,f,g,.pointer (some ⟨B,0,none⟩),.bool false,i,j,k,l,p,q,r,s,u,x,y,z,A,C,D,E,F,G,H],[]⟩ w:=fun w hw=>by
  have hww:S w:=hw
  have last:wpAnyH Tryz.prog .any yd Q S 16 #[tt,tt,tt,tt,ff,ff,ff,ff,ff,ff,ff,ff,ff,ff,ff,ff,ff,ff,ff,ff] ⟨#[.int .i64 d,f,g,.pointer (some ⟨B,0,none⟩),.bool false,.pointer (some ⟨B,0,none⟩),.slice a n c,.pointer (some ⟨B,1,none⟩),.slice b m c',p,q,r,s,u,x,y,z,A,C,D,E,F,G,H],[]⟩ w:=by
   refine uz (o:=HAOPSq4) 4 (by kernel_rfl) rfl (fun K hK=>?_);rw[if_pos (by rfl)];go_simp;refine(c1 _ hww).mono ?_;rintro e w' ⟨rfl,hs'⟩;exact hK.out _ _ hs' (fun h=>k1 w' h)
  refine tkP HAOPSq0 (.pointer (some ⟨B,0,none⟩)) 0 hQ hww ?_;simp only[List.set];refine tkH HAOPSq1 (.slice a n c) 1 hQ (Or.inl ⟨by rfl,fun w hw=>by have hx:=(hS w hw).1;go_simp⟩) hww ?_;simp only[List.set];refine tkP HAOPSq2 (.pointer (some ⟨B,1,none⟩)) 2 hQ hww ?_;simp only[List.set];refine tkH HAOPSq3 (.slice b m c') 3 hQ (Or.inl ⟨by rfl,fun w hw=>by have hx:=(hS w hw).2;go_simp⟩) hww ?_;simp only[List.set];exact last
 exact wp_region_held_drew (S:=S) (by kernel_rfl) hs0 (fun _=>k0 _ hs0)
theorem z2Y{Q:Exit->Act->World->Prop}(f i k l p q s u x y z A D E H I J L M N O:Value)(W:World)(d:Int)(B:Nat)(a:Option Addr)(n c:Nat)(b:Option Addr)(m c':Nat)(S:World->Prop)(hS:∀ w,S w->w.cell? ⟨B,0,none⟩=some (.slice a n c)/\w.cell? ⟨B,1,none⟩=some (.slice b m c'))(hS0:S W.drew)(F G:Nat->Nat)(r:Bool)(hal:∀ w o,S w->S (w.alloc o))(heq:∀ w,(Op.equalIn 10000 23 (.agg (UARR .u8 32 F)) (.agg (UARR .u8 32 G))).run Tryz.prog w=.ok r w)
  (c1:∀ w,S w->Calls Tryz.prog 30 #[.slice a n c,.slice b m c'] w fun e w'=>e=.returned (.bool false)/\S w')(c2:(∀ w g,S w->Has w g #[.slice a n c] 27->Calls Tryz.prog 31 #[.int .i64 d,.slice (some ⟨g,0,none⟩) 1 1] w fun e w'=>e=.returned (.agg (UARR .u8 32 F))/\S w'/\(∀ (j:Nat) C t,Has w j C t->Has w' j C t)))(c3:(∀ w g2,S w->Has w g2 #[.slice b m c'] 27->Calls Tryz.prog 31 #[.int .i64 d,.slice (some ⟨g2,0,none⟩) 1 1] w fun e w'=>e=.returned (.agg (UARR .u8 32 G))/\S w'/\(∀ (j:Nat) C t,Has w j C t->Has w' j C t)))(hQ:∀ c (a:Act) (t:Tmp) (v:Value) w,Q (.panic c) (a.put (some t) v) w->Q (.panic c) a w)
  (h:∀ (g g2:Nat) w,S w->Q .normal ⟨#[.int .i64 d,f,i,.pointer (some ⟨B,0,none⟩),.bool r,.pointer (some ⟨B,0,none⟩),.slice a n c,.pointer (some ⟨B,1,none⟩),.slice b m c',.bool false,.bool true,.bool true,.int .i64 d,.pointer (some ⟨B,0,none⟩),.slice a n c,.slice (some ⟨g,0,none⟩) 1 1,.agg (UARR .u8 32 F),.int .i64 d,.pointer (some ⟨B,1,none⟩),.slice b m c',.slice (some ⟨g2,0,none⟩) 1 1,.agg (UARR .u8 32 G),.bool r,.bool r],[]⟩ w):(Code.region 1 yd true).wp Tryz.prog Q ⟨#[.int .i64 d,f,i,.pointer (some ⟨B,0,none⟩),.bool false,k,l,p,q,s,u,x,y,z,A,D,E,H,I,J,L,M,N,O],[]⟩ W:=by
 have kL:∀ (g g2:Nat) w,S w->wpAnyH Tryz.prog .any yd Q S 3 #[tt,tt,tt,tt,tt,tt,tt,tt,tt,tt,tt,tt,tt,tt,tt,tt,tt,ff,ff,ff] ⟨#[.int .i64 d,f,i,.pointer (some ⟨B,0,none⟩),.bool false,.pointer (some ⟨B,0,none⟩),.slice a n c,.pointer (some ⟨B,1,none⟩),.slice b m c',.bool false,.bool true,.bool true,.int .i64 d,.pointer (some ⟨B,0,none⟩),.slice a n c,.slice (some ⟨g,0,none⟩) 1 1,.agg (UARR .u8 32 F),.int .i64 d,.pointer (some ⟨B,1,none⟩),.slice b m c',.slice (some ⟨g2,0,none⟩) 1 1,.agg (UARR .u8 32 G),N,O],[]⟩ w:=fun g g2 w hw=>by
  have hD:wpAnyH Tryz.prog .any yd Q S 0 #[tt,tt,tt,tt,tt,tt,tt,tt,tt,tt,tt,tt,tt,tt,tt,tt,tt,tt,tt,tt] ⟨#[.int .i64 d,f,i,.pointer (some ⟨B,0,none⟩),.bool r,.pointer (some ⟨B,0,none⟩),.slice a n c,.pointer (some ⟨B,1,none⟩),.slice b m c',.bool false,.bool true,.bool true,.int .i64 d,.pointer (some ⟨B,0,none⟩),.slice a n c,.slice (some ⟨g,0,none⟩) 1 1,.agg (UARR .u8 32 F),.int .i64 d,.pointer (some ⟨B,1,none⟩),.slice b m c',.slice (some ⟨g2,0,none⟩) 1 1,.agg (UARR .u8 32 G),.bool r,.bool r],[]⟩ w:=wpAnyH_done (by kernel_rfl) (h g g2 w hw) _;refine tkH HAOPSq17 (.bool r) 17 hQ (Or.inl ⟨by rfl,fun w _=>by have hx:=heq w;go_simp⟩) hw ?_;simp only[List.set];refine tkP HAOPSq18 (.bool r) 18 hQ hw ?_;simp only[List.set];refine tkP HAOPSq19 (.bool r) 19 hQ hw ?_;simp only[List.set];exact hD
 have kG:∀ (g g2:Nat) w,S w->Has w g2 #[.slice b m c'] 27->wpAnyH Tryz.prog .any yd Q S 4 #[tt,tt,tt,tt,tt,tt,tt,tt,tt,tt,tt,tt,tt,tt,tt,tt,ff,ff,ff,ff] ⟨#[.int .i64 d,f,i,.pointer (some ⟨B,0,none⟩),.bool false,.pointer (some ⟨B,0,none⟩),.slice a n c,.pointer (some ⟨B,1,none⟩),.slice b m c',.bool false,.bool true,.bool true,.int .i64 d,.pointer (some ⟨B,0,none⟩),.slice a n c,.slice (some ⟨g,0,none⟩) 1 1,.agg (UARR .u8 32 F),.int .i64 d,.pointer (some ⟨B,1,none⟩),.slice b m c',.slice (some ⟨g2,0,none⟩) 1 1,M,N,O],[]⟩ w:=fun g g2 w hw h2=>by
  refine wpAnyH_ready (rs:=[16]) (by kernel_rfl) (by simp) ?_;refine AllReadyH.cons (o:=HAOPSq16) rfl (fun K hK=>?_) ?_
  ·rw[if_pos (by rfl)]
   go_simp;refine(c3 w g2 hw h2).mono ?_;rintro e w' ⟨rfl,hs',hk⟩;exact hK.out _ _ hs' (fun _=>kL g g2 w' hs')
  exact AllReadyH.nil
 have kE:∀ (g g2:Nat) w,S w->Has w g #[.slice a n c] 27->Has w g2 #[.slice b m c'] 27->wpAnyH Tryz.prog .any yd Q S 5 #[tt,tt,tt,tt,tt,tt,tt,tt,tt,tt,tt,ff,tt,tt,tt,tt,ff,ff,ff,ff] ⟨#[.int .i64 d,f,i,.pointer (some ⟨B,0,none⟩),.bool false,.pointer (some ⟨B,0,none⟩),.slice a n c,.pointer (some ⟨B,1,none⟩),.slice b m c',.bool false,.bool true,.bool true,.int .i64 d,.pointer (some ⟨B,0,none⟩),.slice a n c,.slice (some ⟨g,0,none⟩) 1 1,E,.int .i64 d,.pointer (some ⟨B,1,none⟩),.slice b m c',.slice (some ⟨g2,0,none⟩) 1 1,M,N,O],[]⟩ w:=fun g g2 w hw h1 h2=>by
  refine wpAnyH_ready (rs:=[11]) (by kernel_rfl) (by simp) ?_;refine AllReadyH.cons (o:=HAOPSq11) rfl (fun K hK=>?_) ?_
  ·rw[if_pos (by rfl)]
   go_simp;refine(c2 w g hw h1).mono ?_;rintro e w' ⟨rfl,hs',hk⟩;exact hK.out _ _ hs' (fun _=>kG g g2 w' hs' (hk _ _ _ h2))
  exact AllReadyH.nil
 have kD:∀ (g:Nat) w,S w->wpAnyH Tryz.prog .any yd Q S 5 #[tt,tt,tt,tt,tt,tt,tt,tt,tt,tt,tt,tt,tt,tt,tt,ff,ff,ff,ff,ff] ⟨#[.int .i64 d,f,i,.pointer (some ⟨B,0,none⟩),.bool false,.pointer (some ⟨B,0,none⟩),.slice a n c,.pointer (some ⟨B,1,none⟩),.slice b m c',.bool false,.bool true,.bool true,.int .i64 d,.pointer (some ⟨B,0,none⟩),.slice a n c,.slice (some ⟨g,0,none⟩) 1 1,.agg (UARR .u8 32 F),.int .i64 d,.pointer (some ⟨B,1,none⟩),.slice b m c',L,M,N,O],[]⟩ w:=fun g w hw=>by
  refine wpAnyH_ready (rs:=[15]) (by kernel_rfl) (by simp) ?_;refine AllReadyH.cons (o:=HAOPSq15) rfl (fun K hK=>?_) ?_
  ·exact zP (by rfl) (by go_simp) (hK.out _ _ (hal _ _ hw) (fun _=>kG g _ _ (hal _ _ hw) (Has.new w _ _)))
  exact AllReadyH.nil
 have kC:∀ (g2:Nat) w,S w->Has w g2 #[.slice b m c'] 27->wpAnyH Tryz.prog .any yd Q S 6 #[tt,tt,tt,tt,tt,tt,tt,tt,tt,tt,ff,ff,tt,tt,tt,tt,ff,ff,ff,ff] ⟨#[.int .i64 d,f,i,.pointer (some ⟨B,0,none⟩),.bool false,.pointer (some ⟨B,0,none⟩),.slice a n c,.pointer (some ⟨B,1,none⟩),.slice b m c',.bool false,.bool true,.bool true,.int .i64 d,.pointer (some ⟨B,0,none⟩),.slice a n c,D,E,.int .i64 d,.pointer (some ⟨B,1,none⟩),.slice b m c',.slice (some ⟨g2,0,none⟩) 1 1,M,N,O],[]⟩ w:=fun g2 w hw h2=>by
  refine wpAnyH_ready (rs:=[10]) (by kernel_rfl) (by simp) ?_;refine AllReadyH.cons (o:=HAOPSq10) rfl (fun K hK=>?_) ?_
  ·exact zP (by rfl) (by go_simp) (hK.out _ _ (hal _ _ hw) (fun _=>kE _ g2 _ (hal _ _ hw) (Has.new w _ _) (h2.alloc _)))
  exact AllReadyH.nil
 have kB:∀ (g:Nat) w,S w->Has w g #[.slice a n c] 27->wpAnyH Tryz.prog .any yd Q S 6 #[tt,tt,tt,tt,tt,tt,tt,tt,tt,tt,tt,ff,tt,tt,tt,ff,ff,ff,ff,ff] ⟨#[.int .i64 d,f,i,.pointer (some ⟨B,0,none⟩),.bool false,.pointer (some ⟨B,0,none⟩),.slice a n c,.pointer (some ⟨B,1,none⟩),.slice b m c',.bool false,.bool true,.bool true,.int .i64 d,.pointer (some ⟨B,0,none⟩),.slice a n c,.slice (some ⟨g,0,none⟩) 1 1,E,.int .i64 d,.pointer (some ⟨B,1,none⟩),.slice b m c',L,M,N,O],[]⟩ w:=fun g w hw h1=>by
  refine wpAnyH_ready (rs:=[11,15]) (by kernel_rfl) (by simp) ?_;refine AllReadyH.cons (o:=HAOPSq11) rfl (fun K hK=>?_) ?_
  ·rw[if_pos (by rfl)]
   go_simp;refine(c2 w g hw h1).mono ?_;rintro e w' ⟨rfl,hs',hk⟩;exact hK.out _ _ hs' (fun _=>kD g w' hs')
  refine AllReadyH.cons (o:=HAOPSq15) rfl (fun K hK=>?_) ?_
  ·exact zP (by rfl) (by go_simp) (hK.out _ _ (hal _ _ hw) (fun _=>kE g _ _ (hal _ _ hw) (h1.alloc _) (Has.new w _ _)))
  exact AllReadyH.nil
 have kA:∀ w,S w->wpAnyH Tryz.prog .any yd Q S 7 #[tt,tt,tt,tt,tt,tt,tt,tt,tt,tt,ff,ff,tt,tt,tt,ff,ff,ff,ff,ff] ⟨#[.int .i64 d,f,i,.pointer (some ⟨B,0,none⟩),.bool false,.pointer (some ⟨B,0,none⟩),.slice a n c,.pointer (some ⟨B,1,none⟩),.slice b m c',.bool false,.bool true,.bool true,.int .i64 d,.pointer (some ⟨B,0,none⟩),.slice a n c,D,E,.int .i64 d,.pointer (some ⟨B,1,none⟩),.slice b m c',L,M,N,O],[]⟩ w:=fun w hw=>by
  refine wpAnyH_ready (rs:=[10,15]) (by kernel_rfl) (by simp) ?_;refine AllReadyH.cons (o:=HAOPSq10) rfl (fun K hK=>?_) ?_
  ·exact zP (by rfl) (by go_simp) (hK.out _ _ (hal _ _ hw) (fun _=>kB _ _ (hal _ _ hw) (Has.new w _ _)))
  refine AllReadyH.cons (o:=HAOPSq15) rfl (fun K hK=>?_) ?_
  ·exact zP (by rfl) (by go_simp) (hK.out _ _ (hal _ _ hw) (fun _=>kC _ _ (hal _ _ hw) (Has.new w _ _)))
  exact AllReadyH.nil
 have k2:∀ w,S w->wpAnyH Tryz.prog .any yd Q S 15 #[tt,tt,tt,tt,tt,ff,ff,ff,ff,ff,ff,ff,ff,ff,ff,ff,ff,ff,ff,ff] ⟨#[.int .i64 d,f,i,.pointer (some ⟨B,0,none⟩),.bool false,.pointer (some ⟨B,0,none⟩),.slice a n c,.pointer (some ⟨B,1,none⟩),.slice b m c',.bool false,u,x,y,z,A,D,E,H,I,J,L,M,N,O],[]⟩ w:=fun w hw=>by
  have hA:=kA w hw;refine tkP HAOPSq5 (.bool true) 5 hQ hw ?_;simp only[List.set];refine tkP HAOPSq6 (.bool true) 6 hQ hw ?_;simp only[List.set];refine tkP HAOPSq7 (.int .i64 d) 7 hQ hw ?_;simp only[List.set];refine tkP HAOPSq8 (.pointer (some ⟨B,0,none⟩)) 8 hQ hw ?_;simp only[List.set];refine tkH HAOPSq9 (.slice a n c) 9 hQ (Or.inl ⟨by rfl,fun w hw=>by have hx:=(hS w hw).1;go_simp⟩) hw ?_;simp only[List.set];refine tkP HAOPSq12 (.int .i64 d) 12 hQ hw ?_;simp only[List.set];refine tkP HAOPSq13 (.pointer (some ⟨B,1,none⟩)) 13 hQ hw ?_;simp only[List.set];refine tkH HAOPSq14 (.slice b m c') 14 hQ (Or.inl ⟨by rfl,fun w hw=>by have hx:=(hS w hw).2;go_simp⟩) hw ?_;simp only[List.set];exact hA
 have k1:∀ w,S w->wpAnyH Tryz.prog .any yd Q S 16 #[tt,tt,tt,tt,ff,ff,ff,ff,ff,ff,ff,ff,ff,ff,ff,ff,ff,ff,ff,ff] ⟨#[.int .i64 d,f,i,.pointer (some ⟨B,0,none⟩),.bool false,.pointer (some ⟨B,0,none⟩),.slice a n c,.pointer (some ⟨B,1,none⟩),.slice b m c',s,u,x,y,z,A,D,E,H,I,J,L,M,N,O],[]⟩ w:=fun w hw=>by
  refine uz (o:=HAOPSq4) 4 (by kernel_rfl) rfl (fun K hK=>?_);rw[if_pos (by rfl)];go_simp;refine(c1 w hw).mono ?_;rintro e w' ⟨rfl,hs'⟩;exact hK.out _ _ hs' (fun h=>k2 w' h)
 have k0:∀ w,S w->wpAnyH Tryz.prog .any yd Q S 20 #[ff,ff,ff,ff,ff,ff,ff,ff,ff,ff,ff,ff,ff,ff,ff,ff,ff,ff,ff,ff] ⟨#[.int .i64 d,f,i,.pointer (some ⟨B,0,none⟩),.bool false,k,l,p,q,s,u,x,y,z,A,D,E,H,I,J,L,M,N,O],[]⟩ w:=fun w hw=>by
  have hA:=k1 w hw;refine tkP HAOPSq0 (.pointer (some ⟨B,0,none⟩)) 0 hQ hw ?_;simp only[List.set];refine tkH HAOPSq1 (.slice a n c) 1 hQ (Or.inl ⟨by rfl,fun w hw=>by have hx:=(hS w hw).1;go_simp⟩) hw ?_;simp only[List.set];refine tkP HAOPSq2 (.pointer (some ⟨B,1,none⟩)) 2 hQ hw ?_;simp only[List.set];refine tkH HAOPSq3 (.slice b m c') 3 hQ (Or.inl ⟨by rfl,fun w hw=>by have hx:=(hS w hw).2;go_simp⟩) hw ?_;simp only[List.set];exact hA
 exact wp_region_held_drew (S:=S) (by kernel_rfl) hS0 (fun _=>k0 _ hS0)
def xm(d:Int)(l k:List Nat):Bool:=!decide (l=k) && (List.range 32).all fun i=>zu d l i == zu d k i
theorem Yl{w w':World}(hb:Below w.heap.size w w'):∀ (j:Nat) C t,Has w j C t->Has w' j C t:=fun _ _ _ h=>h.keep hb
theorem z0M(d:Int)(l:List Nat):xm d l l=false:=by simp[xm]
theorem Xv(d:Int){l k:List Nat}(h:l≠k):xm d l k=(List.range 32).all fun i=>zu d l i == zu d k i:=by simp[xm,h]
theorem m9(d:Int)(a:Option Addr)(n c:Nat)(l:List Nat)(b:Option Addr)(m c':Nat)(k:List Nat)(w:World)(h1:Text w a n l)(hc1:n<=c)(hx1:∀ x,a=some x->x.block<w.heap.size)(hn:n<2 ^ 60)(h2:Text w b m k)(hc2:m<=c')(hx2:∀ x,b=some x->x.block<w.heap.size)(hm:m<2 ^ 60)(hT:Tabled w):Calls Tryz.prog 13 #[.int .i64 d,.agg #[.slice a n c,.slice b m c']] w fun e w'=>e=.returned (.bool (xm d l k))/\Below w.heap.size w w':=by
 have hb0:Below w.heap.size w (w.alloc (.cells #[.slice a n c,.slice b m c'] 35)):=(Below.refl _ _).alloc (Nat.le_refl _) _;have hbox:Has (w.alloc (.cells #[.slice a n c,.slice b m c'] 35)) w.heap.size #[.slice a n c,.slice b m c'] 35:=Has.new w _ _;have H:Aside (Text w a n l/\n<=c/\(∀ x,a=some x->x.block<w.heap.size)/\n<2 ^ 60/\Text w b m k/\m<=c'/\(∀ x,b=some x->x.block<w.heap.size)/\m<2 ^ 60/\Tabled w):=⟨h1,hc1,hx1,hn,h2,hc2,hx2,hm,hT⟩
 clear h1 hc1 hx1 hn h2 hc2 hx2 hm hT;have HR:Aside ((l=k->xm d l k=false)/\(l≠k->xm d l k=(List.range 32).all fun i=>zu d l i == zu d k i)):=⟨fun h=>by subst h;exact z0M d l,fun h=>Xv d h⟩
 generalize xm d l k=hr at *
 go_enter Tryz.func13,Tryz.ntmps13;go_upto_region 1 with fail
 generalize hw1:w.alloc (.cells #[.slice a n c,.slice b m c'] 35)=w1 at *
 have hs:∀ W,Below w1.heap.size w1 W->W.cell? ⟨w.heap.size,0,none⟩=some (.slice a n c)/\W.cell? ⟨w.heap.size,1,none⟩=some (.slice b m c'):=fun W hb=>by
  have h:=hbox.keep hb;exact⟨(h.cell 0).trans rfl,(h.cell 1).trans rfl⟩
 have hbw:∀ W,Below w1.heap.size w1 W->Below w.heap.size w W:=fun W hb=>hb0.trans (hb.mono hb0.size);by_cases e:l=k
 ·have hr0:=HR.out.1 e
  subst e;refine z2y _ _ _ _ _ _ _ _ _ _ _ _ _ _ _ _ _ _ _ _ _ w1 d w.heap.size a n c b m c' (fun W=>Below w1.heap.size w1 W) hs (Below.refl _ _).drew (fun W hW=>?_) (fun _ _ _ _ _ h=>h) ?_
  ·refine(Yn a n c l b m c' l W (H.out.1.below (hbw W hW)) (H.out.2.2.2.2.1.below (hbw W hW))).mono ?_
   rintro e w' ⟨rfl,rfl⟩;exact⟨by rw[decide_eq_true rfl],hW⟩
  ·intro W hW
   have R:=hbw W hW;clear hW hs hbw hbox hb0 hw1;go_wp2;go_ret;exact⟨by first | rfl | (subst hr0;rfl) | (rw[hr0];rfl),R⟩
 ·have hr0:=HR.out.2 e
  clear HR;refine z2Y _ _ _ _ _ _ _ _ _ _ _ _ _ _ _ _ _ _ _ _ _ w1 d w.heap.size a n c b m c' (fun W=>Below w1.heap.size w1 W) hs (Below.refl _ _).drew (zu d l) (zu d k) ((List.range 32).all fun i=>zu d l i == zu d k i) (fun W o hW=>hW.alloc hW.size _) (fun W=>YG _ _ W) (fun W hW=>?_) (fun W g hW hg=>?_) (fun W g hW hg=>?_) (fun _ _ _ _ _ h=>h) ?_
  ·refine(Yn a n c l b m c' k W (H.out.1.below (hbw W hW)) (H.out.2.2.2.2.1.below (hbw W hW))).mono ?_
   rintro e' w' ⟨rfl,rfl⟩;exact⟨by rw[decide_eq_false e],hW⟩
  ·have hb:=hbw W hW
   refine(sum9 d W g a n c l hg (H.out.1.below hb) H.out.2.1 (fun x hx=>Nat.lt_of_lt_of_le (H.out.2.2.1 x hx) hb.size) H.out.2.2.2.1 (H.out.2.2.2.2.2.2.2.2.below hb)).mono ?_;rintro e' w' ⟨rfl,hb'⟩;exact⟨rfl,hW.trans (hb'.mono hW.size),Yl hb'⟩
  ·have hb:=hbw W hW
   refine(sum9 d W g b m c' k hg (H.out.2.2.2.2.1.below hb) H.out.2.2.2.2.2.1 (fun x hx=>Nat.lt_of_lt_of_le (H.out.2.2.2.2.2.2.1 x hx) hb.size) H.out.2.2.2.2.2.2.2.1 (H.out.2.2.2.2.2.2.2.2.below hb)).mono ?_;rintro e' w' ⟨rfl,hb'⟩;exact⟨rfl,hW.trans (hb'.mono hW.size),Yl hb'⟩
  ·intro g g2 W hW
   have R:=hbw W hW;clear hW hs hbw hbox hb0 hw1 e;generalize ((List.range 32).all fun i=>zu d l i == zu d k i)=r at *
   go_wp2;go_ret;exact⟨by first | rfl | (subst hr0;rfl) | (rw[hr0];rfl),R⟩
end HX
structure FourT (w:World) (B:Nat) (K:Nat->Prop) (v:Nat->Value) (n:Nat->Nat) (xs:Nat->List Value):Prop where
 row:∀ x,x<4->w.ownsRow B 5 1 (v x) (n x) (xs x)
 apart:∀ x y,x<4->y<4->x≠y->∀ g,(v x).ownBlock=some g->(v y).ownBlock≠some g
 off:∀ x,x<4->∀ g,(v x).ownBlock=some g->¬ K g
theorem ua{d:Int}{s t:List Nat}(hne:s≠t)(he:HSHT d s=HSHT d t):HX.xm d s t=true:=by
 rw[HX.Xv d hne,List.all_eq_true];intro i hi;have hi:i<32:=List.mem_range.1 hi;have e:(HSHT d s)[i]?=(HSHT d t)[i]?:=by rw[he]
 simp only[HSHT,LST,List.getElem?_map,List.getElem?_range hi,Option.map_some,Option.some.injEq] at e;exact beq_iff_eq.2 (by omega)
structure TOLD2 (w:World) (B9:Nat) (X:Option (List Nat × List Nat)) (C0 C1 D0 D1:Value) (o1 o2:Bool):Prop where
 no:X=none->C0=.slice none 0 0/\C1=.slice none 0 0/\D0=.slice none 0 0/\D1=.slice none 0 0/\o1=false/\o2=false
 yes:∀ s t,X=some (s,t)->o1=true/\o2=true/\∃ gA cA gB cB gC cC gD cD,C0=.slice (some ⟨gA,0,none⟩) s.length cA/\C1=.slice (some ⟨gB,0,none⟩) t.length cB/\D0=.slice (some ⟨gC,0,none⟩) s.length cC/\D1=.slice (some ⟨gD,0,none⟩) t.length cD/\OWNT w B9 gA cA s/\OWNT w B9 gB cB t/\OWNT w B9 gC cC s/\OWNT w B9 gD cD t/\(gA≠gB/\gA≠gC/\gA≠gD/\gB≠gC/\gB≠gD/\gC≠gD)
theorem TOLD2.below{w w':World}{B9:Nat}{X:Option (List Nat × List Nat)}{C0 C1 D0 D1:Value}{o1 o2:Bool}(h:TOLD2 w B9 X C0 C1 D0 D1 o1 o2)(hb:Below w.heap.size w w'):TOLD2 w' B9 X C0 C1 D0 D1 o1 o2:=by
 refine⟨h.no,fun s t e=>?_⟩;obtain⟨e1,e2,gA,cA,gB,cB,gC,cC,gD,cD,q1,q2,q3,q4,r1,r2,r3,r4,r5⟩:=h.yes s t e;exact⟨e1,e2,gA,cA,gB,cB,gC,cC,gD,cD,q1,q2,q3,q4,r1.at (hb.block _ r1.lt.2),r2.at (hb.block _ r2.lt.2),r3.at (hb.block _ r3.lt.2),r4.at (hb.block _ r4.lt.2),r5⟩
def TOLD1(w:World)(B9:Nat)(X:Option (List Nat × List Nat))(C0 C1:Value)(o1:Bool):Prop:=(X=none->C0=.slice none 0 0/\C1=.slice none 0 0/\o1=false)/\∀ s t,X=some (s,t)->o1=true/\∃ gA cA gB cB,C0=.slice (some ⟨gA,0,none⟩) s.length cA/\C1=.slice (some ⟨gB,0,none⟩) t.length cB/\OWNT w B9 gA cA s/\OWNT w B9 gB cB t/\gA≠gB
theorem TOLD1.below{w w':World}{B9:Nat}{X:Option (List Nat × List Nat)}{C0 C1:Value}{o1:Bool}(h:TOLD1 w B9 X C0 C1 o1)(hb:Below w.heap.size w w'):TOLD1 w' B9 X C0 C1 o1:=by
 refine⟨h.1,fun s t e=>?_⟩;obtain⟨e1,gA,cA,gB,cB,q1,q2,r1,r2,r5⟩:=h.2 s t e;exact⟨e1,gA,cA,gB,cB,q1,q2,r1.at (hb.block _ r1.lt.2),r2.at (hb.block _ r2.lt.2),r5⟩
theorem CLASHED.told{w w':World}{X:Option (List Nat × List Nat)}{e:Ending}(h:CLASHED w X e w'):∃ a1 n1 c1 a2 n2 c2 o,e=.returned (.tuple #[.agg #[.slice a1 n1 c1,.slice a2 n2 c2],.bool o])/\TOLD1 w' w.heap.size X (.slice a1 n1 c1) (.slice a2 n2 c2) o/\Below w.heap.size w w':=by
 obtain⟨hb,h⟩:=h;cases X with
 | none=>exact⟨_,_,_,_,_,_,_,h,⟨fun _=>⟨rfl,rfl,rfl⟩,fun s t e=>by cases e⟩,hb⟩
 | some x=>
   obtain⟨s,t⟩:=x;obtain⟨gA,cA,gB,cB,h1,h2,h3,h4⟩:=h;refine⟨_,_,_,_,_,_,_,h1,⟨(fun e=>by cases e),fun s' t' e=>?_⟩,hb⟩;cases e;exact⟨rfl,gA,cA,gB,cB,rfl,rfl,h2,h3,h4⟩
theorem TOLD1.two{w w' w2:World}{B9:Nat}{X:Option (List Nat × List Nat)}{C0 C1 D0 D1:Value}{o1 o2:Bool}(h:TOLD1 w B9 X C0 C1 o1)(hb:Below w.heap.size w w')(hs:w.heap.size<=w2.heap.size)(h2:TOLD1 w' w2.heap.size X D0 D1 o2)(h9:B9<=w.heap.size):TOLD2 w' B9 X C0 C1 D0 D1 o1 o2:=by
 refine⟨fun e=>?_,fun s t e=>?_⟩
 ·obtain⟨a,b,c⟩:=h.1 e
  obtain⟨a',b',c'⟩:=h2.1 e;exact⟨a,b,a',b',c,c'⟩
 ·obtain⟨e1,gA,cA,gB,cB,q1,q2,r1,r2,r5⟩:=h.2 s t e
  obtain⟨e1',gC,cC,gD,cD,q1',q2',r1',r2',r5'⟩:=h2.2 s t e;have l1:=r1.lt;have l2:=r2.lt;have l3:=r1'.lt;have l4:=r2'.lt;refine⟨e1,e1',gA,cA,gB,cB,gC,cC,gD,cD,q1,q2,q1',q2',r1.at (hb.block _ r1.lt.2),r2.at (hb.block _ r2.lt.2),⟨zq r1'.1 (by omega),r1'.2⟩,⟨zq r2'.1 (by omega),r2'.2⟩,r5,by omega,by omega,by omega,by omega,r5'⟩
namespace HX
def R8(L:List Nat)(t:Nat)(S:ST):ST:=RND (KC (t+7)) (L.getD (t+7) 0) (RND (KC (t+6)) (L.getD (t+6) 0) (RND (KC (t+5)) (L.getD (t+5) 0) (RND (KC (t+4)) (L.getD (t+4) 0) (RND (KC (t+3)) (L.getD (t+3) 0) (RND (KC (t+2)) (L.getD (t+2) 0) (RND (KC (t+1)) (L.getD (t+1) 0) (RND (KC t) (L.getD t 0) S)))))))
def z2Z(d:Int)(l r:Nat->Nat):Nat->Nat:=HX.zu d (1 :: ((List.range 32).map l ++ (List.range 32).map r))
def VAL(d:Int)(f:Nat->Nat->Nat):Nat->Nat->Nat->Nat
 | 0,k=>f k
 | h+1,k=>z2Z d (VAL d f h (2*k)) (VAL d f h (2*k+1))
structure RW where
 num:Nat
 live:Nat
 a:Option Addr
 n:Nat
 c:Nat
end HX
end Go.Proofs.YtobaogpomcocpaaGreatDoor
namespace Go.Proofs.YtobaogpomcocpaaGreatDoor
open Go.Maps
namespace HX
def KK(k:Nat):Lit:=.string (keyBytes [.int .u64 (k:Int)])
abbrev UD(n:Nat):DataW Unit:=.lit (.int .u64 (n:Int))
def PE:Value->Option (DataW Unit × List MemPlace)
 | .pointer none=>some (UD 0,[])
 | .pointer (some ⟨g,0,none⟩)=>some (UD (g+1),[])
 | _=>none
end HX
end Go.Proofs.YtobaogpomcocpaaGreatDoor
namespace Go.Proofs.YtobaogpomcocpaaGreatDoor
namespace HX
def RK(X:Nat):Nat->Nat
 | 0=>0
 | k+1=>RK X k+if X.testBit k then 1 else 0
structure ROW where
 num:Nat
 live:Nat
 gh:Nat
 ch:Nat
 hs:List (Nat->Nat)
def HL(hs:List (Nat->Nat)):List Value:=hs.flatMap fun h=>zi .u8 32 h
end HX
end Go.Proofs.YtobaogpomcocpaaGreatDoor
namespace Go.Proofs.YtobaogpomcocpaaGreatDoor
open Go.Maps
namespace HX
abbrev jS:=Nat->Option (Nat × List ROW)
end HX
end Go.Proofs.YtobaogpomcocpaaGreatDoor
namespace Go.Proofs.YtobaogpomcocpaaGreatDoor
namespace HX
def REST(rs:List ROW)(i q live:Nat)(hs:List (Nat->Nat)):Prop:=(rs.length=i/\live=0/\hs=[])\/∃ r,rs[i]?=some r/\i+1=rs.length/\r.num=q/\r.live=live/\r.hs=hs
end HX
end Go.Proofs.YtobaogpomcocpaaGreatDoor
namespace Go.Proofs.YtobaogpomcocpaaGreatDoor
open Go.Maps
namespace HX
def FOOT(w:World)(g:Nat)(C:jS)(b:Nat):Prop:=w.cell? ⟨g,3,none⟩=some (.map (some b))\/∃ k gc rs,C k=some (gc,rs)/\(b=gc\/(∃ v,w.cell? ⟨gc,0,none⟩=some v/\v.ownBlock=some b)\/∃ r∈rs,r.gh=b)
def FULL(C:jS):Prop:=∀ k gc rs,C k=some (gc,rs)->rs≠[]
structure STEP0 (w w':World) (g:Nat) (C C':jS):Prop where
 foot:∀ b,FOOT w' g C' b->FOOT w g C b\/w.heap.size<=b
 same:∀ b,b<w.heap.size->b≠g->¬ FOOT w g C b->w'.heap[b]?=w.heap[b]?
 size:w.heap.size<=w'.heap.size
 pins:∀ i,4<=i->w'.cell? ⟨g,i,none⟩=w.cell? ⟨g,i,none⟩
structure STEP (w w':World) (g:Nat) (C C':jS):Prop extends STEP0 w w' g C C' where
 full:FULL C->FULL C'
end HX
end Go.Proofs.YtobaogpomcocpaaGreatDoor
namespace Go.Proofs.YtobaogpomcocpaaGreatDoor
namespace HX
structure TSTEP (w w':World) (g:Nat) (C C':jS):Prop where
 foot:∀ b,FOOT w' g C' b->FOOT w g C b\/w.heap.size<=b
 same:∀ b,b<w.heap.size->b≠g->¬ FOOT w g C b->w'.heap[b]?=w.heap[b]?
 size:w.heap.size<=w'.heap.size
 pin:w'.cell? ⟨g,4,none⟩=w.cell? ⟨g,4,none⟩
end HX
structure FAM (M:Nat) (t:TypeId) (s:Nat) (w:World) (B:Nat) (K:Nat->Prop) (v:Nat->Value) (n:Nat->Nat) (xs:Nat->List Value):Prop where
 row:∀ x,x<M->w.ownsRow B t s (v x) (n x) (xs x)
 apart:∀ x y,x<M->y<M->x≠y->∀ g,(v x).ownBlock=some g->(v y).ownBlock≠some g
 off:∀ x,x<M->∀ g,(v x).ownBlock=some g->¬ K g
theorem Gr{d:Int}{n k k':Nat}{l l':List Int}{s t:List Nat}(h:CLPK d n k l k' l'=some (s,t)):s≠t/\HSHT d s=HSHT d t:=by
 unfold CLPK at h;split at h
 ·have:=V3 h
  exact⟨this.1,this.2.1⟩
 ·cases h
theorem kj(d:Int)(root:List Int)(hroot:IsH root)(N:Nat)(ai:Option Addr)(n ci:Nat)(L:List Nat)(ax:Option Addr)(kx cx:Nat)(lx:List Int)(ap:Option Addr)(np cp:Nat)(p:List Int)(ay:Option Addr)(ky cy:Nat)(ly:List Int)(aq:Option Addr)(nq cq:Nat)(q:List Int)(w:World)
  (hl:L.length=n)(hn:n<=200)(hL:NUML w ai L)(hFx:Flat w ax kx lx)(hcx:kx<=cx)(hlx:∀ x,ax=some x->x.block<w.heap.size)(hkx:kx<=200)(hBp:Bytes w ap np p)(hcp:np<=cp)(hnp:np<=10000)(hFy:Flat w ay ky ly)(hcy:ky<=cy)(hly:∀ x,ay=some x->x.block<w.heap.size)(hky:ky<=200)(hBq:Bytes w aq nq q)(hcq:nq<=cq)(hnq:nq<=10000)(hT:Tabled w)(hX:HX.Tabled w)(h0:0<w.heap.size):
  Calls Tryz.prog 9 #[.int .i64 d,.agg (za root).toArray,.int .u64 (N:Int),.slice ai n ci,.slice ax kx cx,.slice ap np cp,.slice ay ky cy,.slice aq nq cq] w (CLASHED w (MCLA d root N L kx lx p ky ly q)):=by
 unfold MCLA;by_cases h:lx=ly\/MVA d root N L kx lx p≠0\/MVA d root N L ky ly q≠0
 ·rw[if_pos h]
  exact ki d root hroot N ai n ci L ax kx cx lx ap np cp p ay ky cy ly aq nq cq q w hl hn hL hFx hcx hlx hkx hBp hcp hnp hFy hcy hly hBq hcq hnq hT hX h0 h
 ·rw[if_neg h]
  have h':=not_or.1 h;have h2:=not_or.1 h'.2;exact UN d root hroot N ai n ci L ax kx cx lx ap np cp p ay ky cy ly aq nq cq q w hl hn hL hFx hcx hlx hkx hBp hcp hnp hFy hcy hly hky hBq hcq hnq hT hX h0 h'.1 (Classical.not_not.1 h2.1) (Classical.not_not.1 h2.2)
theorem Yz{d:Int}:∀ (ps:List (Nat × Nat)) (A B:Nat) (L:List Nat) (lv nd:List Int) (i j:Nat),Tile A ps B->AMID A B L->RISES L->HSS i lv->HSS j nd->L.length<=i->(zc ps L).length<=j->(MUPS d ps L lv nd).length=32*ps.length
 | [],_,_,_,_,_,_,_,_,_,_,_,_,_,_=>rfl
 | (h,k) :: ps,A,B,L,lv,nd,i,j,ht,hm,hR,hi,hj,h1,h2=>by
   obtain⟨hN,hA,ht⟩:Node h k/\k*2 ^ h=A/\Tile ((k+1)*2 ^ h) ps B:=ht;obtain⟨r,hr⟩:=yv hR ((k+1)*2 ^ h);have hn:=y7 ps hr;have hle:=hr.le;rw[hn,List.length_append] at h2;have s:=yj d h k (L.take r) lv nd i j (hm.take hR hr hA) hi hj (by rw[List.length_take];omega) (by omega);have ih:=Yz (d:=d) ps ((k+1)*2 ^ h) B (L.drop r) _ _ _ _ ht (hm.drop hr) (hR.drop r) s.2.1 s.2.2 (by rw[List.length_take,List.length_drop];omega) (by omega);rw[qF ps hr,List.length_append,s.1.1,ih,List.length_cons];omega
theorem z0N{a b c e:List Int}(ha:IsH a)(hb:IsH b)(hc:IsH c)(he:IsH e)(hne:(a,b)≠(c,e)):zJ a b≠zJ c e:=fun h=>by
 unfold zJ at h;obtain⟨h1,h2⟩:=List.append_inj (List.cons.inj h).2 (by rw[Zd,Zd]);exact hne (Prod.ext (jC ha hc h1) (jC hb he h2))
theorem Gs{d:Int}{root:List Int}{N:Nat}{L:List Nat}{kx:Nat}{lx p:List Int}{ky:Nat}{ly q:List Int}(hx:HSS kx lx)(hy:HSS ky ly)(hp:∀ x∈p,0<=x/\x<=255)(hq:∀ x∈q,0<=x/\x<=255){s t:List Nat}(h:MCLA d root N L kx lx p ky ly q=some (s,t)):s≠t/\HSHT d s=HSHT d t:=by
 unfold MCLA at h;by_cases hc:lx=ly\/MVA d root N L kx lx p≠0\/MVA d root N L ky ly q≠0
 ·rw[if_pos hc] at h
  cases h
 ·rw[if_neg hc] at h
  have h':=not_or.1 hc;have h2:=not_or.1 h'.2;have v1:=Classical.not_not.1 h2.1;have v2:=Classical.not_not.1 h2.2;have t1:=Zx v1 hp hx;have t2:=Zx v2 hq hy;rw[Xu] at h;cases hf:FPK d (MSTS d (TPS N) L lx (MDC p).2.2.2) (MSTS d (TPS N) L ly (MDC q).2.2.2) with
  | none=>
    rw[hf] at h;exact Gr h
  | some st=>
    obtain⟨a,b⟩:=st;rw[hf] at h;cases h;obtain⟨m1,m2,m3,m4⟩:=V8 hf;exact⟨z0N (t1 a m1).1 (t1 a m1).2 (t2 b m2).1 (t2 b m2).2 (fun e=>m4 (Prod.ext (Prod.mk.inj e).1 (Prod.mk.inj e).2)),m3⟩
theorem Ma{d:Int}{root:List Int}{N:Nat}{L:List Nat}{kx:Nat}{lx p:List Int}{ky:Nat}{ly q:List Int}(hx:HSS kx lx)(hy:HSS ky ly)(hp:∀ x∈p,0<=x/\x<=255)(hq:∀ x∈q,0<=x/\x<=255)(hne:lx≠ly)(v1:MVA d root N L kx lx p=0)(v2:MVA d root N L ky ly q=0):∃ s t,MCLA d root N L kx lx p ky ly q=some (s,t):=by
 unfold MCLA
 rw[if_neg (fun h=>by
   rcases h with h | h | h
   ·exact hne h
   ·exact h v1
   ·exact h v2),Xu]
 obtain⟨e1,e2,e3⟩:=qG v1;obtain⟨f1,f2,f3⟩:=qG v2;obtain⟨t1,t2,t3,_,t5⟩:=xT hp (by rw[e1]);obtain⟨u1,u2,u3,_,u5⟩:=xT hq (by rw[f1]);obtain⟨nx,hnx⟩:∃ nd,(MDC p).2.2.2=nd:=⟨_,rfl⟩
 obtain⟨ny,hny⟩:∃ nd,(MDC q).2.2.2=nd:=⟨_,rfl⟩
 have g1:=Zl v1 hp hx;have g2:=Zl v2 hq hy;rw[hnx] at e1 e3 g1 ⊢;rw[hny] at f1 f3 g2 ⊢;rw[e1] at t1 t2 t3 t5;rw[f1] at u1 u2 u3 u5;dsimp only at t1 t2 t3 t5 u1 u2 u3 u5;obtain⟨_,r2,r3⟩:=yF t2;have hA:AMID 0 N L:=fun x hx=>⟨Nat.zero_le _,r3 x hx⟩
 have l1:=Yz (d:=d) (TPS N) 0 N L lx nx kx _ (yE t1) hA r2 hx ⟨t3,t5⟩ (by omega) (Nat.le_refl _);have l2:=Yz (d:=d) (TPS N) 0 N L ly ny ky _ (yE t1) hA r2 hy ⟨u3,u5⟩ (by omega) (Nat.le_refl _);rw[yR (by omega)] at l1 l2;cases hf:FPK d (MSTS d (TPS N) L lx nx) (MSTS d (TPS N) L ly ny) with
 | some st=>exact⟨_,_,rfl⟩
 | none=>
   refine Vg l1 g1.1 l2 g2.1 ⟨by rw[jk d N t1],by rw[jk d N t1],?_,fun he=>hne ?_⟩
   ·rw[jk d N t1,jk d N t1]
    exact e3.trans f3.symm
   ·have hh:=Jt d (TPS N) 0 N L lx nx ly ny kx _ _ (yE t1) hA r2 hx ⟨t3,t5⟩ (by rw[e2,<-f2];exact hy) ⟨u3,u5⟩ (by omega) (Nat.le_refl _) (Nat.le_refl _) (V7 hf) he
    rw[List.take_of_length_le (by rw[hx.1];omega),List.take_of_length_le (by rw[hy.1];omega)] at hh;exact hh
end Go.Proofs.YtobaogpomcocpaaGreatDoor
