/- ClashAcross: part 18. -/
import Derived.Test.YtdggkbpabjgdfaaGreatDoorClashAcrossP12
set_option maxHeartbeats 4000000
namespace Go.Proofs.YtdggkbpabjgdfaaGreatDoor
open Go.RowKit
set_option maxRecDepth 100000
@[go_sem] def VROPSq0:Oper:=⟨some 51,.move (.tmp 9),110,"verify.go:62",#[],none⟩
@[go_sem] def VROPSq1:Oper:=⟨some 52,.fieldAddr 48 (.tmp 3) 0,0,"verify.go:62",#[],none⟩
@[go_sem] def VROPSq2:Oper:=⟨some 53,.load 22 (.tmp 52),22,"verify.go:62",#[⟨1,.data⟩],none⟩
@[go_sem] def VROPSq3:Oper:=⟨some 54,.call {callee:=.value (.func 71),args:=#[.tmp 51,.tmp 53],argTypes:=#[110,22]},38,"verify.go:62",#[⟨0,.data⟩,⟨2,.data⟩],none⟩
@[go_sem] def VROPSq4:Oper:=⟨some 55,.move (.tmp 9),110,"verify.go:62",#[],none⟩
@[go_sem] def VROPSq5:Oper:=⟨some 56,.fieldAddr 48 (.tmp 3) 1,0,"verify.go:62",#[],none⟩
@[go_sem] def VROPSq6:Oper:=⟨some 57,.load 22 (.tmp 56),22,"verify.go:62",#[⟨5,.data⟩],none⟩
@[go_sem] def VROPSq7:Oper:=⟨some 58,.call {callee:=.value (.func 71),args:=#[.tmp 55,.tmp 57],argTypes:=#[110,22]},38,"verify.go:62",#[⟨4,.data⟩,⟨6,.data⟩,⟨3,.chain⟩],none⟩
@[go_sem] def VROPSq8:Oper:=⟨some 4,.assign (.tmp 54),38,"verify.go:62",#[⟨3,.data⟩,⟨7,.chain⟩,⟨0,.phase⟩,⟨1,.phase⟩,⟨2,.phase⟩,⟨3,.phase⟩,{on:=4,ground:=.textOnly Departure.lateStores},{on:=5,ground:=.textOnly Departure.lateStores},{on:=6,ground:=.textOnly Departure.lateStores},{on:=7,ground:=.textOnly Departure.lateStoresUnsure}],none⟩
@[go_sem] def VROPSq9:Oper:=⟨some 5,.assign (.tmp 58),38,"verify.go:62",#[⟨7,.data⟩,⟨8,.chain⟩,⟨0,.phase⟩,⟨1,.phase⟩,⟨2,.phase⟩,⟨3,.phase⟩,⟨4,.phase⟩,⟨5,.phase⟩,⟨6,.phase⟩,⟨7,.phase⟩,⟨8,.phase⟩],none⟩
@[go_sem] def VROPSq10:Oper:=⟨some 6,.assign (.const (.int .i64 0)),27,"verify.go:62",#[⟨9,.chain⟩,⟨0,.phase⟩,⟨1,.phase⟩,⟨2,.phase⟩,⟨3,.phase⟩,⟨4,.phase⟩,⟨5,.phase⟩,⟨6,.phase⟩,⟨7,.phase⟩,⟨8,.phase⟩,⟨9,.phase⟩],none⟩
def z4Z:Array Oper:=#[VROPSq0,VROPSq1,VROPSq2,VROPSq3,VROPSq4,VROPSq5,VROPSq6,VROPSq7,VROPSq8,VROPSq9,VROPSq10]
theorem zaC {Q:Exit->Act->World->Prop} (b d f g h i j k l m n p q r s u x y z A B C D E G H I J L M N O P R T U V Z aa ab ac ad ae af ag ah ai aj ak al am an ao ap aq ar au:Value) (W:World) (mb b3 F S:Nat) (P0:World->Prop) (P1:Value->World->Prop) (P2:Value->Value->World->Prop) (t0:∀ w,P0 w->(fun W:World=>W.cell? ⟨b3,0,none⟩=some (.int .u64 (F:Int))/\W.cell? ⟨b3,1,none⟩=some (.int .u64 (S:Int))) w) (t1:∀ X w,P1 X w->(fun W:World=>W.cell? ⟨b3,0,none⟩=some (.int .u64 (F:Int))/\W.cell? ⟨b3,1,none⟩=some (.int .u64 (S:Int))) w) (t2:∀ X Y w,P2 X Y w->(fun W:World=>W.cell? ⟨b3,0,none⟩=some (.int .u64 (F:Int))/\W.cell? ⟨b3,1,none⟩=some (.int .u64 (S:Int))) w) (c1:∀ w,P0 w->Calls Tryz.prog 71 #[.map (some mb),.int .u64 (F:Int)] w fun e w'=>∃ X,e=.returned X/\P1 X w') (c2:∀ X w,P1 X w->Calls Tryz.prog 71 #[.map (some mb),.int .u64 (S:Int)] w fun e w'=>∃ Y,e=.returned Y/\P2 X Y w') (h0:P0 W.drew) (hQ:∀ c (a:Act) (t:Tmp) (v:Value) w,Q (.panic c) (a.put (some t) v) w->Q (.panic c) a w)
  (hfin:∀ (X Y:Value) (w:World),P2 X Y w->Q .normal {tmps:=#[b,d,f,.pointer (some ⟨b3,0,none⟩),X,Y,.int .i64 0,j,k,.map (some mb),l,m,n,p,q,r,s,u,x,y,z,A,B,C,D,E,G,H,I,J,L,M,N,O,P,R,T,U,V,Z,aa,ab,ac,ad,ae,af,ag,ah,ai,aj,ak,.map (some mb),.pointer (some ⟨b3,0,none⟩),.int .u64 (F:Int),X,.map (some mb),.pointer (some ⟨b3,1,none⟩),.int .u64 (S:Int),Y],defers:=[]} w):(Code.region 12 z4Z true).wp Tryz.prog Q {tmps:=#[b,d,f,.pointer (some ⟨b3,0,none⟩),g,h,i,j,k,.map (some mb),l,m,n,p,q,r,s,u,x,y,z,A,B,C,D,E,G,H,I,J,L,M,N,O,P,R,T,U,V,Z,aa,ab,ac,ad,ae,af,ag,ah,ai,aj,ak,al,am,an,ao,ap,aq,ar,au],defers:=[]} W:=by
 have k2:∀ (X Y:Value) (w:World),P2 X Y w->wpAnyH Tryz.prog .any z4Z Q (fun W:World=>W.cell? ⟨b3,0,none⟩=some (.int .u64 (F:Int))/\W.cell? ⟨b3,1,none⟩=some (.int .u64 (S:Int))) 3 #[tt,tt,tt,tt,tt,tt,tt,tt,ff,ff,ff] {tmps:=#[b,d,f,.pointer (some ⟨b3,0,none⟩),g,h,i,j,k,.map (some mb),l,m,n,p,q,r,s,u,x,y,z,A,B,C,D,E,G,H,I,J,L,M,N,O,P,R,T,U,V,Z,aa,ab,ac,ad,ae,af,ag,ah,ai,aj,ak,.map (some mb),.pointer (some ⟨b3,0,none⟩),.int .u64 (F:Int),X,.map (some mb),.pointer (some ⟨b3,1,none⟩),.int .u64 (S:Int),Y],defers:=[]} w:=fun X Y w hp=>by
  have hww:(fun W:World=>W.cell? ⟨b3,0,none⟩=some (.int .u64 (F:Int))/\W.cell? ⟨b3,1,none⟩=some (.int .u64 (S:Int))) w:=t2 _ _ _ hp;have last:wpAnyH Tryz.prog .any z4Z Q (fun W:World=>W.cell? ⟨b3,0,none⟩=some (.int .u64 (F:Int))/\W.cell? ⟨b3,1,none⟩=some (.int .u64 (S:Int))) 0 #[tt,tt,tt,tt,tt,tt,tt,tt,tt,tt,tt] {tmps:=#[b,d,f,.pointer (some ⟨b3,0,none⟩),X,Y,.int .i64 0,j,k,.map (some mb),l,m,n,p,q,r,s,u,x,y,z,A,B,C,D,E,G,H,I,J,L,M,N,O,P,R,T,U,V,Z,aa,ab,ac,ad,ae,af,ag,ah,ai,aj,ak,.map (some mb),.pointer (some ⟨b3,0,none⟩),.int .u64 (F:Int),X,.map (some mb),.pointer (some ⟨b3,1,none⟩),.int .u64 (S:Int),Y],defers:=[]} w:=wpAnyH_done (by kernel_rfl) (hfin X Y w hp) _;refine tkP VROPSq8 X 8 hQ hww ?_;simp only [List.set];refine tkP VROPSq9 Y 9 hQ hww ?_;simp only [List.set];refine tkP VROPSq10 (.int .i64 0) 10 hQ hww ?_;simp only [List.set];exact last
 have k1:∀ (X:Value) (w:World),P1 X w->wpAnyH Tryz.prog .any z4Z Q (fun W:World=>W.cell? ⟨b3,0,none⟩=some (.int .u64 (F:Int))/\W.cell? ⟨b3,1,none⟩=some (.int .u64 (S:Int))) 4 #[tt,tt,tt,tt,tt,tt,tt,ff,ff,ff,ff] {tmps:=#[b,d,f,.pointer (some ⟨b3,0,none⟩),g,h,i,j,k,.map (some mb),l,m,n,p,q,r,s,u,x,y,z,A,B,C,D,E,G,H,I,J,L,M,N,O,P,R,T,U,V,Z,aa,ab,ac,ad,ae,af,ag,ah,ai,aj,ak,.map (some mb),.pointer (some ⟨b3,0,none⟩),.int .u64 (F:Int),X,.map (some mb),.pointer (some ⟨b3,1,none⟩),.int .u64 (S:Int),au],defers:=[]} w:=fun X w hp=>by
  have hww:(fun W:World=>W.cell? ⟨b3,0,none⟩=some (.int .u64 (F:Int))/\W.cell? ⟨b3,1,none⟩=some (.int .u64 (S:Int))) w:=t1 _ _ hp
  have last:wpAnyH Tryz.prog .any z4Z Q (fun W:World=>W.cell? ⟨b3,0,none⟩=some (.int .u64 (F:Int))/\W.cell? ⟨b3,1,none⟩=some (.int .u64 (S:Int))) 4 #[tt,tt,tt,tt,tt,tt,tt,ff,ff,ff,ff] {tmps:=#[b,d,f,.pointer (some ⟨b3,0,none⟩),g,h,i,j,k,.map (some mb),l,m,n,p,q,r,s,u,x,y,z,A,B,C,D,E,G,H,I,J,L,M,N,O,P,R,T,U,V,Z,aa,ab,ac,ad,ae,af,ag,ah,ai,aj,ak,.map (some mb),.pointer (some ⟨b3,0,none⟩),.int .u64 (F:Int),X,.map (some mb),.pointer (some ⟨b3,1,none⟩),.int .u64 (S:Int),au],defers:=[]} w:=by
   refine z2i (o:=VROPSq7) 7 (by kernel_rfl) rfl (fun K hK=>?_);rw [if_pos (by rfl)];go_simp;refine (c2 X w hp).mono ?_;rintro e w' ⟨Y,rfl,hp⟩;exact hK.out _ _ (t2 _ _ _ hp) (fun _=>k2 X Y w' hp)
  exact last
 have k0:∀ (w:World),P0 w->wpAnyH Tryz.prog .any z4Z Q (fun W:World=>W.cell? ⟨b3,0,none⟩=some (.int .u64 (F:Int))/\W.cell? ⟨b3,1,none⟩=some (.int .u64 (S:Int))) 11 #[ff,ff,ff,ff,ff,ff,ff,ff,ff,ff,ff] {tmps:=#[b,d,f,.pointer (some ⟨b3,0,none⟩),g,h,i,j,k,.map (some mb),l,m,n,p,q,r,s,u,x,y,z,A,B,C,D,E,G,H,I,J,L,M,N,O,P,R,T,U,V,Z,aa,ab,ac,ad,ae,af,ag,ah,ai,aj,ak,al,am,an,ao,ap,aq,ar,au],defers:=[]} w:=fun  w hp=>by
  have hww:(fun W:World=>W.cell? ⟨b3,0,none⟩=some (.int .u64 (F:Int))/\W.cell? ⟨b3,1,none⟩=some (.int .u64 (S:Int))) w:=t0 _ hp
  have last:wpAnyH Tryz.prog .any z4Z Q (fun W:World=>W.cell? ⟨b3,0,none⟩=some (.int .u64 (F:Int))/\W.cell? ⟨b3,1,none⟩=some (.int .u64 (S:Int))) 5 #[tt,tt,tt,ff,tt,tt,tt,ff,ff,ff,ff] {tmps:=#[b,d,f,.pointer (some ⟨b3,0,none⟩),g,h,i,j,k,.map (some mb),l,m,n,p,q,r,s,u,x,y,z,A,B,C,D,E,G,H,I,J,L,M,N,O,P,R,T,U,V,Z,aa,ab,ac,ad,ae,af,ag,ah,ai,aj,ak,.map (some mb),.pointer (some ⟨b3,0,none⟩),.int .u64 (F:Int),ao,.map (some mb),.pointer (some ⟨b3,1,none⟩),.int .u64 (S:Int),au],defers:=[]} w:=by
   refine z2i (o:=VROPSq3) 3 (by kernel_rfl) rfl (fun K hK=>?_);rw [if_pos (by rfl)];go_simp;refine (c1 w hp).mono ?_;rintro e w' ⟨X,rfl,hp⟩;exact hK.out _ _ (t1 _ _ hp) (fun _=>k1 X w' hp)
  refine tkP VROPSq0 (.map (some mb)) 0 hQ hww ?_;simp only [List.set];refine tkP VROPSq1 (.pointer (some ⟨b3,0,none⟩)) 1 hQ hww ?_;simp only [List.set];refine tkH VROPSq2 (.int .u64 (F:Int)) 2 hQ (Or.inl ⟨by rfl,fun w hw=>by have hx:=hw.1;go_simp⟩) hww ?_;simp only [List.set];refine tkP VROPSq4 (.map (some mb)) 4 hQ hww ?_;simp only [List.set];refine tkP VROPSq5 (.pointer (some ⟨b3,1,none⟩)) 5 hQ hww ?_;simp only [List.set];refine tkH VROPSq6 (.int .u64 (S:Int)) 6 hQ (Or.inl ⟨by rfl,fun w hw=>by have hx:=hw.2;go_simp⟩) hww ?_;simp only [List.set];exact last
 have hp:=h0;exact wp_region_held_drew (S:=(fun W:World=>W.cell? ⟨b3,0,none⟩=some (.int .u64 (F:Int))/\W.cell? ⟨b3,1,none⟩=some (.int .u64 (S:Int)))) (by kernel_rfl) (t0 _ hp) (fun _=>k0 _ hp)
end Go.Proofs.YtdggkbpabjgdfaaGreatDoor
namespace Go.Proofs.YtdggkbpabjgdfaaGreatDoor
open Go.RowKit
def JF (n k:Nat):Nat->Nat->List (Nat × Nat)
 | 0,_=>[]
 | f+1,h=>if (n / 2 ^ h+1)*2 ^ h<=n+k then (h,n / 2 ^ h) :: JF n k f (h+1) else []
theorem z91 (n k:Nat):∀ f h,(JF n k f h).length<=f:=by
 intro f;induction f with
 | zero=>intro h;exact Nat.le_refl _
 | succ f ih=>
   intro h;unfold JF;split
   ·have:=ih (h+1)
    simp;exact this
   ·simp
def LOWS (n t:Nat):Prop:=t<=64/\(n=0->t=64)/\∀ h,h<=64->(n % 2 ^ h=0↔h<=t)
theorem zgX:LEN 4611686018427387904=63:=by decide +kernel
theorem z8k (t:Nat) (h:t<=64):wrap64 ((t:Int)+1)=((t+1:Nat):Int):=by unfold wrap64;omega
theorem zgY (n k:Nat) (hnk:n+k<=4611686018427387904):∃ t,LOWS n t/\∀ w,Tabled w->0<w.heap.size->Calls Tryz.prog 77 #[.int .u64 (n:Int),.int .u64 (k:Int)] w fun e w'=>
  ∃ v,e=.returned v/\w'.ownsRow w.heap.size 77 2 v (JF n k (62 - t) (t+1)).length (z07 (JF n k (62 - t) (t+1)))/\Below w.heap.size w w':=by
 obtain ⟨t,ht,ht0,hd,cl⟩:=z8d n (by omega);refine ⟨t,⟨ht,ht0,hd⟩,fun w hT h0=>?_⟩;have cl:=cl w hT;have ch:=z5W 4611686018427387904 (by decide);rw [zgX] at ch
 have hsm:n<4611686018427387904\/62<=t:=by
  rcases Nat.lt_or_ge n 4611686018427387904 with h | h
  ·exact .inl h
  ·right
   obtain rfl:n=4611686018427387904:=by omega
   exact (hd 62 (by omega)).1 (by decide)
 have HA:Aside (n+k<=4611686018427387904/\t<=64/\(n<4611686018427387904\/62<=t)):=⟨hnk,ht,hsm⟩
 have hg1:¬ (4611686018427387904:Int)<(n:Int):=by omega
 have hg2:IntKind.u64.wrap (4611686018427387904 - (n:Int))=((4611686018427387904 - n:Nat):Int):=by rw [z08];omega
 have hg3:¬ ((4611686018427387904 - n:Nat):Int)<(k:Int):=by omega
 obtain ⟨d,hdd⟩:∃ d,4611686018427387904 - n=d:=⟨_,rfl⟩
 rw [hdd] at hg2 hg3;obtain ⟨t1,ht1⟩:∃ t1,t+1=t1:=⟨_,rfl⟩
 have hw:wrap64 ((t:Int)+1)=(t1:Int):=by rw [<-ht1];exact z8k t ht
 have HT1:Aside (t+1=t1):=ht1;clear hnk ht hsm hd ht0 hT h0 hdd ht1;go_enter Tryz.func77,Tryz.ntmps77;go_wp2_with fail
 refine cl.mono ?_;rintro e w' ⟨rfl,rfl⟩;clear cl;go_wp2;clear hw hg1 hg2 hg3;go_loopg [5,6] (65 - t) (fun g s5 s6 wx=>∃ (h:Nat) (pre:List (Nat × Nat)),s6=.int .i64 (h:Int)/\Aside (h<=65/\g+h=66/\t+1<=h/\pre ++ JF n k (63 - h) h=JF n k (62 - t) (t+1)/\pre.length<=66/\wx.ownsRow w.heap.size 77 2 s5 pre.length (z07 pre)/\Below w.heap.size w wx))
 case atStart=>
  have h64:=HA.out.2.1;refine ⟨t+1,[],by first | rfl | rw [z8k t h64],by omega,by omega,Nat.le_refl _,?_,by simp,World.ownsRow_nil _ _ _ _,Below.refl _ _⟩;rw [show 63 - (t+1)=62 - t by omega];rfl
 case round=>
  obtain ⟨h,pre,rfl,A⟩:=hrel;obtain ⟨r1,r2,r3,r4,r5,r6,r7⟩:=A.out;obtain ⟨a1,a2,a3⟩:=HA.out;by_cases hle:h<=62
  ·have hle':(h:Int)<=62:=by omega
   have hN:=Node.over (i:=n) (by omega) h hle;have ce:=fun w=>zeB h (n / 2 ^ h) hN w;obtain ⟨f,hf⟩:∃ f,63 - h=f+1:=⟨62 - h,by omega⟩
   obtain ⟨E,hE⟩:∃ E,(n / 2 ^ h+1)*2 ^ h=E:=⟨_,rfl⟩
   obtain ⟨K,hK⟩:∃ K,n / 2 ^ h=K:=⟨_,rfl⟩
   have hJ:JF n k (63 - h) h=if E<=n+k then (h,K) :: JF n k (63 - (h+1)) (h+1) else []:=by
    rw [hf,<-hE,<-hK,show 63 - (h+1)=f by omega];rfl
   rw [hJ] at r4;rw [hE,hK] at ce;have e8:(h:Int) % 256=(h:Int):=by omega
   have e9:(n:Int) / 2 ^ min h 64=(K:Int):=by rw [show min h 64=h by omega,z1K,hK]
   have e9':(n:Int) / 2 ^ h=(K:Int):=by rw [z1K,hK]
   have h00:¬ (h:Int)<0:=by omega
   obtain ⟨S,hS⟩:∃ S,n+k=S:=⟨_,rfl⟩
   have hs:IntKind.u64.wrap ((n:Int)+(k:Int))=(S:Int):=by rw [z08];omega
   rw [hS] at r4;by_cases hES:E<=S
   ·have hES':¬ (S:Int)<(E:Int):=by omega
    have hES2:¬ S<E:=by omega
    rw [if_pos hES] at r4;have R:Aside (h+1<=65/\gk+h=66/\t+1<=h+1/\(pre ++ [(h,K)]) ++ JF n k (63 - (h+1)) (h+1)=JF n k (62 - t) (t+1)/\pre.length+1<=66/\wr.ownsRow w.heap.size 77 2 u5 pre.length (z07 pre)/\Below w.heap.size w wr/\pre.length<=1000/\wrap64 ((h:Int)+1)=((h+1:Nat):Int)):=⟨by omega,r2,by omega,by rw [<-r4];simp,by have:=congrArg List.length r4;have:=z91 n k (62 - t) (t+1);simp at *;omega,r6,r7,by omega,z8k h (by omega)⟩
    clear r1 r2 r3 r4 r5 r6 r7 a1 a2 a3 hN hf hE hK hJ hS A hES hle;go_wp2_with fail
    refine (ch _).mono ?_;rintro e w' ⟨rfl,rfl⟩;go_wp2_with fail
    refine (ce _).mono ?_;rintro e w2 ⟨rfl,hb2⟩;clear ce;have hH:=(Has.new wr #[.int .u8 (h:Int),.int .u64 (K:Int)] 77).keep hb2;have hz0:w2.cell? ⟨wr.heap.size,0,none⟩=some (.int .u8 (h:Int)):=hH.cell 0;have hz1:w2.cell? ⟨wr.heap.size,1,none⟩=some (.int .u64 (K:Int)):=hH.cell 1
    have O2:Aside (Below w.heap.size w w2/\w2.ownsRow w.heap.size 77 2 u5 pre.length (z07 pre)):=by
     have r7:=R.out.2.2.2.2.2.2.1;exact ⟨(r7.alloc r7.size _).trans (hb2.mono (Nat.le_trans r7.size (by simp))),z0m (R.out.2.2.2.2.2.1.alloc _) hb2⟩
    clear hb2 hH;go_wp2_with (at_builtin;refine z2T _ rfl (.tmp 36) (.tmp 38) rfl w.heap.size u5 pre.length pre rfl (O2.out.2.alloc _) w2.heap.size 1 h K rfl ((Has.at _ _ _ (by simp)).cell 0) ((Has.at _ _ _ (by simp)).cell 1) R.out.2.2.2.2.2.2.2.1 (by have:=O2.out.1.size;simp;omega) ?_;intro g' cap w3 hown hgrow hg)
    go_roundg (gk - 1)
    case measure=>have:=R.out.1;have:=R.out.2.1;omega
    case rel=>
     obtain ⟨q1,q2,q3,q4,q5,q6,q7,q8,q9⟩:=R.out;refine ⟨h+1,pre ++ [(h,K)],by first | rfl | rw [q9],q1,?_,q3,q4,by simpa using q5,by rw [List.length_append];exact hown,(O2.out.1.alloc O2.out.1.size _).grown hgrow (by have:=O2.out.1.size;simp;omega) (fun k e=>(O2.out.2.lt k e).1)⟩;clear q9;omega
   ·have hES':(S:Int)<(E:Int):=by omega
    have hES2:S<E:=by omega
    rw [if_neg hES,List.append_nil] at r4;have R:Aside (wr.ownsRow w.heap.size 77 2 u5 (JF n k (62 - t) (t+1)).length (z07 (JF n k (62 - t) (t+1)))/\Below w.heap.size w wr):=⟨by rw [<-r4];exact r6,r7⟩
    clear r1 r2 r3 r4 r5 r6 r7 a1 a2 a3 hN hf hE hK hJ hS A hES hle;go_wp2_with fail
    refine (ch _).mono ?_;rintro e w' ⟨rfl,rfl⟩;go_wp2_with fail
    refine (ce _).mono ?_;rintro e w2 ⟨rfl,hb2⟩;clear ce
    have O2:Aside (Below w.heap.size w w2/\w2.ownsRow w.heap.size 77 2 u5 (JF n k (62 - t) (t+1)).length (z07 (JF n k (62 - t) (t+1)))):=by
     have r7:=R.out.2;exact ⟨(r7.alloc r7.size _).trans (hb2.mono (Nat.le_trans r7.size (by simp))),z0m (R.out.1.alloc _) hb2⟩
    clear hb2;go_wp2;go_ret;exact ⟨_,rfl,O2.out.2,O2.out.1⟩
  ·have hle':¬ (h:Int)<=62:=by omega
   rw [show 63 - h=0 by omega] at r4;have r4':pre=JF n k (62 - t) (t+1):=by rw [<-r4];simp [JF]
   have R:Aside (wr.ownsRow w.heap.size 77 2 u5 (JF n k (62 - t) (t+1)).length (z07 (JF n k (62 - t) (t+1)))/\Below w.heap.size w wr):=⟨by rw [<-r4'];exact r6,r7⟩
   clear r1 r2 r3 r4 r5 r6 r7 a1 a2 a3 A hle r4';go_wp2_with fail
   refine (ch _).mono ?_;rintro e w' ⟨rfl,rfl⟩;go_wp2;go_ret;exact ⟨_,rfl,R.out.1,R.out.2⟩
end Go.Proofs.YtdggkbpabjgdfaaGreatDoor
namespace Go.Proofs.YtdggkbpabjgdfaaGreatDoor
open Go.RowKit
set_option maxRecDepth 100000
theorem zco {n k:Nat}:∀ {f h i x y:Nat},(JF n k f h)[i]?=some (x,y)->x=h+i/\y=n / 2 ^ x/\(y+1)*2 ^ x<=n+k/\i<f:=by
 intro f;induction f with
 | zero=>intro h i x y e;simp [JF] at e
 | succ f ih=>
   intro h i x y e;unfold JF at e;split at e
   ·rename_i hc
    cases i with
    | zero=>
      simp at e;obtain ⟨rfl,rfl⟩:=e;exact ⟨by omega,rfl,hc,by omega⟩
    | succ i=>
      rw [List.getElem?_cons_succ] at e;obtain ⟨h1,h2,h3,h4⟩:=ih e;exact ⟨by omega,h2,h3,by omega⟩
   ·simp at e
theorem z2m {w:World} {base:Nat} {t:TypeId} {s:Nat} {v:Value} {n:Nat} {xs:List Value} (h:w.ownsRow base t s v n xs):∃ ad cap,v=.slice ad n cap/\n<=cap/\(0<n->∃ g,ad=some ⟨g,0,none⟩/\base<=g/\g<w.heap.size):=by
 rcases h.2 with ⟨rfl,h0⟩ | ⟨g,cap,cur,rfl,hb,hg,r⟩
 ·subst h0
  exact ⟨none,0,rfl,Nat.le_refl _,fun h=>by omega⟩
 ·exact ⟨_,cap,rfl,r.1,fun _=>⟨g,rfl,hb,(Array.getElem?_eq_some_iff.1 hg).1⟩⟩
def JQ (d:Int) (js:List (Nat × Nat)) (M:Nat->Nat->List Int):Nat->Nat->Nat->List Int
 | 0=>M
 | t+1=>MPUT (JQ d js M t) (js.getD t (0,0)).1 (js.getD t (0,0)).2 (z0o d (JQ d js M t ((js.getD t (0,0)).1 - 1) (2*(js.getD t (0,0)).2)) (JQ d js M t ((js.getD t (0,0)).1 - 1) (2*(js.getD t (0,0)).2+1)))
theorem z9F {d:Int} {js:List (Nat × Nat)} {M:Nat->Nat->List Int} (h:∀ a b,IsH (M a b)):∀ t a b,IsH (JQ d js M t a b)
 | 0,a,b=>h a b
 | t+1,a,b=>z3w (z9F h t) (z1r _ _ _) _ _ a b
structure JSOK (F k:Nat) (js:List (Nat × Nat)):Prop where
 few:js.length<=62
 each:∀ (i x y:Nat),js[i]?=some (x,y)->1<=x/\x<200/\2*y+1<2 ^ 64
 call:∀ w,Tabled w->0<w.heap.size->Calls Tryz.prog 77 #[.int .u64 (F:Int),.int .u64 (k:Int)] w fun e w'=>∃ v,e=.returned v/\w'.ownsRow w.heap.size 77 2 v js.length (z07 js)/\Below w.heap.size w w'
def RCM (d:Int) (js:List (Nat × Nat)) (F S:Nat) (l:List Int):Nat->Nat->List Int:=JQ d js (HAND (PXS F S) l (PXS F S).length) js.length
theorem zdp (d:Int) (F S:Nat) (hFS:F<=S) (hS:S<=4611686018427387904) (js:List (Nat × Nat)) (hJ:JSOK F (S - F) js) (a:Option Addr) (n c:Nat) (hn:n=(PXS F S).length) (l:List Int) (w:World) (hF:Flat w a n l) (hT:Tabled w) (hX:HX.Tabled w) (h0:2<w.heap.size):
  Calls Tryz.prog 42 #[.int .i64 d,.agg #[.int .u64 (F:Int),.int .u64 (S:Int),.slice a n c]] w fun e w'=>∃ a c a' c',e=.returned (.tuple #[.slice a (PC F) c,.slice a' (PC S) c',.int .i64 0])/\w'.ownsRow w.heap.size 24 32 (.slice a (PC F) c) (PC F) (z01 (CAT (RCM d js F S l) (SPAN 0 F)))/\w'.ownsRow w.heap.size 24 32 (.slice a' (PC S) c') (PC S) (z01 (CAT (RCM d js F S l) (SPAN 0 S)))/\Below w.heap.size w w'/\∀ k,(Value.slice a (PC F) c).ownBlock=some k->(Value.slice a' (PC S) c').ownBlock≠some k:=by
 have HA:Aside (F<=S/\S<=4611686018427387904/\JSOK F (S - F) js/\n=(PXS F S).length/\Flat w a n l/\Tabled w/\HX.Tabled w/\2<w.heap.size):=⟨hFS,hS,hJ,hn,hF,hT,hX,h0⟩
 clear hFS hS hJ hn hF hT hX h0;go_enter Tryz.func42,Tryz.ntmps42;go_upto_region 1 with fail
 obtain ⟨b3,hb3⟩:∃ b3,b3=w.heap.size:=⟨_,rfl⟩
 have R0:Aside (Below w.heap.size w (w.alloc (.cells #[.int .u64 (F:Int),.int .u64 (S:Int),.slice a n c] 48))/\Has (w.alloc (.cells #[.int .u64 (F:Int),.int .u64 (S:Int),.slice a n c] 48)) b3 #[.int .u64 (F:Int),.int .u64 (S:Int),.slice a n c] 48):=by
  rw [hb3];exact ⟨(Below.refl _ _).alloc (Nat.le_refl _) _,Has.new _ _ _⟩
 rw [<-hb3];generalize w.alloc (.cells #[.int .u64 (F:Int),.int .u64 (S:Int),.slice a n c] 48)=W0 at *
 have HT:Aside (∀ W,Below w.heap.size w W->Tabled W/\HX.Tabled W/\0<W.heap.size/\Flat W a n l/\2<W.heap.size):=fun W h=>by
  obtain ⟨a1,a2,a3,a4,a5,a6,a7,a8⟩:=HA.out;have hs:=h.size;exact ⟨a6.below (by omega) h,a7.below h,by omega,a5.below h,by omega⟩
 have HB:Aside (b3=w.heap.size):=hb3;clear hb3
 have hPL:PPA F S=(0,PLCS (PXS F S)):=by
  obtain ⟨a1,a2,_⟩:=HA.out;unfold PPA;rw [if_neg (by omega)]
 have y0:W0.cell? ⟨b3,0,none⟩=some (.int .u64 (F:Int)):=R0.out.2.cell 0;have y1:W0.cell? ⟨b3,1,none⟩=some (.int .u64 (S:Int)):=R0.out.2.cell 1;go_wp2_with fail
 have cP:=z5m F S W0 (HT.out _ R0.out.1).1 (HT.out _ R0.out.1).2.2.1;rw [hPL] at cP;refine cP.mono ?_;clear cP y0 y1 hPL;rintro e w1 ⟨v,rfl,hrow,hb⟩;dsimp only at *
 have hnl:(PLCS (PXS F S)).length=n:=by have:=HA.out.2.2.2.1;rw [z0u,this]
 rw [hnl] at hrow;obtain ⟨av,cv,rfl, -⟩:=z0P hrow;have R1:Aside (Below w.heap.size w w1/\Has w1 b3 #[.int .u64 (F:Int),.int .u64 (S:Int),.slice a n c] 48/\w1.ownsRow W0.heap.size 22 1 (.slice av n cv) n (z04 (PLCS (PXS F S)))):=⟨R0.out.1.trans (hb.mono R0.out.1.size),R0.out.2.keep hb,hrow⟩
 clear hrow hb R0 hnl;have y2:w1.cell? ⟨b3,2,none⟩=some (.slice a n c):=R1.out.2.1.cell 2;go_wp2_with fail
 have hfew:n<=188:=by obtain ⟨a1,a2,a3,a4,_⟩:=HA.out;have:=z2K a1 a2;omega
 have hnd:∀ s∈PXS F S,Node s.1 s.2:=by
  obtain ⟨a1,a2,a3,a4,_⟩:=HA.out;intro s hs;obtain ⟨i,hi⟩:=List.mem_iff_getElem?.1 hs;exact (z1M a1 a2).node (h:=s.1) (k:=s.2) hi
 refine (z8U (PXS F S) hnd W0.heap.size n HA.out.2.2.2.1.symm (by omega) (.slice av n cv) a c l w1 R1.out.2.2 (HT.out _ R1.out.1).2.2.2.1).mono ?_;clear y2 hnd;rintro e w2 ⟨mb,rfl,hM,hmb,hb⟩;obtain ⟨M1,hM1⟩:∃ M1,M1=HAND (PXS F S) l n:=⟨_,rfl⟩
 have hIsM:∀ p q,IsH (M1 p q):=by
  rw [hM1];have hF:=(HT.out _ R1.out.1).2.2.2.1;exact z2D hF.1 hF.2.2 n (Nat.le_refl _)
 rw [<-hM1] at hM;have R2:Aside (Below w.heap.size w w2/\Has w2 b3 #[.int .u64 (F:Int),.int .u64 (S:Int),.slice a n c] 48/\SMAP w2 mb n M1/\b3<mb):=⟨R1.out.1.trans (hb.mono R1.out.1.size),R1.out.2.1.keep hb,hM,by have:=R1.out.2.1.lt;omega⟩
 have y0:w2.cell? ⟨b3,0,none⟩=some (.int .u64 (F:Int)):=R2.out.2.1.cell 0;have y1:w2.cell? ⟨b3,1,none⟩=some (.int .u64 (S:Int)):=R2.out.2.1.cell 1
 have hsub:IntKind.u64.wrap ((S:Int) - (F:Int))=((S - F:Nat):Int):=by
  obtain ⟨a1,a2,_⟩:=HA.out;rw [z08];omega
 have KK:Aside ((∀ p q,IsH (M1 p q))/\b3<mb/\M1=HAND (PXS F S) l n/\n<=188/\2<mb):=⟨hIsM,R2.out.2.2.2,hM1,hfew,by have h1:=HA.out;have h2:=HB.out;have h3:=R2.out.2.2.2;omega⟩
 clear hM hmb hb R1 hM1 hIsM hfew;obtain ⟨K,hK⟩:∃ K,S - F=K:=⟨_,rfl⟩
 rw [hK] at hsub;go_wp2_with fail
 have cJ:=HA.out.2.2.1.call w2 (HT.out _ R2.out.1).1 (HT.out _ R2.out.1).2.2.1;rw [hK] at cJ;refine cJ.mono ?_;clear y0 y1 hsub hK cJ;rintro e w3 ⟨v,rfl,hrow,hb⟩;obtain ⟨aj,cj,rfl,hcj,hgj⟩:=z2m hrow;have hfew:=HA.out.2.2.1.few;obtain ⟨T,hTT⟩:∃ T,js.length=T:=⟨_,rfl⟩
 rw [hTT] at hrow hgj hfew ⊢;have JC:Aside (0<T->∃ gj,aj=some ⟨gj,0,none⟩/\w2.heap.size<=gj):=fun h=>by obtain ⟨g,h1,h2,_⟩:=hgj h;exact ⟨g,h1,h2⟩
 have R3:Aside (Below w.heap.size w w3/\Has w3 b3 #[.int .u64 (F:Int),.int .u64 (S:Int),.slice a n c] 48/\SMAP w3 mb (n+0) (JQ d js M1 0)/\w3.ownsRow w2.heap.size 77 2 (.slice aj T cj) T (z07 js)/\mb<w2.heap.size):=⟨R2.out.1.trans (hb.mono R2.out.1.size),R2.out.2.1.keep hb,R2.out.2.2.1.below hb,hrow,R2.out.2.2.1.lt⟩
 have KT:Aside (js.length=T/\T<=62):=⟨hTT,hfew⟩
 clear hrow hb hcj hgj hTT hfew R2;go_wp2_with fail
 go_loopg [42] T (fun q s42 wx=>∃ t:Nat,s42=.int .i64 (t:Int)/\Aside (t+q=T/\Below w.heap.size w wx/\Has wx b3 #[.int .u64 (F:Int),.int .u64 (S:Int),.slice a n c] 48/\SMAP wx mb (n+t) (JQ d js M1 t)/\wx.ownsRow w2.heap.size 77 2 (.slice aj T cj) T (z07 js)))
 case atStart=>exact ⟨0,rfl,by omega,R3.out.1,R3.out.2.1,R3.out.2.2.1,R3.out.2.2.2.1⟩
 case round=>
  obtain ⟨t,rfl,A⟩:=hrel;cases gk with
  | zero=>
    obtain rfl:t=T:=by have:=A.out.1;omega
    have hlt:¬ (t:Int)<(t:Int):=by omega
    have hH:=HT.out _ A.out.2.1;have hIs:∀ p q,IsH (JQ d js M1 t p q):=z9F KK.out.1 t
    have hC:JQ d js M1 t=RCM d js F S l:=by
     unfold RCM;rw [KK.out.2.2.1,KT.out.1,HA.out.2.2.2.1]
    rw [hC] at hIs;have hA:Aside (Below w.heap.size w wr/\Has wr b3 #[.int .u64 (F:Int),.int .u64 (S:Int),.slice a n c] 48/\SMAP wr mb (n+t) (RCM d js F S l)):=⟨A.out.2.1,A.out.2.2.1,hC ▸ A.out.2.2.2.1⟩
    clear A R3 hC hH;go_upto_region 12 with fail
    refine zaC (Q:=_) _ _ _ _ _ _ _ _ _ _ _ _ _ _ _ _ _ _ _ _ _ _ _ _ _ _ _ _ _ _ _ _ _ _ _ _ _ _ _ _ _ _ _ _ _ _ _ _ _ _ _ _ _ _ _ _ _ wr mb b3 F S
     (fun W=>Below wr.heap.size wr W) (fun X W=>Below wr.heap.size wr W/\∃ a c,X=.slice a (PC F) c/\W.ownsRow w.heap.size 24 32 (.slice a (PC F) c) (PC F) (z01 (CAT (RCM d js F S l) (SPAN 0 F))))
     (fun X Y W=>Below wr.heap.size wr W/\(∃ a c,X=.slice a (PC F) c/\W.ownsRow w.heap.size 24 32 (.slice a (PC F) c) (PC F) (z01 (CAT (RCM d js F S l) (SPAN 0 F))))/\(∃ a c,Y=.slice a (PC S) c/\W.ownsRow w.heap.size 24 32 (.slice a (PC S) c) (PC S) (z01 (CAT (RCM d js F S l) (SPAN 0 S))))/\∀ k,X.ownBlock=some k->Y.ownBlock≠some k)
     (fun W h=>⟨(hA.out.2.1.keep h).cell 0,(hA.out.2.1.keep h).cell 1⟩) (fun X W h=>⟨(hA.out.2.1.keep h.1).cell 0,(hA.out.2.1.keep h.1).cell 1⟩) (fun X Y W h=>⟨(hA.out.2.1.keep h.1).cell 0,(hA.out.2.1.keep h.1).cell 1⟩)
     (fun W hb=>?_) (fun X W hb=>?_) (Below.refl _ _).drew (fun _ _ _ _ _ h=>h) ?_
    ·have hbw:=hA.out.1.trans (hb.mono hA.out.1.size)
     have hH:=HT.out _ hbw;refine (z5s mb (n+t) F (by have:=HA.out;omega) (RCM d js F S l) W (hA.out.2.2.below hb) (fun s _=>(hIs s.1 s.2).1) hH.1 hH.2.2.1).mono ?_;rintro e w5 ⟨a5,c5,rfl,hrow,hb5⟩;exact ⟨_,rfl,hb.trans (hb5.mono hb.size),a5,c5,rfl,z0q hrow hbw.size⟩
    ·obtain ⟨hb,a4,c4,rfl,ho⟩:=hb
     have hbw:=hA.out.1.trans (hb.mono hA.out.1.size);have hH:=HT.out _ hbw;refine (z5s mb (n+t) S (by have:=HA.out;omega) (RCM d js F S l) W (hA.out.2.2.below hb) (fun s _=>(hIs s.1 s.2).1) hH.1 hH.2.2.1).mono ?_;rintro e w5 ⟨a5,c5,rfl,hrow,hb5⟩;exact ⟨_,rfl,hb.trans (hb5.mono hb.size),⟨a4,c4,rfl,z0m ho hb5⟩,⟨a5,c5,rfl,z0q hrow hbw.size⟩,fun k e1 e2=>by have h1:=(ho.lt k e1).2;have h2:=(hrow.lt k e2).1;omega⟩
    ·rintro X Y W ⟨hb,⟨a4,c4,rfl,ho⟩,⟨a5,c5,rfl,hrow⟩,hap⟩
     have AP:Aside (∀ k,(Value.slice a4 (PC F) c4).ownBlock=some k->(Value.slice a5 (PC S) c5).ownBlock≠some k):=hap;have Z:Aside (Below w.heap.size w W/\W.ownsRow w.heap.size 24 32 (.slice a4 (PC F) c4) (PC F) (z01 (CAT (RCM d js F S l) (SPAN 0 F)))/\W.ownsRow w.heap.size 24 32 (.slice a5 (PC S) c5) (PC S) (z01 (CAT (RCM d js F S l) (SPAN 0 S)))):=⟨hA.out.1.trans (hb.mono hA.out.1.size),ho,hrow⟩
     clear hb ho hrow hA hIs KK HT HA JC KT hap;go_wp2;go_ret3
     exact ⟨a4,c4,a5,c5,rfl,Z.out.2.1,Z.out.2.2,Z.out.1,AP.out⟩
  | succ q=>
    have hlt:(t:Int)<(T:Int):=by have:=A.out.1;omega
    obtain ⟨gj,haj,hgj⟩:=JC.out (by have:=A.out.1;omega);subst haj;obtain ⟨⟨x,y⟩,hxy⟩:∃ s,js[t]?=some s:=⟨_,List.getElem?_eq_getElem (by have:=A.out.1;have:=KT.out;omega)⟩
    have HX1:Aside (1<=x/\x<200/\2*y+1<2 ^ 64/\js.getD t (0,0)=(x,y)):=by
     obtain ⟨hx1,hx2,hy⟩:=HA.out.2.2.1.each t x y hxy;exact ⟨hx1,hx2,hy,by rw [List.getD_eq_getElem?_getD,hxy];rfl⟩
    have hcx:wr.cell? ⟨gj,t*2,none⟩=some (.int .u8 (x:Int)):=by
     rw [A.out.2.2.2.2.cellAt (t*2) (by have:=A.out.1;omega)];exact (z3Q js t x y hxy).1
    have hcy:wr.cell? ⟨gj,t*2+1,none⟩=some (.int .u64 (y:Int)):=by
     rw [A.out.2.2.2.2.cellAt (t*2+1) (by have:=A.out.1;omega)];exact (z3Q js t x y hxy).2
    have HG:Aside (w2.heap.size<=gj):=hgj;clear hxy hgj;go_wp2_with fail
    have hbs:Below wr.heap.size wr (wr.alloc (.cells #[.int .u8 (x:Int),.int .u64 (y:Int)] 77)):=(Below.refl _ _).alloc (Nat.le_refl _) _;have A5:Aside (Below w.heap.size w (wr.alloc (.cells #[.int .u8 (x:Int),.int .u64 (y:Int)] 77))/\Has (wr.alloc (.cells #[.int .u8 (x:Int),.int .u64 (y:Int)] 77)) b3 #[.int .u64 (F:Int),.int .u64 (S:Int),.slice a n c] 48/\SMAP (wr.alloc (.cells #[.int .u8 (x:Int),.int .u64 (y:Int)] 77)) mb (n+t) (JQ d js M1 t)/\(wr.alloc (.cells #[.int .u8 (x:Int),.int .u64 (y:Int)] 77)).ownsRow w2.heap.size 77 2 (.slice (some ⟨gj,0,none⟩) T cj) T (z07 js)):=⟨A.out.2.1.trans (hbs.mono A.out.2.1.size),A.out.2.2.1.keep hbs,A.out.2.2.2.1.below hbs,z0m A.out.2.2.2.2 hbs⟩
    obtain ⟨x1,hx1⟩:∃ x1,x=x1+1:=⟨x - 1,by have:=HX1.out;omega⟩
    have hH:=HT.out _ A5.out.1;have hIs:∀ p q,IsH (JQ d js M1 t p q):=z9F KK.out.1 t;refine (zce mb (n+t) x x1 y d (JQ d js M1 t) hx1 HX1.out.2.1 HX1.out.2.2.1 (by have:=KK.out;have:=KT.out;have:=A.out.1;omega) _ A5.out.2.2.1 (hIs _ _) (hIs _ _) hH.2.1 KK.out.2.2.2.2).mono ?_;clear hH hIs hbs;rintro e w5 ⟨rfl,hM,hg⟩
    have Z:Aside (t+1+q=T/\Below w.heap.size w w5/\Has w5 b3 #[.int .u64 (F:Int),.int .u64 (S:Int),.slice a n c] 48/\SMAP w5 mb (n+(t+1)) (JQ d js M1 (t+1))/\w5.ownsRow w2.heap.size 77 2 (.slice (some ⟨gj,0,none⟩) T cj) T (z07 js)):=by
     obtain ⟨a2,a3,a4,a5⟩:=A5.out;have hmb:=KK.out.2.1;have hb4:=HB.out;have hr:=R3.out.2.2.2.2;have hgj:=HG.out;refine ⟨by have:=A.out.1;omega,a2.grown hg a2.size (fun k e=>by cases e;omega),a3.grown hg (by simp;omega),?_,a5.kept hg (Or.inr (by simp [Value.ownBlock];omega))⟩
     have e:JQ d js M1 (t+1)=MPUT (JQ d js M1 t) x y (z0o d (JQ d js M1 t x1 (2*y)) (JQ d js M1 t x1 (2*y+1))):=by
      rw [JQ,HX1.out.2.2.2];dsimp only;rw [show x - 1=x1 by omega]
     rw [e];exact hM
    have E1:Aside (wrap64 ((t:Int)+1)=((t+1:Nat):Int)):=by have:=KT.out;have:=A.out.1;show wrap64 ((t:Int)+1)=((t+1:Nat):Int);unfold wrap64;omega
    clear hM hg A A5 hcx hcy hx1;have e1:=E1.out;go_wp2;go_roundg q
    case measure=>exact Nat.lt_succ_self _
    case rel=>exact ⟨t+1,by first | rfl | (rw [E1.out]),Z.out⟩
def RCA (d:Int) (js:List (Nat × Nat)) (F S n:Nat) (l:List Int):Int × (Nat × List Int) × (Nat × List Int):=if (PPA F S).1≠0 then ((PPA F S).1,(0,[]),(0,[])) else if n≠(PPA F S).2.length then (70,(0,[]),(0,[])) else (0,(PC F,CAT (RCM d js F S l) (SPAN 0 F)),(PC S,CAT (RCM d js F S l) (SPAN 0 S)))
def ANSR (w:World) (A:Int × (Nat × List Int) × (Nat × List Int)) (e:Ending) (w':World):Prop:=∃ a c a' c',e=.returned (.tuple #[.slice a A.2.1.1 c,.slice a' A.2.2.1 c',.int .i64 A.1])/\w'.ownsRow w.heap.size 24 32 (.slice a A.2.1.1 c) A.2.1.1 (z01 A.2.1.2)/\w'.ownsRow w.heap.size 24 32 (.slice a' A.2.2.1 c') A.2.2.1 (z01 A.2.2.2)/\Below w.heap.size w w'/\∀ k,(Value.slice a A.2.1.1 c).ownBlock=some k->(Value.slice a' A.2.2.1 c').ownBlock≠some k
theorem zgZ (d:Int) (F S:Nat) (js:List (Nat × Nat)) (hJ:F<=S->S<=4611686018427387904->JSOK F (S - F) js) (a:Option Addr) (n c:Nat) (l:List Int) (w:World) (hF:Flat w a n l) (hT:Tabled w) (hX:HX.Tabled w) (h0:2<w.heap.size):
  Calls Tryz.prog 42 #[.int .i64 d,.agg #[.int .u64 (F:Int),.int .u64 (S:Int),.slice a n c]] w (ANSR w (RCA d js F S n l)):=by
 unfold RCA;by_cases hE:(PPA F S).1=0
 ·rw [if_neg (by simpa using hE)]
  have hFS:F<=S/\S<=4611686018427387904:=by
   unfold PPA at hE;split at hE
   ·simp at hE
   ·omega
  have hPL:PPA F S=(0,PLCS (PXS F S)):=by
   unfold PPA;rw [if_neg (by omega)]
  have hlen:(PPA F S).2.length=(PXS F S).length:=by rw [hPL];exact z0u _
  by_cases hn:n=(PPA F S).2.length
  ·rw [if_neg (by simpa using hn)]
   exact zdp d F S hFS.1 hFS.2 js (hJ hFS.1 hFS.2) a n c (by omega) l w hF hT hX h0
  ·rw [if_pos hn]
   have HB:Aside (Below w.heap.size w (w.alloc (.cells #[.int .u64 (F:Int),.int .u64 (S:Int),.slice a n c] 48))):=(Below.refl _ _).alloc (Nat.le_refl _) _;have hH:Has (w.alloc (.cells #[.int .u64 (F:Int),.int .u64 (S:Int),.slice a n c] 48)) w.heap.size #[.int .u64 (F:Int),.int .u64 (S:Int),.slice a n c] 48:=Has.new _ _ _;have cP:=z5m F S _ (hT.below (by omega) HB.out) (Nat.lt_of_lt_of_le (by omega) HB.out.size);rw [hPL] at cP hn;obtain ⟨N,hN⟩:∃ N,(PLCS (PXS F S)).length=N:=⟨_,rfl⟩
   dsimp only at cP hn;rw [hN] at cP hn;have HN:Aside (n≠N):=hn;obtain ⟨b5,hb5⟩:∃ b5,b5=w.heap.size:=⟨_,rfl⟩
   rw [<-hb5] at hH;have HH:Aside (Has (w.alloc (.cells #[.int .u64 (F:Int),.int .u64 (S:Int),.slice a n c] 48)) b5 #[.int .u64 (F:Int),.int .u64 (S:Int),.slice a n c] 48):=hH;clear hT hX h0 hE hFS hPL hlen hn hN hF hH hJ;go_enter Tryz.func42,Tryz.ntmps42;go_wp2_with fail
   rw [<-hb5];refine cP.mono ?_;rintro e w1 ⟨v,rfl,hrow,hb⟩
   have hv:∃ a' c',v=.slice a' N c':=by
    obtain ⟨av,cv,e, -⟩:=z0P hrow;exact ⟨av,cv,e⟩
   have y2:w1.cell? ⟨b5,2,none⟩=some (.slice a n c):=(HH.out.keep hb).cell 2;have R:Aside (Below w.heap.size w w1):=HB.out.trans (hb.mono HB.out.size);clear hrow hb cP HB HH hb5;obtain ⟨a',c',rfl⟩:=hv;go_wp2_with fail
   refine (z7u (.slice a' N c') N ⟨a',c',rfl⟩ a n c HN.out w1).mono ?_;rintro e w2 ⟨rfl,rfl⟩;clear y2;go_wp2;go_ret3
   exact ⟨none,0,none,0,rfl,World.ownsRow_nil _ _ _ _,World.ownsRow_nil _ _ _ _,R.out,fun k h=>by cases h⟩
 ·rw [if_pos hE]
  have HB:Aside (Below w.heap.size w (w.alloc (.cells #[.int .u64 (F:Int),.int .u64 (S:Int),.slice a n c] 48))):=(Below.refl _ _).alloc (Nat.le_refl _) _;have cP:=z5m F S _ (hT.below (by omega) HB.out) (Nat.lt_of_lt_of_le (by omega) HB.out.size);obtain ⟨E,hEe⟩:∃ E,(PPA F S).1=E:=⟨_,rfl⟩
  rw [hEe] at cP hE ⊢;have hne:((E:Int) != 0)=true:=by simp [hE]
  clear hT hX h0 hE hEe hF hJ;go_enter Tryz.func42,Tryz.ntmps42;go_wp2_with fail
  refine cP.mono ?_;rintro e w1 ⟨v,rfl,hrow,hb⟩;have R:Aside (Below w.heap.size w w1):=HB.out.trans (hb.mono HB.out.size);clear hrow hb cP HB;go_wp2;go_ret3
  exact ⟨none,0,none,0,rfl,World.ownsRow_nil _ _ _ _,World.ownsRow_nil _ _ _ _,R.out,fun k h=>by cases h⟩
theorem z92 {d:Int} {js:List (Nat × Nat)} {F S n:Nat} {l:List Int} (hl:l.length=32*n) (hr:∀ x∈l,0<=x/\x<=255):(∀ x∈(RCA d js F S n l).2.1.2,0<=x/\x<=255)/\∀ x∈(RCA d js F S n l).2.2.2,0<=x/\x<=255:=by
 unfold RCA;split
 ·simp
 ·split
  ·simp
  ·rename_i h1 h2
   have hlen:(PXS F S).length=n:=by
    have h3:n=(PPA F S).2.length:=Decidable.not_not.1 h2;have h4:(PPA F S).1=0:=Decidable.not_not.1 h1;rw [h3];unfold PPA at h4 ⊢;split at h4
    ·simp at h4
    ·rename_i h5
     rw [if_neg h5];exact (z0u _).symm
   have hIs:∀ p q,IsH (RCM d js F S l p q):=z9F (z2D hl hr (PXS F S).length (by omega)) js.length;refine ⟨fun x hx=>?_,fun x hx=>?_⟩ <;>
   ·obtain ⟨s,_,hs⟩:=List.mem_flatMap.1 hx
    exact (hIs s.1 s.2).2 x hs
end Go.Proofs.YtdggkbpabjgdfaaGreatDoor
