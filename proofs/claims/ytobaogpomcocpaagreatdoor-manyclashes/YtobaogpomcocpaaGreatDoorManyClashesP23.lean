/- ManyClashes: part 23. -/
import Derived.Test.YtobaogpomcocpaaGreatDoorManyClashesP22
set_option maxRecDepth 100000
set_option maxHeartbeats 16000000
open Go.RowKit
namespace Go.Proofs.YtobaogpomcocpaaGreatDoor
def MUPR(d:Int):List (Nat × Nat)->List Nat->List Int->List Int->List Int
 | [],_,_,_=>[]
 | (h,k) :: ps,L,lv,nd=>(MUP d h k (UND h k L) lv nd).1 ++ MUPR d ps L (MUP d h k (UND h k L) lv nd).2.1 (MUP d h k (UND h k L) lv nd).2.2
theorem vu{d:Int}:∀ {ps:List (Nat × Nat)} {L M:List Nat} {lv nd:List Int},(∀ s∈ps,UND s.1 s.2 L=UND s.1 s.2 M)->MUPR d ps L lv nd=MUPR d ps M lv nd
 | [],_,_,_,_,_=>rfl
 | (h,k) :: ps,L,M,lv,nd,hp=>by
   have e:=hp (h,k) (List.mem_cons_self ..);dsimp only at e;rw[MUPR,MUPR,e];exact congrArg _ (vu fun t ht=>hp t (List.mem_cons_of_mem _ ht))
theorem VU{k h B:Nat}{ps:List (Nat × Nat)}{L:List Nat}(ht:Tile ((k+1)*2 ^ h) ps B):∀ s∈ps,UND s.1 s.2 L=UND s.1 s.2 (L.filter fun y=>!decide (y<(k+1)*2 ^ h)):=fun s hs=>by
 have h1:=(ht.within s hs).1;unfold UND;rw[List.filter_filter];refine List.filter_congr fun y hy=>?_;by_cases e:y / 2 ^ s.1=s.2
 ·have h2:s.2*2 ^ s.1<=y:=by rw[<-e];exact Nat.div_mul_le_self _ _
  have h3:¬ y<(k+1)*2 ^ h:=by omega
  simp[e,h3]
 ·simp[e]
theorem vW{A k h N:Nat}{L:List Nat}(hA:k*2 ^ h=A)(hm:AMID A N L):UND h k L=L.filter fun y=>decide (y<(k+1)*2 ^ h):=List.filter_congr fun y hy=>decide_eq_decide.2 (by
 have h1:=Nat.div_lt_iff_lt_mul (Nat.two_pow_pos h) (x:=y) (y:=k+1);have h2:=Nat.le_div_iff_mul_le (Nat.two_pow_pos h) (x:=k) (y:=y);have h3:=(hm y hy).1;rw[<-h1];rw[hA] at h2;generalize y / 2 ^ h=q at *
 omega)
theorem vX{d:Int}:∀ (ps:List (Nat × Nat)) (A B:Nat) (L:List Nat) (lv nd:List Int),Tile A ps B->AMID A B L->MUPR d ps L lv nd=MUPS d ps L lv nd
 | [],_,_,_,_,_,_,_=>rfl
 | (h,k) :: ps,A,B,L,lv,nd,ht,hm=>by
   obtain⟨hN,hA,ht⟩:Node h k/\k*2 ^ h=A/\Tile ((k+1)*2 ^ h) ps B:=ht;have e1:=vW hA hm
   rw[MUPR,MUPS,vu (VU (L:=L) ht),e1,vX ps ((k+1)*2 ^ h) B _ _ _ ht (fun y hy=>by
     obtain⟨a,b⟩:=List.mem_filter.1 hy;have b:¬ y<(k+1)*2 ^ h:=by simpa using b
     exact⟨by omega,(hm y a).2⟩)]
theorem vv:∀ (ps:List (Nat × Nat)) (A B:Nat) (L:List Nat),Tile A ps B->AMID A B L->ps.foldr (fun s x=>(UND s.1 s.2 L).length+x) 0=L.length/\ps.foldr (fun s x=>(NEED s.1 s.2 (UND s.1 s.2 L)).length+x) 0=(zc ps L).length
  | [],A,B,L,ht,hm=>by
    have e:A=B:=ht;cases L with
    | nil=>exact⟨rfl,rfl⟩
    | cons x l=>have:=hm x (by simp);omega
  | (h, k) :: ps,A,B,L,ht,hm=>by
    obtain⟨hN,hA,ht⟩:Node h k/\k*2 ^ h=A/\Tile ((k+1)*2 ^ h) ps B:=ht;have e1:=vW hA hm
    have ih:=vv ps ((k+1)*2 ^ h) B (L.filter fun y=>!decide (y<(k+1)*2 ^ h)) ht (fun y hy=>by
      obtain⟨a,b⟩:=List.mem_filter.1 hy;have b:¬ y<(k+1)*2 ^ h:=by simpa using b
      exact⟨by omega,(hm y a).2⟩)
    have hc:∀ (f:Nat × Nat->List Nat->Nat) ,ps.foldr (fun s x=>f s (UND s.1 s.2 L)+x) 0=ps.foldr (fun s x=>f s (UND s.1 s.2 (L.filter fun y=>!decide (y<(k+1)*2 ^ h)))+x) 0:=fun f=>by
      have hr:=VU (L:=L) ht;clear ih e1 ht;induction ps with
      | nil=>rfl
      | cons s ps ihh=>
        rw[List.foldr_cons,List.foldr_cons,ihh (fun t ht=>hr t (List.mem_cons_of_mem _ ht)),hr s (List.mem_cons_self ..)]
    refine⟨?_,?_⟩
    · rw[List.foldr_cons,hc (fun _ l=>l.length),ih.1,e1]
      exact jd _ _
    · rw[List.foldr_cons,hc (fun s l=>(NEED s.1 s.2 l).length),ih.2,zc,List.length_append,e1]
def TKL(ps:List (Nat × Nat))(L:List Nat):Nat:=ps.foldr (fun s x=>(UND s.1 s.2 L).length+x) 0
def TKN(ps:List (Nat × Nat))(L:List Nat):Nat:=ps.foldr (fun s x=>(NEED s.1 s.2 (UND s.1 s.2 L)).length+x) 0
structure RCJ (d:Int) (N:Nat) (L:List Nat) (lv nd:List Int) (w w4 wx:World) (b11 i:Nat) (pv:Value) (out lvj ndj:List Int) (ya xa:Option Addr) (yc xc:Nat):Prop where
 row:Has wx b11 #[.slice ya (TKL ((TPS N).drop i) L) yc,.slice xa (TKN ((TPS N).drop i) L) xc] 71
 l:LFT w ya (TKL ((TPS N).drop i) L) yc lvj
 n:LFT w xa (TKN ((TPS N).drop i) L) xc ndj
 own:wx.ownsRow w4.heap.size 23 32 pv i (za out)
 but:BUT b11 w4 wx
 all:MUPR d (TPS N) L lv nd=out ++ MUPR d ((TPS N).drop i) L lvj ndj
theorem UB(d:Int)(L:List Nat)(N:Nat)(hN:N<2 ^ 64)(a:Option Addr)(m c:Nat)(an:Option Addr)(K cn:Nat)(al:Option Addr)(nl cl:Nat)(lv nd:List Int)(w:World)(hl:L.length=m)(hm:m<=200)(hx:∀ x∈L,x<2 ^ 64)(hK:K<=200)(hL:NUML w a L)(hFn:Flat w an K nd)(hE:MCE L N K nl≠0):
  Calls Tryz.prog 19 #[.int .i64 d,.slice al nl cl,.agg #[.int .u64 (N:Int),.slice a m c,.slice an K cn]] w (ANSC w (MCL d L N K nl lv nd)):=by
 have hP:MCL d L N K nl lv nd=(MCE L N K nl,0,[]):=if_neg hE;rw[hP];obtain⟨w1,e1⟩:∃ w1,w.alloc (.cells #[.int .u64 (N:Int),.slice a m c,.slice an K cn] 45)=w1:=⟨_,rfl⟩
 have hb1:Below w.heap.size w w1:=by rw[<-e1];exact(Below.refl _ _).alloc (Nat.le_refl _) _
 have hB1:Has w1 w.heap.size #[.int .u64 (N:Int),.slice a m c,.slice an K cn] 45:=by rw[<-e1];exact Has.new _ _ _
 have x0:=hB1.cell 0;have x1:=hB1.cell 1;have x2:=hB1.cell 2;have ce:=Jm L N hN a m c an K cn nd w1 hl hm hx hK (hL.keep hb1) (hFn.below hb1);have HB:Aside (Below w.heap.size w w1/\Has w1 w.heap.size #[.int .u64 (N:Int),.slice a m c,.slice an K cn] 45/\L.length=m):=⟨hb1,hB1,hl⟩
 clear hl hm hx hK hL hFn hb1 hB1 hP hN;by_cases hW:MWA L N K=0
 ·have hnl:nl≠L.length:=fun e=>hE (Yg hW e)
  have hne:((nl:Int) == (m:Int))=false:=beq_eq_false_iff_ne.2 (by have:=HB.out.2.2;omega);rw[jr hW hnl];have hME:MENC L N K nd=(0,MWRT L N nd):=if_pos hW;rw[hME] at ce;clear hW hE hnl hME;go_enter Tryz.func19,Tryz.ntmps19;go_wp2_with fail
  refine ce.mono ?_;rintro e w2 ⟨ae,qe,rfl,_,hb2⟩;clear ce x0 x1 x2 e1;have k2:=HB.out.2.1.keep hb2;have x1:=k2.cell 1;have FN:Aside (Below w.heap.size w w2):=HB.out.1.trans (hb2.mono HB.out.1.size);clear hb2 k2 HB;go_wp2_with fail
  go_ret2;exact⟨none,0,rfl,⟨rfl,.inl ⟨rfl,rfl⟩⟩,FN.out⟩
 ·have hME:MENC L N K nd=(MWA L N K,[]):=if_neg hW
  rw[Zt hW];rw[hME] at ce;have hw0:(MWA L N K == 0)=false:=beq_eq_false_iff_ne.2 hW;clear hME hE;generalize MWA L N K=E at *
  go_enter Tryz.func19,Tryz.ntmps19;go_wp2_with fail
  refine ce.mono ?_;rintro e w2 ⟨ae,qe,rfl,_,hb2⟩;clear ce x0 x1 x2 e1;have FN:Aside (Below w.heap.size w w2):=HB.out.1.trans (hb2.mono HB.out.1.size);clear hb2 HB;go_wp2_with fail
  go_ret2;exact⟨none,0,rfl,⟨rfl,.inl ⟨rfl,rfl⟩⟩,FN.out⟩
theorem z0t{N i h k:Nat}{L:List Nat}(e:(TPS N)[i]?=some (h,k)):TKL ((TPS N).drop i) L=(UND h k L).length+TKL ((TPS N).drop (i+1)) L/\TKN ((TPS N).drop i) L=(NEED h k (UND h k L)).length+TKN ((TPS N).drop (i+1)) L:=by
 rw[jn e];exact⟨rfl,rfl⟩
theorem mK{d:Int}{N i h k:Nat}{L:List Nat}{lv nd:List Int}(e:(TPS N)[i]?=some (h,k)):MUPR d ((TPS N).drop i) L lv nd=(MUP d h k (UND h k L) lv nd).1 ++ MUPR d ((TPS N).drop (i+1)) L (MUP d h k (UND h k L) lv nd).2.1 (MUP d h k (UND h k L) lv nd).2.2:=by
 rw[jn e];rfl
theorem VW(n:Nat)(hn:n<=4611686018427387904)(w:World):Calls Tryz.prog 36 #[.int .u64 (n:Int)] w fun e w'=>
  ∃ a cap,e=.returned (.slice a (PC n) cap)/\qi w' a (TPS n)/\(∀ x,a=some x->w.heap.size<=x.block)/\Below w.heap.size w w':=by
 refine(XG n hn w).mono ?_;rintro e w' ⟨v,rfl,hown,hb⟩;have hl:=JJ (n:=n) (by omega) 0 (by omega);rw[Nat.pow_zero,Nat.div_one] at hl;obtain⟨a,cap,rfl,hs⟩:=vP hl hown;refine⟨a,cap,rfl,hs,fun x hx=>?_,hb⟩;subst hx;exact(hown.lt x.block rfl).1
theorem UI(d:Int)(L:List Nat)(N:Nat)(hN:N<2 ^ 64)(a:Option Addr)(m c:Nat)(an:Option Addr)(K cn:Nat)(al:Option Addr)(nl cl:Nat)(lv nd:List Int)(w:World)(hl:L.length=m)(hm:m<=200)(hx:∀ x∈L,x<2 ^ 64)(hK:K<=200)(hL:NUML w a L)(hFn:Flat w an K nd)(hcn:K<=cn)(hFl:Flat w al nl lv)(hcl:nl<=cl):
  Calls Tryz.prog 19 #[.int .i64 d,.slice al nl cl,.agg #[.int .u64 (N:Int),.slice a m c,.slice an K cn]] w (ANSC w (MCL d L N K nl lv nd)):=by
 by_cases hE:MCE L N K nl=0
 case neg=>exact UB d L N hN a m c an K cn al nl cl lv nd w hl hm hx hK hL hFn hE
 have hP:MCL d L N K nl lv nd=(0,PC N,MUPS d (TPS N) L lv nd):=if_pos hE;rw[hP]
 have hW:MWA L N K=0:=by
  by_cases h:MWA L N K=0
  ·exact h
  ·rw[Zt h] at hE;exact hE
 have hnl:nl=m:=by
  by_cases h:nl=L.length
  ·rw[h,hl]
  ·rw[jr hW h] at hE;cases hE
 subst hnl;obtain⟨q1,q2⟩:=Ye hW;obtain⟨r1,r2,r3⟩:=yF q1;have hME:MENC L N K nd=(0,MWRT L N nd):=if_pos hW;have htile:=yE r1;have ham:AMID 0 N L:=fun x hx=>⟨Nat.zero_le _,r3 x hx⟩
 have hcount:=vv (TPS N) 0 N L htile ham;have hall:=vX (d:=d) (TPS N) 0 N L lv nd htile ham;have hPC:PC N<=64:=yC 64 N (by omega);have hlen:=yR (n:=N) (by omega);obtain⟨w1,e1⟩:∃ w1,w.alloc (.cells #[.int .u64 (N:Int),.slice a nl c,.slice an K cn] 45)=w1:=⟨_,rfl⟩
 obtain⟨b5,hb5⟩:∃ b5,w.heap.size=b5:=⟨_,rfl⟩
 have hb1:Below w.heap.size w w1:=by rw[<-e1];exact(Below.refl _ _).alloc (Nat.le_refl _) _
 have hB1:Has w1 b5 #[.int .u64 (N:Int),.slice a nl c,.slice an K cn] 45:=by rw[<-e1,<-hb5];exact Has.new _ _ _
 have x0:=hB1.cell 0;have x1:=hB1.cell 1;have x2:=hB1.cell 2;have ce:=Jm L N hN a nl c an K cn nd w1 hl hm hx hK (hL.keep hb1) (hFn.below hb1);rw[hME] at ce;have CT:Aside (∀ w,Calls Tryz.prog 36 #[.int .u64 (N:Int)] w fun e w'=>∃ a cap,e=.returned (.slice a (PC N) cap)/\qi w' a (TPS N)/\(∀ x,a=some x->w.heap.size<=x.block)/\Below w.heap.size w w'):=VW N r1;have HB:Aside (Below w.heap.size w w1/\Has w1 b5 #[.int .u64 (N:Int),.slice a nl c,.slice an K cn] 45/\L.length=nl/\w.heap.size=b5):=⟨hb1,hB1,hl,hb5⟩
 have HA:Aside (nl<=200/\N<=2 ^ 62/\PC N<=64/\(TPS N).length=PC N/\RISES L/\(∀ x∈L,x<2 ^ 64)/\NUML w a L/\LFT w al nl cl lv/\LFT w an K cn nd/\nl=TKL (TPS N) L/\K=TKN (TPS N) L/\MUPR d (TPS N) L lv nd=MUPS d (TPS N) L lv nd):=⟨hm,by omega,hPC,hlen,r2,hx,hL,⟨hFl,hcl⟩,⟨hFn,hcn⟩,by rw[<-hl];exact hcount.1.symm,by rw[q2];exact hcount.2.symm,hall⟩
 clear hl hm hx hK hL hFn hb1 hB1 hP hN hE hW q1 q2 r1 r2 r3 hME htile ham hcount hall hPC hlen hFl hcl hcn;go_enter Tryz.func19,Tryz.ntmps19;go_wp2_with fail
 refine ce.mono ?_;rintro e w2 ⟨ae,qe,rfl,_,hb2⟩;clear ce x0 x1 x2 e1 hb5;have k2:=HB.out.2.1.keep hb2;have x1:=k2.cell 1;have x2:=k2.cell 2;go_upto_region 8 with fail
 obtain⟨w3,hw3⟩:∃ w3,w2.alloc (.cells #[.slice al nl cl,.slice an K cn] 71)=w3:=⟨_,rfl⟩
 have hb3:Below w2.heap.size w2 w3:=by rw[<-hw3];exact(Below.refl _ _).alloc (Nat.le_refl _) _
 have hR3:Has w3 w2.heap.size #[.slice al nl cl,.slice an K cn] 71:=by rw[<-hw3];exact Has.new _ _ _
 rw[hw3];have k3:=k2.keep hb3;have W3:Aside (Below w.heap.size w w3/\Has w3 b5 #[.int .u64 (N:Int),.slice a nl c,.slice an K cn] 45/\Has w3 w2.heap.size #[.slice al nl cl,.slice an K cn] 71/\w.heap.size=b5/\b5<w2.heap.size):=⟨(HB.out.1.trans (hb2.mono HB.out.1.size)).trans (hb3.mono (HB.out.1.trans (hb2.mono HB.out.1.size)).size),k3,hR3,HB.out.2.2.2,k2.lt⟩
 have x0:=k3.cell 0;have ct:=CT.out w3;generalize w2.heap.size=b11 at *
 clear hw3 hb3 hR3 k2 k3 x1 x2 hb2 CT;go_wp2_with fail
 refine ct.mono ?_;rintro e w4 ⟨ag,cg,rfl,hsp,hnew,hb4⟩;clear ct x0;obtain⟨M,hM⟩:∃ M,PC N=M:=⟨_,rfl⟩
 rw[hM]
 have W4:Aside (Below w.heap.size w w4/\Has w4 b5 #[.int .u64 (N:Int),.slice a nl c,.slice an K cn] 45/\w.heap.size=b5/\b5<b11/\b11<w4.heap.size/\qi w4 ag (TPS N)/\PC N=M/\(∀ x,ag=some x->x.block≠b11)):=by
  refine⟨W3.out.1.trans (hb4.mono W3.out.1.size),W3.out.2.1.keep hb4,W3.out.2.2.2.1,W3.out.2.2.2.2,(W3.out.2.2.1.keep hb4).lt,hsp,hM,fun x hx=>?_⟩;have h1:=hnew x hx;have h2:=W3.out.2.2.1.lt;omega
 have S0:Aside (RCJ d N L lv nd w w4 w4 b11 0 (.slice none 0 0) [] lv nd al an cl cn):=by
  have h:=HA.out;refine⟨?_,?_,?_,⟨rfl,.inl ⟨rfl,rfl⟩⟩,BUT.refl _ _,by simp⟩
  ·rw[List.drop_zero,<-h.2.2.2.2.2.2.2.2.2.1,<-h.2.2.2.2.2.2.2.2.2.2.1];exact W3.out.2.2.1.keep hb4
  ·rw[List.drop_zero,<-h.2.2.2.2.2.2.2.2.2.1];exact h.2.2.2.2.2.2.2.1
  ·rw[List.drop_zero,<-h.2.2.2.2.2.2.2.2.2.2.1];exact h.2.2.2.2.2.2.2.2.1
 clear hsp hb4 W3 hM hnew;go_wp2_with fail
 go_loopg [10,13] M (fun q s10 s13 wx=>∃ (i:Nat) (out lvj ndj:List Int) (ya xa:Option Addr) (yc xc:Nat),s13=.int .i64 (i:Int)/\Aside (i+q=M/\RCJ d N L lv nd w w4 wx b11 i s10 out lvj ndj ya xa yc xc))
 case atStart=>exact⟨0,[],lv,nd,al,an,cl,cn,rfl,by omega,S0.out⟩
 case round=>
  obtain⟨i,out,lvj,ndj,ya,xa,yc,xc,rfl,A⟩:=hrel;clear S0;cases gk with
  | zero=>
    obtain rfl:i=M:=by have:=A.out.1;omega
    have hlt:¬ (i:Int)<(i:Int):=by omega
    have FN:Aside (∃ ap cp,u10=.slice ap (PC N) cp/\wr.ownsRow w.heap.size 23 32 (.slice ap (PC N) cp) (PC N) (za (MUPS d (TPS N) L lv nd))/\Below w.heap.size w wr):=by
     show ∃ ap cp,u10=.slice ap (PC N) cp/\wr.ownsRow w.heap.size 23 32 (.slice ap (PC N) cp) (PC N) (za (MUPS d (TPS N) L lv nd))/\Below w.heap.size w wr;have h:=A.out.2;have e:=h.all;rw[List.drop_of_length_le (by have:=W4.out.2.2.2.2.2.2.1;have:=HA.out.2.2.2.1;omega),MUPR,List.append_nil,HA.out.2.2.2.2.2.2.2.2.2.2.2] at e;have ho:=h.own;rw[<-e] at ho;rw[W4.out.2.2.2.2.2.2.1];obtain⟨ap,cp,rfl⟩:=Xi ho;exact⟨ap,cp,rfl,zq ho W4.out.1.size,W4.out.1.trans (h.but.2.mono (by have:=W4.out;omega))⟩
    clear A HA W4;go_wp2_with fail
    obtain⟨ap,cp,rfl,h1,h2⟩:=FN.out;go_ret2;exact⟨ap,cp,rfl,h1,h2⟩
  | succ q=>
    have hiM:i<M:=by have:=A.out.1;omega
    have hlt:(i:Int)<(M:Int):=by omega
    obtain⟨⟨h,k⟩,ehk⟩:∃ s,(TPS N)[i]?=some s:=⟨_,List.getElem?_eq_getElem (by have:=W4.out.2.2.2.2.2.2.1;have:=HA.out.2.2.2.1;omega)⟩
    obtain⟨g,rfl,hg,hc⟩:=W4.out.2.2.2.2.2.1 (by have:=W4.out.2.2.2.2.2.2.1;have:=HA.out.2.2.2.1;omega);have hgb:g≠b11:=W4.out.2.2.2.2.2.2.2 _ rfl;have hnd:=yu HA.out.2.1 (List.mem_of_getElem? ehk);obtain⟨t1,t2⟩:=z0t (L:=L) ehk;have t3:=mK (d:=d) (L:=L) (lv:=lvj) (nd:=ndj) ehk;have ei:wrap64 ((i:Int)+1)=((i+1:Nat):Int):=by have:=HA.out.2.2.1;have:=W4.out.2.2.2.2.2.2.1;unfold wrap64;omega
    have hbw:Below w.heap.size w wr:=W4.out.1.trans (A.out.2.but.2.mono (by have:=W4.out;omega));have hsz:w4.heap.size<=wr.heap.size:=A.out.2.but.2.size;obtain⟨w6,hw6⟩:∃ w6,wr.alloc (.cells ZARR 23)=w6:=⟨_,rfl⟩
    obtain⟨b14,hb14⟩:∃ b14,wr.heap.size=b14:=⟨_,rfl⟩
    have hb6:Below wr.heap.size wr w6:=by rw[<-hw6];exact(Below.refl _ _).alloc (Nat.le_refl _) _
    have hz6:Has w6 b14 (za ZND).toArray 23:=by rw[<-hw6,<-hb14,zQ];exact Has.new _ _ _
    have hbw6:Below w.heap.size w w6:=hbw.trans (hb6.mono hbw.size);have sL:=yj d h k (UND h k L) lvj ndj (TKL ((TPS N).drop i) L) (TKN ((TPS N).drop i) L) (ZX HA.out.2.2.2.2.1 h k) ⟨A.out.2.l.1.1,A.out.2.l.1.2.2⟩ ⟨A.out.2.n.1.1,A.out.2.n.1.2.2⟩ (by omega) (by omega)
    have co:∀ W,Below w6.heap.size w6 W->Calls Tryz.prog 37 #[.int .i64 d,SPOT h k,.slice a nl c,.agg #[.slice ya (TKL ((TPS N).drop i) L) yc,.slice xa (TKN ((TPS N).drop i) L) xc]] W (OVR w W (MUP d h k (UND h k L) lvj ndj).1 (MUP d h k (UND h k L) lvj ndj).2.1 (MUP d h k (UND h k L) lvj ndj).2.2 (TKL ((TPS N).drop (i+1)) L) (TKN ((TPS N).drop (i+1)) L)):=fun W hW=>by
     have hbW:Below w.heap.size w W:=hbw6.trans (hW.mono hbw6.size);have:=z0j d w h k hnd.2.2 L a nl c lvj ndj ya xa (TKL ((TPS N).drop i) L) (TKN ((TPS N).drop i) L) yc xc W HB.out.2.2.1 (by have:=HA.out.1;clear ei;omega) HA.out.2.2.2.2.2.1 HA.out.2.2.2.2.1 (HA.out.2.2.2.2.2.2.1.keep hbW) hbW A.out.2.l A.out.2.n (by clear ei;omega) (by clear ei;omega);rw[show TKL ((TPS N).drop i) L - (UND h k L).length=TKL ((TPS N).drop (i+1)) L by clear ei;omega,show TKN ((TPS N).drop i) L - (NEED h k (UND h k L)).length=TKN ((TPS N).drop (i+1)) L by clear ei;omega] at this;exact this
    have hcell:∀ W,Below w6.heap.size w6 W->W.cell? ⟨g,i*2,none⟩=some (.int .u8 (h:Int))/\W.cell? ⟨g,i*2+1,none⟩=some (.int .u64 (k:Int))/\W.cell? ⟨b5,1,none⟩=some (.slice a nl c):=fun W hW=>by
     have kb:∀ q,q<w4.heap.size->q≠b11->W.heap[q]?=w4.heap[q]?:=fun q hq hne=>(hW.block q (by have:=hb6.size;clear ei;omega)).trans ((hb6.block q (by clear ei;omega)).trans (A.out.2.but.1 q hq hne));exact⟨(World.cell?_of_block (w:=w4) (by exact kb g hg hgb)).trans (hc i h k ehk).1,(World.cell?_of_block (w:=w4) (by exact kb g hg hgb)).trans (hc i h k ehk).2,(World.cell?_of_block (w:=w4) (by exact kb b5 W4.out.2.1.lt (by have:=W4.out;clear ei;omega))).trans (W4.out.2.1.cell 1)⟩
    have hrow6:Has w6 b11 #[.slice ya (TKL ((TPS N).drop i) L) yc,.slice xa (TKN ((TPS N).drop i) L) xc] 71:=A.out.2.row.keep hb6
    have R:Aside (i+1+q=M/\Has w6 b14 (za ZND).toArray 23/\Has w6 b11 #[.slice ya (TKL ((TPS N).drop i) L) yc,.slice xa (TKN ((TPS N).drop i) L) xc] 71/\w6.ownsRow w4.heap.size 23 32 u10 i (za out)/\BUT b11 w4 w6/\MUPR d (TPS N) L lv nd=out ++ (MUP d h k (UND h k L) lvj ndj).1 ++ MUPR d ((TPS N).drop (i+1)) L (MUP d h k (UND h k L) lvj ndj).2.1 (MUP d h k (UND h k L) lvj ndj).2.2/\b11<w4.heap.size/\w4.heap.size<=b14/\i<=64/\g<w4.heap.size/\g≠b11/\b5<b11/\(∀ k,u10.ownBlock=some k->k<b14)):=by
     refine⟨by have:=A.out.1;clear ei;omega,hz6,hrow6,yx A.out.2.own fun k e=>hb6.block k (A.out.2.own.lt k e).2,A.out.2.but.trans (BUT.of_below hb6 (by have:=W4.out;clear ei;omega)),by rw[A.out.2.all,t3,List.append_assoc],W4.out.2.2.2.2.1,by clear ei;omega,by have:=HA.out.2.2.1;have:=W4.out.2.2.2.2.2.2.1;clear ei;omega,hg,hgb,W4.out.2.2.2.1,fun k e=>by have:=(A.out.2.own.lt k e).2;clear ei;omega⟩
    have CO:Aside _:=co;have HC:Aside _:=hcell;have lY:=sL.1.1;clear A hnd t1 t2 t3 hbw hsz hb6 hz6 hbw6 sL co hcell hrow6 ehk hc hg hgb hiM;generalize (MUP d h k (UND h k L) lvj ndj).1=Y at *
    generalize (MUP d h k (UND h k L) lvj ndj).2.1=lv2 at *
    generalize (MUP d h k (UND h k L) lvj ndj).2.2=nd2 at *
    generalize TKL ((TPS N).drop i) L=tl at *
    generalize TKN ((TPS N).drop i) L=tn at *
    go_upto_region 13 with fail
    clear hw6 hb14;refine z07 w6 d b5 b11 b14 g M cg i h k nl c tl yc tn xc (TKL ((TPS N).drop (i+1)) L) (TKN ((TPS N).drop (i+1)) L) a ya xa Y lY hlt (fun W=>W=w6.drew) (fun p1 p2 p3 p4 W=>LFT w p1 (TKL ((TPS N).drop (i+1)) L) p2 lv2/\LFT w p3 (TKN ((TPS N).drop (i+1)) L) p4 nd2/\Below w6.heap.size w6 W) (fun p1 p2 p3 p4 W=>∃ W1,LFT w p1 (TKL ((TPS N).drop (i+1)) L) p2 lv2/\LFT w p3 (TKN ((TPS N).drop (i+1)) L) p4 nd2/\Below w6.heap.size w6 W1/\W=W1.setRow b14 (za Y).toArray) (fun p1 p2 p3 p4 W=>∃ W1,LFT w p1 (TKL ((TPS N).drop (i+1)) L) p2 lv2/\LFT w p3 (TKN ((TPS N).drop (i+1)) L) p4 nd2/\Below w6.heap.size w6 W1/\W=(W1.setRow b14 (za Y).toArray).setRow b11 #[.slice p1 (TKL ((TPS N).drop (i+1)) L) p2,.slice p3 (TKN ((TPS N).drop (i+1)) L) p4]) rfl ?_ ?_ ?_ ?_ ?_ ?_ ?_ ?_ ?_ ?_ (fun _ _ _ _ _ h=>h) ?_
    ·rintro _ rfl
     exact HC.out w6.drew (Below.refl _ w6).drew
    ·rintro _ _ _ _ W ⟨_,_,hW⟩
     exact HC.out W hW
    ·rintro _ _ _ _ _ ⟨W1,_,_,hW,rfl⟩
     obtain⟨_,_,_,_,_,_,r7,r8,_,r10,r11,r12,_⟩:=R.out;have h1:=HC.out W1 hW;exact⟨(World.cell?_of_block (w:=W1) (by exact setRow_other _ b14 g _ (by clear ei;omega))).trans h1.1,(World.cell?_of_block (w:=W1) (by exact setRow_other _ b14 g _ (by clear ei;omega))).trans h1.2.1,(World.cell?_of_block (w:=W1) (by exact setRow_other _ b14 b5 _ (by clear ei;omega))).trans h1.2.2⟩
    ·rintro _ _ _ _ _ ⟨W1,_,_,hW,rfl⟩
     obtain⟨_,_,_,_,_,_,r7,r8,_,r10,r11,r12,_⟩:=R.out;have h1:=HC.out W1 hW;exact⟨(World.cell?_of_block (w:=W1) (by exact(setRow_other _ b11 g _ (by clear ei;omega)).trans (setRow_other _ b14 g _ (by clear ei;omega)))).trans h1.1,(World.cell?_of_block (w:=W1) (by exact(setRow_other _ b11 g _ (by clear ei;omega)).trans (setRow_other _ b14 g _ (by clear ei;omega)))).trans h1.2.1,(World.cell?_of_block (w:=W1) (by exact(setRow_other _ b11 b5 _ (by clear ei;omega)).trans (setRow_other _ b14 b5 _ (by clear ei;omega)))).trans h1.2.2⟩
    ·rintro _ rfl
     exact R.out.2.2.1
    ·rintro _ rfl
     refine(CO.out w6.drew (Below.refl _ w6).drew).mono ?_;rintro e w' ⟨p1,p2,p3,p4,rfl,z1,z2,z3⟩;exact⟨p1,p2,p3,p4,rfl,z1,z2,(Below.refl _ w6).drew.trans z3⟩
    ·rintro _ _ _ _ W ⟨_,_,hW⟩
     exact R.out.2.1.keep hW
    ·rintro _ _ _ _ W ⟨z1,z2,hW⟩
     exact⟨W,z1,z2,hW,rfl⟩
    ·rintro _ _ _ _ _ ⟨W1,_,_,hW,rfl⟩
     exact(R.out.2.2.1.keep hW).row_other (by have:=R.out;clear ei;omega) _
    ·rintro _ _ _ _ _ ⟨W1,z1,z2,hW,rfl⟩
     exact⟨W1,z1,z2,hW,rfl⟩
    ·rintro ya2 yc2 xa2 xc2 w7 ⟨W1,z1,z2,hW,rfl⟩
     dsimp only
     have R7:Aside (Has ((W1.setRow b14 (za Y).toArray).setRow b11 #[.slice ya2 (TKL ((TPS N).drop (i+1)) L) yc2,.slice xa2 (TKN ((TPS N).drop (i+1)) L) xc2]) b14 (za Y).toArray 23/\Has ((W1.setRow b14 (za Y).toArray).setRow b11 #[.slice ya2 (TKL ((TPS N).drop (i+1)) L) yc2,.slice xa2 (TKN ((TPS N).drop (i+1)) L) xc2]) b11 #[.slice ya2 (TKL ((TPS N).drop (i+1)) L) yc2,.slice xa2 (TKN ((TPS N).drop (i+1)) L) xc2] 71/\((W1.setRow b14 (za Y).toArray).setRow b11 #[.slice ya2 (TKL ((TPS N).drop (i+1)) L) yc2,.slice xa2 (TKN ((TPS N).drop (i+1)) L) xc2]).ownsRow w4.heap.size 23 32 u10 i (za out)/\BUT b11 w4 ((W1.setRow b14 (za Y).toArray).setRow b11 #[.slice ya2 (TKL ((TPS N).drop (i+1)) L) yc2,.slice xa2 (TKN ((TPS N).drop (i+1)) L) xc2])/\LFT w ya2 (TKL ((TPS N).drop (i+1)) L) yc2 lv2/\LFT w xa2 (TKN ((TPS N).drop (i+1)) L) xc2 nd2):=by
      obtain⟨r1,r2,r3,r4,r5,r6,r7,r8,r9,r10,r11,r12,r13⟩:=R.out;refine⟨((r2.keep hW).row _).row_other (by clear ei;omega) _,((r3.keep hW).row_other (by clear ei;omega) _).row _,yx r4 fun k e=>?_,⟨fun q hq hne=>?_,?_⟩,z1,z2⟩
      ·have h1:=(r4.lt k e)
       have h2:=r13 k e;rw[setRow_other _ b11 k _ (by clear ei;omega),setRow_other _ b14 k _ (by clear ei;omega)];exact hW.block k h1.2
      ·rw[setRow_other _ b11 q _ hne,setRow_other _ b14 q _ (by clear ei;omega),hW.block q (by have:=r5.2.size;clear ei;omega)]
       exact r5.1 q hq hne
      ·exact zm (zm (r5.2.trans (hW.mono (by have:=r5.2.size;clear ei;omega))) (by clear ei;omega) _) (Nat.le_refl _) _
     clear z1 z2 hW CO HC;generalize (W1.setRow b14 (za Y).toArray).setRow b11 #[.slice ya2 (TKL ((TPS N).drop (i+1)) L) yc2,.slice xa2 (TKN ((TPS N).drop (i+1)) L) xc2]=w7 at *
     have hrow:=R7.out.1
     go_wp2_with (first
      | (refine wpList_load_row rfl 23 (.tmp 14) rfl b14 rfl 23 (za Y).toArray (0,0) _ hrow Tryz.underlying23 rfl (zd lY) ?_)
      | (refine yM _ rfl 26 23 (.tmp 55) rfl (za Y).toArray rfl 32 _ _ Tryz.underlying26 yQ (by simp[za,lY]) rfl (by decide) (by decide) ?_)
      | (at_builtin;refine jz _ rfl (.tmp 54) (.tmp 56) rfl w4.heap.size u10 i _ rfl (R7.out.2.2.1.alloc _) _ 1 Y lY rfl (Has.new _ _ _) (by have:=R.out;clear ei;omega) (by have:=R7.out.2.2.2.1.2.size;simp;clear ei;omega) ?_;intro g8 c8 w8 hown hgrow hat hg8))
     have Z:Aside (i+1+q=M/\RCJ d N L lv nd w w4 w8 b11 (i+1) (.slice (some ⟨g8,0,none⟩) (i+1) c8) (out ++ Y) lv2 nd2 ya2 xa2 yc2 xc2):=by
      obtain⟨r1,r2,r3,r4,r5,r6,r7,r8,r9,r10,r11,r12,r13⟩:=R.out;obtain⟨s1,s2,s3,s4,s5,s6⟩:=R7.out;have hbb:∀ q,q<w7.heap.size->u10.ownBlock≠some q->w8.heap[q]?=w7.heap[q]?:=fun q hq hne=>(hgrow.block q (by simp;clear ei;omega) fun e=>hne e.symm).trans (Below.heap_alloc w7 _ q hq);have hn11:u10.ownBlock≠some b11:=fun e=>by have:=(s3.lt b11 e).1;clear ei;omega
      refine⟨r1,(hbb b11 s2.lt hn11).trans s2,s5,s6,by rw[yp];exact hown,⟨fun q hq hne=>(hbb q (by have:=s4.2.size;clear ei;omega) (fun e=>by have:=(s3.lt q e).1;clear ei;omega)).trans (s4.1 q hq hne),?_⟩,r6⟩;refine(s4.2.alloc (by have:=s4.2.size;clear ei;omega) _).grown hgrow (by have:=s4.2.size;simp;clear ei;omega) (fun k e=>?_);have:=(s3.lt k e).1;clear ei;omega
     clear hown hgrow hat hg8 R R7 hrow lY;go_wp2;go_roundg q
     case measure=>exact Nat.lt_succ_self _
     case rel=>exact⟨i+1,out ++ Y,lv2,nd2,ya2,xa2,yc2,xc2,by first | rfl | (rw[ei]),Z.out⟩
theorem YJ{d:Int}:∀ (ps:List (Nat × Nat)) (A B:Nat) (L:List Nat) (lv nd:List Int) (i j:Nat),Tile A ps B->AMID A B L->RISES L->HSS i lv->HSS j nd->L.length<=i->(zc ps L).length<=j->∀ x∈MUPS d ps L lv nd,0<=x/\x<=255
 | [],_,_,_,_,_,_,_,_,_,_,_,_,_,_=>fun x hx=>by cases hx
 | (h,k) :: ps,A,B,L,lv,nd,i,j,ht,hm,hR,hi,hj,h1,h2=>by
   obtain⟨hN,hA,ht⟩:Node h k/\k*2 ^ h=A/\Tile ((k+1)*2 ^ h) ps B:=ht;obtain⟨r,hr⟩:=yv hR ((k+1)*2 ^ h);have hn:=y7 ps hr;have hle:=hr.le;rw[hn,List.length_append] at h2;have s:=yj d h k (L.take r) lv nd i j (hm.take hR hr hA) hi hj (by rw[List.length_take];omega) (by omega);intro x hx;rw[qF ps hr] at hx;rcases List.mem_append.1 hx with hx | hx
   ·exact s.1.2 x hx
   ·exact YJ ps ((k+1)*2 ^ h) B (L.drop r) _ _ _ _ ht (hm.drop hr) (hR.drop r) s.2.1 s.2.2 (by rw[List.length_take,List.length_drop];omega) (by omega) x hx
theorem vY{d:Int}{L:List Nat}{N K nl:Nat}{lv nd:List Int}(hl:HSS nl lv)(hn:HSS K nd):∀ x∈(MCL d L N K nl lv nd).2.2,0<=x/\x<=255:=by
 by_cases h:MCE L N K nl=0
 ·have hP:MCL d L N K nl lv nd=(0,PC N,MUPS d (TPS N) L lv nd):=if_pos h
  rw[hP]
  have hW:MWA L N K=0:=by
   by_cases h':MWA L N K=0
   ·exact h'
   ·rw[Zt h'] at h;exact h
  have hnl:nl=L.length:=by
   by_cases h':nl=L.length
   ·exact h'
   ·rw[jr hW h'] at h;cases h
  obtain⟨q1,q2⟩:=Ye hW;obtain⟨r1,r2,r3⟩:=yF q1;exact YJ (TPS N) 0 N L lv nd nl K (yE r1) (fun x hx=>⟨Nat.zero_le _,r3 x hx⟩) r2 hl hn (by omega) (by omega)
 ·have hP:MCL d L N K nl lv nd=(MCE L N K nl,0,[]):=if_neg h
  rw[hP];intro x hx;cases hx
theorem Kn{w:World}{g:Nat}{x y:List Int}(h:Has w g (za x).toArray 23)(hx:x.length=32)(hy:y.length=32):(Instr.storeAt 23 (.pointer (some ⟨g,0,none⟩)) (.agg (za y).toArray)).run Tryz.prog w=.ok () (w.setRow g (za y).toArray):=by
 simp only[Instr.storeAt,Instr.sureAddr,Sem.run_bind,Sem.run_pure,Result.andThen];exact run_storeVar_row w g 23 23 (za x).toArray (za y).toArray h (zd hy) (by simp[za,hx,hy]) (zx y)
@[go_sem] def VFOPSq0:Oper:=⟨some 25,.move (.tmp 0),3,"grow.go:30",#[],none⟩
@[go_sem] def VFOPSq1:Oper:=⟨some 26,.move (.tmp 1),26,"grow.go:30",#[],none⟩
@[go_sem] def VFOPSq2:Oper:=⟨some 27,.move (.tmp 7),3,"grow.go:30",#[],none⟩
@[go_sem] def VFOPSq3:Oper:=⟨some 28,.indexAddr 26 (.tmp 26) (.tmp 27),0,"grow.go:30",#[⟨1,.data⟩,⟨2,.data⟩],none⟩
@[go_sem] def VFOPSq4:Oper:=⟨some 29,.load 23 (.tmp 28),23,"grow.go:30",#[⟨3,.data⟩],none⟩
@[go_sem] def VFOPSq5:Oper:=⟨some 30,.load 23 (.tmp 6),23,"grow.go:30",#[],none⟩
@[go_sem] def VFOPSq6:Oper:=⟨some 31,.call {callee:=.value (.func 108),args:=#[.tmp 25,.tmp 29,.tmp 30],argTypes:=#[3,23,23]},23,"grow.go:30",#[⟨0,.data⟩,⟨4,.data⟩,⟨5,.data⟩],none⟩
@[go_sem] def VFOPSq7:Oper:=⟨none,.store 23 (.tmp 6) (.tmp 31),0,"grow.go:30",#[⟨6,.data⟩,⟨6,.chain⟩,⟨0,.phase⟩,⟨1,.phase⟩,⟨2,.phase⟩,⟨3,.phase⟩,⟨4,.phase⟩,⟨5,.phase⟩,⟨6,.phase⟩],none⟩
def xJ:Array Oper:=#[VFOPSq0,VFOPSq1,VFOPSq2,VFOPSq3,VFOPSq4,VFOPSq5,VFOPSq6,VFOPSq7]
theorem UJ{Q:Exit->Act->World->Prop}(b f g j k l m p q r u x y A B C D E F G H I J M N O S U V:Value)(W:World)(b6 gn o n c i:Nat)(d:Int)(L R Y:List Int)(hL:L.length=32)(hR:R.length=32)(hY:Y.length=32)(b1:(i:Int)<(n:Int))(hLr:W.drew.rangeAt gn (o+i*32) (za L))(hRr:W.drew.rangeAt b6 0 (za R))(T:World->Prop)(cF:Calls Tryz.prog 108 #[.int .i64 d,.agg (za L).toArray,.agg (za R).toArray] W.drew fun e w'=>∃ X,e=.returned X/\(X=.agg (za Y).toArray/\Has w' b6 (za R).toArray 23/\T w'))(hQ:∀ c (a:Act) (t:Tmp) (v:Value) w,Q (.panic c) (a.put (some t) v) w->Q (.panic c) a w)
  (h:∀ (X:Value) (w':World),(X=.agg (za Y).toArray/\Has w' b6 (za R).toArray 23/\T w')->Q .normal ⟨#[.int .i64 d,.slice (some ⟨gn,o,none⟩) n c,b,f,g,j,.pointer (some ⟨b6,0,none⟩),.int .i64 (i:Int),k,l,m,p,q,r,u,x,y,A,B,C,D,E,F,G,H,.int .i64 d,.slice (some ⟨gn,o,none⟩) n c,.int .i64 (i:Int),.pointer (some ⟨gn,o+i*32,none⟩),.agg (za L).toArray,.agg (za R).toArray,X,V],[]⟩ (World.setRow w' b6 (za Y).toArray)):(Code.region 8 xJ true).wp Tryz.prog Q ⟨#[.int .i64 d,.slice (some ⟨gn,o,none⟩) n c,b,f,g,j,.pointer (some ⟨b6,0,none⟩),.int .i64 (i:Int),k,l,m,p,q,r,u,x,y,A,B,C,D,E,F,G,H,I,J,M,N,O,S,U,V],[]⟩ W:=by
 have kX:∀ (X:Value) (w':World),(X=.agg (za Y).toArray/\Has w' b6 (za R).toArray 23/\T w')->wpAny Tryz.prog .any xJ Q 1 #[tt,tt,tt,tt,tt,tt,tt,ff] ⟨#[.int .i64 d,.slice (some ⟨gn,o,none⟩) n c,b,f,g,j,.pointer (some ⟨b6,0,none⟩),.int .i64 (i:Int),k,l,m,p,q,r,u,x,y,A,B,C,D,E,F,G,H,.int .i64 d,.slice (some ⟨gn,o,none⟩) n c,.int .i64 (i:Int),.pointer (some ⟨gn,o+i*32,none⟩),.agg (za L).toArray,.agg (za R).toArray,X,V],[]⟩ w':=fun X w' hX=>by
  have z:wpAny Tryz.prog .any xJ Q 0 #[tt,tt,tt,tt,tt,tt,tt,tt] ⟨#[.int .i64 d,.slice (some ⟨gn,o,none⟩) n c,b,f,g,j,.pointer (some ⟨b6,0,none⟩),.int .i64 (i:Int),k,l,m,p,q,r,u,x,y,A,B,C,D,E,F,G,H,.int .i64 d,.slice (some ⟨gn,o,none⟩) n c,.int .i64 (i:Int),.pointer (some ⟨gn,o+i*32,none⟩),.agg (za L).toArray,.agg (za R).toArray,X,V],[]⟩ (World.setRow w' b6 (za Y).toArray):=wpAny_done (by kernel_rfl) (h X w' hX) _
  have z7:wpAny Tryz.prog .any xJ Q 1 #[tt,tt,tt,tt,tt,tt,tt,ff] ⟨#[.int .i64 d,.slice (some ⟨gn,o,none⟩) n c,b,f,g,j,.pointer (some ⟨b6,0,none⟩),.int .i64 (i:Int),k,l,m,p,q,r,u,x,y,A,B,C,D,E,F,G,H,.int .i64 d,.slice (some ⟨gn,o,none⟩) n c,.int .i64 (i:Int),.pointer (some ⟨gn,o+i*32,none⟩),.agg (za L).toArray,.agg (za R).toArray,X,V],[]⟩ w':=by
   refine wpAny_ready (rs:=[7]) (by kernel_rfl) (by simp) ?_;exact AllReady.cons (o:=VFOPSq7) rfl (fun K hK=>yt rfl (VH (by obtain⟨rfl,hb,_⟩:=hX;exact Kn hb hR hY)) (hK _ _ z)) AllReady.nil
  exact z7
 have s4_5:wpAny Tryz.prog .any xJ Q 2 #[tt,tt,tt,tt,tt,tt,ff,ff] ⟨#[.int .i64 d,.slice (some ⟨gn,o,none⟩) n c,b,f,g,j,.pointer (some ⟨b6,0,none⟩),.int .i64 (i:Int),k,l,m,p,q,r,u,x,y,A,B,C,D,E,F,G,H,.int .i64 d,.slice (some ⟨gn,o,none⟩) n c,.int .i64 (i:Int),.pointer (some ⟨gn,o+i*32,none⟩),.agg (za L).toArray,.agg (za R).toArray,U,V],[]⟩ W.drew:=by
  refine wpAny_ready (rs:=[6]) (by kernel_rfl) (by simp) ?_;refine AllReady.cons (o:=VFOPSq6) rfl (fun K hK=>?_) ?_
  ·rw[if_pos (by rfl)]
   go_simp;refine(cF).mono ?_;rintro e w' ⟨X,rfl,hX⟩;exact hK _ _ (kX X w' hX)
  exact AllReady.nil
 have s5:wpAny Tryz.prog .any xJ Q 3 #[tt,tt,tt,tt,ff,tt,ff,ff] ⟨#[.int .i64 d,.slice (some ⟨gn,o,none⟩) n c,b,f,g,j,.pointer (some ⟨b6,0,none⟩),.int .i64 (i:Int),k,l,m,p,q,r,u,x,y,A,B,C,D,E,F,G,H,.int .i64 d,.slice (some ⟨gn,o,none⟩) n c,.int .i64 (i:Int),.pointer (some ⟨gn,o+i*32,none⟩),O,.agg (za R).toArray,U,V],[]⟩ W.drew:=by
  refine wpAny_ready (rs:=[4]) (by kernel_rfl) (by simp) ?_;refine AllReady.cons (o:=VFOPSq4) rfl (fun K hK=>ZF (v:=.agg (za L).toArray) rfl (xS (run_loadAt_mid (P:=Tryz.prog) _ gn (o+i*32) 23 _ _ hLr Tryz.underlying23 rfl (zo hL))) (hK _ _ s4_5)) ?_;exact AllReady.nil
 have s4:wpAny Tryz.prog .any xJ Q 3 #[tt,tt,tt,tt,tt,ff,ff,ff] ⟨#[.int .i64 d,.slice (some ⟨gn,o,none⟩) n c,b,f,g,j,.pointer (some ⟨b6,0,none⟩),.int .i64 (i:Int),k,l,m,p,q,r,u,x,y,A,B,C,D,E,F,G,H,.int .i64 d,.slice (some ⟨gn,o,none⟩) n c,.int .i64 (i:Int),.pointer (some ⟨gn,o+i*32,none⟩),.agg (za L).toArray,S,U,V],[]⟩ W.drew:=by
  refine wpAny_ready (rs:=[5]) (by kernel_rfl) (by simp) ?_;refine AllReady.cons (o:=VFOPSq5) rfl (fun K hK=>ZF (v:=.agg (za R).toArray) rfl (xS (run_loadAt_mid (P:=Tryz.prog) _ b6 0 23 _ _ hRr Tryz.underlying23 rfl (zo hR))) (hK _ _ s4_5)) ?_;exact AllReady.nil
 have s:wpAny Tryz.prog .any xJ Q 4 #[tt,tt,tt,tt,ff,ff,ff,ff] ⟨#[.int .i64 d,.slice (some ⟨gn,o,none⟩) n c,b,f,g,j,.pointer (some ⟨b6,0,none⟩),.int .i64 (i:Int),k,l,m,p,q,r,u,x,y,A,B,C,D,E,F,G,H,.int .i64 d,.slice (some ⟨gn,o,none⟩) n c,.int .i64 (i:Int),.pointer (some ⟨gn,o+i*32,none⟩),O,S,U,V],[]⟩ W.drew:=by
  refine wpAny_ready (rs:=[4,5]) (by kernel_rfl) (by simp) ?_;refine AllReady.cons (o:=VFOPSq4) rfl (fun K hK=>ZF (v:=.agg (za L).toArray) rfl (xS (run_loadAt_mid (P:=Tryz.prog) _ gn (o+i*32) 23 _ _ hLr Tryz.underlying23 rfl (zo hL))) (hK _ _ s4)) ?_;refine AllReady.cons (o:=VFOPSq5) rfl (fun K hK=>ZF (v:=.agg (za R).toArray) rfl (xS (run_loadAt_mid (P:=Tryz.prog) _ b6 0 23 _ _ hRr Tryz.underlying23 rfl (zo hR))) (hK _ _ s5)) ?_;exact AllReady.nil
 refine wp_region_any (by kernel_rfl) ?_;refine tkB VFOPSq0 (.int .i64 d) 0 hQ ?_;simp only[List.set];refine tkB VFOPSq1 (.slice (some ⟨gn,o,none⟩) n c) 1 hQ ?_;simp only[List.set];refine tkB VFOPSq2 (.int .i64 (i:Int)) 2 hQ ?_;simp only[List.set];refine tkB VFOPSq3 (.pointer (some ⟨gn,o+i*32,none⟩)) 3 hQ ?_;simp only[List.set];exact s
theorem yT{w:World}{g:Nat}{l:List Int}{t:TypeId}(h:Has w g (za l).toArray t):w.rangeAt g 0 (za l):=fun j v hv=>by rw[Nat.zero_add,h.cell,List.getElem?_toArray];exact hv
theorem jR:IsH ZND:=⟨rfl,fun x hx=>by
 have:x=0:=by simpa[ZND] using hx
 omega⟩
theorem qd{l:List Int}{n i:Nat}(hl:l.length=32*n)(hr:∀ x∈l,0<=x/\x<=255)(hi:i<n):IsH (HSH l i):=⟨yq hl hi,fun x hx=>hr x (uv hx)⟩
def FA(d:Int)(l:List Int)(n:Nat):Nat->List Int
 | 0=>HSH l (n - 1)
 | k+1=>zW d (HSH l (n - 2 - k)) (FA d l n k)
def FLD(d:Int)(l:List Int)(n:Nat):List Int:=if n=0 then ZND else FA d l n (n - 1)
theorem ja{d:Int}{l:List Int}{n:Nat}(hl:l.length=32*n)(hr:∀ x∈l,0<=x/\x<=255)(hn:0<n):∀ k,IsH (FA d l n k)
 | 0=>qd hl hr (by omega)
 | k+1=>Xg _ _ _
theorem X5{d:Int}{l:List Int}{n:Nat}(hl:l.length=32*n)(hr:∀ x∈l,0<=x/\x<=255):IsH (FLD d l n):=by
 unfold FLD;split
 ·exact jR
 ·exact ja hl hr (by omega) _
theorem je{fn:Func}{p:Tmp}{ty:TypeId}(h:fn.results=#[.cell p ty])(tmps:Array Value)(w:World)(g:Nat)(t:TypeId)(cs:Array Value)(fr:Nat × Nat)(k:Nat)(el:TypeId)
  (hp:tmps.getD p undef=.pointer (some ⟨g,0,none⟩))(hg:w.heap[g]?=some (.cells cs t fr))
  (hu:Tryz.prog.underlying ty=some (.array k el))(hi:(Tryz.prog.info? ty).map (·.size)=some cs.size):
  (results fn tmps).run Tryz.prog w=.ok (.agg cs) w:=by
 have hp':tmps[p]?.getD undef=.pointer (some ⟨g,0,none⟩):=by simpa using hp
 simp[results,h,hp',asAddr,run_loadVar_row w g t ty cs fr (.array k el) hg hu rfl hi]
theorem mL(d:Int)(a:Option Addr)(n c:Nat)(hn:n<=1000)(l:List Int)(w:World)(hF:Flat w a n l)(hX:HX.Tabled w):
  Calls Tryz.prog 77 #[.int .i64 d,.slice a n c] w fun e w'=>e=.returned (.agg (za (FLD d l n)).toArray)/\Below w.heap.size w w':=by
 have R0:Aside (Below w.heap.size w (w.alloc (.cells ZARR 23))/\Has (w.alloc (.cells ZARR 23)) w.heap.size (za ZND).toArray 23):=⟨(Below.refl _ _).alloc (Nat.le_refl _) _,by rw[zQ];exact Has.new _ _ _⟩
 by_cases h0:n=0
 ·subst h0
  have e:FLD d l 0=ZND:=rfl;rw[e];clear hF hX hn e;go_enter Tryz.func77,Tryz.ntmps77;go_upto_region 2 with fail
  rw[show (#[.int .u8 0,.int .u8 0,.int .u8 0,.int .u8 0,.int .u8 0,.int .u8 0,.int .u8 0,.int .u8 0,.int .u8 0,.int .u8 0,.int .u8 0,.int .u8 0,.int .u8 0,.int .u8 0,.int .u8 0,.int .u8 0,.int .u8 0,.int .u8 0,.int .u8 0,.int .u8 0,.int .u8 0,.int .u8 0,.int .u8 0,.int .u8 0,.int .u8 0,.int .u8 0,.int .u8 0,.int .u8 0,.int .u8 0,.int .u8 0,.int .u8 0,.int .u8 0]:Array Value)=ZARR from rfl];generalize w.alloc (.cells ZARR 23)=W0 at *
  go_wp2_with (rw[show (#[.int .u8 0,.int .u8 0,.int .u8 0,.int .u8 0,.int .u8 0,.int .u8 0,.int .u8 0,.int .u8 0,.int .u8 0,.int .u8 0,.int .u8 0,.int .u8 0,.int .u8 0,.int .u8 0,.int .u8 0,.int .u8 0,.int .u8 0,.int .u8 0,.int .u8 0,.int .u8 0,.int .u8 0,.int .u8 0,.int .u8 0,.int .u8 0,.int .u8 0,.int .u8 0,.int .u8 0,.int .u8 0,.int .u8 0,.int .u8 0,.int .u8 0,.int .u8 0]:Array Value)=(za ZND).toArray from rfl];refine wpList_store_row rfl 23 (.tmp 4) (.tmp 11) rfl _ _ rfl rfl 23 _ R0.out.2 (zd rfl) rfl (zx ZND) ?_)
  refine bodyPost_ret (v:=.agg (za ZND).toArray) (je rfl _ _ w.heap.size 23 _ (0,0) _ _ rfl (Has.row R0.out.2 _) Tryz.underlying23 (zd rfl)) rfl ⟨rfl,zm R0.out.1 (Nat.le_refl _) _⟩
 ·obtain⟨m,hm⟩:∃ m,n=m+1:=⟨n - 1,by omega⟩
  obtain⟨gn,o,rfl,hgn,hcn⟩:=hF.2.1 (by omega);have hz:¬ (n:Int)=0:=by omega
  have e1:wrap64 ((n:Int) - 1)=(m:Int):=by unfold wrap64;omega
  have hml:(m:Int)<(n:Int):=by omega
  have hm0:(0:Int)<=(m:Int):=by omega
  have e:FLD d l n=FA d l n m:=by unfold FLD;rw[if_neg h0,show n - 1=m by omega]
  rw[e];have HA:Aside (n=m+1/\n<=1000/\Flat w (some ⟨gn,o,none⟩) n l/\HX.Tabled w/\gn<w.heap.size/\∀ k,IsH (FA d l n k)):=⟨hm,hn,hF,hX,hgn,ja hF.1 hF.2.2 (by omega)⟩
  clear hm hn hF hX hgn hcn h0 e;go_enter Tryz.func77,Tryz.ntmps77;go_upto_region 3 with fail
  rw[show (#[.int .u8 0,.int .u8 0,.int .u8 0,.int .u8 0,.int .u8 0,.int .u8 0,.int .u8 0,.int .u8 0,.int .u8 0,.int .u8 0,.int .u8 0,.int .u8 0,.int .u8 0,.int .u8 0,.int .u8 0,.int .u8 0,.int .u8 0,.int .u8 0,.int .u8 0,.int .u8 0,.int .u8 0,.int .u8 0,.int .u8 0,.int .u8 0,.int .u8 0,.int .u8 0,.int .u8 0,.int .u8 0,.int .u8 0,.int .u8 0,.int .u8 0,.int .u8 0]:Array Value)=ZARR from rfl];generalize w.alloc (.cells ZARR 23)=W0 at *
  have hat:W0.rangeAt gn (o+m*32) (za (FA d l n 0)):=by
   have h1:=(HA.out.2.2.1.below R0.out.1).at (show m<n by have:=HA.out.1;omega)
   have h2:FA d l n 0=HSH l m:=by have:=HA.out.1;rw[FA,show n - 1=m by omega]
   rw[h2];exact h1
  have h32:=(HA.out.2.2.2.2.2 0).1;generalize hA0:FA d l n 0=A0 at *
  go_wp2_with (first
   | (refine wpList_load_mid rfl 23 (.tmp 17) rfl gn (o+m*32) rfl (za A0) _ hat Tryz.underlying23 rfl (zo h32) ?_)
   | (refine wpList_store_row rfl 23 (.tmp 6) (.tmp 18) rfl _ _ rfl rfl 23 _ (Has.new W0 _ _) (zd h32) (by simp[za,h32]) (zx A0) ?_;rw[World.setRow_alloc_new]))
  have R1:Aside (Below w.heap.size w (W0.alloc (.cells (za A0).toArray 23))/\Has (W0.alloc (.cells (za A0).toArray 23)) w.heap.size (za ZND).toArray 23/\Has (W0.alloc (.cells (za A0).toArray 23)) W0.heap.size (za (FA d l n 0)).toArray 23/\w.heap.size<W0.heap.size):=⟨R0.out.1.alloc R0.out.1.size _,R0.out.2.alloc _,by rw[hA0];exact Has.new _ _ _,R0.out.2.lt⟩
  clear hat h32 hA0 R0;generalize W0.alloc (.cells (za A0).toArray 23)=W1 at *
  generalize W0.heap.size=b6 at *
  clear W0;have K:Aside (w.heap.size<b6):=R1.out.2.2.2;have E0:Aside (wrap64 ((m:Int) - 1)=(m:Int) - 1):=by have:=HA.out.1;have:=HA.out.2.1;show wrap64 ((m:Int) - 1)=(m:Int) - 1;unfold wrap64;omega
  go_loopg [7] m (fun q s7 wx=>∃ x:Int,s7=.int .i64 x/\Aside (q<=m/\x=(q:Int) - 1/\Below w.heap.size w wx/\Has wx w.heap.size (za ZND).toArray 23/\Has wx b6 (za (FA d l n (m - q))).toArray 23))
  case atStart=>exact⟨_,rfl,Nat.le_refl _,E0.out,R1.out.1,R1.out.2.1,by rw[Nat.sub_self];exact R1.out.2.2.1⟩
  case round=>
   obtain⟨x,rfl,A⟩:=hrel;clear R1 E0;cases gk with
   | zero=>
     obtain rfl:x = -1:=by have:=A.out.2.1;omega
     have y32:=(HA.out.2.2.2.2.2 m).1;have hH4:=A.out.2.2.2.1;have hH6:Has wr b6 (za (FA d l n m)).toArray 23:=A.out.2.2.2.2;have hb:=A.out.2.2.1;clear A HA;generalize hY0:FA d l n m=Y at *
     go_wp2_with (first
      | (refine wpList_load_row rfl 23 (.tmp 6) rfl b6 rfl 23 (za Y).toArray (0,0) _ hH6 Tryz.underlying23 rfl (zd y32) ?_)
      | (refine wpList_store_row rfl 23 (.tmp 4) (.tmp 32) rfl _ _ rfl rfl 23 _ hH4 (zd y32) (by simp[za,y32];rfl) (zx Y) ?_))
     refine bodyPost_ret (v:=.agg (za Y).toArray) (je rfl _ _ w.heap.size 23 _ (0,0) _ _ rfl (Has.row hH4 _) Tryz.underlying23 (zd y32)) rfl ⟨by rw[hY0],zm hb (Nat.le_refl _) _⟩
   | succ q=>
     obtain rfl:x=(q:Int):=by have:=A.out.2.1;omega
     have hq0:(0:Int)<=(q:Int):=by omega
     have hb:=A.out.2.2.1;obtain⟨h1,h2,h3,h4,h5,h6⟩:=HA.out;have hqm:q+1<=m:=A.out.1
     have eY:FA d l n (m - q)=zW d (HSH l q) (FA d l n (m - (q+1))):=by
      rw[show m - q=(m - (q+1))+1 by omega,FA,show n - 2 - (m - (q+1))=q by omega]
     have hL:IsH (HSH l q):=qd h3.1 h3.2.2 (by omega);have hR:=h6 (m - (q+1));have hY:=h6 (m - q);have hb1:(q:Int)<(n:Int):=by omega
     have cF:=M6 d (HSH l q) (FA d l n (m - (q+1))) hL hR wr.drew (h4.below hb.drew);have hLr:=((h3.below hb).at (show q<n by omega))
     have hE1:Aside (wrap64 ((q:Int) - 1)=(q:Int) - 1):=by show wrap64 ((q:Int) - 1)=(q:Int) - 1;unfold wrap64;omega
     rw[<-eY] at cF;clear h1 h2 h3 h4 h5 h6 eY hb HA;generalize FA d l n (m - (q+1))=R at *
     generalize HSH l q=L at *
     have hH6:=A.out.2.2.2.2;go_upto_region 8 with fail
     refine UJ _ _ _ _ _ _ _ _ _ _ _ _ _ _ _ _ _ _ _ _ _ _ _ _ _ _ _ _ _ wr b6 gn o n c q d L R (FA d l n (m - q)) hL.1 hR.1 hY.1 hb1 hLr (yT hH6) (fun W=>Below w.heap.size w W/\Has W w.heap.size (za ZND).toArray 23) (cF.mono ?_) (fun _ _ _ _ _ h=>h) ?_
     ·rintro e w' ⟨rfl,hb⟩
      have hb':Below wr.heap.size wr w':=(Below.refl _ wr).drew.trans hb;exact⟨_,rfl,rfl,hH6.keep hb',A.out.2.2.1.trans (hb'.mono A.out.2.2.1.size),A.out.2.2.2.1.keep hb'⟩
     ·rintro X w' ⟨rfl,g1,g2,g3⟩
      dsimp only;have Z:Aside (q<=m/\(q:Int) - 1=(q:Int) - 1/\Below w.heap.size w (w'.setRow b6 (za (FA d l n (m - q))).toArray)/\Has (w'.setRow b6 (za (FA d l n (m - q))).toArray) w.heap.size (za ZND).toArray 23/\Has (w'.setRow b6 (za (FA d l n (m - q))).toArray) b6 (za (FA d l n (m - q))).toArray 23):=⟨by omega,rfl,zm g2 (by have:=K.out;omega) _,g3.row_other (by have:=K.out;omega) _,g1.row _⟩
      clear cF hLr hL hR hY hb1 hq0 hqm A g1 g2 g3 hH6;have e1:=hE1.out;generalize w'.setRow b6 (za (FA d l n (m - q))).toArray=w3 at *
      go_wp2;go_roundg q
      case measure=>exact Nat.lt_succ_self _
      case rel=>exact⟨_,rfl,Z.out.1,rfl,Z.out.2.2⟩
def BAGA(d:Int)(n k:Nat)(l:List Int):Int × List Int:=
 if 4611686018427387904<n then (30,ZND) else if k≠PC n then (70,ZND) else (0,zy d n (FLD d l k))
theorem uM{d:Int}{n k:Nat}{l:List Int}:IsH (BAGA d n k l).2:=by
 unfold BAGA;split
 ·exact jR
 ·split
  ·exact jR
  ·exact qM _ _ _
theorem jf{fn:Func}{p q:Tmp}{ty:TypeId}(h:fn.results=#[.cell p ty,.tmp q])(tmps:Array Value)(w:World)(g:Nat)(t:TypeId)(cs:Array Value)(fr:Nat × Nat)(k:Nat)(el:TypeId)(v:Value)
  (hp:tmps.getD p undef=.pointer (some ⟨g,0,none⟩))(hv:tmps.getD q undef=v)(hg:w.heap[g]?=some (.cells cs t fr))
  (hu:Tryz.prog.underlying ty=some (.array k el))(hi:(Tryz.prog.info? ty).map (·.size)=some cs.size):
  (results fn tmps).run Tryz.prog w=.ok (.tuple #[.agg cs,v]) w:=by
 have hp':tmps[p]?.getD undef=.pointer (some ⟨g,0,none⟩):=by simpa using hp
 have hv':tmps[q]?.getD undef=v:=by simpa using hv
 simp[results,h,hp',hv',asAddr,run_loadVar_row w g t ty cs fr (.array k el) hg hu rfl hi]
theorem mM(d:Int)(n:Nat)(hn:n<2 ^ 64)(a:Option Addr)(k c:Nat)(w:World)(h1':¬ (4611686018427387904:Int)<(n:Int))(h2:¬ k=POP n):
  Calls Tryz.prog 43 #[.int .i64 d,.int .u64 (n:Int),.slice a k c] w fun e w'=>e=.returned (.tuple #[.agg (za ZND).toArray,.int .i64 70])/\Below w.heap.size w w':=by
 have R0:Aside (Below w.heap.size w (w.alloc (.cells ZARR 23))/\Has (w.alloc (.cells ZARR 23)) w.heap.size (za ZND).toArray 23):=⟨(Below.refl _ _).alloc (Nat.le_refl _) _,by rw[zQ];exact Has.new _ _ _⟩
 have cO:=Yo n hn (w.alloc (.cells ZARR 23));generalize POP n=pp at *
 have e2:¬ (k:Int)=(pp:Int):=by omega
 clear hn;go_enter Tryz.func43,Tryz.ntmps43;go_upto_region 3 with fail
 rw[show (#[.int .u8 0,.int .u8 0,.int .u8 0,.int .u8 0,.int .u8 0,.int .u8 0,.int .u8 0,.int .u8 0,.int .u8 0,.int .u8 0,.int .u8 0,.int .u8 0,.int .u8 0,.int .u8 0,.int .u8 0,.int .u8 0,.int .u8 0,.int .u8 0,.int .u8 0,.int .u8 0,.int .u8 0,.int .u8 0,.int .u8 0,.int .u8 0,.int .u8 0,.int .u8 0,.int .u8 0,.int .u8 0,.int .u8 0,.int .u8 0,.int .u8 0,.int .u8 0]:Array Value)=ZARR from rfl];generalize w.alloc (.cells ZARR 23)=W0 at *
 go_wp2_with fail
 refine cO.mono ?_;rintro e w1 ⟨rfl,rfl⟩;clear cO;go_upto_region 4 with fail
 go_wp2_with (rw[show (#[.int .u8 0,.int .u8 0,.int .u8 0,.int .u8 0,.int .u8 0,.int .u8 0,.int .u8 0,.int .u8 0,.int .u8 0,.int .u8 0,.int .u8 0,.int .u8 0,.int .u8 0,.int .u8 0,.int .u8 0,.int .u8 0,.int .u8 0,.int .u8 0,.int .u8 0,.int .u8 0,.int .u8 0,.int .u8 0,.int .u8 0,.int .u8 0,.int .u8 0,.int .u8 0,.int .u8 0,.int .u8 0,.int .u8 0,.int .u8 0,.int .u8 0,.int .u8 0]:Array Value)=(za ZND).toArray from rfl];refine wpList_store_row rfl 23 (.tmp 6) (.tmp 16) rfl _ _ rfl rfl 23 _ R0.out.2 (zd rfl) rfl (zx ZND) ?_)
 refine bodyPost_ret (v:=.tuple #[.agg (za ZND).toArray,.int .i64 70]) (jf rfl _ _ w.heap.size 23 _ (0,0) _ _ _ rfl rfl (Has.row R0.out.2 _) Tryz.underlying23 (zd rfl)) rfl ⟨rfl,zm R0.out.1 (Nat.le_refl _) _⟩
end Go.Proofs.YtobaogpomcocpaaGreatDoor
