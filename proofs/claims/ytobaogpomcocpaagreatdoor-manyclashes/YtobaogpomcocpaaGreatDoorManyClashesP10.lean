/- ManyClashes: part 10. -/
import Derived.Test.YtobaogpomcocpaaGreatDoorManyClashesP9
set_option maxRecDepth 100000
set_option maxHeartbeats 8000000
open Go.RowKit
namespace Go.Proofs.YtobaogpomcocpaaGreatDoor
theorem z2h{Q:Exit->Act->World->Prop}{b d f g i j k l m n p q r s u x y C D E F G H I J K L M N O P R T U V X Z aa ab ac ad ae af ag ah ai aj ak al am an ao ap aq ar au av aw ax ay az aA aB aC:Value}(W:World)(bh bc bs:Nat)(A B Y:List Int)(lA:A.length=32)(lB:B.length=32)(lY:Y.length=32)(P0 P1:World->Prop)(h0:P0 W.drew)(t0:∀ w,P0 w->(fun w:World=>w.rangeAt bs 0 (za A ++ za B ++ za Y)/\w.cell? ⟨bc,3,none⟩=some (.func (.func 45) #[] #[.pointer (some ⟨bh,0,none⟩)])) w)(t1:∀ w,P1 w->(fun w:World=>w.rangeAt bs 0 (za A ++ za B ++ za Y)/\w.cell? ⟨bc,3,none⟩=some (.func (.func 45) #[] #[.pointer (some ⟨bh,0,none⟩)])) w)
  (c0:∀ w,P0 w->Calls Tryz.prog 45 #[.agg (MSTP A B Y),.pointer (some ⟨bh,0,none⟩)] w fun e w'=>e=.returned (.tuple #[])/\P1 w')(hQ:∀ c (a:Act) (t:Tmp) (v:Value) w,Q (.panic c) (a.put (some t) v) w->Q (.panic c) a w)
  (hfin:∀ (w:World),(P1 w)->Q .normal ⟨#[.pointer (some ⟨bc,0,none⟩),b,d,f,g,i,j,k,l,m,n,p,q,r,.pointer (some ⟨bs,0,none⟩),s,u,x,y,C,D,E,F,G,H,I,J,K,L,M,N,O,P,R,T,U,V,X,Z,aa,ab,ac,ad,ae,af,ag,ah,ai,aj,ak,al,am,an,ao,ap,aq,ar,au,.pointer (some ⟨bc,0,none⟩),.pointer (some ⟨bc,0,none⟩),.pointer (some ⟨bc,3,none⟩),.func (.func 45) #[] #[.pointer (some ⟨bh,0,none⟩)],.agg (MSTP A B Y),.tuple #[],aB,aC],[]⟩ w):(Code.region 10 xZ true).wp Tryz.prog Q ⟨#[.pointer (some ⟨bc,0,none⟩),b,d,f,g,i,j,k,l,m,n,p,q,r,.pointer (some ⟨bs,0,none⟩),s,u,x,y,C,D,E,F,G,H,I,J,K,L,M,N,O,P,R,T,U,V,X,Z,aa,ab,ac,ad,ae,af,ag,ah,ai,aj,ak,al,am,an,ao,ap,aq,ar,au,av,aw,ax,ay,az,aA,aB,aC],[]⟩ W:=by
 have kst5:∀ (w:World),(P1 w)->wpAnyH Tryz.prog .any xZ Q (fun w:World=>w.rangeAt bs 0 (za A ++ za B ++ za Y)/\w.cell? ⟨bc,3,none⟩=some (.func (.func 45) #[] #[.pointer (some ⟨bh,0,none⟩)])) 0 #[tt,tt,tt,tt,tt,tt] ⟨#[.pointer (some ⟨bc,0,none⟩),b,d,f,g,i,j,k,l,m,n,p,q,r,.pointer (some ⟨bs,0,none⟩),s,u,x,y,C,D,E,F,G,H,I,J,K,L,M,N,O,P,R,T,U,V,X,Z,aa,ab,ac,ad,ae,af,ag,ah,ai,aj,ak,al,am,an,ao,ap,aq,ar,au,.pointer (some ⟨bc,0,none⟩),.pointer (some ⟨bc,0,none⟩),.pointer (some ⟨bc,3,none⟩),.func (.func 45) #[] #[.pointer (some ⟨bh,0,none⟩)],.agg (MSTP A B Y),.tuple #[],aB,aC],[]⟩ w:=fun  w hp=>by
  exact wpAnyH_done (by kernel_rfl) (hfin  w hp) _
 have kst:∀ (w:World),(P0 w)->wpAnyH Tryz.prog .any xZ Q (fun w:World=>w.rangeAt bs 0 (za A ++ za B ++ za Y)/\w.cell? ⟨bc,3,none⟩=some (.func (.func 45) #[] #[.pointer (some ⟨bh,0,none⟩)])) 1 #[tt,tt,tt,tt,tt,ff] ⟨#[.pointer (some ⟨bc,0,none⟩),b,d,f,g,i,j,k,l,m,n,p,q,r,.pointer (some ⟨bs,0,none⟩),s,u,x,y,C,D,E,F,G,H,I,J,K,L,M,N,O,P,R,T,U,V,X,Z,aa,ab,ac,ad,ae,af,ag,ah,ai,aj,ak,al,am,an,ao,ap,aq,ar,au,.pointer (some ⟨bc,0,none⟩),.pointer (some ⟨bc,0,none⟩),.pointer (some ⟨bc,3,none⟩),.func (.func 45) #[] #[.pointer (some ⟨bh,0,none⟩)],.agg (MSTP A B Y),aA,aB,aC],[]⟩ w:=fun  w hp=>by
  refine wpAnyH_ready (rs:=[5]) (by kernel_rfl) (by simp) ?_;refine AllReadyH.cons (o:=⟨some 63,.call {callee:=.value (.tmp 61),args:=#[.tmp 62],argTypes:=#[56]},0,"climb.go:46",#[⟨3,.data⟩,⟨4,.data⟩],none⟩) rfl (fun KQ hKQ=>?_) ?_
  ·rw[if_pos (by rfl)]
   go_simp;refine(show Calls _ _ _ w (fun e w'=>e=.returned (.tuple #[])/\(P1 w')) from c0 w hp).mono ?_;rintro e w' ⟨rfl,hp⟩;exact hKQ.out _ _ (t1 _ hp) (fun _=>kst5  w' hp)
  exact AllReadyH.nil
 have hp:=h0;have hww:(fun w:World=>w.rangeAt bs 0 (za A ++ za B ++ za Y)/\w.cell? ⟨bc,3,none⟩=some (.func (.func 45) #[] #[.pointer (some ⟨bh,0,none⟩)])) W.drew:=t0 _ hp;have last:=kst W.drew hp
 have z:wpAnyH Tryz.prog .any xZ Q (fun w:World=>w.rangeAt bs 0 (za A ++ za B ++ za Y)/\w.cell? ⟨bc,3,none⟩=some (.func (.func 45) #[] #[.pointer (some ⟨bh,0,none⟩)])) 6 #[ff,ff,ff,ff,ff,ff] ⟨#[.pointer (some ⟨bc,0,none⟩),b,d,f,g,i,j,k,l,m,n,p,q,r,.pointer (some ⟨bs,0,none⟩),s,u,x,y,C,D,E,F,G,H,I,J,K,L,M,N,O,P,R,T,U,V,X,Z,aa,ab,ac,ad,ae,af,ag,ah,ai,aj,ak,al,am,an,ao,ap,aq,ar,au,av,aw,ax,ay,az,aA,aB,aC],[]⟩ W.drew:=by
  refine tkP ⟨some 58,.move (.tmp 0),148,"climb.go:46",#[],none⟩ (.pointer (some ⟨bc,0,none⟩)) 0 hQ hww ?_;simp only[List.set];refine tkP ⟨some 59,.nilCheck (.tmp 58),0,"climb.go:46",#[⟨0,.data⟩],none⟩ (.pointer (some ⟨bc,0,none⟩)) 1 hQ hww ?_;simp only[List.set];refine tkP ⟨some 60,.fieldAddr 118 (.tmp 59) 3,0,"climb.go:46",#[⟨1,.data⟩],none⟩ (.pointer (some ⟨bc,3,none⟩)) 2 hQ hww ?_;simp only[List.set];refine tkH ⟨some 61,.load 81 (.tmp 60),81,"climb.go:46",#[⟨2,.data⟩],none⟩ (.func (.func 45) #[] #[.pointer (some ⟨bh,0,none⟩)]) 3 hQ (Or.inl ⟨by rfl,fun w hw=>by have hx:=hw.2;go_simp⟩) hww ?_;simp only[List.set];refine tkH ⟨some 62,.load 56 (.tmp 14),56,"climb.go:46",#[],none⟩ (.agg (MSTP A B Y)) 4 hQ (yieldsIf_load_mid (by rfl) 56 (.tmp 14) rfl bs 0 rfl (za A ++ za B ++ za Y) _ (fun w h=>h.1) Tryz.underlying56 rfl (jg lA lB lY)) hww ?_;simp only[List.set];exact last
 exact wp_region_held_drew (S:=(fun w:World=>w.rangeAt bs 0 (za A ++ za B ++ za Y)/\w.cell? ⟨bc,3,none⟩=some (.func (.func 45) #[] #[.pointer (some ⟨bh,0,none⟩)]))) (by kernel_rfl) hww (fun _=>z)
def INDB(w0:World)(bc:Nat)(a:Option Addr):Prop:=∀ x,a=some x->x.block≠bc/\x.block<w0.heap.size/\x.spot=none
theorem NUML.but{bc:Nat}{w w':World}{a:Option Addr}{L:List Nat}(h:NUML w a L)(hb:BUT bc w w')(ha:INDB w bc a):NUML w' a L:=fun h0=>by
 obtain⟨b,o,e,hlt,hc⟩:=h h0;exact⟨b,o,e,Nat.lt_of_lt_of_le hlt hb.2.size,fun i x hx=>(World.cell?_of_block (w:=w) (by exact hb.1 b hlt (ha _ e).1)).trans (hc i x hx)⟩
theorem NUML.back{bc:Nat}{w w':World}{a:Option Addr}{L:List Nat}(h:NUML w' a L)(hb:BUT bc w w')(ha:INDB w bc a):NUML w a L:=fun h0=>by
 obtain⟨b,o,e,hlt,hc⟩:=h h0;have hl:b<w.heap.size:=(ha _ e).2.1;exact⟨b,o,e,hl,fun i x hx=>(World.cell?_of_block (w:=w') (by exact(hb.1 b hl (ha _ e).1).symm)).trans (hc i x hx)⟩
def UPM(w0 w:World)(bc:Nat)(d:Int)(Y lv nd:List Int)(i j:Nat)(e:Ending)(w':World):Prop:=e=.returned (.agg (za Y).toArray)/\CLB w0 w' bc d lv nd i j/\BUT bc w w'
theorem z1w(w0 w:World)(bc:Nat)(d:Int)(h k:Nat)(hN:Node (h+1) k)(L:List Nat)(a:Option Addr)(n c:Nat)(hl:L.length=n)(hn:n<2 ^ 40)(hR:RISES L)(hc:n<=c)(hnil:a=none->c=0)(hbl:INDB w0 bc a)(hL:NUML w0 a L)(hn0:0<n)
  (lv nd lv1 nd1 lv2 nd2 A B:List Int)(i j i1 j1 i2 j2:Nat)(hC:CLB w0 w bc d lv nd i j)(hc0:bc<w0.heap.size)(hX:∀ W,Below bc w0 W->HX.Tabled W)(hA:IsH A)(hB:IsH B)
  (c1:∀ r W,RANKS L ((2*k+1)*2 ^ h) r->CLB w0 W bc d lv nd i j->Calls Tryz.prog 80 #[.pointer (some ⟨bc,0,none⟩),.int .u64 ((PLC h (2*k):Nat):Int),.slice a r c] W (UPM w0 W bc d A lv1 nd1 i1 j1))
  (c2:∀ r a' W,RANKS L ((2*k+1)*2 ^ h) r->NUML w0 a' (L.drop r)->INDB w0 bc a'->(a'=none->c - r=0)->CLB w0 W bc d lv1 nd1 i1 j1->Calls Tryz.prog 80 #[.pointer (some ⟨bc,0,none⟩),.int .u64 ((PLC h (2*k+1):Nat):Int),.slice a' (n - r) (c - r)] W (UPM w0 W bc d B lv2 nd2 i2 j2)):
  Calls Tryz.prog 80 #[.pointer (some ⟨bc,0,none⟩),.int .u64 ((PLC (h+1) k:Nat):Int),.slice a n c] w (UPM w0 w bc d (zp d A B) lv2 nd2 i2 j2):=by
 have hnb:((n:Int) == 0)=false:=beq_eq_false_iff_ne.2 (by omega);have hlt:=hC.lt;have hs0:w0.heap.size<=w.heap.size:=hC.2.2.size;obtain⟨hNl,hNr⟩:=hN.kid;obtain⟨W0,hW0⟩:∃ W0,w.alloc (.cells ZARR 23)=W0:=⟨_,rfl⟩
 obtain⟨b6,hb6⟩:∃ b6,w.heap.size=b6:=⟨_,rfl⟩
 have hb0:Below w.heap.size w W0:=by rw[<-hW0];exact(Below.refl _ _).alloc (Nat.le_refl _) _
 have hH0:Has W0 b6 (za ZND).toArray 23:=by rw[<-hW0,zQ,<-hb6];exact Has.new _ _ _
 have ck:=jE h k hN W0;have HA:Aside (Below w.heap.size w W0/\Has W0 b6 (za ZND).toArray 23/\bc<w0.heap.size/\w0.heap.size<=w.heap.size/\bc<w.heap.size/\CLB w0 W0 bc d lv nd i j/\w.heap.size=b6):=⟨hb0,hH0,hc0,hs0,hlt,hC.still hb0,hb6⟩
 have HL:Aside (L.length=n/\n<2 ^ 40/\RISES L/\n<=c/\(a=none->c=0)/\INDB w0 bc a/\NUML w0 a L/\Node h (2*k)):=⟨hl,hn,hR,hc,hnil,hbl,hL,hNl⟩
 have C1:Aside _:=c1;have C2:Aside _:=c2;have HY:Aside (IsH A/\IsH B/\∀ W,Below bc w0 W->HX.Tabled W):=⟨hA,hB,hX⟩
 clear hC hb0 hH0 hc0 hs0 hlt hl hn hR hc hnil hbl hL hn0 hNl hNr hN hX hA hB c1 c2;generalize ((PLC (h+1) k:Nat):Int)=P at *
 go_enter Tryz.func80,Tryz.ntmps80;go_upto_region 3 with fail
 clear hW0 hb6;go_wp2_with fail
 refine ck.mono ?_;rintro e w1 ⟨rfl,h1⟩;clear ck;have k1:CLB w0 w1 bc d lv nd i j:=HA.out.2.2.2.2.2.1.still h1;have cs:=yU h (2*k) HL.out.2.2.2.2.2.2.2 a n c L HL.out.1 HL.out.2.1 HL.out.2.2.1 HL.out.2.2.2.1 HL.out.2.2.2.2.1 (fun x e=>(HL.out.2.2.2.2.2.1 x e).2.2) w1 (HL.out.2.2.2.2.2.2.1.but k1.2 HL.out.2.2.2.2.2.1);have K1:Aside (CLB w0 w1 bc d lv nd i j/\Below w.heap.size w w1/\Has w1 b6 (za ZND).toArray 23):=⟨k1,HA.out.1.trans (h1.mono HA.out.1.size),HA.out.2.1.keep h1⟩
 clear h1 k1;go_wp2_with fail
 refine cs.mono ?_;rintro e w2 ⟨r,a',rfl,hs⟩;clear cs
 have hbl':INDB w0 bc a':=fun x hx=>by
  obtain⟨y,e2,e3⟩:=hs.block x hx;have q:=HL.out.2.2.2.2.2.1 y e2;exact⟨by rw[e3];exact q.1,by rw[e3];exact q.2.1,hs.spot x hx⟩
 have hL':NUML w0 a' (L.drop r):=hs.lies.back K1.out.1.2 hbl';have K2:Aside (CLB w0 w2 bc d lv nd i j/\Below w.heap.size w w2/\Has w2 b6 (za ZND).toArray 23):=⟨K1.out.1.still hs.below,K1.out.2.1.trans (hs.below.mono K1.out.2.1.size),K1.out.2.2.keep hs.below⟩
 have cu:=C1.out r w2 hs.rank K2.out.1;have CV:Aside (∀ W,CLB w0 W bc d lv1 nd1 i1 j1->Calls Tryz.prog 80 #[.pointer (some ⟨bc,0,none⟩),.int .u64 ((PLC h (2*k+1):Nat):Int),.slice a' (n - r) (c - r)] W (UPM w0 W bc d B lv2 nd2 i2 j2)):=fun W hW=>C2.out r a' W hs.rank hL' hbl' hs.nil hW;clear hs hbl' hL' K1 C1 C2 HL;generalize n - r=n' at *
 generalize c - r=c' at *
 go_wp2_with fail
 refine cu.mono ?_;rintro e w3 ⟨rfl,h3,h4⟩;clear cu;have lA:=HY.out.1.1;have lB:=HY.out.2.1.1;have K3:Aside (CLB w0 w3 bc d lv1 nd1 i1 j1/\BUT bc w w3/\Has w3 b6 (za ZND).toArray 23):=⟨h3,(BUT.of_below K2.out.2.1 (Nat.le_of_lt HA.out.2.2.2.2.1)).trans h4,(h4.1 b6 K2.out.2.2.lt (by have:=HA.out;omega)).trans K2.out.2.2⟩
 clear h3 h4 K2;go_upto_region 8 with (refine wpList_store_row rfl 23 (.tmp 12) (.tmp 43) rfl _ _ rfl rfl 23 _ (Has.new w3 _ _) (zd lA) (by simp[za,lA]) (zx A) ?_;rw[World.setRow_alloc_new])
 have K4:Aside (CLB w0 (w3.alloc (.cells (za A).toArray 23)) bc d lv1 nd1 i1 j1/\BUT bc w (w3.alloc (.cells (za A).toArray 23))/\Has (w3.alloc (.cells (za A).toArray 23)) b6 (za ZND).toArray 23/\Has (w3.alloc (.cells (za A).toArray 23)) w3.heap.size (za A).toArray 23/\b6<w3.heap.size):=by
  have hb:Below w3.heap.size w3 (w3.alloc (.cells (za A).toArray 23)):=(Below.refl _ _).alloc (Nat.le_refl _) _;exact⟨K3.out.1.still hb,K3.out.2.1.trans (BUT.of_below hb (Nat.le_of_lt K3.out.1.lt)),K3.out.2.2.alloc _,Has.new _ _ _,K3.out.2.2.lt⟩
 clear K3;generalize w3.alloc (.cells (za A).toArray 23)=w4 at *
 generalize w3.heap.size=bl at *
 have cu:=CV.out w4 K4.out.1;go_wp2_with fail
 refine cu.mono ?_;rintro e w5 ⟨rfl,h3,h4⟩;clear cu CV;have K5:Aside (CLB w0 w5 bc d lv2 nd2 i2 j2/\BUT bc w w5/\Has w5 b6 (za ZND).toArray 23/\Has w5 bl (za A).toArray 23):=⟨h3,K4.out.2.1.trans h4,(h4.1 b6 K4.out.2.2.1.lt (by have:=HA.out;omega)).trans K4.out.2.2.1,(h4.1 bl K4.out.2.2.2.1.lt (by have:=HA.out;have:=K4.out.2.2.2.2;omega)).trans K4.out.2.2.2.1⟩
 have hbb:b6<bl:=K4.out.2.2.2.2;clear h3 h4 K4;go_upto_region 9 with (refine wpList_store_row rfl 23 (.tmp 13) (.tmp 47) rfl _ _ rfl rfl 23 _ (Has.new w5 _ _) (zd lB) (by simp[za,lB]) (zx B) ?_;rw[World.setRow_alloc_new])
 have K6:Aside (UPQ w0 w (w5.alloc (.cells (za B).toArray 23)) bc d lv2 nd2 i2 j2 b6 bl w5.heap.size A B):=by
  have hb:Below w5.heap.size w5 (w5.alloc (.cells (za B).toArray 23)):=(Below.refl _ _).alloc (Nat.le_refl _) _;exact⟨K5.out.1.still hb,K5.out.2.1.trans (BUT.of_below hb (Nat.le_of_lt K5.out.1.lt)),K5.out.2.2.1.alloc _,K5.out.2.2.2.alloc _,Has.new _ _ _,HA.out.2.2.2.2.2.2,hbb,K5.out.2.2.2.lt,HA.out.2.2.2.1,HA.out.2.2.1⟩
 clear K5 HA hbb;generalize w5.alloc (.cells (za B).toArray 23)=w6 at *
 generalize w5.heap.size=br at *
 have hY:=xC d A B;have CN:Aside (∀ W,UPQ w0 w W bc d lv2 nd2 i2 j2 b6 bl br A B->Calls Tryz.prog 116 #[.int .i64 d,.agg (za A).toArray,.agg (za B).toArray] W fun e w'=>e=.returned (.agg (za (zp d A B)).toArray)/\Below W.heap.size W w'):=fun W hW=>VI d A B HY.out.1 HY.out.2.1 W (HY.out.2.2 W hW.clb.2.2);clear HY;generalize zp d A B=Y at *
 have lY:=hY.1;clear hY;refine mup9 w6 d bc bl br A B Y lA lB lY (fun W=>UPQ w0 w W bc d lv2 nd2 i2 j2 b6 bl br A B) (fun W=>UPQ w0 w W bc d lv2 nd2 i2 j2 b6 bl br A B) (fun b W=>UPQ w0 w W bc d lv2 nd2 i2 j2 b6 bl br A B/\Has W b (MSTP ZND ZND ZND) 56/\br<b) (fun b W=>UPQ w0 w W bc d lv2 nd2 i2 j2 b6 bl br A B/\Has W b (MSTP ZND ZND ZND) 56/\br<b) (fun b W=>UPQ w0 w W bc d lv2 nd2 i2 j2 b6 bl br A B/\Has W b (MSTP A B Y) 56/\br<b) (K6.out.below (Below.refl _ w6).drew) (fun W h=>h.s9) (fun W h=>h.s9) (fun b W h=>h.1.s9) (fun b W h=>h.1.s9) (fun b W h=>h.1.s9) (fun W h=>(CN.out W h).mono ?_) (fun b W h=>(CN.out W h.1).mono ?_) (fun W h=>⟨h.below ((Below.refl _ _).alloc (Nat.le_refl _) _),Has.new _ _ _,h.r.lt⟩) (fun W h=>⟨h.below ((Below.refl _ _).alloc (Nat.le_refl _) _),Has.new _ _ _,h.r.lt⟩) (fun b W h=>h.2.1) (fun b W h=>⟨h.1.row h.2.2 _,h.2.1.row _,h.2.2⟩) (fun _ _ _ _ _ h=>h) ?_
 ·rintro e w' ⟨rfl,hb⟩
  exact⟨rfl,h.below hb⟩
 ·rintro e w' ⟨rfl,hb⟩
  exact⟨rfl,h.1.below hb,h.2.1.keep hb,h.2.2⟩
 ·intro bs w7 h7
  dsimp only;have K7:Aside (UPQ w0 w w7 bc d lv2 nd2 i2 j2 b6 bl br A B/\Has w7 bs (MSTP A B Y) 56/\br<bs):=h7;clear h7 K6 CN;go_upto_region 10 with fail
  refine z2N w7 bc bs A B Y lA lB lY (fun W=>UPQ w0 w W bc d lv2 nd2 i2 j2 b6 bl br A B/\Has W bs (MSTP A B Y) 56) (fun W=>UPQ w0 w W bc d lv2 nd2 i2 j2 b6 bl br A B/\Has W bs (MSTP A B Y) 56) ⟨K7.out.1.below (Below.refl _ w7).drew,K7.out.2.1⟩ (fun W h=>h.1.s10 h.2) (fun W h=>h.1.s10 h.2) (fun W h=>(M9 A B Y W).mono ?_) (fun _ _ _ _ _ h=>h) ?_
  ·rintro e w' ⟨rfl,hb⟩
   exact⟨rfl,h.1.below hb,h.2.keep hb⟩
  ·intro w8 h8
   dsimp only;have hat:=Zp lA lB h8.2;have hres:=h8.1.res
   have FN:Aside (UPM w0 w bc d Y lv2 nd2 i2 j2 (.returned (.agg (za Y).toArray)) (w8.setRow b6 (za Y).toArray)):=by
    have hn:=h8.1.n;exact⟨rfl,h8.1.clb.set_new (by omega) (by omega) _,h8.1.but.set_new (by omega) (by omega) _⟩
   clear h8 K7
   go_wp2_with (first
    | (refine wpList_load_mid rfl 23 (.tmp 64) rfl bs 64 rfl (za Y) _ hat Tryz.underlying23 rfl (zo lY) ?_)
    | (refine wpList_store_row rfl 23 (.tmp 6) (.tmp 65) rfl _ _ rfl rfl 23 _ hres (zd lY) (by simp[za,lY];rfl) (zx Y) ?_))
   refine bodyPost_ret (v:=.agg (za Y).toArray) (xL rfl _ _ b6 23 _ (0,0) _ _ rfl (Has.row hres _) Tryz.underlying23 (zd lY)) rfl FN.out
theorem Zq{L:List Nat}{t r r':Nat}(h:RANKS L t r)(h':RANKS L t r'):r=r':=by
 have e:=h.take.trans h'.take.symm;have:=congrArg List.length e;rw[List.length_take,List.length_take] at this;have:=h.le;have:=h'.le;omega
theorem z2O(w0:World)(bc:Nat)(d:Int)(hc0:bc<w0.heap.size)(hX:∀ W,Below bc w0 W->HX.Tabled W):∀ (h k:Nat),Node h k->∀ (L:List Nat) (a:Option Addr) (n c:Nat) (lv nd:List Int) (i j:Nat) (w:World),L.length=n->n<2 ^ 40->UNR h k L->n<=c->(a=none->c=0)->INDB w0 bc a->NUML w0 a L->CLB w0 w bc d lv nd i j->n<=i->(NEED h k L).length<=j->
    Calls Tryz.prog 80 #[.pointer (some ⟨bc,0,none⟩),.int .u64 ((PLC h k:Nat):Int),.slice a n c] w (UPM w0 w bc d (MUP d h k L lv nd).1 (MUP d h k L lv nd).2.1 (MUP d h k L lv nd).2.2 (i - n) (j - (NEED h k L).length)):=by
  intro h;induction h with
  | zero=>
    intro k hN L a n c lv nd i j w hl hn hU hc hnil hbl hL hC hi hj;have hsl:=hC.1;cases L with
    | nil=>
      obtain rfl:n=0:=by simpa using hl.symm
      rw[yh] at hj ⊢;obtain⟨vl,vn,_,_,q⟩:=hsl;exact uB w0 w bc d _ lv nd i j c a hC hc0 hj (q.hss.first hj).1
    | cons x l=>
      obtain rfl:=hU.leaf;obtain rfl:n=1:=by simpa using hl.symm
      obtain⟨vl,vn,_,q,_⟩:=hsl;exact z1u w0 w bc d k hN lv nd i j 1 c a (by decide) hC hc0 hi (q.hss.first hi).1
  | succ h ih=>
    intro k hN L a n c lv nd i j w hl hn hU hc hnil hbl hL hC hi hj;by_cases hLe:L=[]
    · subst hLe
      obtain rfl:n=0:=by simpa using hl.symm
      rw[yh] at hj ⊢;obtain⟨vl,vn,_,_,q⟩:=hC.1;rw[uA];exact uB w0 w bc d _ lv nd i j c a hC hc0 hj (q.hss.first hj).1
    · obtain⟨r,hr⟩:=yv hU.1 ((2*k+1)*2 ^ h)
      have hN':=xR hLe hr;have hle:=hr.le;rw[hN',List.length_append] at hj;obtain⟨hNl,hNr⟩:=hN.kid;have ht:(L.take r).length=r:=by rw[List.length_take];omega
      have hd:(L.drop r).length=n - r:=by rw[List.length_drop,hl]
      obtain⟨vl,vn,_,q1,q2⟩:=hC.1;have s1:=yj d h (2*k) (L.take r) lv nd i j (hU.left hr) q1.hss q2.hss (by omega) (by omega);have s2:=yj d h (2*k+1) (L.drop r) _ _ _ _ (hU.right hr) s1.2.1 s1.2.2 (by omega) (by omega);have hp:0<L.length:=List.length_pos_iff.2 hLe
      have hL1:NUML w0 a (L.take r):=fun h0=>by
        obtain⟨b,o,e,hl,hcc⟩:=hL hp;refine⟨b,o,e,hl,fun i x hx=>hcc i x ?_⟩;rw[List.getElem?_take] at hx;split at hx
        · exact hx
        · cases hx
      have cu:=z1w w0 w bc d h k hN L a n c hl hn hU.1 hc hnil hbl hL (by omega) lv nd _ _ _ _ _ _ i j _ _ _ _ hC hc0 hX s1.1 s2.1
        (fun r' W hr' hW=>by
          obtain rfl:=Zq hr' hr;exact ih (2*k) hNl (L.take r') a r' c lv nd i j W ht (by omega) (hU.left hr) (by omega) hnil hbl hL1 hW (by omega) (by omega))
        (fun r' a' W hr' hLa hba hna hW=>by
          obtain rfl:=Zq hr' hr;exact ih (2*k+1) hNr (L.drop r') a' (n - r') (c - r') _ _ _ _ W hd (by omega) (hU.right hr) (by omega) hna hba hLa hW (by omega) (by omega))
      rw[qN hLe hr,hN',List.length_append];rwa [show i - r - (n - r)=i - n by omega,Nat.sub_sub] at cu
def INDK(w0:World)(bc bs:Nat)(a:Option Addr):Prop:=∀ x,a=some x->x.block≠bc/\x.block≠bs/\x.block<w0.heap.size/\x.spot=none
theorem NUML.kept{bc bs:Nat}{w w':World}{a:Option Addr}{L:List Nat}(h:NUML w a L)(hb:KPZ bc bs w w')(ha:INDK w bc bs a):NUML w' a L:=fun h0=>by
 obtain⟨b,o,e,hlt,hc⟩:=h h0;exact⟨b,o,e,Nat.lt_of_lt_of_le hlt hb.size,fun i x hx=>(World.cell?_of_block (w:=w) (by exact hb.block b hlt (ha _ e).1 (ha _ e).2.1)).trans (hc i x hx)⟩
theorem NUML.kback{bc bs:Nat}{w w':World}{a:Option Addr}{L:List Nat}(h:NUML w' a L)(hb:KPZ bc bs w w')(ha:INDK w bc bs a):NUML w a L:=fun h0=>by
 obtain⟨b,o,e,hlt,hc⟩:=h h0;have hl:b<w.heap.size:=(ha _ e).2.2.1;exact⟨b,o,e,hl,fun i x hx=>(World.cell?_of_block (w:=w') (by exact(hb.block b hl (ha _ e).1 (ha _ e).2.1).symm)).trans (hc i x hx)⟩
def UPH(w0 w:World)(bc bs:Nat)(d:Int)(Y lv nd:List Int)(i j:Nat)(S:List (List Int × List Int))(e:Ending)(w':World):Prop:=e=.returned (.agg (za Y).toArray)/\CLH w0 w' bc bs d lv nd i j S/\KPT bc bs w w'
theorem VK{w:World}{g:Nat}{c:Array Value}(h:Has w g c 23):NOST w g:=fun cs fr e=>by
 have h':w.heap[g]?=some (.cells c 23 (0,0)):=h;rw[h'] at e;simp only[Option.some.injEq,Obj.cells.injEq] at e;exact absurd e.2.1 (by decide)
theorem KPT.has{bc bs g:Nat}{w w':World}{c:Array Value}(h:KPT bc bs w w')(hk:Has w g c 23)(h1:g≠bc)(h2:g≠bs):Has w' g c 23:=(h.block g hk.lt h1 h2 (VK hk)).trans hk
theorem HRS.step{w:World}{B bs:Nat}{d:Int}{v:Value}{S:List (List Int × List Int)}(h:HRS w B bs d v S){q:Nat}(hq:v.ownBlock=some q):¬ NOST w q/\B<=q:=by
 rcases h.own.2 with ⟨e,_⟩ | ⟨g,cap,cur,e,hg1,hg,_⟩
 ·rw[e] at hq
  cases hq
 ·rw[e] at hq
  cases hq;exact⟨fun hn=>hn _ _ hg,hg1⟩
structure UPK (w0 w W:World) (bc bs:Nat) (d:Int) (lv nd:List Int) (i j:Nat) (S:List (List Int × List Int)) (b6 bl br:Nat) (A B:List Int):Prop where
 cl:∃ vl vn,Has W bc #[.int .i64 d,vl,vn,HVL bs] 118/\LSK w0 bc bs vl i lv/\LSK w0 bc bs vn j nd
 hr:∃ v,HRS W w0.heap.size bs d v S/\∀ k,v.ownBlock=some k->k<br
 kz:KPZ bc bs w0 W
 but:KPT bc bs w W
 res:Has W b6 (za ZND).toArray 23
 l:Has W bl (za A).toArray 23
 r:Has W br (za B).toArray 23
 n:w.heap.size=b6/\b6<bl/\bl<br/\w0.heap.size<=w.heap.size/\bc<w0.heap.size
theorem UPK.clb{w0 w W:World}{bc bs:Nat}{d:Int}{lv nd:List Int}{i j:Nat}{S:List (List Int × List Int)}{b6 bl br:Nat}{A B:List Int}(h:UPK w0 w W bc bs d lv nd i j S b6 bl br A B):CLH w0 W bc bs d lv nd i j S:=by
 obtain⟨v,h1,_⟩:=h.hr;exact⟨h.cl,⟨v,h1⟩,h.kz⟩
theorem HRS.blw{w w':World}{B bs:Nat}{d:Int}{v:Value}{S:List (List Int × List Int)}(h:HRS w B bs d v S)(hb:Below w.heap.size w w'):HRS w' B bs d v S:=by
 refine⟨h.box.keep hb,⟨h.own.1,?_⟩,h.lt,Nat.le_trans h.base hb.size⟩;rcases h.own.2 with q | ⟨g,cap,cur,e,hg1,hg,r⟩
 ·exact .inl q
 ·exact .inr ⟨g,cap,cur,e,hg1,(hb.block g (Array.getElem?_eq_some_iff.1 hg).1).trans hg,r⟩
theorem HRS.row_far{w:World}{B bs g:Nat}{d:Int}{v:Value}{S:List (List Int × List Int)}(h:HRS w B bs d v S)(hg:B<=g)(hne:v.ownBlock≠some g)(cs:Array Value):HRS (w.setRow g cs) B bs d v S:=by
 have hlt:=h.lt;refine⟨h.box.row_other (by omega) cs,⟨h.own.1,?_⟩,h.lt,by simp;exact h.base⟩;rcases h.own.2 with q | ⟨g',cap,cur,e,hg1,hg',r⟩
 ·exact .inl q
 ·exact .inr ⟨g',cap,cur,e,hg1,(setRow_other w g g' cs (fun e'=>hne (by rw[e,<-e'];rfl))).trans hg',r⟩
theorem UPK.below{w0 w W W':World}{bc bs:Nat}{d:Int}{lv nd:List Int}{i j:Nat}{S:List (List Int × List Int)}{b6 bl br:Nat}{A B:List Int}(h:UPK w0 w W bc bs d lv nd i j S b6 bl br A B)(hb:Below W.heap.size W W'):UPK w0 w W' bc bs d lv nd i j S b6 bl br A B:=by
 obtain⟨vl,vn,c1,c2⟩:=h.cl;obtain⟨v,r1,r2⟩:=h.hr;exact⟨⟨vl,vn,c1.keep hb,c2⟩,⟨v,r1.blw hb,r2⟩,h.kz.but (BUT.of_below hb (Nat.le_of_lt c1.lt)),h.but.trans (KPT.of_below hb),h.res.keep hb,h.l.keep hb,h.r.keep hb,h.n⟩
theorem UPK.row{w0 w W:World}{bc bs:Nat}{d:Int}{lv nd:List Int}{i j:Nat}{S:List (List Int × List Int)}{b6 bl br b:Nat}{A B:List Int}(h:UPK w0 w W bc bs d lv nd i j S b6 bl br A B)(hb:br<b)(cs:Array Value):UPK w0 w (W.setRow b cs) bc bs d lv nd i j S b6 bl br A B:=by
 have hn:=h.n;obtain⟨vl,vn,c1,c2⟩:=h.cl;obtain⟨v,r1,r2⟩:=h.hr;exact⟨⟨vl,vn,c1.row_other (by omega) cs,c2⟩,⟨v,r1.row_far (by omega) (fun e=>by have:=r2 b e;omega) cs,r2⟩,h.kz.set_new (by omega) cs,h.but.set_new (by omega) cs,h.res.row_other (by omega) cs,h.l.row_other (by omega) cs,h.r.row_other (by omega) cs,h.n⟩
theorem UPK.s9{w0 w W:World}{bc bs:Nat}{d:Int}{lv nd:List Int}{i j:Nat}{S:List (List Int × List Int)}{b6 bl br:Nat}{A B:List Int}(h:UPK w0 w W bc bs d lv nd i j S b6 bl br A B):W.rangeAt bl 0 (za A)/\W.rangeAt br 0 (za B)/\W.cell? ⟨bc,0,none⟩=some (.int .i64 d):=by
 obtain⟨vl,vn,h1,_⟩:=h.cl;exact⟨qu h.l,qu h.r,h1.cell 0⟩
theorem CLH.s10{w0 W:World}{bc bs:Nat}{d:Int}{lv nd:List Int}{i j:Nat}{S:List (List Int × List Int)}{b:Nat}{A B Y:List Int}(h:CLH w0 W bc bs d lv nd i j S)(hs:Has W b (MSTP A B Y) 56):W.rangeAt b 0 (za A ++ za B ++ za Y)/\W.cell? ⟨bc,3,none⟩=some (.func (.func 45) #[] #[.pointer (some ⟨bs,0,none⟩)]):=by
 obtain⟨⟨vl,vn,h1,_⟩,_⟩:=h;exact⟨qu hs,h1.cell 3⟩
theorem UPK.hear{w0 w W:World}{bc bs:Nat}{d:Int}{lv nd:List Int}{i j:Nat}{S:List (List Int × List Int)}{b6 bl br bz:Nat}{A B:List Int}(h:UPK w0 w W bc bs d lv nd i j S b6 bl br A B)(hz:Has W bz (MSTP A B (zp d A B)) 56)(hb:br<bz)(hS:S.length<=90000)(lA:A.length=32)(lB:B.length=32)(lY:(zp d A B).length=32):
  Calls Tryz.prog 45 #[.agg (MSTP A B (zp d A B)),.pointer (some ⟨bs,0,none⟩)] W fun e w'=>e=.returned (.tuple #[])/\CLH w0 w' bc bs d lv nd i j (S ++ [(A,B)])/\KPT bc bs w w'/\Has w' b6 (za ZND).toArray 23/\Has w' bz (MSTP A B (zp d A B)) 56:=by
 obtain⟨vl,vn,c1,c2⟩:=h.cl;obtain⟨v,r1,r2⟩:=h.hr;have hn:=h.n;have hlt:=r1.lt;have hne:bs≠bc:=h.clb.ne;refine(z1v r1 hS A B lA lB lY).mono ?_;rintro e w' ⟨rfl,hv,q1,q2,q3,q4,q5⟩;have kz:=h.kz;have bt:=h.but;refine⟨rfl,⟨⟨vl,vn,(q5 bc c1.lt (fun e=>hne e.symm) (fun e=>by have:=(r1.step e).2;omega)).trans c1,c2⟩,hv,⟨q1.trans kz.os,q2.trans kz.tape,q3.trans kz.output,Nat.le_trans kz.size q4,fun q hq h1 h2=>(q5 q (Nat.lt_of_lt_of_le hq kz.size) h2 (fun e=>by have:=(r1.step e).2;omega)).trans (kz.block q hq h1 h2)⟩⟩,⟨q1.trans bt.os,q2.trans bt.tape,q3.trans bt.output,Nat.le_trans bt.size q4,fun q hq h1 h2 h3=>?_⟩,?_,?_⟩
 ·have e0:=bt.block q hq h1 h2 h3
  refine(q5 q (Nat.lt_of_lt_of_le hq bt.size) h2 (fun e=>?_)).trans e0;exact(r1.step e).1 fun cs fr=>by rw[e0];exact h3 cs fr
 ·exact(q5 b6 h.res.lt (by omega) (fun e=>(r1.step e).1 (VK h.res))).trans h.res
 ·exact(q5 bz hz.lt (by omega) (fun e=>by have:=r2 bz e;omega)).trans hz
theorem z03(w0 w:World)(bc bs:Nat)(S S1 S2:List (List Int × List Int))(d:Int)(h k:Nat)(hN:Node (h+1) k)(L:List Nat)(a:Option Addr)(n c:Nat)(hl:L.length=n)(hn:n<2 ^ 40)(hR:RISES L)(hc:n<=c)(hnil:a=none->c=0)(hbl:INDK w0 bc bs a)(hL:NUML w0 a L)(hn0:0<n)
  (lv nd lv1 nd1 lv2 nd2 A B:List Int)(i j i1 j1 i2 j2:Nat)(hC:CLH w0 w bc bs d lv nd i j S)(hc0:bc<w0.heap.size)(hbs0:bs<w0.heap.size)(hS2:S2.length<=90000)(hX:∀ W,KPZ bc bs w0 W->HX.Tabled W)(hA:IsH A)(hB:IsH B)
  (c1:∀ r W,RANKS L ((2*k+1)*2 ^ h) r->CLH w0 W bc bs d lv nd i j S->Calls Tryz.prog 80 #[.pointer (some ⟨bc,0,none⟩),.int .u64 ((PLC h (2*k):Nat):Int),.slice a r c] W (UPH w0 W bc bs d A lv1 nd1 i1 j1 S1))
  (c2:∀ r a' W,RANKS L ((2*k+1)*2 ^ h) r->NUML w0 a' (L.drop r)->INDK w0 bc bs a'->(a'=none->c - r=0)->CLH w0 W bc bs d lv1 nd1 i1 j1 S1->Calls Tryz.prog 80 #[.pointer (some ⟨bc,0,none⟩),.int .u64 ((PLC h (2*k+1):Nat):Int),.slice a' (n - r) (c - r)] W (UPH w0 W bc bs d B lv2 nd2 i2 j2 S2)):
  Calls Tryz.prog 80 #[.pointer (some ⟨bc,0,none⟩),.int .u64 ((PLC (h+1) k:Nat):Int),.slice a n c] w (UPH w0 w bc bs d (zp d A B) lv2 nd2 i2 j2 (S2 ++ [(A,B)])):=by
 have hnb:((n:Int) == 0)=false:=beq_eq_false_iff_ne.2 (by omega);have hlt:=hC.lt;have hs0:w0.heap.size<=w.heap.size:=hC.2.2.size;obtain⟨hNl,hNr⟩:=hN.kid;obtain⟨W0,hW0⟩:∃ W0,w.alloc (.cells ZARR 23)=W0:=⟨_,rfl⟩
 obtain⟨b6,hb6⟩:∃ b6,w.heap.size=b6:=⟨_,rfl⟩
 have hb0:Below w.heap.size w W0:=by rw[<-hW0];exact(Below.refl _ _).alloc (Nat.le_refl _) _
 have hH0:Has W0 b6 (za ZND).toArray 23:=by rw[<-hW0,zQ,<-hb6];exact Has.new _ _ _
 have ck:=jE h k hN W0;have HA:Aside (Below w.heap.size w W0/\Has W0 b6 (za ZND).toArray 23/\bc<w0.heap.size/\w0.heap.size<=w.heap.size/\bc<w.heap.size/\CLH w0 W0 bc bs d lv nd i j S/\w.heap.size=b6):=⟨hb0,hH0,hc0,hs0,hlt,hC.still hb0,hb6⟩
 have HL:Aside (L.length=n/\n<2 ^ 40/\RISES L/\n<=c/\(a=none->c=0)/\INDK w0 bc bs a/\NUML w0 a L/\Node h (2*k)):=⟨hl,hn,hR,hc,hnil,hbl,hL,hNl⟩
 have HBS:Aside (bs<w0.heap.size):=hbs0;have HS2:Aside (S2.length<=90000):=hS2;clear hbs0 hS2;have C1:Aside _:=c1;have C2:Aside _:=c2;have HY:Aside (IsH A/\IsH B/\∀ W,KPZ bc bs w0 W->HX.Tabled W):=⟨hA,hB,hX⟩
 clear hC hb0 hH0 hc0 hs0 hlt hl hn hR hc hnil hbl hL hn0 hNl hNr hN hX hA hB c1 c2;generalize ((PLC (h+1) k:Nat):Int)=P at *
 go_enter Tryz.func80,Tryz.ntmps80;go_upto_region 3 with fail
 clear hW0 hb6;go_wp2_with fail
 refine ck.mono ?_;rintro e w1 ⟨rfl,h1⟩;clear ck;have k1:CLH w0 w1 bc bs d lv nd i j S:=HA.out.2.2.2.2.2.1.still h1;have cs:=yU h (2*k) HL.out.2.2.2.2.2.2.2 a n c L HL.out.1 HL.out.2.1 HL.out.2.2.1 HL.out.2.2.2.1 HL.out.2.2.2.2.1 (fun x e=>(HL.out.2.2.2.2.2.1 x e).2.2.2) w1 (HL.out.2.2.2.2.2.2.1.kept k1.2.2 HL.out.2.2.2.2.2.1);have K1:Aside (CLH w0 w1 bc bs d lv nd i j S/\Below w.heap.size w w1/\Has w1 b6 (za ZND).toArray 23):=⟨k1,HA.out.1.trans (h1.mono HA.out.1.size),HA.out.2.1.keep h1⟩
 clear h1 k1;go_wp2_with fail
 refine cs.mono ?_;rintro e w2 ⟨r,a',rfl,hs⟩;clear cs
 have hbl':INDK w0 bc bs a':=fun x hx=>by
  obtain⟨y,e2,e3⟩:=hs.block x hx;have q:=HL.out.2.2.2.2.2.1 y e2;exact⟨by rw[e3];exact q.1,by rw[e3];exact q.2.1,by rw[e3];exact q.2.2.1,hs.spot x hx⟩
 have hL':NUML w0 a' (L.drop r):=hs.lies.kback K1.out.1.2.2 hbl';have K2:Aside (CLH w0 w2 bc bs d lv nd i j S/\Below w.heap.size w w2/\Has w2 b6 (za ZND).toArray 23):=⟨K1.out.1.still hs.below,K1.out.2.1.trans (hs.below.mono K1.out.2.1.size),K1.out.2.2.keep hs.below⟩
 have cu:=C1.out r w2 hs.rank K2.out.1;have CV:Aside (∀ W,CLH w0 W bc bs d lv1 nd1 i1 j1 S1->Calls Tryz.prog 80 #[.pointer (some ⟨bc,0,none⟩),.int .u64 ((PLC h (2*k+1):Nat):Int),.slice a' (n - r) (c - r)] W (UPH w0 W bc bs d B lv2 nd2 i2 j2 S2)):=fun W hW=>C2.out r a' W hs.rank hL' hbl' hs.nil hW;clear hs hbl' hL' K1 C1 C2 HL;generalize n - r=n' at *
 generalize c - r=c' at *
 go_wp2_with fail
 refine cu.mono ?_;rintro e w3 ⟨rfl,h3,h4⟩;clear cu;have lA:=HY.out.1.1;have lB:=HY.out.2.1.1;have K3:Aside (CLH w0 w3 bc bs d lv1 nd1 i1 j1 S1/\KPT bc bs w w3/\Has w3 b6 (za ZND).toArray 23):=⟨h3,(KPT.of_below K2.out.2.1).trans h4,h4.has K2.out.2.2 (by have:=HA.out;omega) (by have:=HA.out;have:=HBS.out;omega)⟩
 clear h3 h4 K2;go_upto_region 8 with (refine wpList_store_row rfl 23 (.tmp 12) (.tmp 43) rfl _ _ rfl rfl 23 _ (Has.new w3 _ _) (zd lA) (by simp[za,lA]) (zx A) ?_;rw[World.setRow_alloc_new])
 have K4:Aside (CLH w0 (w3.alloc (.cells (za A).toArray 23)) bc bs d lv1 nd1 i1 j1 S1/\KPT bc bs w (w3.alloc (.cells (za A).toArray 23))/\Has (w3.alloc (.cells (za A).toArray 23)) b6 (za ZND).toArray 23/\Has (w3.alloc (.cells (za A).toArray 23)) w3.heap.size (za A).toArray 23/\b6<w3.heap.size):=by
  have hb:Below w3.heap.size w3 (w3.alloc (.cells (za A).toArray 23)):=(Below.refl _ _).alloc (Nat.le_refl _) _;exact⟨K3.out.1.still hb,K3.out.2.1.trans (KPT.of_below hb),K3.out.2.2.alloc _,Has.new _ _ _,K3.out.2.2.lt⟩
 clear K3;generalize w3.alloc (.cells (za A).toArray 23)=w4 at *
 generalize w3.heap.size=bl at *
 have cu:=CV.out w4 K4.out.1;go_wp2_with fail
 refine cu.mono ?_;rintro e w5 ⟨rfl,h3,h4⟩;clear cu CV;have K5:Aside (CLH w0 w5 bc bs d lv2 nd2 i2 j2 S2/\KPT bc bs w w5/\Has w5 b6 (za ZND).toArray 23/\Has w5 bl (za A).toArray 23):=⟨h3,K4.out.2.1.trans h4,h4.has K4.out.2.2.1 (by have:=HA.out;omega) (by have:=HA.out;have:=HBS.out;omega),h4.has K4.out.2.2.2.1 (by have:=HA.out;have:=K4.out.2.2.2.2;omega) (by have:=HA.out;have:=HBS.out;have:=K4.out.2.2.2.2;omega)⟩
 have hbb:b6<bl:=K4.out.2.2.2.2;clear h3 h4 K4;go_upto_region 9 with (refine wpList_store_row rfl 23 (.tmp 13) (.tmp 47) rfl _ _ rfl rfl 23 _ (Has.new w5 _ _) (zd lB) (by simp[za,lB]) (zx B) ?_;rw[World.setRow_alloc_new])
 have K6:Aside (UPK w0 w (w5.alloc (.cells (za B).toArray 23)) bc bs d lv2 nd2 i2 j2 S2 b6 bl w5.heap.size A B):=by
  have hb:Below w5.heap.size w5 (w5.alloc (.cells (za B).toArray 23)):=(Below.refl _ _).alloc (Nat.le_refl _) _;have hK:=K5.out.1.still hb;obtain⟨v,hv⟩:=K5.out.1.2.1;exact⟨hK.1,⟨v,hv.blw hb,fun k e=>(hv.own.lt k e).2⟩,hK.2.2,K5.out.2.1.trans (KPT.of_below hb),K5.out.2.2.1.alloc _,K5.out.2.2.2.alloc _,Has.new _ _ _,HA.out.2.2.2.2.2.2,hbb,K5.out.2.2.2.lt,HA.out.2.2.2.1,HA.out.2.2.1⟩
 clear K5 HA hbb;generalize w5.alloc (.cells (za B).toArray 23)=w6 at *
 generalize w5.heap.size=br at *
 have hY:=xC d A B;have CN:Aside (∀ W,UPK w0 w W bc bs d lv2 nd2 i2 j2 S2 b6 bl br A B->Calls Tryz.prog 116 #[.int .i64 d,.agg (za A).toArray,.agg (za B).toArray] W fun e w'=>e=.returned (.agg (za (zp d A B)).toArray)/\Below W.heap.size W w'):=fun W hW=>VI d A B HY.out.1 HY.out.2.1 W (HY.out.2.2 W hW.kz);clear HY;obtain⟨Y,hYe⟩:∃ Y,zp d A B=Y:=⟨_,rfl⟩
 have HYE:Aside (zp d A B=Y):=hYe;rw[hYe] at hY CN;rw[hYe];clear hYe;have lY:=hY.1;clear hY;refine mup9 w6 d bc bl br A B Y lA lB lY (fun W=>UPK w0 w W bc bs d lv2 nd2 i2 j2 S2 b6 bl br A B) (fun W=>UPK w0 w W bc bs d lv2 nd2 i2 j2 S2 b6 bl br A B) (fun b W=>UPK w0 w W bc bs d lv2 nd2 i2 j2 S2 b6 bl br A B/\Has W b (MSTP ZND ZND ZND) 56/\br<b) (fun b W=>UPK w0 w W bc bs d lv2 nd2 i2 j2 S2 b6 bl br A B/\Has W b (MSTP ZND ZND ZND) 56/\br<b) (fun b W=>UPK w0 w W bc bs d lv2 nd2 i2 j2 S2 b6 bl br A B/\Has W b (MSTP A B Y) 56/\br<b) (K6.out.below (Below.refl _ w6).drew) (fun W h=>h.s9) (fun W h=>h.s9) (fun b W h=>h.1.s9) (fun b W h=>h.1.s9) (fun b W h=>h.1.s9) (fun W h=>(CN.out W h).mono ?_) (fun b W h=>(CN.out W h.1).mono ?_) (fun W h=>⟨h.below ((Below.refl _ _).alloc (Nat.le_refl _) _),Has.new _ _ _,h.r.lt⟩) (fun W h=>⟨h.below ((Below.refl _ _).alloc (Nat.le_refl _) _),Has.new _ _ _,h.r.lt⟩) (fun b W h=>h.2.1) (fun b W h=>⟨h.1.row h.2.2 _,h.2.1.row _,h.2.2⟩) (fun _ _ _ _ _ h=>h) ?_
 ·rintro e w' ⟨rfl,hb⟩
  exact⟨rfl,h.below hb⟩
 ·rintro e w' ⟨rfl,hb⟩
  exact⟨rfl,h.1.below hb,h.2.1.keep hb,h.2.2⟩
 ·intro bz w7 h7
  dsimp only;have K7:Aside (UPK w0 w w7 bc bs d lv2 nd2 i2 j2 S2 b6 bl br A B/\Has w7 bz (MSTP A B Y) 56/\br<bz):=h7;clear h7 K6 CN;go_upto_region 10 with fail
  refine z2h w7 bs bc bz A B Y lA lB lY (fun W=>UPK w0 w W bc bs d lv2 nd2 i2 j2 S2 b6 bl br A B/\Has W bz (MSTP A B Y) 56) (fun W=>CLH w0 W bc bs d lv2 nd2 i2 j2 (S2 ++ [(A,B)])/\KPT bc bs w W/\Has W b6 (za ZND).toArray 23/\Has W bz (MSTP A B Y) 56) ⟨K7.out.1.below (Below.refl _ w7).drew,K7.out.2.1⟩ (fun W h=>h.1.clb.s10 h.2) (fun W h=>h.1.s10 h.2.2.2) (fun W h=>?_) (fun _ _ _ _ _ h=>h) ?_
  ·have hy:=HYE.out
   subst hy;exact h.1.hear h.2 K7.out.2.2 HS2.out lA lB lY
  ·intro w8 h8
   dsimp only;have hat:=Zp lA lB h8.2.2.2;have hres:=h8.2.2.1
   have FN:Aside (UPH w0 w bc bs d (zp d A B) lv2 nd2 i2 j2 (S2 ++ [(A,B)]) (.returned (.agg (za Y).toArray)) (w8.setRow b6 (za Y).toArray)):=by
    have hn:=K7.out.1.n;exact⟨by rw[HYE.out],h8.1.set_new h8.2.2.1 (by omega) _,h8.2.1.set_new (by omega) _⟩
   clear h8 K7
   go_wp2_with (first
    | (refine wpList_load_mid rfl 23 (.tmp 64) rfl bz 64 rfl (za Y) _ hat Tryz.underlying23 rfl (zo lY) ?_)
    | (refine wpList_store_row rfl 23 (.tmp 6) (.tmp 65) rfl _ _ rfl rfl 23 _ hres (zd lY) (by simp[za,lY];rfl) (zx Y) ?_))
   refine bodyPost_ret (v:=.agg (za Y).toArray) (xL rfl _ _ b6 23 _ (0,0) _ _ rfl (Has.row hres _) Tryz.underlying23 (zd lY)) rfl FN.out
def TPS(n:Nat):List (Nat × Nat):=(HS 0 n).map fun h=>(h,2*(n / 2 ^ (h+1)))
theorem ZT{α:Type}:∀ {l:List α} {j:Nat} {x:α},l[j]?=some x->l.drop j=x :: l.drop (j+1)
 | [],j,x,h=>by simp at h
 | y :: l,0,x,h=>by
   simp only[List.getElem?_cons_zero,Option.some.injEq] at h;rw[h];rfl
 | y :: l,j+1,x,h=>by
   rw[List.getElem?_cons_succ] at h;rw[List.drop_succ_cons,List.drop_succ_cons];exact ZT h
theorem yR{n:Nat}(hn:n<2 ^ 64):(TPS n).length=PC n:=by
 rw[TPS,List.length_map,YM hn 0 (by decide),Nat.pow_zero,Nat.div_one]
theorem jA{n j h k:Nat}(e:(TPS n)[j]?=some (h,k)):(yW n)[j]?=some (PLC h k):=by
 unfold TPS at e;unfold yW;rw[List.getElem?_map] at e ⊢;cases hj:(HS 0 n)[j]? with
 | none=>rw[hj] at e;cases e
 | some x=>
   rw[hj] at e;simp only[Option.map_some,Option.some.injEq,Prod.mk.injEq] at e;obtain⟨rfl,rfl⟩:=e;rfl
theorem U3{h k:Nat}(hh:h<=62)(hs:(k+1)*2 ^ h<=2 ^ 62):Node h k:=by
 refine⟨hh,?_⟩;rcases Nat.lt_or_ge k (2 ^ (62 - h)) with h1 | h1
 ·exact h1
 ·have h2:(2 ^ (62 - h)+1)*2 ^ h<=(k+1)*2 ^ h:=Nat.mul_le_mul_right _ (by omega)
  rw[Nat.add_mul,<-Nat.pow_add,show 62 - h+h=62 by omega] at h2;have:=Nat.two_pow_pos h;omega
theorem yu{n h k:Nat}(hn:n<=2 ^ 62)(hm:(h,k)∈TPS n):h<=62/\(k+1)*2 ^ h<=n/\Node h k:=by
 unfold TPS at hm;rw[List.mem_map] at hm;obtain⟨x,hx,e⟩:=hm;simp only[Prod.mk.injEq] at e;obtain⟨rfl,rfl⟩:=e;obtain⟨_,h2,h3⟩:=GN 0 x (by decide) hx
 have h4:2*(n / 2 ^ (x+1))+1=n / 2 ^ x:=by
  rw[Nat.pow_succ,<-Nat.div_div_eq_div_mul];omega
 have h5:(2*(n / 2 ^ (x+1))+1)*2 ^ x<=n:=by rw[h4];exact Nat.div_mul_le_self n (2 ^ x)
 have h6:x<=62:=by
  rcases Nat.lt_or_ge 62 x with h7 | h7
  ·have h8:2 ^ 63<=2 ^ x:=Nat.pow_le_pow_right (by decide) h7
   have h9:1*2 ^ x<=(2*(n / 2 ^ (x+1))+1)*2 ^ x:=Nat.mul_le_mul_right _ (by omega);omega
  ·exact h7
 exact⟨h6,h5,U3 h6 (by omega)⟩
theorem jh:∀ (ps:List (Nat × Nat)) (L:List Nat),(∀ p∈ps,p.1<=62)->(zc ps L).length<=L.length*62+ps.length
 | [],L,_=>by simp[zc]
 | (h,k) :: ps,L,hp=>by
   rw[zc,List.length_append,List.length_cons];have h1:=vG h k (L.filter fun y=>decide (y<(k+1)*2 ^ h));have h2:=jh ps (L.filter fun y=>!decide (y<(k+1)*2 ^ h)) (fun p hm=>hp p (List.mem_cons_of_mem _ hm));have h3:=jd (fun y=>decide (y<(k+1)*2 ^ h)) L;have h4:h<=62:=hp (h,k) (List.mem_cons_self ..);have h5:(L.filter fun y=>decide (y<(k+1)*2 ^ h)).length*h<=(L.filter fun y=>decide (y<(k+1)*2 ^ h)).length*62:=Nat.mul_le_mul_left _ h4;generalize (L.filter fun y=>decide (y<(k+1)*2 ^ h)).length*h=u at *
   generalize (L.filter fun y=>decide (y<(k+1)*2 ^ h)).length=p at *
   generalize (L.filter fun y=>!decide (y<(k+1)*2 ^ h)).length=q at *
   omega
def NSP:Nat->Nat->List Nat->List (Nat × Nat)
 | h,k,[]=>[(h,k)]
 | 0,_,_ :: _=>[]
 | h+1,k,x :: l=>NSP h (2*k) ((x :: l).filter fun y=>decide (y<(2*k+1)*2 ^ h)) ++ NSP h (2*k+1) ((x :: l).filter fun y=>!decide (y<(2*k+1)*2 ^ h))
def SPL(s:Nat × Nat):Nat:=PLC s.1 s.2
theorem ZU(h k:Nat):NSP h k []=[(h,k)]:=by cases h <;> rfl
theorem ZG:∀ (h k:Nat) (L:List Nat),NEED h k L=(NSP h k L).map SPL
 | h,k,[]=>by rw[yh,ZU];rfl
 | 0,_,_ :: _=>rfl
 | h+1,k,x :: l=>by rw[YO,NSP,List.map_append,<-ZG h,<-ZG h]
def NSPS:List (Nat × Nat)->List Nat->List (Nat × Nat)
 | [],_=>[]
 | (h,k) :: ps,L=>NSP h k (L.filter fun y=>decide (y<(k+1)*2 ^ h)) ++ NSPS ps (L.filter fun y=>!decide (y<(k+1)*2 ^ h))
theorem vm:∀ (ps:List (Nat × Nat)) (L:List Nat),zc ps L=(NSPS ps L).map SPL
 | [],_=>rfl
 | (h,k) :: ps,L=>by rw[zc,NSPS,List.map_append,ZG,vm ps]
def FRS(s:Nat × Nat):Nat:=s.2*2 ^ s.1
def TOE(s:Nat × Nat):Nat:=(s.2+1)*2 ^ s.1
structure COVER (A B:Nat) (L:List Nat) (l:List (Nat × Nat)):Prop where
 within:∀ s∈l,A<=FRS s/\TOE s<=B
 off:∀ s∈l,∀ x∈L,¬ (FRS s<=x/\x<TOE s)
 sum:(l.map fun s=>2 ^ s.1).sum+L.length=B - A
 order:l.Pairwise fun s t=>TOE s<=FRS t
theorem z2i{n:Nat}(hn:n<=4611686018427387904):TPS n=PKS n 0 (PC n):=by
 apply List.ext_getElem?;intro i;by_cases hi:i<PC n
 ·rw[z2g hi]
  unfold TPS;rw[List.getElem?_map,(x8 (by omega) hi).1];rfl
 ·rw[List.getElem?_eq_none (by rw[yR (by omega)];omega),List.getElem?_eq_none (by simp[PKS];omega)]
theorem yE{n:Nat}(hn:n<=4611686018427387904):Tile 0 (TPS n) n:=by
 rw[z2i hn];exact(MY hn (PC n) 0 (by omega)).1
def yB:Option Nat->Nat->Bool
 | none,_=>false
 | some y,x=>decide (x<=y)
def RCHK(n:Nat):Option Nat->List Nat->Int
 | _,[]=>0
 | prev,x :: l=>if yB prev x=true then 71 else if n<=x then 32 else RCHK n (some x) l
def zf(L:List Nat)(n:Nat):Int:=if 4611686018427387904<n then 30 else RCHK n none L
theorem uD{n:Nat}:∀ {prev:Option Nat} {L:List Nat},RCHK n prev L=0->(∀ x∈L,x<n)/\RISES L/\∀ y,prev=some y->∀ x∈L,y<x
  | _,[],_=>⟨(fun x h=>by cases h),(fun i j x y _ h=>by simp at h),(fun y _ x h=>by cases h)⟩
  | prev, x :: l,h=>by
    rw[RCHK] at h;split at h
    · cases h
    · rename_i h1
      split at h
      · cases h
      · rename_i h2
        obtain⟨a1,a2,a3⟩:=uD h;refine⟨fun y hy=>?_,fun i j u v hij hu hv=>?_,fun y hy z hz=>?_⟩
        · rcases List.mem_cons.1 hy with rfl | hy
          · omega
          · exact a1 y hy
        · cases i with
          | zero=>
            cases j with
            | zero=>omega
            | succ j=>
              simp only[List.getElem?_cons_zero,Option.some.injEq] at hu;rw[List.getElem?_cons_succ] at hv;subst hu;exact a3 x rfl v (List.mem_of_getElem? hv)
          | succ i=>
            cases j with
            | zero=>omega
            | succ j=>
              rw[List.getElem?_cons_succ] at hu hv;exact a2 i j u v (by omega) hu hv
        · subst hy
          have h1:¬ x<=y:=fun h=>h1 (decide_eq_true h);rcases List.mem_cons.1 hz with rfl | hz
          · omega
          · have:=a3 x rfl z hz
            omega
theorem yF{n:Nat}{L:List Nat}(h:zf L n=0):n<=4611686018427387904/\RISES L/\∀ x∈L,x<n:=by
 unfold zf at h;split at h
 ·cases h
 ·obtain⟨a1,a2,_⟩:=uD h
  exact⟨by omega,a2,a1⟩
def zE(x:Int):List PanicEntry:=[{v:=.iface 114 (.int .i64 x),recovered:=false}]
def ROSE(L:List Nat)(n:Nat)(w:World)(e:Ending)(w':World):Prop:=w=w'/\((zf L n=0/\e=.returned (.tuple #[]))\/(zf L n≠0/\e=.panicked (zE (zf L n))))
def AHD(L:List Nat):Nat->Option Nat
 | 0=>none
 | j+1=>L[j]?
theorem Zr{L:List Nat}{j x:Nat}(h:L[j]?=some x):L.drop j=x :: L.drop (j+1):=by
 induction L generalizing j with
 | nil=>simp at h
 | cons y l ih=>
   cases j with
   | zero=>simp at h;simp[h]
   | succ j=>simp at h;simp;exact ih h
theorem z04(L:List Nat)(n:Nat)(hn:(4611686018427387904:Int)<(n:Int))(a:Option Addr)(m c:Nat)(w:World):Calls Tryz.prog 51 #[.slice a m c,.int .u64 (n:Int)] w (ROSE L n w):=by
 have e:zf L n=30:=by unfold zf;rw[if_pos (by omega)]
 have E:Aside (zf L n=30):=e;clear e;go_enter Tryz.func51,Tryz.ntmps51;go_wp2_with fail
 exact⟨rfl,rfl,.inr ⟨by rw[E.out];decide,by rw[E.out];rfl⟩⟩
theorem JO(L:List Nat)(n:Nat)(a:Option Addr)(m c:Nat)(hl:L.length=m)(hm:m<2 ^ 40)(w:World)(hL:NUML w a L):Calls Tryz.prog 51 #[.slice a m c,.int .u64 (n:Int)] w (ROSE L n w):=by
 by_cases hn:(4611686018427387904:Int)<(n:Int)
 ·exact z04 L n hn a m c w
 ·have e:zf L n=RCHK n none L:=by unfold zf;rw[if_neg (by omega)]
  have HA:Aside (L.length=m/\m<2 ^ 40/\NUML w a L/\zf L n=RCHK n none L):=⟨hl,hm,hL,e⟩
  clear hl hm hL e;go_enter Tryz.func51,Tryz.ntmps51;go_wp2_with fail
  go_loopg [11] m (fun q s11 wx=>∃ j:Nat,s11=.int .i64 (j:Int)/\Aside (j+q=m/\zf L n=RCHK n (AHD L j) (L.drop j))/\wx=w)
  case atStart=>exact⟨0,rfl,⟨by omega,HA.out.2.2.2⟩,rfl⟩
  case round=>
   obtain⟨j,rfl,A,rfl⟩:=hrel;cases gk with
   | zero=>
     obtain rfl:j=m:=by have:=A.out.1;omega
     have hlt:¬ (j:Int)<(j:Int):=by omega
     have FN:Aside (zf L n=0):=by
      have h1:=A.out.2;rw[List.drop_of_length_le (by have:=HA.out.1;omega)] at h1;exact h1
     clear A HA;go_wp2_with fail
     exact bodyPost_end (v:=.tuple #[]) (by simp[results,Tryz.f51]) rfl ⟨rfl,.inl ⟨FN.out,rfl⟩⟩
   | succ q=>
     have hjm:j<m:=by have:=A.out.1;omega
     have hlt:(j:Int)<(m:Int):=by omega
     obtain⟨x,ex⟩:∃ x,L[j]?=some x:=⟨_,List.getElem?_eq_getElem (by have:=HA.out.1;omega)⟩
     obtain⟨b,o,rfl,hb,hcc⟩:=HA.out.2.2.1 (by have:=HA.out.1;omega);have x0:=hcc j x ex;have ej:wrap64 ((j:Int)+1)=((j+1:Nat):Int):=by have:=HA.out.2.1;unfold wrap64;omega
     have hch:zf L n=if yB (AHD L j) x=true then 71 else if n<=x then 32 else RCHK n (some x) (L.drop (j+1)):=by
      rw[A.out.2,Zr ex,RCHK]
     have hnx:AHD L (j+1)=some x:=ex;rcases Nat.eq_zero_or_pos j with hj0 | hj0
     ·have hz:¬ (0:Int)<(j:Int):=by omega
      have hch:zf L n=if n<=x then 32 else RCHK n (some x) (L.drop (j+1)):=by
       rw[hch,hj0,if_neg (by simp[AHD,yB])]
      by_cases hx:n<=x
      ·have hx':(n:Int)<=(x:Int):=by omega
       rw[if_pos hx] at hch;have FN:Aside (zf L n=32):=hch;clear A HA hch hnx hcc hx hj0 ex hjm;go_wp2_with fail
       exact⟨rfl,rfl,.inr ⟨by rw[FN.out];decide,by rw[FN.out];rfl⟩⟩
      ·have hx':¬ (n:Int)<=(x:Int):=by omega
       rw[if_neg hx] at hch;have Z:Aside (j+1+q=m/\zf L n=RCHK n (AHD L (j+1)) (L.drop (j+1))):=⟨by have:=A.out.1;clear ej;omega,by rw[hnx];exact hch⟩
       clear A hch hnx hcc hx hj0 ex hjm;go_wp2_with fail
       go_roundg q
       case measure=>exact Nat.lt_succ_self _
       case rel=>exact⟨j+1,by first | rfl | (rw[ej]),Z.out,rfl⟩
     ·obtain⟨i,hi⟩:∃ i,j=i+1:=⟨j - 1,by omega⟩
      obtain⟨y,ey⟩:∃ y,L[i]?=some y:=⟨_,List.getElem?_eq_getElem (by have:=HA.out.1;omega)⟩
      have y0:=hcc i y ey;have ei:wrap64 ((j:Int) - 1)=(i:Int):=by have:=HA.out.2.1;unfold wrap64;omega
      have him:(i:Int)<(m:Int):=by omega
      have hi0:(0:Int)<(j:Int):=by omega
      have hch:zf L n=if yB (some y) x=true then 71 else if n<=x then 32 else RCHK n (some x) (L.drop (j+1)):=by
       rw[hch,show AHD L j=some y by rw[hi];exact ey]
      by_cases hxy:x<=y
      ·have hxy':(x:Int)<=(y:Int):=by omega
       rw[if_pos (show yB (some y) x=true from decide_eq_true hxy)] at hch;have FN:Aside (zf L n=71):=hch;clear A HA hch hnx hcc hxy hj0 hi ex ey hjm;go_wp2_with fail
       exact⟨rfl,rfl,.inr ⟨by rw[FN.out];decide,by rw[FN.out];rfl⟩⟩
      ·have hxy':¬ (x:Int)<=(y:Int):=by omega
       rw[if_neg (show ¬ yB (some y) x=true from fun h=>hxy (of_decide_eq_true h))] at hch;by_cases hx:n<=x
       ·have hx':(n:Int)<=(x:Int):=by omega
        rw[if_pos hx] at hch;have FN:Aside (zf L n=32):=hch;clear A HA hch hnx hcc hx hxy hj0 hi ex ey hjm;go_wp2_with fail
        exact⟨rfl,rfl,.inr ⟨by rw[FN.out];decide,by rw[FN.out];rfl⟩⟩
       ·have hx':¬ (n:Int)<=(x:Int):=by omega
        rw[if_neg hx] at hch;have Z:Aside (j+1+q=m/\zf L n=RCHK n (AHD L (j+1)) (L.drop (j+1))):=⟨by have:=A.out.1;clear ej ei;omega,by rw[hnx];exact hch⟩
        clear A hch hnx hcc hx hxy hj0 hi ex ey hjm;go_wp2_with fail
        go_roundg q
        case measure=>exact Nat.lt_succ_self _
        case rel=>exact⟨j+1,by first | rfl | (rw[ej]),Z.out,rfl⟩
end Go.Proofs.YtobaogpomcocpaaGreatDoor
