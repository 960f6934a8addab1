/- ClashAcross: part 29. -/
import Derived.Test.YtdggkbpabjgdfaaGreatDoorClashAcrossP28
set_option maxHeartbeats 8000000
namespace Go.Proofs.YtdggkbpabjgdfaaGreatDoor
open Go.RowKit
set_option maxRecDepth 100000
theorem z5O (d:Int) (F S:Nat) (hF:F<2 ^ 64) (hS:S<2 ^ 64) (a:Option Addr) (n c:Nat) (hn:n<=1000) (l:List Int) (w:World) (hL:Flat w a n l) (E:Int) (hE:(ENX F S n l).1=E) (h0:E≠0):
  Calls Tryz.prog 15 #[.int .i64 d,.agg #[.int .u64 (F:Int),.int .u64 (S:Int),.slice a n c]] w (ANSR w (E,(0,[]),(0,[]))):=by
 obtain ⟨W0,hW0⟩:∃ W0,w.alloc (.cells #[.int .u64 (F:Int),.int .u64 (S:Int),.slice a n c] 48)=W0:=⟨_,rfl⟩
 obtain ⟨bp,hbp⟩:∃ bp,w.heap.size=bp:=⟨_,rfl⟩
 have HB:Aside (Below w.heap.size w W0):=by rw [<-hW0];exact (Below.refl _ _).alloc (Nat.le_refl _) _
 have hH:Has W0 bp #[.int .u64 (F:Int),.int .u64 (S:Int),.slice a n c] 48:=by rw [<-hW0,<-hbp];exact Has.new _ _ _
 have ce:=z3g F S hF hS a n c hn l W0 (hL.below HB.out);unfold ANSB at ce;rw [hE] at ce;generalize (ENX F S n l).2=Z at ce;have x0:=hH.cell 0;have x1:=hH.cell 1;have x2:=hH.cell 2;clear hL hE hS hF hn hH;go_enter Tryz.func15,Tryz.ntmps15;go_upto_region 1 with fail
 clear hW0 hbp;go_wp2_with fail
 refine ce.mono ?_;rintro e w1 ⟨v,rfl,_,hb1⟩;have R:Aside (Below w.heap.size w w1):=HB.out.trans (hb1.mono HB.out.size);clear ce hb1 HB x0 x1 x2;go_wp2_with fail
 go_ret3
 exact ⟨none,0,none,0,rfl,⟨rfl,.inl ⟨rfl,rfl⟩⟩,⟨rfl,.inl ⟨rfl,rfl⟩⟩,R.out,fun k h=>by cases h⟩
theorem z9B (d:Int) (F S t:Nat) (hFS:F<=S) (hS:S<=4611686018427387904) (hLW:LOWS F t) (a:Option Addr) (n c:Nat) (hn:n=(PXS F S).length) (hnc:n<=c) (hnil:a=none->c=0) (l:List Int) (w:World) (hL:Flat w a n l):
  Calls Tryz.prog 15 #[.int .i64 d,.agg #[.int .u64 (F:Int),.int .u64 (S:Int),.slice a n c]] w (ANSR w (0,(PC F,CAT (RCM d (JSX F S t) F S l) (SPAN 0 F)),(PC S,CAT (RCM d (JSX F S t) F S l) (SPAN 0 S)))):=by
 have hn188:=z2K hFS hS;have hlF:(SPAN 0 F).length=PC F:=z0i (by omega);have hlS:(SPAN 0 S).length=PC S:=z0i hS;have hPF:=z0C 64 F (by omega);have hPS:=z0C 64 S (by omega);have hPn:PC F<=n:=by rw [hn];unfold PXS;rw [List.length_append,hlF];omega
 have hEN:(ENX F S n l).1=0:=by
  have hPL:PPA F S=(0,PLCS (PXS F S)):=by
   unfold PPA;rw [if_neg (by omega)]
  unfold ENX ENCB;rw [hPL,if_neg (by simp),if_neg (by rw [z0u];simpa using hn)]
 have hone:CAT (RCM d (JSX F S t) F S l) (SPAN 0 F)=l.take (32*PC F):=by
  have:=z5M (d:=d) hFS hS hLW l (PC F) (Nat.le_refl _);rw [List.take_of_length_le (by omega)] at this;exact this
 have htwo:CAT (RCM d (JSX F S t) F S l) (SPAN 0 S)=CAT (VH d (PXS F S) l) (SPAN 0 S):=z9g fun x y hm=>zaF hFS hS hLW l hm;rw [hone,htwo];obtain ⟨W0,hW0⟩:∃ W0,w.alloc (.cells #[.int .u64 (F:Int),.int .u64 (S:Int),.slice a n c] 48)=W0:=⟨_,rfl⟩
 obtain ⟨b3,hb3⟩:∃ bp,w.heap.size=bp:=⟨_,rfl⟩
 have R0:Aside (Below w.heap.size w W0/\Has W0 b3 #[.int .u64 (F:Int),.int .u64 (S:Int),.slice a n c] 48):=by
  rw [<-hW0,<-hb3];exact ⟨(Below.refl _ _).alloc (Nat.le_refl _) _,Has.new _ _ _⟩
 have ce:=z3g F S (by omega) (by omega) a n c (by omega) l W0 (hL.below R0.out.1);unfold ANSB at ce;rw [hEN] at ce;generalize (ENX F S n l).2=Z at ce;have HA:Aside (F<=S/\S<=4611686018427387904/\n=(PXS F S).length/\n<=c/\(a=none->c=0)/\Flat w a n l/\(SPAN 0 F).length=PC F/\(SPAN 0 S).length=PC S/\PC F<=n/\n<=188/\PC S<=64/\PC F<=64):=⟨hFS,hS,hn,hnc,hnil,hL,hlF,hlS,hPn,by omega,hPS,hPF⟩
 have pc1:((PC F:Nat):Int)<=(n:Int):=by omega
 have pc2:((PC F:Nat):Int)<=(c:Int):=by omega
 generalize hpf:PC F=pf at *
 generalize hps:PC S=ps at *
 have HP:Aside (PC F=pf/\PC S=ps):=⟨hpf,hps⟩
 clear hpf hps hFS hS hn hnc hnil hL hlF hlS hPn hn188 hPS hPF hEN hone htwo hLW;go_enter Tryz.func15,Tryz.ntmps15;go_upto_region 1 with fail
 clear hW0 hb3;have x0:=R0.out.2.cell 0;have x1:=R0.out.2.cell 1;have x2:=R0.out.2.cell 2;go_wp2_with fail
 refine ce.mono ?_;rintro e w1 ⟨v,rfl,_,hb1⟩;have R1:Aside (Below w.heap.size w w1/\Has w1 b3 #[.int .u64 (F:Int),.int .u64 (S:Int),.slice a n c] 48):=⟨R0.out.1.trans (hb1.mono R0.out.1.size),R0.out.2.keep hb1⟩
 clear ce hb1 R0 x0 x1 x2;have x0:=R1.out.2.cell 0;have ct:=z6Y F (by have:=HA.out.1;have:=HA.out.2.1;omega) w1;rw [HP.out.1] at ct;go_wp2_with fail
 refine ct.mono ?_;rintro e w2 ⟨a9,c9,rfl,o9,hb2⟩;have R2:Aside (Below w.heap.size w w2/\Has w2 b3 #[.int .u64 (F:Int),.int .u64 (S:Int),.slice a n c] 48/\w2.ownsRow w1.heap.size 77 2 (.slice a9 pf c9) pf (z07 (SPAN 0 F))/\w.heap.size<=w1.heap.size/\w1.heap.size<=w2.heap.size):=⟨R1.out.1.trans (hb2.mono R1.out.1.size),R1.out.2.keep hb2,o9,R1.out.1.size,hb2.size⟩
 have B3:Aside (b3<w1.heap.size):=R1.out.2.lt;clear ct hb2 o9 R1 x0;have x2:(w2.alloc (.cells #[] 24)).cell? ⟨b3,2,none⟩=some (.slice a n c):=(R2.out.2.1.alloc _).cell 2;go_upto_region 6 with (at_builtin;refine zdg _ rfl (.tmp 27) (.tmp 32) rfl w2.heap.size (.slice (some ⟨w2.heap.size,0,none⟩) 0 0) 0 [] rfl (zby w2) a pf c (l.take (32*pf)) rfl ((HA.out.2.2.2.2.2.1.take HA.out.2.2.2.2.2.2.2.2.1).below (R2.out.1.alloc R2.out.1.size _)) HA.out.2.2.2.2.1 (by have:=HA.out.2.2.2.2.2.2.2.2.2.2.2;omega) (by simp) ?_;rw [Nat.zero_add,List.nil_append];intro a10 c10 w3 hown3 hgrow3)
 have R3:Aside (Below w.heap.size w w3/\Has w3 b3 #[.int .u64 (F:Int),.int .u64 (S:Int),.slice a n c] 48/\w3.ownsRow w1.heap.size 77 2 (.slice a9 pf c9) pf (z07 (SPAN 0 F))/\w.heap.size<=w1.heap.size/\w3.ownsRow w2.heap.size 24 32 (.slice a10 pf c10) pf (z01 (l.take (32*pf)))/\(∀ k,(Value.slice a9 pf c9).ownBlock=some k->k<w2.heap.size)/\w1.heap.size<=w2.heap.size/\w2.heap.size<=w3.heap.size):=by
  have hb3:Below w2.heap.size w2 w3:=((Below.refl _ w2).alloc (Nat.le_refl _) _).grown hgrow3 (by simp) (fun k e=>by cases e;exact Nat.le_refl _);exact ⟨R2.out.1.trans (hb3.mono R2.out.1.size),R2.out.2.1.keep hb3,z0m R2.out.2.2.1 hb3,R2.out.2.2.2.1,hown3,fun k e=>(R2.out.2.2.1.lt k e).2,R2.out.2.2.2.2,hb3.size⟩
 clear hown3 hgrow3 x2 R2;have x0:=R3.out.2.1.cell 0;have x1:=R3.out.2.1.cell 1;have cs:=zhb F S HA.out.1 HA.out.2.1 w3
 have hlen:(SPAN F S).length+pf=n:=by
  have h:=HA.out.2.2.1;unfold PXS at h;rw [List.length_append] at h;have:=HA.out.2.2.2.2.2.2.1;omega
 generalize hsl:(SPAN F S).length=sl at *
 go_wp2_with fail
 refine cs.mono ?_;rintro e w4 ⟨a39,c39,rfl,o39,hb4⟩
 have R4:Aside (Below w.heap.size w w4/\Has w4 b3 #[.int .u64 (F:Int),.int .u64 (S:Int),.slice a n c] 48/\w4.ownsRow w1.heap.size 77 2 (.slice a9 pf c9) pf (z07 (SPAN 0 F))/\w.heap.size<=w1.heap.size/\w4.ownsRow w2.heap.size 24 32 (.slice a10 pf c10) pf (z01 (l.take (32*pf)))/\(∀ k,(Value.slice a9 pf c9).ownBlock=some k->k<w2.heap.size)/\w1.heap.size<=w2.heap.size/\w4.ownsRow w3.heap.size 77 2 (.slice a39 sl c39) sl (z07 (SPAN F S))/\w1.heap.size<=w4.heap.size):=by
  obtain ⟨r1,r2,r3,r4,r5,r6,r7,r8⟩:=R3.out;have hs:=hb4.size;exact ⟨r1.trans (hb4.mono r1.size),r2.keep hb4,z0m r3 hb4,r4,z0m r5 hb4,r6,r7,o39,by omega⟩
 clear cs hb4 o39 R3 x0 x1;go_upto_region 7 with (at_builtin;refine zdP _ rfl (.tmp 34) (.tmp 39) rfl w1.heap.size (.slice a9 pf c9) pf (SPAN 0 F) rfl R4.out.2.2.1 w3.heap.size a39 sl c39 (SPAN F S) rfl R4.out.2.2.2.2.2.2.2.1 (by have:=HA.out.2.2.2.2.2.2.2.2.2.1;omega) R4.out.2.2.2.2.2.2.2.2 ?_;intro a40 c40 w5 hown5 hgrow5)
 rw [show pf+sl=n by omega] at hown5 ⊢
 have R5:Aside (Below w.heap.size w w5/\Has w5 b3 #[.int .u64 (F:Int),.int .u64 (S:Int),.slice a n c] 48/\w5.ownsRow w1.heap.size 77 2 (.slice a40 n c40) n (z07 (PXS F S))/\w5.ownsRow w2.heap.size 24 32 (.slice a10 pf c10) pf (z01 (l.take (32*pf)))/\w.heap.size<=w2.heap.size):=by
  obtain ⟨r1,r2,r3,r4,r5,r6,r7,r8,r9⟩:=R4.out;refine ⟨r1.grown hgrow5 r1.size (fun k e=>by have:=(r3.lt k e).1;omega),(hgrow5.block b3 r2.lt (fun e=>?_)).trans r2,hown5,z3F r5 fun k e=>hgrow5.block k (r5.lt k e).2 (fun e2=>?_),by omega⟩
  ·have h1:=(r3.lt b3 e.symm).1
   have h2:=B3.out;omega
  ·have h1:=(r5.lt k e).1
   have h2:=r6 k e2.symm;omega
 clear hown5 hgrow5 R4 hlen hsl pc1 pc2 B3;have x1:=R5.out.2.1.cell 1;have ct:=z6Y S HA.out.2.1 w5;rw [HP.out.2] at ct;go_wp2_with fail
 refine ct.mono ?_;rintro e w6 ⟨a11,c11,rfl,o11,hb6⟩
 have R6:Aside (Below w.heap.size w w6/\Has w6 b3 #[.int .u64 (F:Int),.int .u64 (S:Int),.slice a n c] 48/\Lie w6 a40 (PXS F S)/\w6.ownsRow w2.heap.size 24 32 (.slice a10 pf c10) pf (z01 (l.take (32*pf)))/\w.heap.size<=w2.heap.size/\w.heap.size<=w6.heap.size):=by
  obtain ⟨r1,r2,r3,r4,r5⟩:=R5.out;have hb:=r1.trans (hb6.mono r1.size);obtain ⟨ad,cap,e,hLie⟩:=zcb HA.out.2.2.1.symm (z0m r3 hb6);cases e;exact ⟨hb,r2.keep hb6,hLie,z0m r4 hb6,r5,hb.size⟩
 have O6:Aside (w6.ownsRow w5.heap.size 77 2 (.slice a11 ps c11) ps (z07 (SPAN 0 S))):=o11;clear ct hb6 o11 R5 x1
 have hcase:(ps=0/\SPAN 0 S=[])\/∃ gt,a11=some ⟨gt,0,none⟩:=by
  rcases O6.out.2 with ⟨e,h0⟩ | ⟨g,cap,cur,e,_⟩
  ·refine .inl ⟨h0,List.eq_nil_of_length_eq_zero ?_⟩
   rw [HA.out.2.2.2.2.2.2.2.1];exact h0
  ·cases e
   exact .inr ⟨g,rfl⟩
 rcases hcase with ⟨rfl,hnil⟩ | ⟨gt,rfl⟩
 ·have HN:Aside (SPAN 0 S=[]):=hnil
  clear O6 hnil;go_wp2_with fail
  refine wp_loop_rounds 1 ?_;rw [rounds_succ];go_wp2_with fail
  go_ret3
  exact ⟨_,_,none,0,rfl,z0q R6.out.2.2.2.1 R6.out.2.2.2.2.1,(by rw [HN.out];exact World.ownsRow_nil _ _ _ _),R6.out.1,fun k _ h=>by cases h⟩
 ·have G6:Aside (gt<w6.heap.size/\∀ (j h k:Nat),(SPAN 0 S)[j]?=some (h,k)->w6.cell? ⟨gt,j*2,none⟩=some (.int .u8 (h:Int))/\w6.cell? ⟨gt,j*2+1,none⟩=some (.int .u64 (k:Int))):=by
   refine ⟨(O6.out.lt gt rfl).2,fun j h k e=>?_⟩;obtain ⟨ad,cap,e2,hLie⟩:=zcb HA.out.2.2.2.2.2.2.2.1 O6.out;cases e2;obtain ⟨g,o,e3,_,hg⟩:=hLie (by have:=(List.getElem?_eq_some_iff.1 e).1;omega);cases e3;have:=hg j h k e;simpa using this
  obtain ⟨V,hV⟩:∃ V,VH d (PXS F S) l=V:=⟨_,rfl⟩
  rw [hV];have HV:Aside (VH d (PXS F S) l=V/\∀ x y,IsH (V x y)):=⟨hV,fun x y=>by rw [<-hV];exact z52 HA.out.2.2.2.2.2.1.1 HA.out.2.2.2.2.2.1.2.2 (by have:=HA.out.2.2.1;omega) x y⟩
  clear hV O6;go_wp2_with fail
  go_loopg [12,13,14] ps (fun q s12 s13 s14 wx=>∃ (i p b:Nat),s13=.int .i64 (p:Int)/\s14=.int .i64 (i:Int)/\Aside (i+q=ps/\Tile b ((SPAN 0 S).drop i) S/\Tile b ((PXS F S).drop p) S/\p<=n/\wx.ownsRow w6.heap.size 24 32 s12 i (z01 (CAT V ((SPAN 0 S).take i)))/\Below w6.heap.size w6 wx))
  case atStart=>exact ⟨0,0,0,rfl,rfl,by omega,z0T HA.out.2.1 (Nat.zero_le _),z1M HA.out.1 HA.out.2.1,Nat.zero_le _,World.ownsRow_nil _ _ _ _,Below.refl _ _⟩
  case round=>
   obtain ⟨i,p,b,rfl,rfl,A⟩:=hrel;cases gk with
   | zero=>
     obtain rfl:i=ps:=by have:=A.out.1;omega
     have hlt:¬ (i:Int)<(i:Int):=by omega
     obtain ⟨a12,c12,rfl⟩:=z2s A.out.2.2.2.2.1
     have FN:Aside (wr.ownsRow w.heap.size 24 32 (.slice a10 pf c10) pf (z01 (l.take (32*pf)))/\wr.ownsRow w.heap.size 24 32 (.slice a12 i c12) i (z01 (CAT (VH d (PXS F S) l) (SPAN 0 S)))/\Below w.heap.size w wr/\∀ k,(Value.slice a10 pf c10).ownBlock=some k->(Value.slice a12 i c12).ownBlock≠some k):=by
      obtain ⟨_,_,_,_,r5,r6⟩:=A.out;rw [HV.out.1];rw [List.take_of_length_le (by have:=HA.out.2.2.2.2.2.2.2.1;omega)] at r5;exact ⟨z0q (z0m R6.out.2.2.2.1 r6) R6.out.2.2.2.2.1,z0q r5 R6.out.2.2.2.2.2,R6.out.1.trans (r6.mono R6.out.1.size),fun k e1 e2=>by have h1:=(R6.out.2.2.2.1.lt k e1).2;have h2:=(r5.lt k e2).1;omega⟩
     clear A HA HP HV G6 R6;go_wp2_with fail
     go_ret3
     exact ⟨_,_,_,_,rfl,FN.out.1,FN.out.2.1,FN.out.2.2.1,FN.out.2.2.2⟩
   | succ q=>
     have hi:i<ps:=by have:=A.out.1;omega
     have hlt:(i:Int)<(ps:Int):=by omega
     obtain ⟨⟨h,k⟩,eh⟩:∃ s,(SPAN 0 S)[i]?=some s:=⟨_,List.getElem?_eq_getElem (by have:=HA.out.2.2.2.2.2.2.2.1;omega)⟩
     have TL:Aside (∃ j,p+j<=n/\Tile (k*2 ^ h) (((PXS F S).drop p).take j) ((k+1)*2 ^ h)/\Tile ((k+1)*2 ^ h) ((PXS F S).drop (p+j)) S/\Tile ((k+1)*2 ^ h) ((SPAN 0 S).drop (i+1)) S/\Node h k):=by
      obtain ⟨r1,r2,r3,r4,_⟩:=A.out;obtain ⟨g1,g2⟩:=List.getElem?_eq_some_iff.1 eh;rw [List.drop_eq_getElem_cons g1,g2] at r2;obtain ⟨t1,t2,t3⟩:=r2;dsimp only at t1 t2 t3;obtain ⟨j,j1,j2,j3⟩:=zaG r3 (by have:=z0N k h;have:=Nat.two_pow_pos h;omega) t3.bound.1 (zhc HA.out.1 HA.out.2.1 (List.mem_of_getElem? eh));rw [List.length_drop] at j1;have:=HA.out.2.2.1;exact ⟨j,by omega,by rw [t2];exact j2,by rw [List.drop_drop] at j3;exact j3,t3,t1⟩
     obtain ⟨j,hj,T1,T2,T3,hN⟩:=TL.out;have e1:wrap64 ((i:Int)+1)=((i+1:Nat):Int):=by have:=HA.out.2.2.2.2.2.2.2.2.2.2.1;unfold wrap64;omega
     have H2:Aside (i+1+q=ps/\p+j<=n/\Tile ((k+1)*2 ^ h) ((PXS F S).drop (p+j)) S/\Tile ((k+1)*2 ^ h) ((SPAN 0 S).drop (i+1)) S/\CAT V ((SPAN 0 S).take (i+1))=CAT V ((SPAN 0 S).take i) ++ V h k/\i<=64):=⟨by have:=A.out.1;omega,hj,T2,T3,z4S eh,by have:=HA.out.2.2.2.2.2.2.2.2.2.2.1;omega⟩
     have CO:Aside (∀ W,Below w6.heap.size w6 W->Calls Tryz.prog 37 #[.int .i64 d,.agg #[.int .u8 (h:Int),.int .u64 (k:Int)],.slice a40 n c40,.slice a n c,.int .i64 (p:Int)] W fun e w'=>e=.returned (.tuple #[.agg (z01 (V h k)).toArray,.int .i64 ((p+j:Nat):Int)])/\Below W.heap.size W w'):=fun W hb=>by
      rw [<-HV.out.1];have hbw:=R6.out.1.trans (hb.mono R6.out.1.size);exact zdN d (PXS F S) (z1M HA.out.1 HA.out.2.1).off a40 c40 a n c HA.out.2.2.1.symm (by have:=HA.out.2.2.2.2.2.2.2.2.2.1;omega) l HA.out.2.2.2.2.2.1.1 HA.out.2.2.2.2.2.1.2.2 h k p j W hN (R6.out.2.2.1.below hb) (HA.out.2.2.2.2.2.1.below hbw) hj T1
     have XC:Aside (∀ W,Below w6.heap.size w6 W->W.cell? ⟨gt,i*2,none⟩=some (.int .u8 (h:Int))/\W.cell? ⟨gt,i*2+1,none⟩=some (.int .u64 (k:Int))/\W.cell? ⟨b3,2,none⟩=some (.slice a n c)):=fun W hb=>⟨(hb.cell (p:=⟨gt,i*2,none⟩) G6.out.1).trans (G6.out.2 i h k eh).1,(hb.cell (p:=⟨gt,i*2+1,none⟩) G6.out.1).trans (G6.out.2 i h k eh).2,(R6.out.2.1.keep hb).cell 2⟩
     have y32:=(HV.out.2 h k).1;have B6:Aside (gt<w6.heap.size/\b3<w6.heap.size):=⟨G6.out.1,R6.out.2.1.lt⟩
     have A2:Aside (wr.ownsRow w6.heap.size 24 32 u12 i (z01 (CAT V ((SPAN 0 S).take i)))/\Below w6.heap.size w6 wr):=A.out.2.2.2.2;clear A TL T1 T2 T3 hN hj hi eh HA HP HV G6 R6;generalize V h k=Y at *
     generalize p+j=p2 at *
     go_upto_region 14 with fail
     rw [show (#[.int .u8 0,.int .u8 0,.int .u8 0,.int .u8 0,.int .u8 0,.int .u8 0,.int .u8 0,.int .u8 0,.int .u8 0,.int .u8 0,.int .u8 0,.int .u8 0,.int .u8 0,.int .u8 0,.int .u8 0,.int .u8 0,.int .u8 0,.int .u8 0,.int .u8 0,.int .u8 0,.int .u8 0,.int .u8 0,.int .u8 0,.int .u8 0,.int .u8 0,.int .u8 0,.int .u8 0,.int .u8 0,.int .u8 0,.int .u8 0,.int .u8 0,.int .u8 0]:Array Value)=(z01 ZND).toArray from rfl];have M1:Aside (Below w6.heap.size w6 (wr.alloc (.cells (z01 ZND).toArray 24))/\Has (wr.alloc (.cells (z01 ZND).toArray 24)) wr.heap.size (z01 ZND).toArray 24/\(wr.alloc (.cells (z01 ZND).toArray 24)).ownsRow w6.heap.size 24 32 u12 i (z01 (CAT V ((SPAN 0 S).take i)))/\(∀ k,u12.ownBlock=some k->k<wr.heap.size)/\w6.heap.size<=wr.heap.size):=⟨A2.out.2.alloc A2.out.2.size _,Has.new _ _ _,A2.out.1.alloc _,fun k e=>(A2.out.1.lt k e).2,A2.out.2.size⟩
     generalize wr.alloc (.cells (z01 ZND).toArray 24)=wa at *
     generalize wr.heap.size=bx at *
     have K1:Aside (∀ W,Below wa.heap.size wa W->Below w6.heap.size w6 W):=fun W hb=>M1.out.1.trans (hb.mono M1.out.1.size);refine zdO _ d b3 bx gt ps c11 i p p2 h k n a40 c40 a c ZND Y rfl y32 hlt (by have:=B6.out.1;have:=M1.out.2.2.2.2;omega) (by have:=B6.out.2;have:=M1.out.2.2.2.2;omega) (fun W=>Below wa.heap.size wa W) (fun W=>Below wa.heap.size wa W) (Below.refl _ _).drew (fun W hb=>XC.out W (K1.out W hb)) (fun W hb=>XC.out W (K1.out W hb)) (fun W hb=>M1.out.2.1.keep hb) (fun W hb=>(CO.out W (K1.out W hb)).mono fun e w' h=>⟨h.1,hb.trans (h.2.mono hb.size)⟩) (fun _ _ _ _ _ h=>h) ?_;rintro w7 ⟨wx,hbx,rfl⟩
     have M2:Aside (Below w6.heap.size w6 (wx.setRow bx (z01 Y).toArray)/\(wx.setRow bx (z01 Y).toArray).ownsRow w6.heap.size 24 32 u12 i (z01 (CAT V ((SPAN 0 S).take i)))):=by
      obtain ⟨r1,r2,r3,r4,r5⟩:=M1.out;have o:=z0m r3 hbx;exact ⟨z0e (K1.out wx hbx) r5 _,z3F o fun k e=>setRow_other wx bx k _ (by have:=r4 k e;omega)⟩
     have h7:Has (wx.setRow bx (z01 Y).toArray) bx (z01 Y).toArray 24:=(M1.out.2.1.keep hbx).row _;clear M1 K1 hbx CO XC B6 A2;generalize wx.setRow bx (z01 Y).toArray=w8 at *
     go_wp2_with (first
      | (refine wpList_load_row rfl 24 (.tmp 15) rfl bx rfl 24 (z01 Y).toArray (0,0) _ h7 Tryz.underlying24 rfl (z02 y32) ?_)
      | (refine z1B _ rfl 38 24 (.tmp 64) rfl (z01 Y).toArray rfl 32 _ _ Tryz.underlying38 z1A (by simp [z01,y32]) rfl (by decide) (by decide) ?_)
      | (at_builtin;refine z2V _ rfl (.tmp 63) (.tmp 65) rfl w6.heap.size u12 i _ rfl (M2.out.2.alloc _) _ 1 Y y32 rfl (Has.new _ _ _) (by have:=H2.out.2.2.2.2.2;omega) (by have:=M2.out.1.size;simp;omega) ?_;intro g9 c9' w9 hown hgrow hat hg))
     have R9:Aside (i+1+q=ps/\Tile ((k+1)*2 ^ h) ((SPAN 0 S).drop (i+1)) S/\Tile ((k+1)*2 ^ h) ((PXS F S).drop p2) S/\p2<=n/\w9.ownsRow w6.heap.size 24 32 (.slice (some ⟨g9,0,none⟩) (i+1) c9') (i+1) (z01 (CAT V ((SPAN 0 S).take (i+1))))/\Below w6.heap.size w6 w9):=by
      obtain ⟨r1,r2,r3,r4,r5,r6⟩:=H2.out;rw [r5,z0x];exact ⟨r1,r4,r3,r2,hown,(M2.out.1.alloc M2.out.1.size _).grown hgrow (by have:=M2.out.1.size;simp;omega) (fun k e=>(M2.out.2.lt k e).1)⟩
     clear hown hgrow hat hg M2 H2 h7 y32;go_wp2_with fail
     go_roundg q
     case measure=>omega
     case rel=>exact ⟨i+1,p2,(k+1)*2 ^ h,rfl,by first | rfl | (rw [e1]),R9.out⟩
theorem zbN (d:Int) (F S t:Nat) (hF:F<2 ^ 64) (hS:S<2 ^ 64) (hLW:LOWS F t) (a:Option Addr) (n c:Nat) (hn:n<=1000) (hnc:n<=c) (hnil:a=none->c=0) (l:List Int) (w:World) (hL:Flat w a n l):
  Calls Tryz.prog 15 #[.int .i64 d,.agg #[.int .u64 (F:Int),.int .u64 (S:Int),.slice a n c]] w (ANSR w (RCA d (JSX F S t) F S n l)):=by
 unfold RCA;by_cases h1:(PPA F S).1=0
 ·rw [if_neg (by simpa using h1)]
  have hb:F<=S/\S<=4611686018427387904:=by
   unfold PPA at h1;split at h1
   ·simp at h1
   ·omega
  have hPL:PPA F S=(0,PLCS (PXS F S)):=by
   unfold PPA;rw [if_neg (by omega)]
  by_cases h2:n=(PPA F S).2.length
  ·rw [if_neg (by simpa using h2)]
   exact z9B d F S t hb.1 hb.2 hLW a n c (by rw [h2,hPL];exact z0u _) hnc hnil l w hL
  ·rw [if_pos h2]
   exact z5O d F S hF hS a n c hn l w hL 70 (by unfold ENX ENCB;rw [if_neg (by simpa using h1),if_pos h2]) (by decide)
 ·rw [if_pos h1]
  exact z5O d F S hF hS a n c hn l w hL _ (by unfold ENX ENCB;rw [if_pos h1]) h1
@[go_sem] def RBGOPSq0:Oper:=⟨some 39,.move (.tmp 0),3,"ref.go:24",#[],none⟩
@[go_sem] def RBGOPSq1:Oper:=⟨some 40,.move (.tmp 2),38,"ref.go:24",#[],none⟩
@[go_sem] def RBGOPSq2:Oper:=⟨some 41,.move (.tmp 9),3,"ref.go:24",#[],none⟩
@[go_sem] def RBGOPSq3:Oper:=⟨some 42,.indexAddr 38 (.tmp 40) (.tmp 41),0,"ref.go:24",#[⟨1,.data⟩,⟨2,.data⟩],none⟩
@[go_sem] def RBGOPSq4:Oper:=⟨some 43,.load 24 (.tmp 42),24,"ref.go:24",#[⟨3,.data⟩],none⟩
@[go_sem] def RBGOPSq5:Oper:=⟨some 44,.load 24 (.tmp 8),24,"ref.go:24",#[],none⟩
@[go_sem] def RBGOPSq6:Oper:=⟨some 45,.call {callee:=.value (.func 33),args:=#[.tmp 39,.tmp 43,.tmp 44],argTypes:=#[3,24,24]},24,"ref.go:24",#[⟨0,.data⟩,⟨4,.data⟩,⟨5,.data⟩],none⟩
@[go_sem] def RBGOPSq7:Oper:=⟨none,.store 24 (.tmp 8) (.tmp 45),0,"ref.go:24",#[⟨6,.data⟩,⟨6,.chain⟩,⟨0,.phase⟩,⟨1,.phase⟩,⟨2,.phase⟩,⟨3,.phase⟩,⟨4,.phase⟩,⟨5,.phase⟩,⟨6,.phase⟩],none⟩
def z4t:Array Oper:=#[RBGOPSq0,RBGOPSq1,RBGOPSq2,RBGOPSq3,RBGOPSq4,RBGOPSq5,RBGOPSq6,RBGOPSq7]
theorem zaW {Q:Exit->Act->World->Prop} {f g i j l m p r s u x y A B C D E F G H J M N O P R T U V Z aa ab ac ad ae af ag ah ai aj ak al am an ao ap:Value} (W:World) (gn o n c b q:Nat) (d:Int) (L X Y:List Int) (hL:L.length=32) (hX:X.length=32) (hY:Y.length=32) (hq:(q:Int)<(n:Int)) (I:World->Prop) (h0:I W.drew) (hI:∀ w,I w->w.rangeAt gn (o+q*32) (z01 L)/\Has w b (z01 X).toArray 24) (hRow:∀ w,I w->(w.setRow b (z01 Y).toArray).rangeAt gn (o+q*32) (z01 L))
  (q1:∀ w,I w->Calls Tryz.prog 33 #[.int .i64 d,.agg (z01 L).toArray,.agg (z01 X).toArray] w fun e w'=>e=.returned (.agg (z01 Y).toArray)/\I w') (hQ:∀ c (a:Act) (t:Tmp) (v:Value) w,Q (.panic c) (a.put (some t) v) w->Q (.panic c) a w)
  (hfin:∀ (w:World),(∃ w0:World,I w0/\w=w0.setRow b (z01 Y).toArray)->Q .normal {tmps:=#[.int .i64 d,f,.slice (some ⟨gn,o,none⟩) n c,g,i,j,l,m,.pointer (some ⟨b,0,none⟩),.int .i64 (q:Int),p,r,s,u,x,y,A,B,C,D,E,F,G,H,J,M,N,O,P,R,T,U,V,Z,aa,ab,ac,ad,ae,.int .i64 d,.slice (some ⟨gn,o,none⟩) n c,.int .i64 (q:Int),.pointer (some ⟨gn,(o+q*32),none⟩),.agg (z01 L).toArray,.agg (z01 X).toArray,.agg (z01 Y).toArray,am,an,ao,ap],defers:=[]} w):(Code.region 11 z4t true).wp Tryz.prog Q {tmps:=#[.int .i64 d,f,.slice (some ⟨gn,o,none⟩) n c,g,i,j,l,m,.pointer (some ⟨b,0,none⟩),.int .i64 (q:Int),p,r,s,u,x,y,A,B,C,D,E,F,G,H,J,M,N,O,P,R,T,U,V,Z,aa,ab,ac,ad,ae,af,ag,ah,ai,aj,ak,al,am,an,ao,ap],defers:=[]} W:=by
 have k5_6_7:∀ (w:World),(∃ w0:World,I w0/\w=w0.setRow b (z01 Y).toArray)->wpAnyH Tryz.prog .any z4t Q (fun w:World=>w.rangeAt gn (o+q*32) (z01 L)) 0 #[tt,tt,tt,tt,tt,tt,tt,tt] {tmps:=#[.int .i64 d,f,.slice (some ⟨gn,o,none⟩) n c,g,i,j,l,m,.pointer (some ⟨b,0,none⟩),.int .i64 (q:Int),p,r,s,u,x,y,A,B,C,D,E,F,G,H,J,M,N,O,P,R,T,U,V,Z,aa,ab,ac,ad,ae,.int .i64 d,.slice (some ⟨gn,o,none⟩) n c,.int .i64 (q:Int),.pointer (some ⟨gn,(o+q*32),none⟩),.agg (z01 L).toArray,.agg (z01 X).toArray,.agg (z01 Y).toArray,am,an,ao,ap],defers:=[]} w:=fun  w hp=>by
  exact wpAnyH_done (by kernel_rfl) (hfin  w hp) _
 have k5_6:∀ (w:World),(I w)->wpAnyH Tryz.prog .any z4t Q (fun w:World=>w.rangeAt gn (o+q*32) (z01 L)) 1 #[tt,tt,tt,tt,tt,tt,tt,ff] {tmps:=#[.int .i64 d,f,.slice (some ⟨gn,o,none⟩) n c,g,i,j,l,m,.pointer (some ⟨b,0,none⟩),.int .i64 (q:Int),p,r,s,u,x,y,A,B,C,D,E,F,G,H,J,M,N,O,P,R,T,U,V,Z,aa,ab,ac,ad,ae,.int .i64 d,.slice (some ⟨gn,o,none⟩) n c,.int .i64 (q:Int),.pointer (some ⟨gn,(o+q*32),none⟩),.agg (z01 L).toArray,.agg (z01 X).toArray,.agg (z01 Y).toArray,am,an,ao,ap],defers:=[]} w:=fun  w hp=>by
  refine wpAnyH_ready (rs:=[7]) (by kernel_rfl) (by simp) ?_;refine AllReadyH.cons (o:=RBGOPSq7) rfl (fun K hK=>?_) ?_
  ·exact z1s (by rfl) (wpList_store_row rfl 24 (.tmp 8) (.tmp 45) rfl _ _ rfl rfl 24 _ (hI _ hp).2 (z02 hY) (by simp [z01,hX,hY]) (z0k Y) ⟨rfl,(have hp:(fun (w:World)=>(∃ w0:World,I w0/\w=w0.setRow b (z01 Y).toArray))  _:=⟨w,hp,rfl⟩;hK.out _ _ ((by obtain ⟨w0,h1,h2⟩:=hp; (first | rw [h2] | skip);exact hRow _ h1)) (fun _=>k5_6_7  _ hp))⟩)
  exact AllReadyH.nil
 have k5:∀ (w:World),(I w)->wpAnyH Tryz.prog .any z4t Q (fun w:World=>w.rangeAt gn (o+q*32) (z01 L)) 2 #[tt,tt,tt,tt,tt,tt,ff,ff] {tmps:=#[.int .i64 d,f,.slice (some ⟨gn,o,none⟩) n c,g,i,j,l,m,.pointer (some ⟨b,0,none⟩),.int .i64 (q:Int),p,r,s,u,x,y,A,B,C,D,E,F,G,H,J,M,N,O,P,R,T,U,V,Z,aa,ab,ac,ad,ae,.int .i64 d,.slice (some ⟨gn,o,none⟩) n c,.int .i64 (q:Int),.pointer (some ⟨gn,(o+q*32),none⟩),.agg (z01 L).toArray,.agg (z01 X).toArray,al,am,an,ao,ap],defers:=[]} w:=fun  w hp=>by
  refine wpAnyH_ready (rs:=[6]) (by kernel_rfl) (by simp) ?_;refine AllReadyH.cons (o:=RBGOPSq6) rfl (fun K hK=>?_) ?_
  ·rw [if_pos (by rfl)]
   go_simp;refine (show Calls _ _ _ w (fun e w'=>e=.returned (.agg (z01 Y).toArray)/\(I w')) from q1 w hp).mono ?_;rintro e w' ⟨rfl,hp⟩;exact hK.out _ _ ((hI _ hp).1) (fun _=>k5_6  w' hp)
  exact AllReadyH.nil
 have k:∀ (w:World),(I w)->wpAnyH Tryz.prog .any z4t Q (fun w:World=>w.rangeAt gn (o+q*32) (z01 L)) 3 #[tt,tt,tt,tt,tt,ff,ff,ff] {tmps:=#[.int .i64 d,f,.slice (some ⟨gn,o,none⟩) n c,g,i,j,l,m,.pointer (some ⟨b,0,none⟩),.int .i64 (q:Int),p,r,s,u,x,y,A,B,C,D,E,F,G,H,J,M,N,O,P,R,T,U,V,Z,aa,ab,ac,ad,ae,.int .i64 d,.slice (some ⟨gn,o,none⟩) n c,.int .i64 (q:Int),.pointer (some ⟨gn,(o+q*32),none⟩),.agg (z01 L).toArray,ak,al,am,an,ao,ap],defers:=[]} w:=fun  w hp=>by
  refine wpAnyH_ready (rs:=[5]) (by kernel_rfl) (by simp) ?_;refine AllReadyH.cons (o:=RBGOPSq5) rfl (fun K hK=>?_) ?_
  ·exact z1s (by rfl) (wpList_load_row rfl 24 (.tmp 8) rfl b rfl 24 (z01 X).toArray (0,0) _ (hI _ hp).2 Tryz.underlying24 rfl (z02 hX) ⟨rfl,(have hp:(fun (w:World)=>(I w))  w:=hp;hK.out _ _ ((hI _ hp).1) (fun _=>k5  _ hp))⟩)
  exact AllReadyH.nil
 have hp:=h0;have hww:(fun w:World=>w.rangeAt gn (o+q*32) (z01 L)) W.drew:=(hI _ hp).1;have last:=k W.drew hp
 have z:wpAnyH Tryz.prog .any z4t Q (fun w:World=>w.rangeAt gn (o+q*32) (z01 L)) 8 #[ff,ff,ff,ff,ff,ff,ff,ff] {tmps:=#[.int .i64 d,f,.slice (some ⟨gn,o,none⟩) n c,g,i,j,l,m,.pointer (some ⟨b,0,none⟩),.int .i64 (q:Int),p,r,s,u,x,y,A,B,C,D,E,F,G,H,J,M,N,O,P,R,T,U,V,Z,aa,ab,ac,ad,ae,af,ag,ah,ai,aj,ak,al,am,an,ao,ap],defers:=[]} W.drew:=by
  refine tkP RBGOPSq0 (.int .i64 d) 0 hQ hww ?_;simp only [List.set];refine tkP RBGOPSq1 (.slice (some ⟨gn,o,none⟩) n c) 1 hQ hww ?_;simp only [List.set];refine tkP RBGOPSq2 (.int .i64 (q:Int)) 2 hQ hww ?_;simp only [List.set];refine tkP RBGOPSq3 (.pointer (some ⟨gn,(o+q*32),none⟩)) 3 hQ hww ?_;simp only [List.set];refine tkH RBGOPSq4 (.agg (z01 L).toArray) 4 hQ (yieldsIf_load_mid (by rfl) 24 (.tmp 42) rfl gn (o+q*32) rfl (z01 L) _ (fun w h=>h) Tryz.underlying24 rfl (z09 hL)) hww ?_;simp only [List.set];exact last
 exact wp_region_held_drew (S:=(fun w:World=>w.rangeAt gn (o+q*32) (z01 L))) (by kernel_rfl) hww (fun _=>z)
theorem zbO (d:Int) (l r:List Int) (hl:IsH l) (hr:IsH r) (w:World):Calls Tryz.prog 33 #[.int .i64 d,.agg (z01 l).toArray,.agg (z01 r).toArray] w fun e w'=>e=.returned (.agg (z01 (z1u d l r)).toArray)/\Below w.heap.size w w':=by
 rw [z0F hl,z0F hr];refine (HX.zdI d (FNC l) (FNC r) (z1l hl) (z1l hr) w).mono ?_;rintro e w' ⟨rfl,hb⟩;exact ⟨by rw [z1D];rfl,hb⟩
theorem z6u (d:Int) (n:Nat) (hn:n<2 ^ 64) (r:List Int) (hr:IsH r) (w:World):Calls Tryz.prog 32 #[.int .i64 d,.int .u64 (n:Int),.agg (z01 r).toArray] w fun e w'=>e=.returned (.agg (z01 (z0z d n r)).toArray)/\Below w.heap.size w w':=by
 rw [z0F hr];refine (HX.zdJ d n hn (FNC r) (z1l hr) w).mono ?_;rintro e w' ⟨rfl,hb⟩;exact ⟨by rw [z1D];rfl,hb⟩
theorem z7R (d:Int) (n:Nat) (hn:n<=4611686018427387904) (a:Option Addr) (k c:Nat) (hk:k=PC n) (h0:k≠0) (l:List Int) (w:World) (hF:Flat w a k l):
  Calls Tryz.prog 13 #[.int .i64 d,.int .u64 (n:Int),.slice a k c] w fun e w'=>e=.returned (.tuple #[.agg (z01 (z0z d n (FLD d l k))).toArray,.int .i64 0])/\Below w.heap.size w w':=by
 obtain ⟨w0,hw0⟩:∃ w0,w.alloc (.cells ZARR 24)=w0:=⟨_,rfl⟩
 have hb0:Below w.heap.size w w0:=by rw [<-hw0];exact (Below.refl _ _).alloc (Nat.le_refl _) _
 have h40:Has w0 w.heap.size (z01 ZND).toArray 24:=by rw [<-hw0,<-z28];exact Has.new w _ _
 have h1':¬ (4611686018427387904:Int)<(n:Int):=by omega
 have hk64:k<=64:=by rw [hk];exact z0C 64 n (by omega)
 have co:=z8b n hn w0;generalize z07 (TOPS 0 n)=SC at co;rw [<-hk] at co;obtain ⟨m,hm⟩:∃ m,k=m+1:=⟨k - 1,by omega⟩
 obtain ⟨gn,o,rfl,hgn, -⟩:=hF.2.1 (by omega);have hz0:((k:Int) == 0)=false:=beq_eq_false_iff_ne.2 (by omega);have e1:wrap64 ((k:Int) - 1)=(m:Int):=by unfold wrap64;omega
 have e2:wrap64 ((k:Int) - 2)=(m:Int) - 1:=by unfold wrap64;omega
 have hml:(m:Int)<(k:Int):=by omega
 have e:FLD d l k=FA d l k m:=by unfold FLD;rw [if_neg h0,show k - 1=m by omega]
 have hFA:=z62 (d:=d) hF.1 hF.2.2 (by omega)
 have CR:Aside (∀ W,Calls Tryz.prog 32 #[.int .i64 d,.int .u64 (n:Int),.agg (z01 (FA d l k m)).toArray] W fun e w'=>e=.returned (.agg (z01 (z0z d n (FLD d l k))).toArray)/\Below W.heap.size W w'):=fun W=>by
  rw [e];exact z6u d n (by omega) (FA d l k m) (hFA m) W
 have hYH:IsH (z0z d n (FLD d l k)):=z2x _ _ _;generalize z0z d n (FLD d l k)=Y at *
 have HA:Aside (k=m+1/\k<=64/\Flat w (some ⟨gn,o,none⟩) k l/\gn<w.heap.size/\(∀ i,IsH (FA d l k i))/\FA d l k 0=HSH l m/\Y.length=32):=⟨hm,hk64,hF,hgn,hFA,by rw [FA,show k - 1=m by omega],hYH.1⟩
 have R0:Aside (Below w.heap.size w w0/\Has w0 w.heap.size (z01 ZND).toArray 24):=⟨hb0,h40⟩
 clear hm hn hgn h0 e hF hk hk64 hb0 h40 hFA hYH;go_enter Tryz.func13,Tryz.ntmps13;go_upto_region 1 with fail
 go_wp2_with fail
 refine co.mono ?_;rintro e w1 ⟨v,rfl,hown,hb1⟩
 obtain ⟨a',c',rfl,_⟩:∃ a' c',v=.slice a' k c'/\True:=by
  rcases hown.2 with ⟨e,h⟩ | ⟨g,cap,cur,e,_⟩
  ·exact ⟨none,0,by rw [e,h],trivial⟩
  ·exact ⟨_,_,e,trivial⟩
 clear co hown;have R1:Aside (Below w.heap.size w w1/\Has w1 w.heap.size (z01 ZND).toArray 24):=⟨R0.out.1.trans (hb1.mono R0.out.1.size),R0.out.2.keep hb1⟩
 clear hb1 hw0;have hat:w1.rangeAt gn (o+m*32) (z01 (FA d l k 0)):=by rw [HA.out.2.2.2.2.2.1];exact (HA.out.2.2.1.below R1.out.1).at (show m<k by have:=HA.out.1;omega)
 have h32:=(HA.out.2.2.2.2.1 0).1;generalize hA0:FA d l k 0=A0 at *
 go_wp2_with (first
  | (refine wpList_load_mid rfl 24 (.tmp 30) rfl gn (o+m*32) rfl (z01 A0) _ hat Tryz.underlying24 rfl (z09 h32) ?_)
  | (refine wpList_store_row rfl 24 (.tmp 8) (.tmp 31) rfl _ _ rfl rfl 24 _ (Has.new w1 _ _) (z02 h32) (by simp [z01,h32]) (z0k A0) ?_;rw [World.setRow_alloc_new]))
 have R2:Aside (Below w.heap.size w (w1.alloc (.cells (z01 A0).toArray 24))/\Has (w1.alloc (.cells (z01 A0).toArray 24)) w.heap.size (z01 ZND).toArray 24/\Has (w1.alloc (.cells (z01 A0).toArray 24)) w1.heap.size (z01 (FA d l k 0)).toArray 24/\w.heap.size<w1.heap.size):=⟨R1.out.1.alloc R1.out.1.size _,R1.out.2.alloc _,by rw [hA0];exact Has.new _ _ _,R1.out.2.lt⟩
 clear hat h32 hA0 R0 R1;generalize w1.alloc (.cells (z01 A0).toArray 24)=W1 at *
 generalize w1.heap.size=b8 at *
 have K:Aside (w.heap.size<b8):=R2.out.2.2.2;go_loopg [9] m (fun q s9 wx=>∃ x:Int,s9=.int .i64 x/\Aside (q<=m/\x=(q:Int) - 1/\Below w.heap.size w wx/\Has wx w.heap.size (z01 ZND).toArray 24/\Has wx b8 (z01 (FA d l k (m - q))).toArray 24))
 case atStart=>exact ⟨_,rfl,Nat.le_refl _,by first | rfl | exact e2,R2.out.1,R2.out.2.1,by rw [Nat.sub_self];exact R2.out.2.2.1⟩
 case round=>
  obtain ⟨x,rfl,A⟩:=hrel;clear R2 e1 e2;cases gk with
  | zero=>
    obtain rfl:x = -1:=by have:=A.out.2.1;omega
    have hH8:Has wr b8 (z01 (FA d l k m)).toArray 24:=A.out.2.2.2.2;have A2:Aside (Below w.heap.size w wr/\Has wr w.heap.size (z01 ZND).toArray 24):=⟨A.out.2.2.1,A.out.2.2.2.1⟩
    have x32:=(HA.out.2.2.2.2.1 m).1;have y32:=HA.out.2.2.2.2.2.2;have cr:=CR.out wr;clear A HA CR;generalize FA d l k m=X at *
    go_wp2_with (refine wpList_load_row rfl 24 (.tmp 8) rfl b8 rfl 24 (z01 X).toArray (0,0) _ hH8 Tryz.underlying24 rfl (z02 x32) ?_)
    refine cr.mono ?_;rintro e w2 ⟨rfl,hb2⟩;clear cr;have h42:=A2.out.2.keep hb2;have hb3:Below w.heap.size w w2:=A2.out.1.trans (hb2.mono A2.out.1.size);clear hb2 A2;go_wp2_with (refine wpList_store_row rfl 24 (.tmp 6) (.tmp 49) rfl _ _ rfl rfl 24 _ h42 (z02 y32) (by simp [z01,y32];rfl) (z0k Y) ?_)
    refine bodyPost_ret (v:=.tuple #[.agg (z01 Y).toArray,.int .i64 0]) (z1O rfl _ _ w.heap.size 24 _ (0,0) _ _ _ rfl rfl (Has.row h42 _) Tryz.underlying24 (z02 y32)) rfl ⟨rfl,z0e hb3 (Nat.le_refl _) _⟩
  | succ q=>
    obtain rfl:x=(q:Int):=by have:=A.out.2.1;omega
    have hq0:(0:Int)<=(q:Int):=by omega
    obtain ⟨h1,h2,h3,h5,h6,_,_⟩:=HA.out;have hqm:q+1<=m:=A.out.1;have hb1:(q:Int)<(k:Int):=by omega
    have eY:FA d l k (m - q)=z1u d (HSH l q) (FA d l k (m - (q+1))):=by
     rw [show m - q=(m - (q+1))+1 by omega,FA,show k - 2 - (m - (q+1))=q by omega]
    have hE1:Aside (wrap64 ((q:Int) - 1)=(q:Int) - 1):=by show wrap64 ((q:Int) - 1)=(q:Int) - 1;unfold wrap64;omega
    have H2:Aside (w.rangeAt gn (o+q*32) (z01 (HSH l q))/\gn<w.heap.size/\IsH (HSH l q)/\(∀ i,IsH (FA d l k i))/\FA d l k (m - q)=z1u d (HSH l q) (FA d l k (m - (q+1)))/\Below w.heap.size w wr/\Has wr w.heap.size (z01 ZND).toArray 24/\Has wr b8 (z01 (FA d l k (m - (q+1)))).toArray 24/\q<=m):=⟨h3.at (by omega),h5,z1E h3.1 h3.2.2 (by omega),h6,eY,A.out.2.2.1,A.out.2.2.2.1,A.out.2.2.2.2,by omega⟩
    clear h1 h2 h3 h5 h6 eY A HA hqm CR;go_upto_region 11 with fail
    refine zaW wr gn o k c b8 q d (HSH l q) (FA d l k (m - (q+1))) (FA d l k (m - q)) H2.out.2.2.1.1 (H2.out.2.2.2.1 _).1 (H2.out.2.2.2.1 _).1 hb1 (fun V=>Below wr.heap.size wr V) (Below.refl _ _).drew (fun V hV=>?_) (fun V hV=>?_) (fun V hV=>?_) (fun _ _ _ _ _ h=>h) ?_
    ·exact ⟨z2p H2.out.1 (H2.out.2.2.2.2.2.1.trans (hV.mono H2.out.2.2.2.2.2.1.size)) H2.out.2.1,H2.out.2.2.2.2.2.2.2.1.keep hV⟩
    ·exact z2p H2.out.1 (z0e (H2.out.2.2.2.2.2.1.trans (hV.mono H2.out.2.2.2.2.2.1.size)) (Nat.le_of_lt K.out) _) H2.out.2.1
    ·refine (zbO d (HSH l q) (FA d l k (m - (q+1))) H2.out.2.2.1 (H2.out.2.2.2.1 _) V).mono ?_
     rintro e V' ⟨rfl,hb⟩;exact ⟨by rw [H2.out.2.2.2.2.1],hV.trans (hb.mono hV.size)⟩
    ·rintro W3 ⟨w0',hw0',hW3⟩
     have Z:Aside (q<=m/\Below w.heap.size w W3/\Has W3 w.heap.size (z01 ZND).toArray 24/\Has W3 b8 (z01 (FA d l k (m - q))).toArray 24):=by
      have hV2:Below w.heap.size w w0':=H2.out.2.2.2.2.2.1.trans (hw0'.mono H2.out.2.2.2.2.2.1.size);rw [hW3];exact ⟨H2.out.2.2.2.2.2.2.2.2,z0e hV2 (Nat.le_of_lt K.out) _,(H2.out.2.2.2.2.2.2.1.keep hw0').row_other (by have:=K.out;omega) _,(H2.out.2.2.2.2.2.2.2.1.keep hw0').row _⟩
     clear hW3 hw0' H2;have e1:=hE1.out;go_wp2_with fail
     go_roundg q
     case measure=>exact Nat.lt_succ_self _
     case rel=>exact ⟨_,rfl,Z.out.1,by first | rfl | exact hE1.out,Z.out.2⟩
def PFXA (d:Int) (js:List (Nat × Nat)) (m:Nat) (r1:List Int) (n:Nat) (r2 bl:List Int):Int:=
 if (DEX bl).1≠0 then (DEX bl).1 else if (DEX bl).2.1≠m then 30 else if (DEX bl).2.2.1≠n then 30 else
  if UNDA d m (RCA d js (DEX bl).2.1 (DEX bl).2.2.1 (DEX bl).2.2.2.1 (DEX bl).2.2.2.2).2.1.1 (RCA d js (DEX bl).2.1 (DEX bl).2.2.1 (DEX bl).2.2.2.1 (DEX bl).2.2.2.2).2.1.2 r1≠0 then
     UNDA d m (RCA d js (DEX bl).2.1 (DEX bl).2.2.1 (DEX bl).2.2.2.1 (DEX bl).2.2.2.2).2.1.1 (RCA d js (DEX bl).2.1 (DEX bl).2.2.1 (DEX bl).2.2.2.1 (DEX bl).2.2.2.2).2.1.2 r1
  else UNDA d n (RCA d js (DEX bl).2.1 (DEX bl).2.2.1 (DEX bl).2.2.2.1 (DEX bl).2.2.2.2).2.2.1 (RCA d js (DEX bl).2.1 (DEX bl).2.2.1 (DEX bl).2.2.2.1 (DEX bl).2.2.2.2).2.2.2 r2
theorem zfz (d:Int) (m:Nat) (hm:m<2 ^ 64) (r1:List Int) (hr1:IsH r1) (n:Nat) (hn:n<2 ^ 64) (r2:List Int) (hr2:IsH r2) (ba:Option Addr) (bn bc:Nat) (hbn:bn<=1000000) (hbc:bn<=bc) (bl:List Int) (js:List (Nat × Nat)) (hJ:(DEX bl).2.1<=(DEX bl).2.2.1->(DEX bl).2.2.1<=4611686018427387904->JSOK (DEX bl).2.1 ((DEX bl).2.2.1 - (DEX bl).2.1) js) (w:World) (hB:Bytes w ba bn bl) (hT:Tabled w) (hX:HX.Tabled w) (h0:2<w.heap.size):
  Calls Tryz.prog 17 #[.int .i64 d,.int .u64 (m:Int),.agg (z01 r1).toArray,.int .u64 (n:Int),.agg (z01 r2).toArray,.slice ba bn bc] w fun e w'=>e=.returned (.int .i64 (PFXA d js m r1 n r2 bl))/\Below w.heap.size w w':=by
 have l1:=hr1.1;have l2:=hr2.1;obtain ⟨b7,hb7⟩:∃ b7,b7=w.heap.size:=⟨_,rfl⟩
 have R0:Aside (Below w.heap.size w ((w.alloc (.cells (z01 r1).toArray 24)).alloc (.cells (z01 r2).toArray 24))/\Has ((w.alloc (.cells (z01 r1).toArray 24)).alloc (.cells (z01 r2).toArray 24)) b7 (z01 r1).toArray 24/\Has ((w.alloc (.cells (z01 r1).toArray 24)).alloc (.cells (z01 r2).toArray 24)) (b7+1) (z01 r2).toArray 24):=by
  rw [hb7];exact ⟨((Below.refl _ _).alloc (Nat.le_refl _) _).alloc (by simp) _,(Has.new _ _ _).alloc _,Has.at _ _ _ (by simp)⟩
 have HT:Aside (∀ W,Below w.heap.size w W->Tabled W/\HX.Tabled W/\0<W.heap.size/\Bytes W ba bn bl/\2<W.heap.size):=fun W h=>by
  have hs:=h.size;exact ⟨hT.below (by omega) h,hX.below h,by omega,hB.below h,by omega⟩
 have HA:Aside (IsH r1/\IsH r2/\m<2 ^ 64/\n<2 ^ 64/\bn<=1000000/\bn<=bc):=⟨hr1,hr2,hm,hn,hbn,hbc⟩
 clear hr1 hr2 hm hn hbn hbc hB hT hX h0;obtain ⟨E,F,S,N,t,hD⟩:∃ E F S N t,DEX bl=(E,F,S,N,t):=⟨_,_,_,_,_,rfl⟩
 rw [hD] at hJ;dsimp only at hJ;have HJ:Aside (F<=S->S<=4611686018427387904->JSOK F (S - F) js):=hJ;clear hJ;have hU:PFXA d js m r1 n r2 bl=if E≠0 then E else if F≠m then 30 else if S≠n then 30 else if UNDA d m (RCA d js F S N t).2.1.1 (RCA d js F S N t).2.1.2 r1≠0 then UNDA d m (RCA d js F S N t).2.1.1 (RCA d js F S N t).2.1.2 r1 else UNDA d n (RCA d js F S N t).2.2.1 (RCA d js F S N t).2.2.2 r2:=by unfold PFXA;rw [hD]
 generalize PFXA d js m r1 n r2 bl=U at *
 have HV:Aside ((¬ E=0->U=E)/\(E=0->¬ F=m->U=30)/\(E=0->F=m->¬ S=n->U=30)/\(E=0->F=m->S=n->U=if UNDA d m (RCA d js F S N t).2.1.1 (RCA d js F S N t).2.1.2 r1≠0 then UNDA d m (RCA d js F S N t).2.1.1 (RCA d js F S N t).2.1.2 r1 else UNDA d n (RCA d js F S N t).2.2.1 (RCA d js F S N t).2.2.2 r2)):=
  ⟨fun h=>hU.trans (if_pos h),fun h1 h2=>by rw [hU,if_neg (by simpa using h1),if_pos h2],fun h1 h2 h3=>by rw [hU,if_neg (by simpa using h1),if_neg (by simpa using h2),if_pos h3],fun h1 h2 h3=>by rw [hU,if_neg (by simpa using h1),if_neg (by simpa using h2),if_neg (by simpa using h3)]⟩
 clear hU;have HD:Aside (DEX bl=(E,F,S,N,t)):=hD;clear hD;go_enter Tryz.func17,Tryz.ntmps17;go_upto_region 1 with fail
 rw [<-hb7];have HB:Aside (b7=w.heap.size):=hb7;clear hb7;generalize (w.alloc (.cells (z01 r1).toArray 24)).alloc (.cells (z01 r2).toArray 24)=W0 at *
 go_wp2_with fail
 have cD:=z6W ba bn bc HA.out.2.2.2.2.1 bl W0 (HT.out _ R0.out.1).2.2.2.1 HA.out.2.2.2.2.2 (HT.out _ R0.out.1).1 (HT.out _ R0.out.1).2.2.1;rw [HD.out] at cD;refine cD.mono ?_;clear cD HD;rintro e w1 ⟨a1,c1,rfl,hrow,hr,hb⟩;dsimp only at *
 obtain ⟨b8,hb8⟩:∃ b,b=w1.heap.size:=⟨_,rfl⟩
 have hbb:Below w1.heap.size w1 (w1.alloc (.cells #[.int .u64 (F:Int),.int .u64 (S:Int),.slice a1 N c1] 48)):=(Below.refl _ _).alloc (Nat.le_refl _) _
 have R1:Aside (Below w.heap.size w (w1.alloc (.cells #[.int .u64 (F:Int),.int .u64 (S:Int),.slice a1 N c1] 48))/\Has (w1.alloc (.cells #[.int .u64 (F:Int),.int .u64 (S:Int),.slice a1 N c1] 48)) b7 (z01 r1).toArray 24/\Has (w1.alloc (.cells #[.int .u64 (F:Int),.int .u64 (S:Int),.slice a1 N c1] 48)) (b7+1) (z01 r2).toArray 24/\Has (w1.alloc (.cells #[.int .u64 (F:Int),.int .u64 (S:Int),.slice a1 N c1] 48)) b8 #[.int .u64 (F:Int),.int .u64 (S:Int),.slice a1 N c1] 48/\Flat (w1.alloc (.cells #[.int .u64 (F:Int),.int .u64 (S:Int),.slice a1 N c1] 48)) a1 N t):=
  ⟨(R0.out.1.trans (hb.mono R0.out.1.size)).trans (hbb.mono (R0.out.1.trans (hb.mono R0.out.1.size)).size),(R0.out.2.1.keep hb).keep hbb,(R0.out.2.2.keep hb).keep hbb,Has.at _ _ _ hb8,(z1c hrow hr).below hbb⟩
 clear hrow hr hb hbb R0;go_upto_region 2 with fail
 rw [<-hb8];clear hb8;generalize w1.alloc (.cells #[.int .u64 (F:Int),.int .u64 (S:Int),.slice a1 N c1] 48)=W1 at *
 clear w1 W0;have y0:W1.cell? ⟨b8,0,none⟩=some (.int .u64 (F:Int)):=R1.out.2.2.2.1.cell 0;have y1:W1.cell? ⟨b8,1,none⟩=some (.int .u64 (S:Int)):=R1.out.2.2.2.1.cell 1;have y2:W1.cell? ⟨b8,2,none⟩=some (.slice a1 N c1):=R1.out.2.2.2.1.cell 2;have hb:=R1.out.1;by_cases hE:E=0
 ·by_cases hF:F=m
  ·by_cases hS:S=n
   ·have HW:Aside (U=if UNDA d m (RCA d js F S N t).2.1.1 (RCA d js F S N t).2.1.2 r1≠0 then UNDA d m (RCA d js F S N t).2.1.1 (RCA d js F S N t).2.1.2 r1 else UNDA d n (RCA d js F S N t).2.2.1 (RCA d js F S N t).2.2.2 r2):=HV.out.2.2.2 hE hF hS
    subst hE hF hS;clear HV;go_wp2_with fail
    refine (zgZ d F S js HJ.out a1 N c1 t W1 R1.out.2.2.2.2 (HT.out _ hb).1 (HT.out _ hb).2.1 (HT.out _ hb).2.2.2.2).mono ?_;have hrg:=z92 (d:=d) (js:=js) (F:=F) (S:=S) R1.out.2.2.2.2.1 R1.out.2.2.2.2.2.2;generalize RCA d js F S N t=C at *
    obtain ⟨CE,⟨CN,CL⟩,DN,DL⟩:=C;rintro e w2 ⟨a2,c2,a3,c3,rfl,hrow,hrow2,hb2, -⟩;dsimp only at *
    have R2:Aside (Below w.heap.size w w2/\Has w2 b7 (z01 r1).toArray 24/\Has w2 (b7+1) (z01 r2).toArray 24/\Flat w2 a2 CN CL/\Flat w2 a3 DN DL):=⟨hb.trans (hb2.mono hb.size),R1.out.2.1.keep hb2,R1.out.2.2.1.keep hb2,z1c hrow hrg.1,z1c hrow2 hrg.2⟩
    clear hrow hrow2 hrg hb2 hb R1 y0 y1 y2;have h7:=R2.out.2.1
    go_wp2_with (first
     | (refine wpList_load_row rfl 24 (.tmp 8) rfl b7 rfl 24 (z01 r1).toArray (0,0) _ h7 Tryz.underlying24 rfl (z02 l1) ?_)
     | fail)
    refine (z5x d F HA.out.2.2.1 a2 CN c2 CL r1 HA.out.1 w2 R2.out.2.2.2.1 (HT.out _ R2.out.1).2.1).mono ?_;rintro e w3 ⟨rfl,hb3⟩;generalize UNDA d F CN CL r1=U1 at *
    have R3:Aside (Below w.heap.size w w3/\Has w3 (b7+1) (z01 r2).toArray 24/\Flat w3 a3 DN DL):=⟨R2.out.1.trans (hb3.mono R2.out.1.size),R2.out.2.2.1.keep hb3,R2.out.2.2.2.2.below hb3⟩
    clear hb3 R2 h7;by_cases hU1:U1=0
    ·subst hU1
     have HW2:Aside (U=UNDA d S DN DL r2):=by have:=HW.out;rw [if_neg (by simp)] at this;exact this
     clear HW;have h8:=R3.out.2.1
     go_wp2_with (first
      | (refine wpList_load_row rfl 24 (.tmp 10) rfl (b7+1) rfl 24 (z01 r2).toArray (0,0) _ h8 Tryz.underlying24 rfl (z02 l2) ?_)
      | fail)
     refine (z5x d S HA.out.2.2.2.1 a3 DN c3 DL r2 HA.out.2.1 w3 R3.out.2.2 (HT.out _ R3.out.1).2.1).mono ?_;rintro e w4 ⟨rfl,hb4⟩;have R4:Aside (Below w.heap.size w w4):=R3.out.1.trans (hb4.mono R3.out.1.size);clear hb4 R3 h8 HT HA;go_wp2_with fail
     go_ret;exact ⟨by rw [HW2.out];rfl,R4.out⟩
    ·have HW2:Aside (U=U1):=by have:=HW.out;rw [if_pos hU1] at this;exact this
     clear HW HT HA;go_wp2_with fail
     go_ret;exact ⟨by rw [HW2.out];rfl,R3.out.1⟩
   ·have HW:Aside (U=30):=HV.out.2.2.1 hE hF hS
    have hS':¬ (S:Int)=(n:Int):=by omega
    subst hE hF;clear HV HT HA R1 HJ;go_wp2_with fail
    go_ret;exact ⟨by rw [HW.out];rfl,hb⟩
  ·have HW:Aside (U=30):=HV.out.2.1 hE hF
   have hF':¬ (F:Int)=(m:Int):=by omega
   subst hE;clear HV HT HA R1 HJ;go_wp2_with fail
   go_ret;exact ⟨by rw [HW.out];rfl,hb⟩
 ·have HW:Aside (U=E):=HV.out.1 hE
  clear HV HT HA R1 y0 y1 y2 HJ;go_wp2_with fail
  go_ret;exact ⟨by rw [HW.out];rfl,hb⟩
end Go.Proofs.YtdggkbpabjgdfaaGreatDoor
