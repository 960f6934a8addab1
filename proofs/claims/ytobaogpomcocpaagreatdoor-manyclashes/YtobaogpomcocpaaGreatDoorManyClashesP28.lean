/- ManyClashes: part 28. -/
import Derived.Test.YtobaogpomcocpaaGreatDoorManyClashesP27
set_option maxRecDepth 100000
set_option maxHeartbeats 16000000
open Go.RowKit
namespace Go.Proofs.YtobaogpomcocpaaGreatDoor
theorem xT{b:List Int}(hr:∀ x∈b,0<=x/\x<=255)(h:(MDC b).1=0):(MDC b).2.1<=4611686018427387904/\zf (MDC b).2.2.1 (MDC b).2.1=0/\(MDC b).2.2.2.length=32*(zc (TPS (MDC b).2.1) (MDC b).2.2.1).length/\(MDC b).2.2.1.length+(MDC b).2.2.2.length<=b.length/\∀ x∈(MDC b).2.2.2,0<=x/\x<=255:=by
 cases b with
 | nil=>cases h
 | cons x t=>
   by_cases hx:x=78
   ·have e0 : MDC (x :: t)=MD1 t:=by rw[MDC,if_pos hx]
    rw[e0] at h ⊢;have hrt:∀ y∈t,0<=y/\y<=255:=fun y hy=>hr y (List.mem_cons_of_mem _ hy);by_cases h1:(LNG t).2.2≠0
    ·rw[XR h1] at h
     exact absurd h h1
    ·by_cases h2:4611686018427387904<(LNG t).1.toNat
     ·rw[MD1,if_neg h1,if_pos h2] at h
      cases h
     ·have e1:MD1 t=MD3 (LNG t).1.toNat (IDXS (LNG t).1.toNat (t.drop (LNG t).2.1.toNat)):=by rw[MD1,if_neg h1,if_neg h2]
      rw[e1] at h ⊢;generalize (LNG t).1.toNat=Z at *
      have hrd:∀ y∈t.drop (LNG t).2.1.toNat,0<=y/\y<=255:=fun y hy=>hrt y (List.mem_of_mem_drop hy);have hlt:(t.drop (LNG t).2.1.toNat).length<=t.length:=by rw[List.length_drop];omega
      generalize t.drop (LNG t).2.1.toNat=u at *
      by_cases h3:(IDXS Z u).1≠0
      ·rw[MD3,if_pos h3] at h
       exact absurd h h3
      ·have h3':(IDXS Z u).1=0:=by simpa using h3
       obtain⟨q1,q2⟩:=Y3 h3';obtain⟨q3,q4⟩:=Xp hrd h3';by_cases h4:(IDXS Z u).2.2.length<32*(zc (TPS Z) (IDXS Z u).2.1).length
       ·rw[MD3,if_neg h3,if_pos h4] at h
        cases h
       ·by_cases h5:32*(zc (TPS Z) (IDXS Z u).2.1).length<(IDXS Z u).2.2.length
        ·rw[MD3,if_neg h3,if_neg h4,if_pos h5] at h
         cases h
        ·rw[MD3,if_neg h3,if_neg h4,if_neg h5]
         dsimp only;exact⟨by omega,vZ (by omega) q2 q1,by omega,by simp;omega,q4⟩
   ·rw[MDC,if_neg hx] at h
    cases h
def MVA(d:Int)(root:List Int)(N:Nat)(L:List Nat)(nl:Nat)(lv b:List Int):Int:=
 if (MDC b).1≠0 then (MDC b).1 else if (MDC b).2.1≠N then 30 else if (MDC b).2.2.1≠L then 32 else if nl≠L.length then 70 else if zy d N (FLD d (MUPS d (TPS N) L lv (MDC b).2.2.2) (PC N))=root then 0 else 80
structure MVAS (d:Int) (root:List Int) (N:Nat) (L:List Nat) (nl:Nat) (lv b:List Int) (V:Int):Prop where
 dec:(MDC b).1≠0->V=(MDC b).1
 size:(MDC b).1=0->(MDC b).2.1≠N->V=30
 index:(MDC b).1=0->(MDC b).2.1=N->(MDC b).2.2.1≠L->V=32
 count:(MDC b).1=0->(MDC b).2.1=N->(MDC b).2.2.1=L->nl≠L.length->V=70
 unlike:(MDC b).1=0->(MDC b).2.1=N->(MDC b).2.2.1=L->nl=L.length->zy d N (FLD d (MUPS d (TPS N) L lv (MDC b).2.2.2) (PC N))≠root->V=80
 ok:(MDC b).1=0->(MDC b).2.1=N->(MDC b).2.2.1=L->nl=L.length->zy d N (FLD d (MUPS d (TPS N) L lv (MDC b).2.2.2) (PC N))=root->V=0
theorem Xq(d:Int)(root:List Int)(N:Nat)(L:List Nat)(nl:Nat)(lv b:List Int):MVAS d root N L nl lv b (MVA d root N L nl lv b):=by
 refine⟨fun h=>?_,fun h1 h2=>?_,fun h1 h2 h3=>?_,fun h1 h2 h3 h4=>?_,fun h1 h2 h3 h4 h5=>?_,fun h1 h2 h3 h4 h5=>?_⟩ <;> unfold MVA
 ·rw[if_pos h]
 ·rw[if_neg (by simpa using h1),if_pos h2]
 ·rw[if_neg (by simpa using h1),if_neg (by simpa using h2),if_pos h3]
 ·rw[if_neg (by simpa using h1),if_neg (by simpa using h2),if_neg (by simpa using h3),if_pos h4]
 ·rw[if_neg (by simpa using h1),if_neg (by simpa using h2),if_neg (by simpa using h3),if_neg (by simpa using h4),if_neg h5]
 ·rw[if_neg (by simpa using h1),if_neg (by simpa using h2),if_neg (by simpa using h3),if_neg (by simpa using h4),if_pos h5]
theorem jj{w:World}{B s n c:Nat}{t:TypeId}{a:Option Addr}{xs:List Value}(h:w.ownsRow B t s (.slice a n c) n xs):n<=c/\(a=none->c=0)/\∀ x,a=some x->x.block<w.heap.size/\x.spot=none:=by
 rcases h.2 with ⟨e,h0⟩ | ⟨g,cap,cur,e,hb,hg,hc⟩
 ·cases e
  exact⟨by omega,fun _=>rfl,(fun x e=>by cases e)⟩
 ·cases e
  exact⟨hc.1,(fun e=>by cases e),(fun x e=>by cases e;exact⟨(Array.getElem?_eq_some_iff.1 hg).1,rfl⟩)⟩
theorem jk(d:Int)(N:Nat)(hN:N<=4611686018427387904)(l:List Int):BAGA d N (PC N) l=(0,zy d N (FLD d l (PC N))):=by
 unfold BAGA;rw[if_neg (by omega),if_neg (by simp)]
theorem jY(d:Int)(root:List Int)(hroot:IsH root)(N:Nat)(ai:Option Addr)(n ci:Nat)(L:List Nat)(al:Option Addr)(nl cl:Nat)(lv:List Int)(ab:Option Addr)(k cb:Nat)(b:List Int)(w:World)(hl:L.length=n)(hn:n<=200)(hL:NUML w ai L)(hFl:Flat w al nl lv)(hcl:nl<=cl)(hla:∀ x,al=some x->x.block<w.heap.size)(hB:Bytes w ab k b)(hkb:k<=cb)(hk:k<=10000)(hT:Tabled w)(hX:HX.Tabled w)(h0:0<w.heap.size):
  Calls Tryz.prog 22 #[.int .i64 d,.agg (za root).toArray,.int .u64 (N:Int),.slice ai n ci,.slice al nl cl,.slice ab k cb] w fun e w'=>e=.returned (.int .i64 (MVA d root N L nl lv b))/\Below w.heap.size w w':=by
 have SV:=Xq d root N L nl lv b;have hMT:=xT (b:=b) hB.2.2;have hbl:b.length=k:=hB.1;generalize MVA d root N L nl lv b=V at *
 obtain⟨w1,e1⟩:∃ w1,w.alloc (.cells (za root).toArray 23)=w1:=⟨_,rfl⟩
 obtain⟨b7,hb7⟩:∃ b,w.heap.size=b:=⟨_,rfl⟩
 have hb1:Below w.heap.size w w1:=by rw[<-e1];exact(Below.refl _ _).alloc (Nat.le_refl _) _
 have hR1:Has w1 b7 (za root).toArray 23:=by rw[<-e1,<-hb7];exact Has.new _ _ _
 have cd:=Jq ab k cb b w1 (hB.below hb1) hkb (by omega) (hT.below h0 hb1) (by have:=hb1.size;omega);have HA:Aside (L.length=n/\n<=200/\NUML w ai L/\Flat w al nl lv/\nl<=cl/\(∀ x,al=some x->x.block<w.heap.size)/\Tabled w/\HX.Tabled w/\0<w.heap.size/\k<=10000/\b.length=k):=⟨hl,hn,hL,hFl,hcl,hla,hT,hX,h0,hk,hbl⟩
 have H1:Aside (Below w.heap.size w w1/\Has w1 b7 (za root).toArray 23):=⟨hb1,hR1⟩
 have HM:Aside ((MDC b).1=0->(MDC b).2.1<=4611686018427387904/\zf (MDC b).2.2.1 (MDC b).2.1=0/\(MDC b).2.2.2.length=32*(zc (TPS (MDC b).2.1) (MDC b).2.2.1).length/\(MDC b).2.2.1.length+(MDC b).2.2.2.length<=b.length/\∀ x∈(MDC b).2.2.2,0<=x/\x<=255):=hMT;have HV:Aside (MVAS d root N L nl lv b V/\IsH root):=⟨SV,hroot⟩
 clear hl hn hL hFl hcl hla hB hkb hk hT hX h0 hb1 hR1 SV hMT hroot hbl;obtain⟨E,hE⟩:∃ E,(MDC b).1=E:=⟨_,rfl⟩
 obtain⟨Z,hZ⟩:∃ Z,(MDC b).2.1=Z:=⟨_,rfl⟩
 obtain⟨M,hM⟩:∃ M,(MDC b).2.2.1=M:=⟨_,rfl⟩
 obtain⟨nd,hnd⟩:∃ nd,(MDC b).2.2.2=nd:=⟨_,rfl⟩
 have HD:Aside (((MDC b).1=E/\(MDC b).2.1=Z/\(MDC b).2.2.1=M/\(MDC b).2.2.2=nd)):=⟨hE,hZ,hM,hnd⟩
 unfold DECM at cd;rw[hE,hZ,hM,hnd] at cd;clear hE hZ hM hnd;go_enter Tryz.func22,Tryz.ntmps22;go_upto_region 1 with fail
 clear e1 hb7;go_wp2_with fail
 refine cd.mono ?_;rintro e w2 ⟨a3,c3,a4,K,c4,rfl,o3,o4,hK,hb2⟩;clear cd;have hb12:Below w.heap.size w w2:=H1.out.1.trans (hb2.mono H1.out.1.size);go_upto_region 2 with fail
 obtain⟨w3,e3⟩:∃ w3,w2.alloc (.cells #[.int .u64 (Z:Int),.slice a3 M.length c3,.slice a4 K c4] 45)=w3:=⟨_,rfl⟩
 have hb3:Below w2.heap.size w2 w3:=by rw[<-e3];exact(Below.refl _ _).alloc (Nat.le_refl _) _
 have hP3:Has w3 w2.heap.size #[.int .u64 (Z:Int),.slice a3 M.length c3,.slice a4 K c4] 45:=by rw[<-e3];exact Has.new _ _ _
 rw[e3];have W3:Aside (Below w.heap.size w w3/\Has w3 b7 (za root).toArray 23/\Has w3 w2.heap.size #[.int .u64 (Z:Int),.slice a3 M.length c3,.slice a4 K c4] 45/\w3.ownsRow w1.heap.size 24 1 (.slice a3 M.length c3) M.length (ze M)/\w3.ownsRow w1.heap.size 23 32 (.slice a4 K c4) K (za nd)/\nd.length=32*K):=⟨hb12.trans (hb3.mono hb12.size),(H1.out.2.keep hb2).keep hb3,hP3,yx o3 fun k e=>hb3.block k (o3.lt k e).2,yx o4 fun k e=>hb3.block k (o4.lt k e).2,hK⟩
 have x0:=hP3.cell 0;have x1:=hP3.cell 1;have x2:=hP3.cell 2;generalize w2.heap.size=b13 at *
 clear e3 hb3 hP3 hb2 hb12 o3 o4 hK H1;by_cases hE:E=0
 case neg=>
  have FN:Aside (V=E/\Below w.heap.size w w3):=⟨by rw[<-HD.out.1];exact HV.out.1.dec (by rw[HD.out.1];exact hE),W3.out.1⟩
  have hne:(E == 0)=false:=beq_eq_false_iff_ne.2 hE;clear HV HM HA HD W3 hE;go_wp2_with fail
  go_ret;exact⟨by rw[FN.out.1];rfl,FN.out.2⟩
 subst hE;by_cases hZ:Z=N
 case neg=>
  have FN:Aside (V=30/\Below w.heap.size w w3):=⟨HV.out.1.size HD.out.1 (by rw[HD.out.2.1];exact hZ),W3.out.1⟩
  have hne:((Z:Int) == (N:Int))=false:=beq_eq_false_iff_ne.2 (by omega);clear HV HM HA HD W3 hZ;go_wp2_with fail
  go_ret;exact⟨by rw[FN.out.1];rfl,FN.out.2⟩
 subst hZ;have ce:=U9 a3 ai M.length n c3 ci M L rfl HA.out.1 (by have:=HM.out HD.out.1;rw[HD.out.2.2.1,HD.out.2.2.2] at this;have:=HA.out;omega) w3 (xD W3.out.2.2.2.1 rfl) (HA.out.2.2.1.keep W3.out.1);go_wp2_with fail
 refine ce.mono ?_;rintro e w4 ⟨rfl,hb4⟩;clear ce x0 x1 x2;have hb34:Below w.heap.size w w4:=W3.out.1.trans (hb4.mono W3.out.1.size);by_cases hML:M=L
 case neg=>
  have FN:Aside (V=32/\Below w.heap.size w w4):=⟨HV.out.1.index HD.out.1 HD.out.2.1 (by rw[HD.out.2.2.1];exact hML),hb34⟩
  have hne:decide (M=L)=false:=decide_eq_false hML;rw[hne];clear HV HM HA HD W3 hb4 hb34 hne hML;go_wp2_with fail
  go_ret;exact⟨by rw[FN.out.1];rfl,FN.out.2⟩
 subst hML;rw[show decide (M=M)=true by simp];have hMZ:=HM.out HD.out.1;rw[HD.out.2.1,HD.out.2.2.1,HD.out.2.2.2] at hMZ;obtain⟨m1,m2,m3,m4,m5⟩:=hMZ;have hP4:=W3.out.2.2.1.keep hb4;have x0:=hP4.cell 0;have x1:=hP4.cell 1;have x2:=hP4.cell 2;have hMW:MWA M Z K=0:=ZY m2 (by have:=W3.out.2.2.2.2.2;omega);have hcap3:=jj W3.out.2.2.2.1;have hcap4:=jj W3.out.2.2.2.2.1;have cc:=U6 d M Z a3 M.length c3 a4 K c4 al nl cl lv nd w4 rfl (by have:=HA.out;omega) hcap3.1 hcap3.2.1 (fun x e=>⟨Nat.lt_of_lt_of_le (hcap3.2.2 x e).1 hb4.size,(hcap3.2.2 x e).2⟩) (by have:=HA.out;have:=W3.out.2.2.2.2.2;omega) ((xD W3.out.2.2.2.1 rfl).keep hb4) hcap4.1 (fun x e=>Nat.lt_of_lt_of_le (hcap4.2.2 x e).1 hb4.size) ((xg W3.out.2.2.2.2.1 m5).below hb4) HA.out.2.2.2.2.1 (fun x e=>Nat.lt_of_lt_of_le (HA.out.2.2.2.2.2.1 x e) hb34.size) (HA.out.2.2.2.1.below hb34) (HA.out.2.2.2.2.2.2.1.below HA.out.2.2.2.2.2.2.2.2.1 hb34) (HA.out.2.2.2.2.2.2.2.1.below hb34) (by have:=hb34.size;have:=HA.out.2.2.2.2.2.2.2.2.1;omega);have W4:Aside (Below w.heap.size w w4/\Has w4 b7 (za root).toArray 23/\HX.Tabled w4):=⟨hb34,W3.out.2.1.keep hb4,HA.out.2.2.2.2.2.2.2.1.below hb34⟩
 have HS:Aside (Z<=4611686018427387904/\HSS nl lv/\HSS K nd):=⟨m1,⟨HA.out.2.2.2.1.1,HA.out.2.2.2.1.2.2⟩,⟨W3.out.2.2.2.2.2,m5⟩⟩
 clear m1 m2 m3 m4 m5 hP4 hcap3 hcap4 W3 HA HM hb4 hb34;have hM:(MBOX Z a3 M.length c3 a4 K c4)=#[.int .u64 (Z:Int),.slice a3 M.length c3,.slice a4 K c4]:=rfl;rw[hM] at cc;clear hM;by_cases hnl:nl=M.length
 case neg=>
  have hME:MCE M Z K nl=70:=jr hMW hnl;have hMC:MCL d M Z K nl lv nd=(70,0,[]):=by unfold MCL;rw[hME];rfl
  rw[hMC] at cc;have FN:Aside (V=70):=HV.out.1.count HD.out.1 HD.out.2.1 HD.out.2.2.1 hnl;clear HV HD HS hME hMC hnl hMW;go_wp2_with fail
  refine cc.mono ?_;rintro e w5 ⟨a6,c6,rfl,_,hb5⟩;clear cc x0 x1 x2;have FB:Aside (Below w.heap.size w w5):=W4.out.1.trans (hb5.mono W4.out.1.size);clear hb5 W4;go_wp2_with fail
  go_ret;exact⟨by rw[FN.out];rfl,FB.out⟩
 have hME:MCE M Z K nl=0:=Yg hMW hnl;have hMC:MCL d M Z K nl lv nd=(0,PC Z,MUPS d (TPS Z) M lv nd):=by unfold MCL;rw[if_pos hME]
 have hrg:=vY (d:=d) (L:=M) (N:=Z) HS.out.2.1 HS.out.2.2;rw[hMC] at cc hrg;have HR:Aside ((∀ y∈MUPS d (TPS Z) M lv nd,0<=y/\y<=255)/\nl=M.length):=⟨hrg,hnl⟩
 have HBG:Aside (∀ l,BAGA d Z (PC Z) l=(0,zy d Z (FLD d l (PC Z)))):=jk d Z HS.out.1;have hZ64:Z<2 ^ 64:=by have:=HS.out.1;omega
 have HZ:Aside (Z<2 ^ 64):=hZ64;clear hME hMC hrg hnl hMW HS hZ64
 have HF:Aside (∀ W a c,W.ownsRow w4.heap.size 23 32 (.slice a (PC Z) c) (PC Z) (za (MUPS d (TPS Z) M lv nd))->HX.Tabled W->Calls Tryz.prog 43 #[.int .i64 d,.int .u64 (Z:Int),.slice a (PC Z) c] W fun e w'=>e=.returned (.tuple #[.agg (za (zy d Z (FLD d (MUPS d (TPS Z) M lv nd) (PC Z)))).toArray,.int .i64 0])/\Below W.heap.size W w'):=fun W a c h hT=>by
  have:=X6 d Z HZ.out a (PC Z) c (MUPS d (TPS Z) M lv nd) W (xg h HR.out.1) hT;rwa [HBG.out] at this
 have HVV:Aside ((zy d Z (FLD d (MUPS d (TPS Z) M lv nd) (PC Z))≠root->V=80)/\(zy d Z (FLD d (MUPS d (TPS Z) M lv nd) (PC Z))=root->V=0)/\IsH root):=by
  have h1:=HV.out.1.unlike HD.out.1 HD.out.2.1 HD.out.2.2.1 HR.out.2;have h2:=HV.out.1.ok HD.out.1 HD.out.2.1 HD.out.2.2.1 HR.out.2;rw[HD.out.2.2.2] at h1 h2;exact⟨h1,h2,HV.out.2⟩
 have hYH:=qM d Z (FLD d (MUPS d (TPS Z) M lv nd) (PC Z));clear HV HD HR HBG HZ;generalize zy d Z (FLD d (MUPS d (TPS Z) M lv nd) (PC Z))=Y at *
 generalize MUPS d (TPS Z) M lv nd=U at *
 generalize PC Z=pz at *
 go_wp2_with fail
 refine cc.mono ?_;rintro e w5 ⟨a6,c6,rfl,o6,hb5⟩;clear cc x0 x1 x2;have cg:=HF.out w5 a6 c6 o6 (W4.out.2.2.below hb5);have W5:Aside (Below w.heap.size w w5/\Has w5 b7 (za root).toArray 23):=⟨W4.out.1.trans (hb5.mono W4.out.1.size),W4.out.2.1.keep hb5⟩
 clear HF o6 hb5 W4;have y32:=hYH.1;have r32:=HVV.out.2.2.1;go_wp2_with fail
 refine cg.mono ?_;rintro e w6 ⟨rfl,hb6⟩;clear cg
 have R1:Aside (Below w.heap.size w (w6.alloc (.cells (za Y).toArray 23))/\Has (w6.alloc (.cells (za Y).toArray 23)) b7 (za root).toArray 23/\Has (w6.alloc (.cells (za Y).toArray 23)) w6.heap.size (za Y).toArray 23):=by
  have hb:=W5.out.1.trans (hb6.mono W5.out.1.size);exact⟨hb.alloc hb.size _,(W5.out.2.keep hb6).alloc _,Has.new _ _ _⟩
 clear hb6 W5
 go_upto_region 12 with (first
  | (refine wpList_store_row rfl 23 (.tmp 16) (.tmp 50) rfl _ _ rfl rfl 23 _ (Has.new w6 _ _) (zd y32) (by simp[za,y32]) (zx Y) ?_;rw[World.setRow_alloc_new])
  | fail)
 generalize w6.alloc (.cells (za Y).toArray 23)=W6 at *
 generalize w6.heap.size=b16 at *
 have hb:=R1.out.1;have h7:=R1.out.2.1;have h9:=R1.out.2.2;have hq:=Un hYH HVV.out.2.2;clear R1 hYH;by_cases hYr:Y=root
 ·have FN:Aside (V=0):=HVV.out.2.1 hYr
  rw[decide_eq_true hYr] at hq;clear HVV hYr
  go_wp2_with (first
   | (refine ye (by rfl) 23 (.tmp 16) rfl 32 5 b16 rfl 23 (za Y).toArray (0,0) h9 Tryz.underlying23 (zd y32) ?_)
   | (refine ye (by rfl) 23 (.tmp 7) rfl 32 5 b7 rfl 23 (za root).toArray (0,0) h7 Tryz.underlying23 (zd r32) ?_)
   | fail)
  go_ret;exact⟨by rw[FN.out];rfl,hb⟩
 ·have FN:Aside (V=80):=HVV.out.1 hYr
  rw[decide_eq_false hYr] at hq;clear HVV hYr
  go_wp2_with (first
   | (refine ye (by rfl) 23 (.tmp 16) rfl 32 5 b16 rfl 23 (za Y).toArray (0,0) h9 Tryz.underlying23 (zd y32) ?_)
   | (refine ye (by rfl) 23 (.tmp 7) rfl 32 5 b7 rfl 23 (za root).toArray (0,0) h7 Tryz.underlying23 (zd r32) ?_)
   | fail)
  go_ret;exact⟨by rw[FN.out];rfl,hb⟩
def zJ(l r:List Int):List Nat:=1 :: (NATS l ++ NATS r)
def zO(l r:List Int):List Nat:=2 :: (NATS l ++ NATS r)
def yb(n:Nat)(r:List Int):List Nat:=3 :: (HX.BE8 n ++ NATS r)
def HSHT(d:Int)(t:List Nat):List Int:=LST (HX.zu d t)
theorem jI(d:Int)(t:List Nat):IsH (HSHT d t):=Ya fun i=>HX.qL d _ _ i
def INJ(d:Int)(T:List (List Nat)):Prop:=∀ s∈T,∀ t∈T,HSHT d s=HSHT d t->s=t
theorem Zd(h:List Int):(NATS h).length=32:=by simp[NATS]
theorem jC{h k:List Int}(hh:IsH h)(hk:IsH k)(e:NATS h=NATS k):h=k:=by
 apply List.ext_getElem (by rw[hh.1,hk.1]);intro i h1 h2;have e2:(NATS h)[i]?=(NATS k)[i]?:=by rw[e]
 have hi:i<32:=by rw[<-hh.1];exact h1
 simp only[NATS,List.getElem?_map,List.getElem?_range hi,Option.map_some,Option.some.injEq,FNC] at e2;rw[List.getD_eq_getElem?_getD,List.getD_eq_getElem?_getD,List.getElem?_eq_getElem h1,List.getElem?_eq_getElem h2,Option.getD_some,Option.getD_some] at e2;have a:=hh.2 _ (List.getElem_mem h1);have b:=hk.2 _ (List.getElem_mem h2);omega
theorem mX{l r l' r':List Int}(hl:IsH l)(hr:IsH r)(hl':IsH l')(hr':IsH r')(e:NATS l ++ NATS r=NATS l' ++ NATS r'):l=l'/\r=r':=by
 obtain⟨a,b⟩:=List.append_inj e (by rw[Zd,Zd]);exact⟨jC hl hl' a,jC hr hr' b⟩
theorem z0C{d:Int}{T:List (List Nat)}(hT:INJ d T){l r l' r':List Int}(hl:IsH l)(hr:IsH r)(hl':IsH l')(hr':IsH r')(h1:zO l r∈T)(h2:zO l' r'∈T)(e:zW d l r=zW d l' r'):l=l'/\r=r':=by
 have:=hT _ h1 _ h2 e;unfold zO at this;exact mX hl hr hl' hr' (List.cons.inj this).2
theorem z0D{d:Int}{T:List (List Nat)}(hT:INJ d T){n:Nat}{r r':List Int}(hr:IsH r)(hr':IsH r')(h1:yb n r∈T)(h2:yb n r'∈T)(e:zy d n r=zy d n r'):r=r':=by
 have:=hT _ h1 _ h2 e;unfold yb at this;exact jC hr hr' (List.append_cancel_left (List.cons.inj this).2)
def BAGS(d:Int)(n k:Nat)(l:List Int)(T:List (List Nat)):Prop:=(∀ q,q+1<k->zO (HSH l (k - 2 - q)) (FA d l k q)∈T)/\yb n (FLD d l k)∈T
theorem BAGS.mono{d:Int}{n k:Nat}{l:List Int}{T T':List (List Nat)}(h:BAGS d n k l T)(hs:∀ t∈T,t∈T'):BAGS d n k l T':=⟨fun q hq=>hs _ (h.1 q hq),hs _ h.2⟩
theorem z1S{d:Int}{n k:Nat}{l l':List Int}{T:List (List Nat)}(hT:INJ d T)(hl:l.length=32*k)(hr:∀ x∈l,0<=x/\x<=255)(hl':l'.length=32*k)(hr':∀ x∈l',0<=x/\x<=255)(h1:BAGS d n k l T)(h2:BAGS d n k l' T)(e:zy d n (FLD d l k)=zy d n (FLD d l' k)):l=l':=by
 have e1:=z0D hT (X5 hl hr) (X5 hl' hr') h1.2 h2.2 e;by_cases hk:k=0
 ·subst hk
  rw[List.length_eq_zero_iff.1 hl,List.length_eq_zero_iff.1 hl']
 ·unfold FLD at e1
  rw[if_neg hk,if_neg hk] at e1
  have step:∀ q,q+1<k->FA d l k (q+1)=FA d l' k (q+1)->HSH l (k - 2 - q)=HSH l' (k - 2 - q)/\FA d l k q=FA d l' k q:=fun q hq e2=>
   z0C hT (qd hl hr (by omega)) (ja hl hr (by omega) q) (qd hl' hr' (by omega)) (ja hl' hr' (by omega) q) (h1.1 q hq) (h2.1 q hq) e2
  have down:∀ j,j<=k - 1->FA d l k (k - 1 - j)=FA d l' k (k - 1 - j):=by
   intro j;induction j with
   | zero=>intro _;exact e1
   | succ j ih=>
     intro hj;have:=ih (by omega);rw[show k - 1 - j=(k - 1 - (j+1))+1 by omega] at this;exact(step _ (by omega) this).2
  refine XM hl hl' fun i hi=>?_;by_cases hi1:i=k - 1
  ·have:=down (k - 1) (Nat.le_refl _)
   rw[Nat.sub_self] at this;rw[hi1];exact this
  ·have:=down i (by omega)
   rw[show k - 1 - i=(k - 2 - i)+1 by omega] at this;have:=(step (k - 2 - i) (by omega) this).1;rw[show k - 2 - (k - 2 - i)=i by omega] at this;exact this
end Go.Proofs.YtobaogpomcocpaaGreatDoor
namespace Go.Proofs.YtobaogpomcocpaaGreatDoor
open Go.Maps
theorem uQ:(23:TypeId)<Tryz.prog.types.size:=of_decide_eq_true (by kernel_rfl)
theorem z0E:(match Tryz.prog.underlying 23 with | some (.array _ _) | some (.struct _)=>true | _=>false)=true:=by rw[Tryz.underlying23]
theorem lawH:Keyed Tryz.prog 23:=Keyed.of_law (deep_law_laid M8 (m:=2) (by omega) uQ (by kernel_rfl) z0E)
def HKL(h:List Int):Lit:=.string (keyBytes ((List.range 32).map fun i=>[Lit.int .u8 (h.getD i 0)]).flatten)
theorem Va{α β:Type}(f:α->Option β)(g:α->β):∀ l:List α,(∀ x∈l,f x=some (g x))->l.mapM f=some (l.map g)
 | [],_=>rfl
 | x :: l,h=>by
   rw[List.mapM_cons,h x (List.mem_cons_self ..),Va f g l (fun y hy=>h y (List.mem_cons_of_mem _ hy))];rfl
theorem jJ{h:List Int}(hh:IsH h):keyOf Tryz.prog 23 (.agg (za h).toArray)=some (HKL h):=by
 have c3:Tryz.prog.cellsOf 23=32:=by kernel_rfl
 have c1:Tryz.prog.cellsOf 5=1:=by kernel_rfl
 have ht:Tryz.prog.keyType 23=true:=by kernel_rfl
 have hl:(za h).length=32:=by simp[za,hh.1]
 have hf:(Value.agg (za h).toArray).formed Tryz.prog 23=true:=by simp[Value.formed,Tryz.underlying23,c3,hl]
 obtain⟨m,hm⟩:∃ m,Tryz.prog.types.size=m+1:=⟨Tryz.prog.types.size - 1,(Nat.succ_pred_eq_of_pos (Nat.lt_of_le_of_lt (Nat.zero_le _) uQ)).symm⟩
 unfold keyOf;simp only[Tryz.underlying23,ht,hf,hm];simp only[Bool.and_self,if_true,Program.keyLits,Tryz.underlying23,Value.cells,c1,c3,hl];rw[Va _ (fun i=>[Lit.int .u8 (h.getD i 0)]) (List.range 32)]
 ·rfl
 ·intro i hi
  have hi:i<32:=List.mem_range.1 hi
  have e:((za h).drop (i*1)).take 1=[.int .u8 (h.getD i 0)]:=by
   rw[Nat.mul_one];apply List.ext_getElem?;intro j;rw[List.getElem?_take];cases j with
   | zero=>
     simp only[Nat.zero_lt_one,if_true,List.getElem?_drop,Nat.add_zero,List.getElem?_cons_zero];unfold za;rw[List.getElem?_map,List.getD_eq_getElem?_getD,List.getElem?_eq_getElem (by rw[hh.1];exact hi)];rfl
   | succ j=>simp
  have hr:0<=h.getD i 0/\h.getD i 0<=255:=by
   rw[List.getD_eq_getElem?_getD,List.getElem?_eq_getElem (by rw[hh.1];exact hi)];exact hh.2 _ (List.getElem_mem _)
  have w0:(Lit.int .u8 (h.getD i 0)).wf=true:=WalkArith.wf_u8 (by omega);rw[e];simp only[Tryz.underlying5];rw[if_pos ⟨trivial,w0⟩]
theorem mY{h k:List Int}(e:za h=za k):h=k:=by
 unfold za at e;exact List.map_inj_right (f:=Value.int .u8) (fun x y hxy=>by simpa using hxy) |>.1 e
theorem uS{h k:List Int}(hh:IsH h)(hk:IsH k)(e:HKL h=HKL k):h=k:=by
 have h1:=jJ hh;have h2:=jJ hk;rw[<-e] at h2;have:=lawH.inj h1 h2;simp only[Value.agg.injEq] at this;exact mY (by simpa using this)
def OWNT(w:World)(base g c:Nat)(t:List Nat):Prop:=w.ownsRow base 5 1 (.slice (some ⟨g,0,none⟩) t.length c) t.length (HX.za (HX.INTS t))/\HX.Small8 t/\0<t.length/\t.length<=200
theorem OWNT.at{w w':World}{base g c:Nat}{t:List Nat}(h:OWNT w base g c t)(hg:w'.heap[g]?=w.heap[g]?):OWNT w' base g c t:=by
 refine⟨⟨h.1.1,h.1.2.imp id ?_⟩,h.2⟩;rintro⟨g2,c2,cur,e1,e2,e3,e4⟩;have:g2=g:=by cases e1;rfl
 subst this;exact⟨g2,c2,cur,e1,e2,hg.trans e3,e4⟩
theorem OWNT.lt{w:World}{base g c:Nat}{t:List Nat}(h:OWNT w base g c t):base<=g/\g<w.heap.size:=h.1.lt g rfl
theorem OWNT.cap{w:World}{base g c:Nat}{t:List Nat}(h:OWNT w base g c t):t.length<=c:=by
 rcases h.1.2 with ⟨e,_⟩ | ⟨g2,cap,cur,e,_,_,h2,_⟩
 ·cases e
 ·cases e;exact h2
theorem OWNT.text{w:World}{base g c:Nat}{t:List Nat}(h:OWNT w base g c t):HX.Text w (some ⟨g,0,none⟩) t.length t:=
 ⟨rfl,fun _=>⟨g,0,rfl,h.lt.2,fun i hi=>by
  rw[Nat.zero_add,h.1.cellAt i (by omega)];simp[HX.za,HX.INTS,List.getD_eq_getElem?_getD,hi]⟩,h.2.1⟩
structure STEPM (b g:Nat) (w w':World):Prop where
 os:w'.os=w.os
 tape:w'.tape=w.tape
 output:w'.output=w.output
 size:w.heap.size<=w'.heap.size
 block:∀ k,k<w.heap.size->k≠b->k≠g->w'.heap[k]?=w.heap[k]?
theorem STEPM.trans{b g:Nat}{w w' w'':World}(h:STEPM b g w w')(k:STEPM b g w' w''):STEPM b g w w'':=⟨k.os.trans h.os,k.tape.trans h.tape,k.output.trans h.output,Nat.le_trans h.size k.size,fun i h1 h2 h3=>(k.block i (Nat.lt_of_lt_of_le h1 h.size) h2 h3).trans (h.block i h1 h2 h3)⟩
theorem STEPM.of_below{b g:Nat}{w w':World}(h:Below w.heap.size w w'):STEPM b g w w':=⟨h.os,h.tape,h.output,h.size,fun k h1 _ _=>h.block k h1⟩
theorem STEPM.below{b g base:Nat}{w w':World}(h:STEPM b g w w')(h0:base<=w.heap.size)(h1:base<=b)(h2:base<=g):Below base w w':=⟨h.os,h.tape,h.output,h.size,fun k hk=>h.block k (by omega) (by omega) (by omega)⟩
theorem STEPM.grown{b g:Nat}{w w':World}(h:w.grownBy w' (some g)):STEPM b g w w':=⟨h.os,h.tape,h.output,h.size,fun k h1 _ h3=>h.block k h1 (fun e=>h3 (by simpa using e))⟩
theorem STEPM.setRow{b g:Nat}(w:World)(cs:Array Value):STEPM b g w (w.setRow b cs):=⟨rfl,rfl,rfl,by simp,fun k _ h2 _=>setRow_other w b k cs h2⟩
def FST(d:Int)(T:List (List Nat))(h:List Int):Option (List Nat):=T.reverse.find? fun s=>decide (HSHT d s=h)
def CLS(d:Int):List (List Nat)->Option (List Nat × List Nat)
 | []=>none
 | t :: T=>match FST d T (HSHT d t) with
   | none=>CLS d T
   | some s=>if s=t then CLS d T else some (s,t)
theorem ZL(d:Int)(t:List Nat)(T:List (List Nat))(h:List Int):FST d (t :: T) h=(FST d T h).or (if HSHT d t=h then some t else none):=by
 unfold FST;rw[List.reverse_cons,List.find?_append];congr 1
 by_cases e:HSHT d t=h <;> simp[e]
theorem Xr{d:Int}{T:List (List Nat)}{h:List Int}{s:List Nat}(e:FST d T h=some s):s∈T/\HSHT d s=h:=by
 unfold FST at e;exact⟨List.mem_reverse.1 (List.mem_of_find?_eq_some e),by simpa using List.find?_some e⟩
theorem z0F{d:Int}{T:List (List Nat)}{h:List Int}(e:FST d T h=none):∀ s∈T,HSHT d s≠h:=fun s hs=>by
 unfold FST at e;simpa using List.find?_eq_none.1 e s (List.mem_reverse.2 hs)
theorem V3{d:Int}:∀ {T:List (List Nat)} {s t:List Nat},CLS d T=some (s,t)->s≠t/\HSHT d s=HSHT d t/\s∈T/\t∈T
 | [],s,t,e=>by simp[CLS] at e
 | x :: T,s,t,e=>by
   have rcc:CLS d T=some (s,t)->s≠t/\HSHT d s=HSHT d t/\s∈x :: T/\t∈x :: T:=fun e=>by
     obtain⟨a,b,c1,c2⟩:=V3 e;exact⟨a,b,List.mem_cons_of_mem _ c1,List.mem_cons_of_mem _ c2⟩
   rw[CLS] at e;cases hf:FST d T (HSHT d x) with
   | none=>rw[hf] at e;exact rcc e
   | some y=>
     rw[hf] at e;dsimp only at e;by_cases hy:y=x
     ·rw[if_pos hy] at e;exact rcc e
     ·rw[if_neg hy] at e
      simp only[Option.some.injEq,Prod.mk.injEq] at e;obtain⟨rfl,rfl⟩:=e;exact⟨hy,(Xr hf).2,List.mem_cons_of_mem _ (Xr hf).1,List.mem_cons_self ..⟩
theorem INJ.new{d:Int}{T:List (List Nat)}{t:List Nat}(h:INJ d T)(hn:∀ s∈T,HSHT d s≠HSHT d t):INJ d (t :: T):=by
 intro a ha b hb e;rcases List.mem_cons.1 ha with ea | ha1
 ·rcases List.mem_cons.1 hb with eb | hb1
  ·rw[ea,eb]
  ·rw[ea] at e
   exact absurd e.symm (hn b hb1)
 ·rcases List.mem_cons.1 hb with eb | hb1
  ·rw[eb] at e
   exact absurd e (hn a ha1)
  ·exact h a ha1 b hb1 e
theorem INJ.again{d:Int}{T:List (List Nat)}{t:List Nat}(h:INJ d T)(ht:t∈T):INJ d (t :: T):=by
 have sub:∀ a∈t :: T,a∈T:=fun a ha=>by
  rcases List.mem_cons.1 ha with rfl | ha
  ·exact ht
  ·exact ha
 exact fun a ha b hb e=>h a (sub a ha) b (sub b hb) e
theorem Xs{d:Int}:∀ {T:List (List Nat)},CLS d T=none->INJ d T
 | [],_=>fun _ h=>by simp at h
 | x :: T,e=>by
   rw[CLS] at e;cases hf:FST d T (HSHT d x) with
   | none=>rw[hf] at e;exact(Xs e).new (z0F hf)
   | some y=>
     rw[hf] at e;dsimp only at e;by_cases hy:y=x
     ·rw[if_pos hy] at e;exact(Xs e).again (hy ▸ (Xr hf).1)
     ·rw[if_neg hy] at e;cases e
def TOLDT(w:World)(base top:Nat)(ok:Nat->Prop)(b g:Nat)(A B:Value)(s t:List Nat):Prop:=∃ gA cA gB cB,A=.slice (some ⟨gA,0,none⟩) s.length cA/\B=.slice (some ⟨gB,0,none⟩) t.length cB/\OWNT w base gA cA s/\OWNT w base gB cB t/\gA≠gB/\(gA<top/\ok gA)/\(gB<top/\ok gB)/\gA≠b/\gA≠g/\gB≠b/\gB≠g
theorem TOLDT.at{w w':World}{base top b g:Nat}{ok:Nat->Prop}{A B:Value}{s t:List Nat}(h:TOLDT w base top ok b g A B s t){top':Nat}(ht:top<=top')(hk:∀ k,k<top->k≠b->k≠g->w'.heap[k]?=w.heap[k]?):TOLDT w' base top' ok b g A B s t:=by
 obtain⟨gA,cA,gB,cB,e1,e2,o1,o2,n1,l1,l2,m1,m2,m3,m4⟩:=h;exact⟨gA,cA,gB,cB,e1,e2,o1.at (hk _ l1.1 m1 m2),o2.at (hk _ l2.1 m3 m4),n1,⟨by omega,l1.2⟩,⟨by omega,l2.2⟩,m1,m2,m3,m4⟩
structure METC (w:World) (base top:Nat) (ok:Nat->Prop) (b g:Nat) (d:Int) (T:List (List Nat)):Prop where
 hb:base<=b/\b<top
 hg:base<=g/\g<top
 ne:b≠g
 htop:top<=w.heap.size
 blk:∃ a1 n1 c1 a2 n2 c2,Has w b #[.int .i64 d,.map (some g),.slice a1 n1 c1,.slice a2 n2 c2,.bool (CLS d T).isSome] 88/\∀ s t,CLS d T=some (s,t)->TOLDT w base top ok b g (.slice a1 n1 c1) (.slice a2 n2 c2) s t
 map:∃ D:DataW Value,w.ownsMap Tryz.prog 23 RV g T.length D/\(∀ h,IsH h->FST d T h=none->Maps.has D (HKL h)=false)/\∀ h t,IsH h->FST d T h=some t->Maps.has D (HKL h)=true/\∃ gt c,D.atKey (HKL h) (.held (.slice none 0 0))=.held (.slice (some ⟨gt,0,none⟩) t.length c)/\OWNT w base gt c t/\(gt<top/\ok gt)/\gt≠b/\gt≠g
theorem OWNT.cells{w:World}{base g c:Nat}{t:List Nat}(h:OWNT w base g c t):∃ o:Obj,w.heap[g]?=some o/\o.isCells=true:=by
 rcases h.1.2 with ⟨e,_⟩ | ⟨g2,cap,cur,e,_,e3,_⟩
 ·cases e
 ·cases e;exact⟨_,e3,rfl⟩
theorem METC.keepc{w w':World}{base top b g:Nat}{ok:Nat->Prop}{d:Int}{T:List (List Nat)}(h:METC w base top ok b g d T)(hk:∀ k,k<top->(k=b\/k=g\/ok k/\∃ o:Obj,w.heap[k]?=some o/\o.isCells=true)->w'.heap[k]?=w.heap[k]?){top':Nat}(ht:top<=top')(hs:top'<=w'.heap.size):METC w' base top' ok b g d T:=by
 obtain⟨a1,n1,c1,a2,n2,c2,h1,h2⟩:=h.blk;obtain⟨D,m1,m2,m3⟩:=h.map;refine⟨⟨h.hb.1,by have:=h.hb.2;omega⟩,⟨h.hg.1,by have:=h.hg.2;omega⟩,h.ne,hs,⟨a1,n1,c1,a2,n2,c2,(hk b h.hb.2 (.inl rfl)).trans h1,fun s t e=>?_⟩,D,?_,m2,fun x t hx e=>?_⟩
 ·obtain⟨gA,cA,gB,cB,e1,e2,o1,o2,n1,l1,l2,m1,m2,m3,m4⟩:=h2 s t e
  exact⟨gA,cA,gB,cB,e1,e2,o1.at (hk _ l1.1 (.inr (.inr ⟨l1.2,o1.cells⟩))),o2.at (hk _ l2.1 (.inr (.inr ⟨l2.2,o2.cells⟩))),n1,⟨by omega,l1.2⟩,⟨by omega,l2.2⟩,m1,m2,m3,m4⟩
 ·obtain⟨es,clock,a1,r⟩:=m1
  exact⟨es,clock,(hk g h.hg.2 (.inr (.inl rfl))).trans a1,r⟩
 ·obtain⟨a0,gt,c,a3,a4,a5,a6,a7⟩:=m3 x t hx e
  exact⟨a0,gt,c,a3,a4.at (hk _ a5.1 (.inr (.inr ⟨a5.2,a4.cells⟩))),⟨by omega,a5.2⟩,a6,a7⟩
theorem METC.sub{w:World}{base top b g:Nat}{ok ok':Nat->Prop}{d:Int}{T:List (List Nat)}(h:METC w base top ok b g d T)(hk:∀ k,k<top->ok k->ok' k):METC w base top ok' b g d T:=by
 obtain⟨a1,n1,c1,a2,n2,c2,h1,h2⟩:=h.blk;obtain⟨D,m1,m2,m3⟩:=h.map;refine⟨h.hb,h.hg,h.ne,h.htop,⟨a1,n1,c1,a2,n2,c2,h1,fun s t e=>?_⟩,D,m1,m2,fun x t hx e=>?_⟩
 ·obtain⟨gA,cA,gB,cB,e1,e2,o1,o2,n1,l1,l2,r⟩:=h2 s t e
  exact⟨gA,cA,gB,cB,e1,e2,o1,o2,n1,⟨l1.1,hk _ l1.1 l1.2⟩,⟨l2.1,hk _ l2.1 l2.2⟩,r⟩
 ·obtain⟨a0,gt,c,a3,a4,a5,r⟩:=m3 x t hx e
  exact⟨a0,gt,c,a3,a4,⟨a5.1,hk _ a5.1 a5.2⟩,r⟩
theorem METC.keep{w w':World}{base top b g:Nat}{ok:Nat->Prop}{d:Int}{T:List (List Nat)}(h:METC w base top ok b g d T)(hk:∀ k,k<top->w'.heap[k]?=w.heap[k]?){top':Nat}(ht:top<=top')(hs:top'<=w'.heap.size):METC w' base top' ok b g d T:=h.keepc (fun k a _=>hk k a) ht hs
theorem METC.below{w w':World}{base top b g:Nat}{ok:Nat->Prop}{d:Int}{T:List (List Nat)}(h:METC w base top ok b g d T)(hb:Below w.heap.size w w'):METC w' base top ok b g d T:=h.keep (fun k hk=>hb.block k (Nat.lt_of_lt_of_le hk h.htop)) (Nat.le_refl _) (Nat.le_trans h.htop hb.size)
theorem z0G(w:World):(zeroValue 27).run Tryz.prog w=.ok (.slice none 0 0) w:=by kernel_rfl
theorem METC.look{w:World}{base top b g:Nat}{ok:Nat->Prop}{d:Int}{T:List (List Nat)}(h:METC w base top ok b g d T){x:List Int}(hx:IsH x):
   (∃ gt c t,FST d T x=some t/\OWNT w base gt c t/\(gt<top/\ok gt)/\gt≠b/\gt≠g/\(Instr.lookup 86 (.map (some g)) (.agg (za x).toArray) true).run Tryz.prog w=.ok (.tuple #[.slice (some ⟨gt,0,none⟩) t.length c,.bool true]) w)\/
   (FST d T x=none/\∃ v,(Instr.lookup 86 (.map (some g)) (.agg (za x).toArray) true).run Tryz.prog w=.ok (.tuple #[v,.bool false]) w):=by
 obtain⟨D,m1,m2,m3⟩:=h.map;obtain⟨v,ps,r1,r2⟩:=m1.look_ok lawH Tryz.underlying86 (z0G w) (show RV (.slice none 0 0)=some (.held (.slice none 0 0),[]) from rfl) (jJ hx);cases e:FST d T x with
 | some t=>
   obtain⟨a0,gt,c,a3,a4,a5,a6,a7⟩:=m3 x t hx e;refine .inl ⟨gt,c,t,rfl,a4,a5,a6,a7,?_⟩;rw[a3] at r2;simp only[RV,Option.some.injEq,Prod.mk.injEq,DataW.held.injEq] at r2;rw[r1,a0,r2.1]
 | none=>
   refine .inr ⟨rfl,v,?_⟩;rw[r1,m2 x hx e]
theorem METC.store{w:World}{base top b g:Nat}{ok:Nat->Prop}{d:Int}{T:List (List Nat)}(h:METC w base top ok b g d T)(hT:T.length<=100000){gt c:Nat}{t:List Nat}(ht:OWNT w base gt c t)(htop:top<=gt)(hok:ok gt)(hn:FST d T (HSHT d t)=none){top':Nat}(hgt':gt<top')(hs':top'<=w.heap.size):∃ w',(Instr.mapUpdate 86 (.map (some g)) (.agg (za (HSHT d t)).toArray) (.slice (some ⟨gt,0,none⟩) t.length c)).run Tryz.prog w=.ok () w'/\METC w' base top' ok b g d (t :: T)/\STEPM b g w w'/\∀ k,k<w.heap.size->k≠g->w'.heap[k]?=w.heap[k]?:=by
 obtain⟨a1,n1,c1,a2,n2,c2,h1,h2⟩:=h.blk;obtain⟨D,m1,m2,m3⟩:=h.map;obtain⟨w',r1,r2,r3⟩:=m1.update lawH Tryz.underlying86 (by unfold maxLen;omega) (jJ (jI d t)) (show RV (.slice (some ⟨gt,0,none⟩) t.length c)=some (.held (.slice (some ⟨gt,0,none⟩) t.length c),[]) from rfl);have hgt:=ht.lt;have hk:∀ k,k<w.heap.size->k≠g->w'.heap[k]?=w.heap[k]?:=fun k hk hne=>r3.block k hk (fun e=>hne (by simpa using e));have hsz:=r3.size;have htp:=h.htop;have b1:=h.hb;have g1:=h.hg;have hkey:WideAt.IsKeyLit (HKL (HSHT d t)):=lawH.key (jJ (jI d t));have ec:CLS d (t :: T)=CLS d T:=by rw[CLS,hn]
 refine⟨w',r1,⟨⟨b1.1,by omega⟩,⟨g1.1,by omega⟩,h.ne,by omega,⟨a1,n1,c1,a2,n2,c2,by rw[ec];exact(hk b (by omega) h.ne).trans h1,fun s x e=>(h2 s x (by rw[<-ec];exact e)).at (by omega) (fun k a1 _ a3=>hk k (by omega) a3)⟩,_,r2,fun x hx e=>?_,fun x s hx e=>?_⟩,STEPM.grown r3,hk⟩
 ·rw[ZL] at e
  simp only[Option.or_eq_none_iff] at e
  have e2:HKL x≠HKL (HSHT d t):=fun e2=>by
   have:=uS hx (jI d t) e2;rw[if_pos this.symm] at e;cases e.2
  rw[Maps.has_put_other e2];exact m2 x hx e.1
 ·by_cases e2:HKL x=HKL (HSHT d t)
  ·have:=uS hx (jI d t) e2
   subst this;rw[ZL,hn,if_pos rfl] at e;simp only[Option.none_or,Option.some.injEq] at e;subst e;exact⟨Maps.has_put_same m1.isMap hkey _,gt,c,Maps.atKey_put_same m1.isMap hkey _ _,ht.at (hk _ (by omega) (by omega)),⟨by omega,hok⟩,by omega,by omega⟩
  ·rw[ZL,if_neg (fun e3=>e2 (by rw[e3])),Option.or_none] at e
   obtain⟨a0,gs,cs,a3,a4,a5,a6,a7⟩:=m3 x s hx e;exact⟨by rw[Maps.has_put_other e2];exact a0,gs,cs,by rw[Maps.atKey_put_other e2];exact a3,a4.at (hk _ (by omega) (by omega)),⟨by omega,a5.2⟩,a6,a7⟩
theorem Zu{d:Int}{T:List (List Nat)}{s t:List Nat}(hs:FST d T (HSHT d t)=some s)(x:List Int):FST d (t :: T) x=FST d T x:=by
 rw[ZL];by_cases e:HSHT d t=x
 ·rw[<-e,hs];rfl
 ·rw[if_neg e,Option.or_none]
theorem METC.again{w:World}{base top b g:Nat}{ok:Nat->Prop}{d:Int}{T:List (List Nat)}(h:METC w base top ok b g d T){t:List Nat}(ht:FST d T (HSHT d t)=some t){top':Nat}(ht':top<=top')(hs':top'<=w.heap.size):METC w base top' ok b g d (t :: T):=by
 have h:=h.keep (w':=w) (fun _ _=>rfl) ht' hs';obtain⟨a1,n1,c1,a2,n2,c2,h1,h2⟩:=h.blk;obtain⟨D,m1,m2,m3⟩:=h.map;have ec:CLS d (t :: T)=CLS d T:=by rw[CLS,ht];exact if_pos rfl
 refine⟨h.hb,h.hg,h.ne,h.htop,⟨a1,n1,c1,a2,n2,c2,by rw[ec];exact h1,fun s x e=>h2 s x (by rw[<-ec];exact e)⟩,D,m1.mono (by simp),fun x hx e=>?_,fun x s hx e=>?_⟩
 ·rw[Zu ht] at e
  exact m2 x hx e
 ·rw[Zu ht] at e
  exact m3 x s hx e
theorem METC.found{w:World}{base top b g:Nat}{ok:Nat->Prop}{d:Int}{T:List (List Nat)}(h:METC w base top ok b g d T){gs cs gt ct:Nat}{s t:List Nat}(hs:OWNT w base gs cs s)(ht:OWNT w base gt ct t)(hst:s≠t)(he:FST d T (HSHT d t)=some s)(l1:gs<top/\ok gs)(n1:gs≠b)(n2:gs≠g)(l2:top<=gt)(hok:ok gt){top':Nat}(hgt':gt<top')(hs':top'<=w.heap.size):METC (w.setRow b #[.int .i64 d,.map (some g),.slice (some ⟨gs,0,none⟩) s.length cs,.slice (some ⟨gt,0,none⟩) t.length ct,.bool true]) base top' ok b g d (t :: T):=by
 have htp:=h.htop;have b1:=h.hb;have g1:=h.hg;have hgt:=ht.lt;obtain⟨_,_,_,_,_,_,h1, -⟩:=h.blk;obtain⟨D,m1,m2,m3⟩:=h.map;have ec:CLS d (t :: T)=some (s,t):=by rw[CLS,he];exact if_neg hst
 have hk:∀ k,k≠b->(w.setRow b #[.int .i64 d,.map (some g),.slice (some ⟨gs,0,none⟩) s.length cs,.slice (some ⟨gt,0,none⟩) t.length ct,.bool true]).heap[k]?=w.heap[k]?:=fun k hne=>setRow_other w b k _ hne;refine⟨⟨b1.1,by omega⟩,⟨g1.1,by omega⟩,h.ne,by simpa using hs',⟨_,_,_,_,_,_,by rw[ec];exact Has.row h1 _,fun s' t' e=>?_⟩,D,?_,fun x hx e=>?_,fun x y hx e=>?_⟩
 ·rw[ec] at e
  simp only[Option.some.injEq,Prod.mk.injEq] at e;obtain⟨rfl,rfl⟩:=e;exact⟨gs,cs,gt,ct,rfl,rfl,hs.at (hk _ n1),ht.at (hk _ (by omega)),by omega,⟨by omega,l1.2⟩,⟨by omega,hok⟩,n1,n2,by omega,by omega⟩
 ·obtain⟨es,clock,a1,a2,a3,r⟩:=m1
  exact⟨es,clock,(hk g h.ne.symm).trans a1,a2,by simp;omega,r⟩
 ·rw[Zu he] at e
  exact m2 x hx e
 ·rw[Zu he] at e
  obtain⟨a0,gx,cx,a3,a4,a5,a6,a7⟩:=m3 x y hx e;exact⟨a0,gx,cx,a3,a4.at (hk _ a6),⟨by omega,a5.2⟩,a6,a7⟩
end Go.Proofs.YtobaogpomcocpaaGreatDoor
namespace Go.Proofs.YtobaogpomcocpaaGreatDoor
@[go_sem] def CT2OPSq0:Oper:=⟨some 16,.move (.tmp 0),83,"met.go:31",#[],none⟩
@[go_sem] def CT2OPSq1:Oper:=⟨some 17,.nilCheck (.tmp 16),0,"met.go:31",#[⟨0,.data⟩],none⟩
@[go_sem] def CT2OPSq2:Oper:=⟨some 18,.fieldAddr 88 (.tmp 17) 1,0,"met.go:31",#[⟨1,.data⟩],none⟩
@[go_sem] def CT2OPSq3:Oper:=⟨some 19,.load 86 (.tmp 18),86,"met.go:31",#[⟨2,.data⟩],none⟩
@[go_sem] def CT2OPSq4:Oper:=⟨some 20,.load 23 (.tmp 5),23,"met.go:31",#[],none⟩
@[go_sem] def CT2OPSq5:Oper:=⟨some 21,.lookup 86 (.tmp 19) (.tmp 20) true,152,"met.go:31",#[⟨3,.data⟩,⟨4,.data⟩],none⟩
@[go_sem] def CT2OPSq6:Oper:=⟨some 15,.move (.tmp 21),152,"met.go:31",#[⟨5,.data⟩],none⟩
@[go_sem] def CT2OPSq7:Oper:=⟨some 22,.extract (.tmp 15) 0,27,"met.go:31",#[⟨6,.data⟩],none⟩
@[go_sem] def CT2OPSq8:Oper:=⟨some 23,.extract (.tmp 15) 1,4,"met.go:31",#[⟨6,.data⟩,{on:=9,ground:=.gcOnly Departure.lateStores}],none⟩
@[go_sem] def CT2OPSq9:Oper:=⟨some 6,.assign (.tmp 22),27,"met.go:31",#[⟨7,.data⟩,⟨0,.phase⟩,⟨1,.phase⟩,⟨2,.phase⟩,⟨3,.phase⟩,⟨4,.phase⟩,⟨5,.phase⟩,⟨6,.phase⟩,⟨7,.phase⟩,{on:=8,ground:=.textOnly Departure.lateStores}],none⟩
@[go_sem] def CT2OPSq10:Oper:=⟨some 7,.assign (.tmp 23),4,"met.go:31",#[⟨8,.data⟩,⟨9,.chain⟩,⟨0,.phase⟩,⟨1,.phase⟩,⟨2,.phase⟩,⟨3,.phase⟩,⟨4,.phase⟩,⟨5,.phase⟩,⟨6,.phase⟩,⟨7,.phase⟩,⟨8,.phase⟩,⟨9,.phase⟩],none⟩
def X7:Array Oper:=#[CT2OPSq0,CT2OPSq1,CT2OPSq2,CT2OPSq3,CT2OPSq4,CT2OPSq5,CT2OPSq6,CT2OPSq7,CT2OPSq8,CT2OPSq9,CT2OPSq10]
theorem Ur{Q:Exit->Act->World->Prop}{d e f i j k l m p q r s u x y A B C D E F G I K L M N O P R T U V X Y Z aa ab ac ad ae af ag:Value}(W:World)(b g bh n c:Nat)(a:Option Addr)(H:List Int)(lH:H.length=32)(v:Value)(o:Bool)(J:World->Prop)(h0:J W.drew)(hS:∀ w,J w->(fun w:World=>w.cell? ⟨b,1,none⟩=some (.map (some g))/\w.rangeAt bh 0 (za H)/\(Instr.lookup 86 (.map (some g)) (.agg (za H).toArray) true).run Tryz.prog w=.ok (.tuple #[v,.bool o]) w) w)(hQ:∀ c (a:Act) (t:Tmp) (v:Value) w,Q (.panic c) (a.put (some t) v) w->Q (.panic c) a w)
  (hfin:∀ (w:World),(J w)->Q .normal ⟨#[.pointer (some ⟨b,0,none⟩),.slice a n c,d,e,f,.pointer (some ⟨bh,0,none⟩),v,.bool o,k,l,m,p,q,r,s,.tuple #[v,.bool o],.pointer (some ⟨b,0,none⟩),.pointer (some ⟨b,0,none⟩),.pointer (some ⟨b,1,none⟩),.map (some g),.agg (za H).toArray,.tuple #[v,.bool o],v,.bool o,G,I,K,L,M,N,O,P,R,T,U,V,X,Y,Z,aa,ab,ac,ad,ae,af,ag],[]⟩ w):(Code.region 2 X7 true).wp Tryz.prog Q ⟨#[.pointer (some ⟨b,0,none⟩),.slice a n c,d,e,f,.pointer (some ⟨bh,0,none⟩),i,j,k,l,m,p,q,r,s,u,x,y,A,B,C,D,E,F,G,I,K,L,M,N,O,P,R,T,U,V,X,Y,Z,aa,ab,ac,ad,ae,af,ag],[]⟩ W:=by
 have kst:∀ (w:World),(J w)->wpAnyH Tryz.prog .any X7 Q (fun w:World=>w.cell? ⟨b,1,none⟩=some (.map (some g))/\w.rangeAt bh 0 (za H)/\(Instr.lookup 86 (.map (some g)) (.agg (za H).toArray) true).run Tryz.prog w=.ok (.tuple #[v,.bool o]) w) 0 #[tt,tt,tt,tt,tt,tt,tt,tt,tt,tt,tt] ⟨#[.pointer (some ⟨b,0,none⟩),.slice a n c,d,e,f,.pointer (some ⟨bh,0,none⟩),v,.bool o,k,l,m,p,q,r,s,.tuple #[v,.bool o],.pointer (some ⟨b,0,none⟩),.pointer (some ⟨b,0,none⟩),.pointer (some ⟨b,1,none⟩),.map (some g),.agg (za H).toArray,.tuple #[v,.bool o],v,.bool o,G,I,K,L,M,N,O,P,R,T,U,V,X,Y,Z,aa,ab,ac,ad,ae,af,ag],[]⟩ w:=fun  w hp=>by
  exact wpAnyH_done (by kernel_rfl) (hfin  w hp) _
 have hp:=h0;have hww:(fun w:World=>w.cell? ⟨b,1,none⟩=some (.map (some g))/\w.rangeAt bh 0 (za H)/\(Instr.lookup 86 (.map (some g)) (.agg (za H).toArray) true).run Tryz.prog w=.ok (.tuple #[v,.bool o]) w) W.drew:=hS _ hp;have last:=kst W.drew hp
 have z:wpAnyH Tryz.prog .any X7 Q (fun w:World=>w.cell? ⟨b,1,none⟩=some (.map (some g))/\w.rangeAt bh 0 (za H)/\(Instr.lookup 86 (.map (some g)) (.agg (za H).toArray) true).run Tryz.prog w=.ok (.tuple #[v,.bool o]) w) 11 #[ff,ff,ff,ff,ff,ff,ff,ff,ff,ff,ff] ⟨#[.pointer (some ⟨b,0,none⟩),.slice a n c,d,e,f,.pointer (some ⟨bh,0,none⟩),i,j,k,l,m,p,q,r,s,u,x,y,A,B,C,D,E,F,G,I,K,L,M,N,O,P,R,T,U,V,X,Y,Z,aa,ab,ac,ad,ae,af,ag],[]⟩ W.drew:=by
  refine tkP CT2OPSq0 (.pointer (some ⟨b,0,none⟩)) 0 hQ hww ?_;simp only[List.set];refine tkP CT2OPSq1 (.pointer (some ⟨b,0,none⟩)) 1 hQ hww ?_;simp only[List.set];refine tkP CT2OPSq2 (.pointer (some ⟨b,1,none⟩)) 2 hQ hww ?_;simp only[List.set];refine tkH CT2OPSq3 (.map (some g)) 3 hQ (Or.inl ⟨by rfl,fun w hw=>by have hx:=hw.1;go_simp⟩) hww ?_;simp only[List.set];refine tkH CT2OPSq4 (.agg (za H).toArray) 4 hQ (yieldsIf_load_mid (by rfl) 23 (.tmp 5) rfl bh 0 rfl (za H) _ (fun w h=>h.2.1) Tryz.underlying23 rfl (zo lH)) hww ?_;simp only[List.set];refine tkH CT2OPSq5 (.tuple #[v,.bool o]) 5 hQ (Or.inl ⟨by rfl,fun w hw=>by have hx:=hw.2.2;go_simp⟩) hww ?_;simp only[List.set];refine tkP CT2OPSq6 (.tuple #[v,.bool o]) 6 hQ hww ?_;simp only[List.set];refine tkP CT2OPSq7 v 7 hQ hww ?_;simp only[List.set];refine tkP CT2OPSq8 (.bool o) 8 hQ hww ?_;simp only[List.set];refine tkP CT2OPSq9 v 9 hQ hww ?_;simp only[List.set];refine tkP CT2OPSq10 (.bool o) 10 hQ hww ?_;simp only[List.set];exact last
 exact wp_region_held_drew (S:=(fun w:World=>w.cell? ⟨b,1,none⟩=some (.map (some g))/\w.rangeAt bh 0 (za H)/\(Instr.lookup 86 (.map (some g)) (.agg (za H).toArray) true).run Tryz.prog w=.ok (.tuple #[v,.bool o]) w)) (by kernel_rfl) hww (fun _=>z)
@[go_sem] def CT4OPSq0:Oper:=⟨some 26,.move (.tmp 0),83,"met.go:33",#[],none⟩
@[go_sem] def CT4OPSq1:Oper:=⟨some 27,.nilCheck (.tmp 26),0,"met.go:33",#[⟨0,.data⟩],none⟩
@[go_sem] def CT4OPSq2:Oper:=⟨some 28,.fieldAddr 88 (.tmp 27) 1,0,"met.go:33",#[⟨1,.data⟩],none⟩
@[go_sem] def CT4OPSq3:Oper:=⟨some 29,.load 86 (.tmp 28),86,"met.go:33",#[⟨2,.data⟩],none⟩
@[go_sem] def CT4OPSq4:Oper:=⟨some 30,.load 23 (.tmp 5),23,"met.go:33",#[],none⟩
@[go_sem] def CT4OPSq5:Oper:=⟨some 31,.move (.tmp 1),27,"met.go:33",#[],none⟩
@[go_sem] def CT4OPSq6:Oper:=⟨none,.mapUpdate 86 (.tmp 29) (.tmp 30) (.tmp 31),0,"met.go:33",#[⟨3,.data⟩,⟨4,.data⟩,⟨5,.data⟩,⟨0,.phase⟩,⟨1,.phase⟩,⟨2,.phase⟩,⟨3,.phase⟩,⟨4,.phase⟩,⟨5,.phase⟩],none⟩
def Yh:Array Oper:=#[CT4OPSq0,CT4OPSq1,CT4OPSq2,CT4OPSq3,CT4OPSq4,CT4OPSq5,CT4OPSq6]
theorem z2W{Q:Exit->Act->World->Prop}{d e f i j k l m p q r s u x y A B C D E F G I K L M N O P R T U V X Y Z aa ab ac ad ae af ag:Value}(W:World)(b g bh n c:Nat)(a:Option Addr)(H:List Int)(lH:H.length=32)(J J':World->Prop)(h0:J W.drew)(hS:∀ w,J w->(fun w:World=>w.cell? ⟨b,1,none⟩=some (.map (some g))/\w.rangeAt bh 0 (za H)) w)(hS':∀ w,J' w->(fun w:World=>w.cell? ⟨b,1,none⟩=some (.map (some g))/\w.rangeAt bh 0 (za H)) w)(hU:∀ w,J w->∃ w',(Instr.mapUpdate 86 (.map (some g)) (.agg (za H).toArray) (.slice a n c)).run Tryz.prog w=.ok () w'/\J' w')(hQ:∀ c (a:Act) (t:Tmp) (v:Value) w,Q (.panic c) (a.put (some t) v) w->Q (.panic c) a w)
  (hfin:∀ (w:World),(J' w)->Q .normal ⟨#[.pointer (some ⟨b,0,none⟩),.slice a n c,d,e,f,.pointer (some ⟨bh,0,none⟩),i,j,k,l,m,p,q,r,s,u,x,y,A,B,C,D,E,F,G,I,.pointer (some ⟨b,0,none⟩),.pointer (some ⟨b,0,none⟩),.pointer (some ⟨b,1,none⟩),.map (some g),.agg (za H).toArray,.slice a n c,R,T,U,V,X,Y,Z,aa,ab,ac,ad,ae,af,ag],[]⟩ w):(Code.region 4 Yh true).wp Tryz.prog Q ⟨#[.pointer (some ⟨b,0,none⟩),.slice a n c,d,e,f,.pointer (some ⟨bh,0,none⟩),i,j,k,l,m,p,q,r,s,u,x,y,A,B,C,D,E,F,G,I,K,L,M,N,O,P,R,T,U,V,X,Y,Z,aa,ab,ac,ad,ae,af,ag],[]⟩ W:=by
 have kst6:∀ (w:World),(J' w)->wpAnyH Tryz.prog .any Yh Q (fun w:World=>w.cell? ⟨b,1,none⟩=some (.map (some g))/\w.rangeAt bh 0 (za H)) 0 #[tt,tt,tt,tt,tt,tt,tt] ⟨#[.pointer (some ⟨b,0,none⟩),.slice a n c,d,e,f,.pointer (some ⟨bh,0,none⟩),i,j,k,l,m,p,q,r,s,u,x,y,A,B,C,D,E,F,G,I,.pointer (some ⟨b,0,none⟩),.pointer (some ⟨b,0,none⟩),.pointer (some ⟨b,1,none⟩),.map (some g),.agg (za H).toArray,.slice a n c,R,T,U,V,X,Y,Z,aa,ab,ac,ad,ae,af,ag],[]⟩ w:=fun  w hp=>by
  exact wpAnyH_done (by kernel_rfl) (hfin  w hp) _
 have kst:∀ (w:World),(J w)->wpAnyH Tryz.prog .any Yh Q (fun w:World=>w.cell? ⟨b,1,none⟩=some (.map (some g))/\w.rangeAt bh 0 (za H)) 1 #[tt,tt,tt,tt,tt,tt,ff] ⟨#[.pointer (some ⟨b,0,none⟩),.slice a n c,d,e,f,.pointer (some ⟨bh,0,none⟩),i,j,k,l,m,p,q,r,s,u,x,y,A,B,C,D,E,F,G,I,.pointer (some ⟨b,0,none⟩),.pointer (some ⟨b,0,none⟩),.pointer (some ⟨b,1,none⟩),.map (some g),.agg (za H).toArray,.slice a n c,R,T,U,V,X,Y,Z,aa,ab,ac,ad,ae,af,ag],[]⟩ w:=fun  w hp=>by
  refine wpAnyH_ready (rs:=[6]) (by kernel_rfl) (by simp) ?_;refine AllReadyH.cons (o:=CT4OPSq6) rfl (fun KQ hKQ=>?_) ?_
  ·exact(let ⟨w',h1,h2⟩:=hU w hp;yt (by rfl) (by go_simp) (have hp:(fun(w:World)=>(J' w))  w':=h2;hKQ.out _ _ (hS' _ hp) (fun _=>kst6  _ hp)))
  exact AllReadyH.nil
 have hp:=h0;have hww:(fun w:World=>w.cell? ⟨b,1,none⟩=some (.map (some g))/\w.rangeAt bh 0 (za H)) W.drew:=hS _ hp;have last:=kst W.drew hp
 have z:wpAnyH Tryz.prog .any Yh Q (fun w:World=>w.cell? ⟨b,1,none⟩=some (.map (some g))/\w.rangeAt bh 0 (za H)) 7 #[ff,ff,ff,ff,ff,ff,ff] ⟨#[.pointer (some ⟨b,0,none⟩),.slice a n c,d,e,f,.pointer (some ⟨bh,0,none⟩),i,j,k,l,m,p,q,r,s,u,x,y,A,B,C,D,E,F,G,I,K,L,M,N,O,P,R,T,U,V,X,Y,Z,aa,ab,ac,ad,ae,af,ag],[]⟩ W.drew:=by
  refine tkP CT4OPSq0 (.pointer (some ⟨b,0,none⟩)) 0 hQ hww ?_;simp only[List.set];refine tkP CT4OPSq1 (.pointer (some ⟨b,0,none⟩)) 1 hQ hww ?_;simp only[List.set];refine tkP CT4OPSq2 (.pointer (some ⟨b,1,none⟩)) 2 hQ hww ?_;simp only[List.set];refine tkH CT4OPSq3 (.map (some g)) 3 hQ (Or.inl ⟨by rfl,fun w hw=>by have hx:=hw.1;go_simp⟩) hww ?_;simp only[List.set];refine tkH CT4OPSq4 (.agg (za H).toArray) 4 hQ (yieldsIf_load_mid (by rfl) 23 (.tmp 5) rfl bh 0 rfl (za H) _ (fun w h=>h.2) Tryz.underlying23 rfl (zo lH)) hww ?_;simp only[List.set];refine tkP CT4OPSq5 (.slice a n c) 5 hQ hww ?_;simp only[List.set];exact last
 exact wp_region_held_drew (S:=(fun w:World=>w.cell? ⟨b,1,none⟩=some (.map (some g))/\w.rangeAt bh 0 (za H))) (by kernel_rfl) hww (fun _=>z)
namespace HX
structure GP where
 g:Nat
 c:Nat
 l:List Nat
def z2t(gs:List GP):List Value:=gs.map fun p=>.slice (some ⟨p.g,0,none⟩) p.l.length p.c
structure GIVEN (w:World) (B:Nat) (s:Value) (gs:List GP):Prop where
 own:w.ownsRow B 27 1 s gs.length (z2t gs)
 row:∀ (i:Nat) (p:GP),gs[i]?=some p->w.ownsRow B 5 1 (.slice (some ⟨p.g,0,none⟩) (p.l.length+1) p.c) (p.l.length+1) (BY (p.l ++ [171]))
 far:∀ (i:Nat) (p:GP),gs[i]?=some p->s.ownBlock≠some p.g
 apart:∀ (i j:Nat) (p q:GP),gs[i]?=some p->gs[j]?=some q->i≠j->p.g≠q.g
 small:∀ (i:Nat) (p:GP),gs[i]?=some p->Small8 p.l
theorem z2u{W:World}{g:Nat}{a:Option Addr}{n c:Nat}{l:List Nat}(hg:Has W g #[.slice a n c] 27)(hT:Text W a n l)(hc:n<=c)(hx:∀ x,a=some x->x.block<W.heap.size):Parts W (some ⟨g,0,none⟩) 1 [⟨a,n,c,l⟩]:=by
 refine⟨rfl,fun _=>⟨g,0,rfl,hg.lt,fun i p hp=>?_⟩,fun p hp=>?_⟩
 ·cases i with
  | zero=>
    simp only[List.getElem?_cons_zero,Option.some.injEq] at hp;subst hp;rw[hg.cell];rfl
  | succ i=>simp at hp
 ·simp only[List.mem_singleton] at hp
  subst hp;exact⟨hT,hc,hx⟩
theorem sum9(d:Int)(W:World)(g:Nat)(a:Option Addr)(n c:Nat)(l:List Nat)(hg:Has W g #[.slice a n c] 27)(hT:Text W a n l)(hc:n<=c)(hx:∀ x,a=some x->x.block<W.heap.size)(hn:n<2 ^ 60)(h:Tabled W):Calls Tryz.prog 31 #[.int .i64 d,.slice (some ⟨g,0,none⟩) 1 1] W fun e w'=>e=.returned (.agg (UARR .u8 32 (zu d l)))/\Below W.heap.size W w':=by
 have e:JOIN [⟨a,n,c,l⟩]=l:=by simp[JOIN]
 have k:=Uj d (some ⟨g,0,none⟩) 1 1 _ _ (z2u hg hT hc hx) h (by rw[e,hT.1];exact hn) (by decide);rw[e] at k;exact k
theorem uT(d:Int)(W:World)(g:Nat)(a:Option Addr)(n c:Nat)(l:List Nat)(hg:Has W g #[.slice a n c] 27)(hT:Text W a n l)(hc:a=none->c=0)(hn:n<2 ^ 30):Calls Tryz.prog 12 #[.int .i64 d,.slice (some ⟨g,0,none⟩) 1 1] W fun e w'=>e=.returned (.agg (UARR .u8 32 (zu d l)))/\Below W.heap.size W w':=by
 have e:JOIN [⟨a,n,c,l⟩]=l:=by simp[JOIN]
 have k:=vU d (some ⟨g,0,none⟩) 1 1 [⟨a,n,c,l⟩] W ⟨rfl,fun _=>⟨g,0,rfl,hg.lt,fun i p hp=>by
  cases i with
  | zero=>
    simp only[List.getElem?_cons_zero,Option.some.injEq] at hp;subst hp;rw[hg.cell];rfl
  | succ i=>simp at hp⟩,fun p hp=>by simp only[List.mem_singleton] at hp;subst hp;exact hT⟩ (fun p hp=>by simp only[List.mem_singleton] at hp;subst hp;exact hc) (by rw[e,hT.1];exact hn) (by decide)
 rw[e] at k;exact k
end HX
end Go.Proofs.YtobaogpomcocpaaGreatDoor
