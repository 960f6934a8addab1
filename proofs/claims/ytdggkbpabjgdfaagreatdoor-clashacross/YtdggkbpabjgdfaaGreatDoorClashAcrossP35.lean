/- ClashAcross: part 35. -/
import Derived.Test.YtdggkbpabjgdfaaGreatDoorRows
import Derived.ProofKit
import Derived.LaidMore
import Derived.Stop.Joined
import Derived.Deep.Strs
import Derived.Test.YtdggkbpabjgdfaaGreatDoorClashAcrossP34
set_option maxHeartbeats 16000000
namespace Go.Proofs.YtdggkbpabjgdfaaGreatDoor
open Go.RowKit
set_option maxRecDepth 100000
theorem z70 (d:Int) (i m:Nat) (r1 x:List Int) (n:Nat) (r2 y:List Int) (pa qa xa:Option Addr) (pn pc qn qc xn xc:Nat) (hk:¬ (pn<=9600/\qn<=9600/\xn<=9600)) (w:World):Calls Tryz.prog 3 #[.int .i64 d,.int .u64 (i:Int),.int .u64 (m:Int),.agg (z01 r1).toArray,.agg (z01 x).toArray,.slice pa pn pc,.int .u64 (n:Int),.agg (z01 r2).toArray,.agg (z01 y).toArray,.slice qa qn qc,.slice xa xn xc] w fun e w'=>e=.returned (.bool true)/\Below w.heap.size w w':=by
 have R:Aside (Below w.heap.size w ((((w.alloc (.cells (z01 r1).toArray 24)).alloc (.cells (z01 x).toArray 24)).alloc (.cells (z01 r2).toArray 24)).alloc (.cells (z01 y).toArray 24))):=((((Below.refl _ _).alloc (Nat.le_refl _) _).alloc (by simp) _).alloc (by simp;omega) _).alloc (by simp;omega) _;by_cases h:(9600:Int)<(pn:Int)
 ·go_enter Tryz.func3,Tryz.ntmps3
  go_wp2;go_ret;exact ⟨rfl,R.out⟩
 ·by_cases h2:(9600:Int)<(qn:Int)
  ·go_enter Tryz.func3,Tryz.ntmps3
   go_wp2;go_ret;exact ⟨rfl,R.out⟩
  ·have h3:(9600:Int)<(xn:Int):=by omega
   go_enter Tryz.func3,Tryz.ntmps3;go_wp2;go_ret;exact ⟨rfl,R.out⟩
theorem z67 (d:Int) (TS:List Int->Nat) (hTS:zdT TS) (i m:Nat) (hi:i<2 ^ 64) (hm:m<2 ^ 64) (r1 x:List Int) (hr1:IsH r1) (hx:IsH x) (n:Nat) (hn:n<2 ^ 64) (r2 y:List Int) (hr2:IsH r2) (hy:IsH y) (pa qa xa:Option Addr) (pn pc qn qc xn xc:Nat) (hpn:pn<=9600) (hqn:qn<=9600) (hxn:xn<=9600) (hpz:pa=none->pc=0) (hqz:qa=none->qc=0) (hxz:xa=none->xc=0) (hpc:pn<=pc) (hqc:qn<=qc) (hxc:xn<=xc) (bp bq bx:List Int) (w:World) (hP:Bytes w pa pn bp) (hQ:Bytes w qa qn bq) (hB:Bytes w xa xn bx) (hT:Tabled w) (hX:HX.Tabled w) (h0:2<w.heap.size):
  Calls Tryz.prog 3 #[.int .i64 d,.int .u64 (i:Int),.int .u64 (m:Int),.agg (z01 r1).toArray,.agg (z01 x).toArray,.slice pa pn pc,.int .u64 (n:Int),.agg (z01 r2).toArray,.agg (z01 y).toArray,.slice qa qn qc,.slice xa xn xc] w fun e w'=>e=.returned (.bool true)/\Below w.heap.size w w':=by
 have z1:¬ (9600:Int)<(pn:Int):=by omega
 have z2:¬ (9600:Int)<(qn:Int):=by omega
 have z3:¬ (9600:Int)<(xn:Int):=by omega
 have l1:=hr1.1;have l2:=hx.1;have l3:=hr2.1;have l4:=hy.1;have HTB:Aside (∀ W,Below w.heap.size w W->Tabled W/\HX.Tabled W/\2<W.heap.size):=fun W h=>⟨hT.below (by omega) h,hX.below h,by have:=h.size;omega⟩
 have C1:Aside (∀ W,Below w.heap.size w W->(Calls Tryz.prog 4 #[.slice pa pn pc] W (z7t W pn bp))/\(Calls Tryz.prog 4 #[.slice qa qn qc] W (z7t W qn bq))/\Calls Tryz.prog 4 #[.slice xa xn xc] W (z7t W xn bx)):=fun W h=>⟨z5U pa pn pc (by omega) hpz bp W (hP.below h),z5U qa qn qc (by omega) hqz bq W (hQ.below h),z5U xa xn xc (by omega) hxz bx W (hB.below h)⟩
 have C3:Aside (∀ W,Below w.heap.size w W->(Calls Tryz.prog 5 #[.int .i64 d,.agg (z01 r1).toArray,.int .u64 (m:Int),.int .u64 (i:Int),.agg (z01 x).toArray,.slice pa pn pc] W fun e w'=>e=.returned (.int .i64 (MEMA d r1 m i x bp))/\Below W.heap.size W w')/\(Calls Tryz.prog 5 #[.int .i64 d,.agg (z01 r2).toArray,.int .u64 (n:Int),.int .u64 (i:Int),.agg (z01 y).toArray,.slice qa qn qc] W fun e w'=>e=.returned (.int .i64 (MEMA d r2 n i y bq))/\Below W.heap.size W w')/\(Calls Tryz.prog 6 #[.int .i64 d,.int .u64 (m:Int),.agg (z01 r1).toArray,.int .u64 (n:Int),.agg (z01 r2).toArray,.slice xa xn xc] W fun e w'=>e=.returned (.int .i64 (PFE d TS m r1 n r2 bx))/\Below W.heap.size W w')):=fun W h=>⟨z5S d r1 hr1 m i hm x hx pa pn pc (by omega) hpc bp W (hP.below h) (z44 hP.2.2).1 (z44 hP.2.2).2,z5S d r2 hr2 n i hn y hy qa qn qc (by omega) hqc bq W (hQ.below h) (z44 hQ.2.2).1 (z44 hQ.2.2).2,z9C d m r1 hr1 n r2 hr2 xa xn xc (by omega) hxc bx _ (hTS bx hB.2.2).1 W (hB.below h) (z5T hB.2.2).1 (z5T hB.2.2).2⟩
 have HH:Aside (∀ s t,CLAC d i m x n y (MEMA d r1 m i x bp) (MEMA d r2 n i y bq) (PFE d TS m r1 n r2 bx) bp bq bx=some (s,t)->s≠t/\HSHT d s=HSHT d t):=fun s t h=>zdU h
 have HV:Aside ((CLAC d i m x n y (MEMA d r1 m i x bp) (MEMA d r2 n i y bq) (PFE d TS m r1 n r2 bx) bp bq bx).isSome=decide (x≠y/\MEMA d r1 m i x bp=0/\MEMA d r2 n i y bq=0/\PFE d TS m r1 n r2 bx=0)):=by
  by_cases h:x≠y/\MEMA d r1 m i x bp=0/\MEMA d r2 n i y bq=0/\PFE d TS m r1 n r2 bx=0
  ·obtain ⟨t,t',u,s,v,ha⟩:=z9m hTS hi hm hn hx hy hP.2.2 hQ.2.2 hB.2.2 (z45 hP.2.2) (z45 hQ.2.2) (z9p hB.2.2) h
   unfold Aside;rw [decide_eq_true h,ha.told];rfl
  ·unfold Aside CLAC
   rw [decide_eq_false h,if_neg h];rfl
 have C5g:∀ W gp pd gq qd gx xd,Below w.heap.size w W->pn+1<=pd->qn+1<=qd->xn+1<=xd->Bytes W (some ⟨gp,0,none⟩) pn bp->Bytes W (some ⟨gq,0,none⟩) qn bq->Bytes W (some ⟨gx,0,none⟩) xn bx->Calls Tryz.prog 7 #[.int .i64 d,.int .u64 (i:Int),.int .u64 (m:Int),.agg (z01 r1).toArray,.agg (z01 x).toArray,.slice (some ⟨gp,0,none⟩) pn pd,.int .u64 (n:Int),.agg (z01 r2).toArray,.agg (z01 y).toArray,.slice (some ⟨gq,0,none⟩) qn qd,.slice (some ⟨gx,0,none⟩) xn xd] W (CLASHED W (CLAC d i m x n y (MEMA d r1 m i x bp) (MEMA d r2 n i y bq) (PFE d TS m r1 n r2 bx) bp bq bx)):=fun W gp pd gq qd gx xd h1 h2 h3 h4 h5 h6 h7=>by
  obtain ⟨g1,g2,g3⟩:=HTB.out W h1;exact zbP d TS hTS i m hi hm r1 x hr1 hx n hn r2 y hr2 hy _ _ _ pn pd qn qd xn xd (by omega) (by omega) (by omega) (by omega) (by omega) (by omega) bp bq bx W h5 h6 h7 g1 g2 g3 (z45 hP.2.2) (z45 hQ.2.2) (z9p hB.2.2)
 have C5G:Aside (∀ W gp pd gq qd gx xd,Below w.heap.size w W->pn+1<=pd->qn+1<=qd->xn+1<=xd->Bytes W (some ⟨gp,0,none⟩) pn bp->Bytes W (some ⟨gq,0,none⟩) qn bq->Bytes W (some ⟨gx,0,none⟩) xn bx->Calls Tryz.prog 7 #[.int .i64 d,.int .u64 (i:Int),.int .u64 (m:Int),.agg (z01 r1).toArray,.agg (z01 x).toArray,.slice (some ⟨gp,0,none⟩) pn pd,.int .u64 (n:Int),.agg (z01 r2).toArray,.agg (z01 y).toArray,.slice (some ⟨gq,0,none⟩) qn qd,.slice (some ⟨gx,0,none⟩) xn xd] W (CLASHED W (CLAC d i m x n y (MEMA d r1 m i x bp) (MEMA d r2 n i y bq) (PFE d TS m r1 n r2 bx) bp bq bx))):=C5g;have HA:Aside (pn<=9600/\qn<=9600/\xn<=9600/\Bytes w pa pn bp/\Bytes w qa qn bq/\Bytes w xa xn bx):=⟨hpn,hqn,hxn,hP,hQ,hB⟩
 generalize CLAC d i m x n y (MEMA d r1 m i x bp) (MEMA d r2 n i y bq) (PFE d TS m r1 n r2 bx) bp bq bx=X at *
 generalize MEMA d r1 m i x bp=U1 at *
 generalize MEMA d r2 n i y bq=U2 at *
 generalize PFE d TS m r1 n r2 bx=U3 at *
 obtain ⟨W0,hW0⟩:∃ W0,(((w.alloc (.cells (z01 r1).toArray 24)).alloc (.cells (z01 x).toArray 24)).alloc (.cells (z01 r2).toArray 24)).alloc (.cells (z01 y).toArray 24)=W0:=⟨_,rfl⟩
 obtain ⟨b1,hb1⟩:∃ b,w.heap.size=b:=⟨_,rfl⟩
 have hb0:Below w.heap.size w W0:=by rw [<-hW0];exact ((((Below.refl _ _).alloc (Nat.le_refl _) _).alloc (by simp) _).alloc (by simp;omega) _).alloc (by simp;omega) _
 have k1:Has W0 b1 (z01 r1).toArray 24:=by rw [<-hW0,<-hb1];exact (((Has.new _ _ _).alloc _).alloc _).alloc _
 have k2:Has W0 (b1+1) (z01 x).toArray 24:=by rw [<-hW0,<-hb1];exact ((Has.at _ _ _ (by simp)).alloc _).alloc _
 have k3:Has W0 (b1+1+1) (z01 r2).toArray 24:=by rw [<-hW0,<-hb1];exact (Has.at _ _ _ (by simp)).alloc _
 have k4:Has W0 (b1+1+1+1) (z01 y).toArray 24:=by rw [<-hW0,<-hb1];exact Has.at _ _ _ (by simp)
 obtain ⟨b2,hb2⟩:∃ b,b1+1=b:=⟨_,rfl⟩
 rw [hb2] at k2 k3 k4;obtain ⟨b3,hb3⟩:∃ b,b2+1=b:=⟨_,rfl⟩
 rw [hb3] at k3 k4;obtain ⟨b4,hb4⟩:∃ b,b3+1=b:=⟨_,rfl⟩
 rw [hb4] at k4;have c1:=(C1.out W0 hb0).1;have R0:Aside (Below w.heap.size w W0):=hb0;clear hr1 hx hr2 hy hi hm hn hpn hqn hxn hpc hqc hxc hpz hqz hxz hP hQ hB hT hX h0 hb0 C5g hTS;go_enter Tryz.func3,Tryz.ntmps3;go_upto_region 1 with fail
 clear hW0 hb1 hb2 hb3 hb4;go_wp2_with fail
 refine c1.mono ?_;rintro e w1 ⟨gp,pd,rfl,o1,cap1,mk1,lt1,hb1⟩;clear c1;have hbw1:Below w.heap.size w w1:=R0.out.trans (hb1.mono R0.out.size);have c2:=(C1.out w1 hbw1).2.1;go_wp2_with fail
 refine c2.mono ?_;rintro e w1' ⟨gq,qd,rfl,o2,cap2,mk2,lt2,hb2⟩;clear c2;have hbw1':Below w.heap.size w w1':=hbw1.trans (hb2.mono hbw1.size);have c2:=(C1.out w1' hbw1').2.2;go_wp2_with fail
 refine c2.mono ?_;rintro e w2 ⟨gx,xd,rfl,o3,cap3,mk3,lt3,hb3⟩;clear c2;have hbw2:Below w.heap.size w w2:=hbw1'.trans (hb3.mono hbw1'.size);have h12:Below w1.heap.size w1 w2:=hb2.trans (hb3.mono hb2.size);have hb02:Below W0.heap.size W0 w2:=hb1.trans (h12.mono hb1.size);have fa:Bytes w2 (some ⟨gp,0,none⟩) pn bp:=((z13 o1 HA.out.2.2.2.1.2.2).1).below h12;have fb:Bytes w2 (some ⟨gq,0,none⟩) qn bq:=((z13 o2 HA.out.2.2.2.2.1.2.2).1).below hb3;have fc:Bytes w2 (some ⟨gx,0,none⟩) xn bx:=(z13 o3 HA.out.2.2.2.2.2.2.2).1;have m1:w2.cell? ⟨gp,pn,none⟩=some (.int .u8 171):=(h12.cell (p:=⟨gp,pn,none⟩) lt1).trans mk1;have m2:w2.cell? ⟨gq,qn,none⟩=some (.int .u8 171):=(hb3.cell (p:=⟨gq,qn,none⟩) lt2).trans mk2;have lt1':gp<w2.heap.size:=Nat.lt_of_lt_of_le lt1 h12.size;have lt2':gq<w2.heap.size:=Nat.lt_of_lt_of_le lt2 hb3.size;have C5:Aside (∀ W,Below w2.heap.size w2 W->Calls Tryz.prog 7 #[.int .i64 d,.int .u64 (i:Int),.int .u64 (m:Int),.agg (z01 r1).toArray,.agg (z01 x).toArray,.slice (some ⟨gp,0,none⟩) pn pd,.int .u64 (n:Int),.agg (z01 r2).toArray,.agg (z01 y).toArray,.slice (some ⟨gq,0,none⟩) qn qd,.slice (some ⟨gx,0,none⟩) xn xd] W (CLASHED W X)):=fun W h=>C5G.out W gp pd gq qd gx xd (hbw2.trans (h.mono hbw2.size)) cap1 cap2 cap3 (fa.below h) (fb.below h) (fc.below h);have FN:Aside (∀ W,Below w2.heap.size w2 W->Below w.heap.size w W):=fun W h=>hbw2.trans (h.mono hbw2.size)
 have ST:∀ W g k c a c' (l:List Int),Below w2.heap.size w2 W->k<=9600->k+1<=c->Bytes w2 (some ⟨g,0,none⟩) k l->Bytes w a k l->g<w2.heap.size->w2.cell? ⟨g,k,none⟩=some (.int .u8 171)->Calls Tryz.prog 9 #[.slice (some ⟨g,0,none⟩) k c,.slice a k c'] W fun e w'=>e=.returned (.bool true)/\Below w2.heap.size w2 w':=fun W g k c a c' l h h1 h2 h3 h4 h5 h6=>(zdX g k c a c' l (by omega) h2 W (h3.below h) (h4.below (FN.out W h)) (Nat.lt_of_lt_of_le h5 h.size) ((h.cell (p:=⟨g,k,none⟩) h5).trans h6)).mono fun e w' h2=>⟨h2.1,h.trans (h2.2.mono h.size)⟩
 have CK:Aside (∀ W,Below w2.heap.size w2 W->(Calls Tryz.prog 9 #[.slice (some ⟨gp,0,none⟩) pn pd,.slice pa pn pc] W fun e w'=>e=.returned (.bool true)/\Below w2.heap.size w2 w')/\(Calls Tryz.prog 9 #[.slice (some ⟨gq,0,none⟩) qn qd,.slice qa qn qc] W fun e w'=>e=.returned (.bool true)/\Below w2.heap.size w2 w')/\(Calls Tryz.prog 9 #[.slice (some ⟨gx,0,none⟩) xn xd,.slice xa xn xc] W fun e w'=>e=.returned (.bool true)/\Below w2.heap.size w2 w')/\(Calls Tryz.prog 10 #[] W fun e w'=>e=.returned (.bool true)/\Below w2.heap.size w2 w')):=fun W h=>
  ⟨ST W gp pn pd pa pc bp h HA.out.1 cap1 fa HA.out.2.2.2.1 lt1' m1,ST W gq qn qd qa qc bq h HA.out.2.1 cap2 fb HA.out.2.2.2.2.1 lt2' m2,ST W gx xn xd xa xc bx h HA.out.2.2.1 cap3 fc HA.out.2.2.2.2.2 lt3 mk3,(HX.zfI W (HTB.out W (FN.out W h)).2.1).mono fun e w' h2=>⟨h2.1,h.trans (h2.2.mono h.size)⟩⟩
 have k1:=k1.keep hb02;have k2:=k2.keep hb02;have k3:=k3.keep hb02;have k4:=k4.keep hb02;have qx:∀ w,(Op.equalIn 10000 24 (.agg (z01 x).toArray) (.agg (z01 y).toArray)).run Tryz.prog w=.ok (decide (x=y)) w:=fun w=>z3G l2 l4 w;clear hb1 hb2 hb3 h12 hb02 hbw1 hbw1' fa fb fc m1 m2 lt1 lt2 lt1' lt2' lt3 mk1 mk2 mk3 o1 o2 o3 cap1 cap2 cap3 C5G C1 R0 z1 z2 z3 ST;go_upto_region 4 with fail
 go_cut [26] from 50 to 82 (fun s26 W=>s26=.bool X.isSome/\Aside (Below w2.heap.size w2 W))
 case first=>
  by_cases hxy:x=y
  ·have hwant:X.isSome=false:=HV.out.trans (decide_eq_false (fun h=>h.1 hxy))
   rw [decide_eq_true hxy] at qx;clear hxy HV hbw2
   go_wp2_with (first
    | (refine z05 (by rfl) 24 (.tmp 14) rfl 32 5 b1 rfl 24 (z01 r1).toArray (0,0) k1 Tryz.underlying24 (z02 l1) ?_)
    | (refine wpList_load_row rfl 24 (.tmp 14) rfl b1 rfl 24 (z01 r1).toArray (0,0) _ k1 Tryz.underlying24 rfl (z02 l1) ?_)
    | (refine z05 (by rfl) 24 (.tmp 15) rfl 32 5 b2 rfl 24 (z01 x).toArray (0,0) k2 Tryz.underlying24 (z02 l2) ?_)
    | (refine wpList_load_row rfl 24 (.tmp 15) rfl b2 rfl 24 (z01 x).toArray (0,0) _ k2 Tryz.underlying24 rfl (z02 l2) ?_)
    | (refine z05 (by rfl) 24 (.tmp 18) rfl 32 5 b3 rfl 24 (z01 r2).toArray (0,0) k3 Tryz.underlying24 (z02 l3) ?_)
    | (refine wpList_load_row rfl 24 (.tmp 18) rfl b3 rfl 24 (z01 r2).toArray (0,0) _ k3 Tryz.underlying24 rfl (z02 l3) ?_)
    | (refine z05 (by rfl) 24 (.tmp 19) rfl 32 5 b4 rfl 24 (z01 y).toArray (0,0) k4 Tryz.underlying24 (z02 l4) ?_)
    | (refine wpList_load_row rfl 24 (.tmp 19) rfl b4 rfl 24 (z01 y).toArray (0,0) _ k4 Tryz.underlying24 rfl (z02 l4) ?_)
    | fail)
   go_meet
   case rel=>exact ⟨by rw [hwant],Below.refl _ _⟩
  ·rw [decide_eq_false hxy] at qx
   have c3:=(C3.out w2 hbw2).1
   go_wp2_with (first
    | (refine z05 (by rfl) 24 (.tmp 14) rfl 32 5 b1 rfl 24 (z01 r1).toArray (0,0) k1 Tryz.underlying24 (z02 l1) ?_)
    | (refine wpList_load_row rfl 24 (.tmp 14) rfl b1 rfl 24 (z01 r1).toArray (0,0) _ k1 Tryz.underlying24 rfl (z02 l1) ?_)
    | (refine z05 (by rfl) 24 (.tmp 15) rfl 32 5 b2 rfl 24 (z01 x).toArray (0,0) k2 Tryz.underlying24 (z02 l2) ?_)
    | (refine wpList_load_row rfl 24 (.tmp 15) rfl b2 rfl 24 (z01 x).toArray (0,0) _ k2 Tryz.underlying24 rfl (z02 l2) ?_)
    | (refine z05 (by rfl) 24 (.tmp 18) rfl 32 5 b3 rfl 24 (z01 r2).toArray (0,0) k3 Tryz.underlying24 (z02 l3) ?_)
    | (refine wpList_load_row rfl 24 (.tmp 18) rfl b3 rfl 24 (z01 r2).toArray (0,0) _ k3 Tryz.underlying24 rfl (z02 l3) ?_)
    | (refine z05 (by rfl) 24 (.tmp 19) rfl 32 5 b4 rfl 24 (z01 y).toArray (0,0) k4 Tryz.underlying24 (z02 l4) ?_)
    | (refine wpList_load_row rfl 24 (.tmp 19) rfl b4 rfl 24 (z01 y).toArray (0,0) _ k4 Tryz.underlying24 rfl (z02 l4) ?_)
    | fail)
   refine c3.mono ?_;rintro e w3 ⟨rfl,hb23⟩;clear c3;have k1:=k1.keep hb23;have k2:=k2.keep hb23;have k3:=k3.keep hb23;have k4:=k4.keep hb23;by_cases hU1:U1=0
   ·subst hU1
    have hbw3:Below w.heap.size w w3:=hbw2.trans (hb23.mono hbw2.size);have c4:=(C3.out w3 hbw3).2.1
    go_wp2_with (first
     | (refine z05 (by rfl) 24 (.tmp 14) rfl 32 5 b1 rfl 24 (z01 r1).toArray (0,0) k1 Tryz.underlying24 (z02 l1) ?_)
     | (refine wpList_load_row rfl 24 (.tmp 14) rfl b1 rfl 24 (z01 r1).toArray (0,0) _ k1 Tryz.underlying24 rfl (z02 l1) ?_)
     | (refine z05 (by rfl) 24 (.tmp 15) rfl 32 5 b2 rfl 24 (z01 x).toArray (0,0) k2 Tryz.underlying24 (z02 l2) ?_)
     | (refine wpList_load_row rfl 24 (.tmp 15) rfl b2 rfl 24 (z01 x).toArray (0,0) _ k2 Tryz.underlying24 rfl (z02 l2) ?_)
     | (refine z05 (by rfl) 24 (.tmp 18) rfl 32 5 b3 rfl 24 (z01 r2).toArray (0,0) k3 Tryz.underlying24 (z02 l3) ?_)
     | (refine wpList_load_row rfl 24 (.tmp 18) rfl b3 rfl 24 (z01 r2).toArray (0,0) _ k3 Tryz.underlying24 rfl (z02 l3) ?_)
     | (refine z05 (by rfl) 24 (.tmp 19) rfl 32 5 b4 rfl 24 (z01 y).toArray (0,0) k4 Tryz.underlying24 (z02 l4) ?_)
     | (refine wpList_load_row rfl 24 (.tmp 19) rfl b4 rfl 24 (z01 y).toArray (0,0) _ k4 Tryz.underlying24 rfl (z02 l4) ?_)
     | fail)
    refine c4.mono ?_;rintro e w4 ⟨rfl,hb34⟩;clear c4;have k1:=k1.keep hb34;have k2:=k2.keep hb34;have k3:=k3.keep hb34;have k4:=k4.keep hb34;have hb24:Below w2.heap.size w2 w4:=hb23.trans (hb34.mono hb23.size);have hbw4:Below w.heap.size w w4:=hbw2.trans (hb24.mono hbw2.size);by_cases hU2:U2=0
    ·subst hU2
     have c4:=(C3.out w4 hbw4).2.2
     go_wp2_with (first
      | (refine z05 (by rfl) 24 (.tmp 14) rfl 32 5 b1 rfl 24 (z01 r1).toArray (0,0) k1 Tryz.underlying24 (z02 l1) ?_)
      | (refine wpList_load_row rfl 24 (.tmp 14) rfl b1 rfl 24 (z01 r1).toArray (0,0) _ k1 Tryz.underlying24 rfl (z02 l1) ?_)
      | (refine z05 (by rfl) 24 (.tmp 15) rfl 32 5 b2 rfl 24 (z01 x).toArray (0,0) k2 Tryz.underlying24 (z02 l2) ?_)
      | (refine wpList_load_row rfl 24 (.tmp 15) rfl b2 rfl 24 (z01 x).toArray (0,0) _ k2 Tryz.underlying24 rfl (z02 l2) ?_)
      | (refine z05 (by rfl) 24 (.tmp 18) rfl 32 5 b3 rfl 24 (z01 r2).toArray (0,0) k3 Tryz.underlying24 (z02 l3) ?_)
      | (refine wpList_load_row rfl 24 (.tmp 18) rfl b3 rfl 24 (z01 r2).toArray (0,0) _ k3 Tryz.underlying24 rfl (z02 l3) ?_)
      | (refine z05 (by rfl) 24 (.tmp 19) rfl 32 5 b4 rfl 24 (z01 y).toArray (0,0) k4 Tryz.underlying24 (z02 l4) ?_)
      | (refine wpList_load_row rfl 24 (.tmp 19) rfl b4 rfl 24 (z01 y).toArray (0,0) _ k4 Tryz.underlying24 rfl (z02 l4) ?_)
      | fail)
     refine c4.mono ?_;rintro e w5 ⟨rfl,hb45⟩;clear c4;have k1:=k1.keep hb45;have k2:=k2.keep hb45;have k3:=k3.keep hb45;have k4:=k4.keep hb45;have hb25:Below w2.heap.size w2 w5:=hb24.trans (hb45.mono hb24.size);by_cases hU3:U3=0
     ·subst hU3
      have hwant:X.isSome=true:=HV.out.trans (decide_eq_true ⟨hxy,by first | rfl | trivial,by first | rfl | trivial,by first | rfl | trivial⟩)
      go_wp2_with (first
              | (refine z05 (by rfl) 24 (.tmp 14) rfl 32 5 b1 rfl 24 (z01 r1).toArray (0,0) k1 Tryz.underlying24 (z02 l1) ?_)
              | (refine wpList_load_row rfl 24 (.tmp 14) rfl b1 rfl 24 (z01 r1).toArray (0,0) _ k1 Tryz.underlying24 rfl (z02 l1) ?_)
              | (refine z05 (by rfl) 24 (.tmp 15) rfl 32 5 b2 rfl 24 (z01 x).toArray (0,0) k2 Tryz.underlying24 (z02 l2) ?_)
              | (refine wpList_load_row rfl 24 (.tmp 15) rfl b2 rfl 24 (z01 x).toArray (0,0) _ k2 Tryz.underlying24 rfl (z02 l2) ?_)
              | (refine z05 (by rfl) 24 (.tmp 18) rfl 32 5 b3 rfl 24 (z01 r2).toArray (0,0) k3 Tryz.underlying24 (z02 l3) ?_)
              | (refine wpList_load_row rfl 24 (.tmp 18) rfl b3 rfl 24 (z01 r2).toArray (0,0) _ k3 Tryz.underlying24 rfl (z02 l3) ?_)
              | (refine z05 (by rfl) 24 (.tmp 19) rfl 32 5 b4 rfl 24 (z01 y).toArray (0,0) k4 Tryz.underlying24 (z02 l4) ?_)
              | (refine wpList_load_row rfl 24 (.tmp 19) rfl b4 rfl 24 (z01 y).toArray (0,0) _ k4 Tryz.underlying24 rfl (z02 l4) ?_)
              | fail)
      go_meet
      case rel=>exact ⟨by rw [hwant],hb25⟩
     ·have hwant:X.isSome=false:=HV.out.trans (decide_eq_false (fun h=>hU3 h.2.2.2))
      have hU9:(U3 == 0)=false:=beq_eq_false_iff_ne.2 hU3
      go_wp2_with (first
              | (refine z05 (by rfl) 24 (.tmp 14) rfl 32 5 b1 rfl 24 (z01 r1).toArray (0,0) k1 Tryz.underlying24 (z02 l1) ?_)
              | (refine wpList_load_row rfl 24 (.tmp 14) rfl b1 rfl 24 (z01 r1).toArray (0,0) _ k1 Tryz.underlying24 rfl (z02 l1) ?_)
              | (refine z05 (by rfl) 24 (.tmp 15) rfl 32 5 b2 rfl 24 (z01 x).toArray (0,0) k2 Tryz.underlying24 (z02 l2) ?_)
              | (refine wpList_load_row rfl 24 (.tmp 15) rfl b2 rfl 24 (z01 x).toArray (0,0) _ k2 Tryz.underlying24 rfl (z02 l2) ?_)
              | (refine z05 (by rfl) 24 (.tmp 18) rfl 32 5 b3 rfl 24 (z01 r2).toArray (0,0) k3 Tryz.underlying24 (z02 l3) ?_)
              | (refine wpList_load_row rfl 24 (.tmp 18) rfl b3 rfl 24 (z01 r2).toArray (0,0) _ k3 Tryz.underlying24 rfl (z02 l3) ?_)
              | (refine z05 (by rfl) 24 (.tmp 19) rfl 32 5 b4 rfl 24 (z01 y).toArray (0,0) k4 Tryz.underlying24 (z02 l4) ?_)
              | (refine wpList_load_row rfl 24 (.tmp 19) rfl b4 rfl 24 (z01 y).toArray (0,0) _ k4 Tryz.underlying24 rfl (z02 l4) ?_)
              | fail)
      go_meet
      case rel=>exact ⟨by rw [hwant],hb25⟩
    ·have hwant:X.isSome=false:=HV.out.trans (decide_eq_false (fun h=>hU2 h.2.2.1))
     have hU9:(U2 == 0)=false:=beq_eq_false_iff_ne.2 hU2
     go_wp2_with (first
      | (refine z05 (by rfl) 24 (.tmp 14) rfl 32 5 b1 rfl 24 (z01 r1).toArray (0,0) k1 Tryz.underlying24 (z02 l1) ?_)
      | (refine wpList_load_row rfl 24 (.tmp 14) rfl b1 rfl 24 (z01 r1).toArray (0,0) _ k1 Tryz.underlying24 rfl (z02 l1) ?_)
      | (refine z05 (by rfl) 24 (.tmp 15) rfl 32 5 b2 rfl 24 (z01 x).toArray (0,0) k2 Tryz.underlying24 (z02 l2) ?_)
      | (refine wpList_load_row rfl 24 (.tmp 15) rfl b2 rfl 24 (z01 x).toArray (0,0) _ k2 Tryz.underlying24 rfl (z02 l2) ?_)
      | (refine z05 (by rfl) 24 (.tmp 18) rfl 32 5 b3 rfl 24 (z01 r2).toArray (0,0) k3 Tryz.underlying24 (z02 l3) ?_)
      | (refine wpList_load_row rfl 24 (.tmp 18) rfl b3 rfl 24 (z01 r2).toArray (0,0) _ k3 Tryz.underlying24 rfl (z02 l3) ?_)
      | (refine z05 (by rfl) 24 (.tmp 19) rfl 32 5 b4 rfl 24 (z01 y).toArray (0,0) k4 Tryz.underlying24 (z02 l4) ?_)
      | (refine wpList_load_row rfl 24 (.tmp 19) rfl b4 rfl 24 (z01 y).toArray (0,0) _ k4 Tryz.underlying24 rfl (z02 l4) ?_)
      | fail)
     go_meet
     case rel=>exact ⟨by rw [hwant],hb24⟩
   ·have hwant:X.isSome=false:=HV.out.trans (decide_eq_false (fun h=>hU1 h.2.1))
    have hU9:(U1 == 0)=false:=beq_eq_false_iff_ne.2 hU1
    go_wp2_with (first
     | (refine z05 (by rfl) 24 (.tmp 14) rfl 32 5 b1 rfl 24 (z01 r1).toArray (0,0) k1 Tryz.underlying24 (z02 l1) ?_)
     | (refine wpList_load_row rfl 24 (.tmp 14) rfl b1 rfl 24 (z01 r1).toArray (0,0) _ k1 Tryz.underlying24 rfl (z02 l1) ?_)
     | (refine z05 (by rfl) 24 (.tmp 15) rfl 32 5 b2 rfl 24 (z01 x).toArray (0,0) k2 Tryz.underlying24 (z02 l2) ?_)
     | (refine wpList_load_row rfl 24 (.tmp 15) rfl b2 rfl 24 (z01 x).toArray (0,0) _ k2 Tryz.underlying24 rfl (z02 l2) ?_)
     | (refine z05 (by rfl) 24 (.tmp 18) rfl 32 5 b3 rfl 24 (z01 r2).toArray (0,0) k3 Tryz.underlying24 (z02 l3) ?_)
     | (refine wpList_load_row rfl 24 (.tmp 18) rfl b3 rfl 24 (z01 r2).toArray (0,0) _ k3 Tryz.underlying24 rfl (z02 l3) ?_)
     | (refine z05 (by rfl) 24 (.tmp 19) rfl 32 5 b4 rfl 24 (z01 y).toArray (0,0) k4 Tryz.underlying24 (z02 l4) ?_)
     | (refine wpList_load_row rfl 24 (.tmp 19) rfl b4 rfl 24 (z01 y).toArray (0,0) _ k4 Tryz.underlying24 rfl (z02 l4) ?_)
     | fail)
    go_meet
    case rel=>exact ⟨by rw [hwant],hb23⟩
 case rest=>
  obtain ⟨rfl,hc⟩:=hcut;have hb23:Below w2.heap.size w2 wc:=hc.out;clear hc qx HV hbw2;have k1:=k1.keep hb23;have k2:=k2.keep hb23;have k3:=k3.keep hb23;have k4:=k4.keep hb23;have c5:=C5.out wc hb23;clear C3
  go_wp2_with (first
   | (refine wpList_load_row rfl 24 (.tmp 14) rfl b1 rfl 24 (z01 r1).toArray (0,0) _ k1 Tryz.underlying24 rfl (z02 l1) ?_)
   | (refine wpList_load_row rfl 24 (.tmp 15) rfl b2 rfl 24 (z01 x).toArray (0,0) _ k2 Tryz.underlying24 rfl (z02 l2) ?_)
   | (refine wpList_load_row rfl 24 (.tmp 18) rfl b3 rfl 24 (z01 r2).toArray (0,0) _ k3 Tryz.underlying24 rfl (z02 l3) ?_)
   | (refine wpList_load_row rfl 24 (.tmp 19) rfl b4 rfl 24 (z01 y).toArray (0,0) _ k4 Tryz.underlying24 rfl (z02 l4) ?_)
   | fail)
  refine c5.mono ?_;intro e w7 hcl;obtain ⟨a1,n1,q1,a2,n2,q2,o1,rfl,t1,hb7⟩:=hcl.told;clear hcl c5;have k1:=k1.keep hb7;have k2:=k2.keep hb7;have k3:=k3.keep hb7;have k4:=k4.keep hb7;go_upto_region 6 with fail
  obtain ⟨w8,hw8⟩:∃ w8,w7.alloc (.cells #[.slice a1 n1 q1,.slice a2 n2 q2] 31)=w8:=⟨_,rfl⟩
  obtain ⟨b15,hb15⟩:∃ b,w7.heap.size=b:=⟨_,rfl⟩
  rw [hw8,hb15];have hb78:Below w7.heap.size w7 w8:=by rw [<-hw8];exact (Below.refl _ _).alloc (Nat.le_refl _) _
  have hb38:Below wc.heap.size wc w8:=hb7.trans (hb78.mono hb7.size);have hb28:Below w2.heap.size w2 w8:=hb23.trans (hb38.mono hb23.size);have k15:Has w8 b15 #[.slice a1 n1 q1,.slice a2 n2 q2] 31:=by rw [<-hw8,<-hb15];exact Has.new _ _ _
  have t1':=t1.below hb78;have k1:=k1.keep hb78;have k2:=k2.keep hb78;have k3:=k3.keep hb78;have k4:=k4.keep hb78;have c6:=C5.out w8 hb28;have R8:Aside (Below wc.heap.size wc w8/\Has w8 b15 #[.slice a1 n1 q1,.slice a2 n2 q2] 31/\TOLD1 w8 wc.heap.size X (.slice a1 n1 q1) (.slice a2 n2 q2) o1/\Below w2.heap.size w2 wc):=⟨hb38,k15,t1',hb23⟩
  clear hw8 hb15 hb78 hb38 k15 t1 t1' hb28 hb7 C5 hb23
  go_wp2_with (first
   | (refine wpList_load_row rfl 24 (.tmp 14) rfl b1 rfl 24 (z01 r1).toArray (0,0) _ k1 Tryz.underlying24 rfl (z02 l1) ?_)
   | (refine wpList_load_row rfl 24 (.tmp 15) rfl b2 rfl 24 (z01 x).toArray (0,0) _ k2 Tryz.underlying24 rfl (z02 l2) ?_)
   | (refine wpList_load_row rfl 24 (.tmp 18) rfl b3 rfl 24 (z01 r2).toArray (0,0) _ k3 Tryz.underlying24 rfl (z02 l3) ?_)
   | (refine wpList_load_row rfl 24 (.tmp 19) rfl b4 rfl 24 (z01 y).toArray (0,0) _ k4 Tryz.underlying24 rfl (z02 l4) ?_)
   | fail)
  refine c6.mono ?_;intro e w9 hcl;obtain ⟨a3,n3,q3,a4,n4,q4,o2,rfl,t2,hb9⟩:=hcl.told;clear hcl c6 k1 k2 k3 k4;go_upto_region 7 with fail
  obtain ⟨w10,hw10⟩:∃ w10,w9.alloc (.cells #[.slice a3 n3 q3,.slice a4 n4 q4] 31)=w10:=⟨_,rfl⟩
  obtain ⟨b17,hb17⟩:∃ b,w9.heap.size=b:=⟨_,rfl⟩
  rw [hw10,hb17];have hb910:Below w9.heap.size w9 w10:=by rw [<-hw10];exact (Below.refl _ _).alloc (Nat.le_refl _) _
  have hb810:Below w8.heap.size w8 w10:=hb9.trans (hb910.mono hb9.size);have hb310:Below wc.heap.size wc w10:=R8.out.1.trans (hb810.mono R8.out.1.size);have k17:Has w10 b17 #[.slice a3 n3 q3,.slice a4 n4 q4] 31:=by rw [<-hw10,<-hb17];exact Has.new _ _ _
  have k15:=R8.out.2.1.keep hb810;have tt:TOLD2 w10 wc.heap.size X (.slice a1 n1 q1) (.slice a2 n2 q2) (.slice a3 n3 q3) (.slice a4 n4 q4) o1 o2:=(R8.out.2.2.1.two hb9 (Nat.le_refl _) t2 R8.out.1.size).below hb910;have cF:=zfE d wc.heap.size X _ _ _ _ o1 o2 w10 hb310.size tt HH.out;have x0:w10.cell? ⟨b15,0,none⟩=some (.slice a1 n1 q1):=k15.cell 0;have x1:w10.cell? ⟨b15,1,none⟩=some (.slice a2 n2 q2):=k15.cell 1;have x2:w10.cell? ⟨b17,0,none⟩=some (.slice a3 n3 q3):=k17.cell 0;have x3:w10.cell? ⟨b17,1,none⟩=some (.slice a4 n4 q4):=k17.cell 1;have R10:Aside (Below wc.heap.size wc w10/\Below w2.heap.size w2 wc):=⟨hb310,R8.out.2.2.2⟩
  clear hw10 hb17 hb910 hb810 hb310 k17 k15 tt hb9 t2 R8;go_wp2_with fail
  refine cF.mono ?_;rintro e w11 ⟨rfl,hb11⟩;clear cF x0 x1 x2 x3;have hb211:Below w2.heap.size w2 w11:=R10.out.2.trans ((R10.out.1.trans hb11).mono R10.out.2.size);have c7:=(CK.out w11 hb211).1;clear hb11;go_wp2_with fail
  refine c7.mono ?_;rintro e w12 ⟨rfl,hb12⟩;clear c7;have c8:=(CK.out w12 hb12).2.1;go_wp2_with fail
  refine c8.mono ?_;rintro e w13 ⟨rfl,hb13⟩;clear c8;have c8:=(CK.out w13 hb13).2.2.1;go_wp2_with fail
  refine c8.mono ?_;rintro e w13' ⟨rfl,hb13'⟩;clear c8;have c9:=(CK.out w13' hb13').2.2.2;go_wp2_with fail
  refine c9.mono ?_;rintro e w14 ⟨rfl,hb14⟩;clear c9;have hF:=FN.out w14 hb14;clear CK hb12 hb13 hb13' hb14 hb211;go_wp2;go_ret;exact ⟨rfl,hF⟩
theorem z71 (d:Int) (i m:Nat) (hi:i<2 ^ 64) (hm:m<2 ^ 64) (r1 x:List Int) (hr1:IsH r1) (hx:IsH x) (n:Nat) (hn:n<2 ^ 64) (r2 y:List Int) (hr2:IsH r2) (hy:IsH y) (pa qa xa:Option Addr) (pn pc qn qc xn xc:Nat) (hpz:pa=none->pc=0) (hqz:qa=none->qc=0) (hxz:xa=none->xc=0) (hpc:pn<=pc) (hqc:qn<=qc) (hxc:xn<=xc) (bp bq bx:List Int) (w:World) (hP:Bytes w pa pn bp) (hQ:Bytes w qa qn bq) (hB:Bytes w xa xn bx) (hT:Tabled w) (hX:HX.Tabled w) (h0:2<w.heap.size):
  Calls Tryz.prog 3 #[.int .i64 d,.int .u64 (i:Int),.int .u64 (m:Int),.agg (z01 r1).toArray,.agg (z01 x).toArray,.slice pa pn pc,.int .u64 (n:Int),.agg (z01 r2).toArray,.agg (z01 y).toArray,.slice qa qn qc,.slice xa xn xc] w fun e w'=>e=.returned (.bool true)/\Below w.heap.size w w':=by
 by_cases h:pn<=9600/\qn<=9600/\xn<=9600
 ·obtain ⟨TS,hTS⟩:=zdS
  exact z67 d TS hTS i m hi hm r1 x hr1 hx n hn r2 y hr2 hy pa qa xa pn pc qn qc xn xc h.1 h.2.1 h.2.2 hpz hqz hxz hpc hqc hxc bp bq bx w hP hQ hB hT hX h0
 ·exact z70 d i m r1 x n r2 y pa qa xa pn pc qn qc xn xc h w
end Go.Proofs.YtdggkbpabjgdfaaGreatDoor
namespace Go.Proofs.YtdggkbpabjgdfaaGreatDoor
open Go.ChangeShapes Go.WideShapes Go.ChangeAt Go.WideMaps Go.WideElems Go.RowKit
set_option maxRecDepth 100000
theorem own:ownKnob Tryz.prog.godebug=none:=by kernel_rfl
theorem z2E:laidOutB Tryz.prog=true:=by kernel_rfl
theorem gTab:Tryz.prog.globalNamed "math/bits.deBruijn64tab"=some 2:=by kernel_rfl
theorem tTab:(Tryz.prog.globals[2]?).map (·.type)=some 133:=by kernel_rfl
theorem ziu {H:Type}:(Rows.laid_math_bits_deBruijn64tab:DataW H)=.agg (TAB.map fun n=>.lit (.int .u8 (n:Nat))):=rfl
end Go.Proofs.YtdggkbpabjgdfaaGreatDoor
namespace Go.Proofs.YtdggkbpabjgdfaaGreatDoor
open Go.ChangeShapes Go.WideShapes Go.ChangeAt Go.WideMaps Go.WideElems Go.RowKit Go.Deep
set_option maxRecDepth 100000
theorem zfJ {H:Type} {enc:TypeId × Value->H} {W:World} {fuel:Nat} {cs:List Value} {x:DataW H × List MemPlace} (hf:DataW.trod enc Tryz.prog W 0 (fun _=>true) true fuel 24 cs=some x):∃ h:List Int,h.length=32/\(∀ x∈h,0<=x/\x<=255)/\cs=z01 h:=by
 obtain ⟨xs,m,rfl,_,hl,hn,hel⟩:=DataW.trod_array Tryz.underlying24 hf;have c5:Tryz.prog.cellsOf 5=1:=by kernel_rfl
 have c32:Tryz.prog.cellsOf 24=32:=by kernel_rfl
 rw [c32] at hl
 have hx:∀ i,i<32->∃ k:Int,cs[i]?=some (.int .u8 k)/\0<=k/\k<=255:=fun i hi=>by
  have h0:=hel i hi;rw [List.getElem?_eq_getElem (by omega),c5,Nat.mul_one] at h0;obtain ⟨k,e1,_,e3⟩:=DataW.trod_int Tryz.underlying5 h0;have hb:=bounds_u8 e3;refine ⟨k,?_,by omega,by omega⟩;have:=congrArg (fun l=>l[0]?) e1;simpa using this
 have F:∃ f:Nat->Int,∀ i,i<32->cs[i]?=some (.int .u8 (f i))/\0<=f i/\f i<=255:=by
  refine ⟨fun i=>if hi:i<32 then (hx i hi).choose else 0,fun i hi=>?_⟩;simp only [hi,dif_pos];exact (hx i hi).choose_spec
 obtain ⟨f,hf1⟩:=F;refine ⟨(List.range 32).map f,by simp,fun x hx=>?_,?_⟩
 ·simp only [List.mem_map,List.mem_range] at hx
  obtain ⟨i,hi,rfl⟩:=hx;exact (hf1 i hi).2
 ·apply List.ext_getElem?
  intro i;by_cases hi:i<32
  ·rw [(hf1 i hi).1,z0G _ i (by simp;exact hi),List.getD_eq_getElem?_getD,List.getElem?_map,List.getElem?_range hi]
   rfl
  ·rw [List.getElem?_eq_none (by omega),List.getElem?_eq_none (by simp [z01];omega)]
theorem z5a {H:Type} {enc:TypeId × Value->H} {W:World} {r:Reach} {b0:Nat} {v:Value} {d:DataW H} {ps:List MemPlace} (hval:Value.okWide Tryz.prog W r b0 24 v) (hd:DataW.Trod enc Tryz.prog W 0 (fun _=>true) true 24 v d ps):∃ h:List Int,h.length=32/\(∀ x∈h,0<=x/\x<=255)/\v=.agg (z01 h).toArray:=by
 simp only [Value.okWide,Tryz.underlying24] at hval;obtain ⟨cs,rfl,hsz,_⟩:=hval;obtain ⟨fuel,hf⟩:=hd;obtain ⟨h,h1,h2,h3⟩:=zfJ hf;refine ⟨h,h1,h2,?_⟩;congr 1
 apply Array.ext';simpa [Value.cells] using h3
theorem z46 {H:Type} {enc:TypeId × Value->H} {W:World} {a:Option Addr} {len cap:Nat} {d:DataW H} {ps:List MemPlace} (hd:DataW.Trod enc Tryz.prog W 0 (fun _=>true) true 25 (.slice a len cap) d ps):
  ∃ l:List Int,Bytes W a len l/\(a=none->cap=0)/\len<=cap:=by
 obtain ⟨fuel,hf⟩:=hd;rcases open_ints Tryz.underlying25 Tryz.underlying5 (by kernel_rfl) hf with ⟨hcs,_⟩ | ⟨x,l,c,zs,hcs,_,hl,hm,hz,hx,hcell,hwz⟩
 ·simp [Value.cells] at hcs
  obtain ⟨rfl,rfl,rfl⟩:=hcs;exact ⟨[],⟨rfl,fun h=>by omega,by simp⟩,fun _=>rfl,Nat.le_refl _⟩
 ·simp [Value.cells] at hcs
  obtain ⟨rfl,rfl,rfl⟩:=hcs;have hr:IsRow .u8 W (some x) len cap zs:=.inr ⟨_,rfl,hl,hm,by simpa using hz,hcell,hwz⟩;exact ⟨_,hr.bytes,(fun e=>by cases e),hl⟩
end Go.Proofs.YtdggkbpabjgdfaaGreatDoor
namespace Go.Proofs.YtdggkbpabjgdfaaGreatDoor.HX
set_option maxRecDepth 100000
open Go.ChangeShapes Go.WideShapes Go.ChangeAt Go.WideMaps Go.WideElems Go.RowKit
theorem own:ownKnob Tryz.prog.godebug=none:=by kernel_rfl
theorem z2E:laidOutB Tryz.prog=true:=by kernel_rfl
theorem gRounds:Tryz.prog.globalNamed "massif/hash.rounds"=some 1:=by kernel_rfl
theorem gBegin:Tryz.prog.globalNamed "massif/hash.begin"=some 0:=by kernel_rfl
theorem tRounds:(Tryz.prog.globals[1]?).map (·.type)=some 159:=by kernel_rfl
theorem tBegin:(Tryz.prog.globals[0]?).map (·.type)=some 157:=by kernel_rfl
theorem ze0 {H:Type}:(Rows.laid_massif_hash_rounds:DataW H)=.agg (KLIST.map fun n=>.lit (.int .u32 (n:Nat))):=rfl
theorem zfK {H:Type}:(Rows.laid_massif_hash_begin:DataW H)=.agg (BEGIN.map fun n=>.lit (.int .u32 (n:Nat))):=rfl
theorem z46 {H:Type} {enc:TypeId × Value->H} {W:World} {a:Option Addr} {len cap:Nat} {d:DataW H} {ps:List MemPlace} (hd:DataW.Trod enc Tryz.prog W 0 (fun _=>true) true 25 (.slice a len cap) d ps):
  ∃ l:List Nat,Text W a len l/\(a=none->cap=0):=by
 have hr:∃ zs,IsRow .u8 W a len cap zs:=by
  obtain ⟨fuel,hf⟩:=hd;rcases open_ints Tryz.underlying25 Tryz.underlying5 (by kernel_rfl) hf with ⟨hcs,_⟩ | ⟨x,l,c,zs,hcs,_,hl,hm,hz,hx,hcell,hwz⟩
  ·simp [Value.cells] at hcs
   obtain ⟨rfl,rfl,rfl⟩:=hcs;exact ⟨[],.inl ⟨rfl,rfl,rfl,rfl⟩⟩
  ·simp [Value.cells] at hcs
   obtain ⟨rfl,rfl,rfl⟩:=hcs;exact ⟨zs,.inr ⟨_,rfl,hl,hm,by simpa using hz,hcell,hwz⟩⟩
 obtain ⟨zs,hr⟩:=hr;have hb:=hr.bytes
 have e:INTS ((zs.take len).map Int.toNat)=zs.take len:=by
  unfold INTS;rw [List.map_map];conv=>rhs;rw [<-List.map_id (zs.take len)]
  apply List.map_congr_left;intro x hx;have:=hb.2.2 x hx;simp;omega
 refine ⟨(zs.take len).map Int.toNat,Text.of_bytes (by rw [e];exact hb),fun h=>?_⟩;rcases hr with ⟨_,_,h3,_⟩ | ⟨x,h1,_⟩
 ·exact h3
 ·rw [h] at h1
  cases h1
theorem zb8 {H:Type} {enc:TypeId × Value->H} {W:World} {base fuel n:Nat} {sp:Nat->Bool} {held:Bool} {t:TypeId} {cs:List Value} {ps:List MemPlace} (L:List Nat) (hL:L.length=n) (ht:Tryz.prog.underlying t=some (.array n 156))
  (hd:DataW.trod enc Tryz.prog W base sp held fuel t cs=some (.agg (L.map fun n=>.lit (.int .u32 (n:Nat))),ps)) (i:Nat) (hi:i<n):cs[i]?=some (.int .u32 (L.getD i 0:Nat)):=by
 obtain ⟨xs,m1,rfl,hx1,hlen,hn,hel⟩:=DataW.trod_array ht hd;have c5:Tryz.prog.cellsOf 156=1:=by kernel_rfl
 simp only [Prod.mk.injEq,DataW.agg.injEq] at hx1;have hx:=hx1.1;have h0:=hel i hi;have hi':i<xs.length:=by omega
 rw [List.getElem?_eq_getElem hi',c5,Nat.mul_one] at h0;obtain ⟨k,e1,e2,_⟩:=DataW.trod_int Tryz.underlying156 h0
 have hk:(k:Int)=((L.getD i 0:Nat):Int):=by
  have hz:=congrArg (fun l=>l[i]?) hx;have hT:i<L.length:=by omega
  simp only [List.getElem?_map,List.getElem?_eq_getElem hi',List.getElem?_eq_getElem hT,Option.map_some,e2] at hz;simp at hz;rw [List.getD_eq_getElem?_getD,List.getElem?_eq_getElem hT];simpa using hz.symm
 rw [<-hk];have:=congrArg (fun l=>l[0]?) e1;simpa using this
end Go.Proofs.YtdggkbpabjgdfaaGreatDoor.HX
namespace Go.Proofs.YtdggkbpabjgdfaaGreatDoor
open Go.ChangeShapes Go.WideShapes Go.ChangeAt Go.WideMaps Go.WideElems Go.RowKit
set_option maxRecDepth 100000
theorem zhn {W:World} (h:laidMetH Tryz.prog [("math/bits.deBruijn64tab",Rows.laid_math_bits_deBruijn64tab),("massif/hash.begin",Rows.laid_massif_hash_begin),("massif/hash.rounds",Rows.laid_massif_hash_rounds)] W):Tabled W/\HX.Tabled W/\2<W.heap.size:=by
 rw [MakeChecks.laidMetH_plain _ _ _ (by kernel_rfl)] at h;obtain ⟨ps,⟨g0,t0,cs0,f0,p0,q0,hg0,ht0,hv0,hd0,⟨g1,t1,cs1,f1,p1,q1,hg1,ht1,hv1,hd1,⟨g2,t2,cs2,f2,p2,q2,hg2,ht2,hv2,hd2,_,_⟩,_⟩,_⟩,_,_⟩:=h;obtain rfl:=Option.some.inj (gTab.symm.trans hg0);obtain rfl:=Option.some.inj (tTab.symm.trans ht0);obtain rfl:=Option.some.inj (HX.gBegin.symm.trans hg1);obtain rfl:=Option.some.inj (HX.tBegin.symm.trans ht1);obtain rfl:=Option.some.inj (HX.gRounds.symm.trans hg2);obtain rfl:=Option.some.inj (HX.tRounds.symm.trans ht2);rw [HX.zfK] at hd1;rw [HX.ze0] at hd2;have A:∀ i,i<8->W.cell? ⟨0,i,none⟩=some (.int .u32 (HX.BEGIN.getD i 0:Nat)):=fun i hi=>(World.var?_cell hg1 hv1 i).trans (Array.getElem?_toList.symm.trans (HX.zb8 HX.BEGIN rfl Tryz.underlying157 hd1 i hi));have B:∀ i,i<64->W.cell? ⟨1,i,none⟩=some (.int .u32 (HX.KC i:Nat)):=fun i hi=>(World.var?_cell hg2 hv2 i).trans (Array.getElem?_toList.symm.trans (HX.zb8 HX.KLIST rfl Tryz.underlying159 hd2 i hi));obtain ⟨xs,m1,rfl,hx1,hlen,hn,hel⟩:=DataW.trod_array Tryz.underlying133 hd0;have c5:Tryz.prog.cellsOf 5=1:=by kernel_rfl
 simp only [Prod.mk.injEq] at hx1;have hx:=hx1.1;rw [ziu] at hx;simp only [DataW.agg.injEq] at hx
 have T:Tabled W:=fun i hi=>by
  have h0:=hel i hi;have hi':i<xs.length:=by omega
  rw [List.getElem?_eq_getElem hi',c5,Nat.mul_one] at h0;obtain ⟨k,e1,e2,_⟩:=DataW.trod_int Tryz.underlying5 h0
  have hk:(k:Int)=((TAB.getD i 0:Nat):Int):=by
   have hz:=congrArg (fun l=>l[i]?) hx;have hT:i<TAB.length:=hi;simp only [List.getElem?_map,List.getElem?_eq_getElem hi',List.getElem?_eq_getElem hT,Option.map_some,e2] at hz;simp at hz;rw [List.getD_eq_getElem?_getD,List.getElem?_eq_getElem hT];simpa using hz.symm
  have hv:=World.var?_cell hg0 hv0 i;rw [hv,<-hk];have:=congrArg (fun l=>l[0]?) e1;simp at this;simpa using this
 have z0:2<W.heap.size:=World.block_lt_of_cell? W _ (T 0 (by decide));have z1:0<W.heap.size:=World.block_lt_of_cell? W _ (A 0 (by decide));have z2:1<W.heap.size:=World.block_lt_of_cell? W _ (B 0 (by decide));exact ⟨T,⟨B,A,by omega⟩,by omega⟩
end Go.Proofs.YtdggkbpabjgdfaaGreatDoor
