/- ManyClashes: part 31. -/
import Derived.Test.YtobaogpomcocpaaGreatDoorManyClashesP12
import Derived.Test.YtobaogpomcocpaaGreatDoorManyClashesP30
set_option maxRecDepth 100000
set_option maxHeartbeats 4000000
set_option linter.unusedSimpArgs false
open Go.RowKit
namespace Go.Proofs.YtobaogpomcocpaaGreatDoor
theorem Zw{d:Int}{n k:Nat}{l:List Int}(h:(BAGA d n k l).1=0):n<=4611686018427387904/\k=PC n/\(BAGA d n k l).2=zy d n (FLD d l k):=by
 unfold BAGA at h ⊢;by_cases h1:4611686018427387904<n
 ·rw[if_pos h1] at h
  cases h
 ·rw[if_neg h1] at h ⊢
  by_cases h2:k≠PC n
  ·rw[if_pos h2] at h
   cases h
  ·rw[if_neg h2]
   exact⟨by omega,by omega,rfl⟩
def CLPK(d:Int)(n k:Nat)(l:List Int)(k':Nat)(l':List Int):Option (List Nat × List Nat):=if (BAGA d n k l).1=0/\(BAGA d n k' l').1=0/\(BAGA d n k l).2=(BAGA d n k' l').2/\l≠l' then CLS d (BAGL d n k' l' ++ (BAGL d n k l ++ [])) else none
theorem Vg{d:Int}{n k k':Nat}{l l':List Int}(hl:l.length=32*k)(hr:∀ x∈l,0<=x/\x<=255)(hl':l'.length=32*k')(hr':∀ x∈l',0<=x/\x<=255)(h:(BAGA d n k l).1=0/\(BAGA d n k' l').1=0/\(BAGA d n k l).2=(BAGA d n k' l').2/\l≠l'):∃ s t,CLPK d n k l k' l'=some (s,t):=by
 obtain⟨h1,h2,h3,h4⟩:=h;obtain⟨-,e1,e2⟩:=Zw h1;obtain⟨-,e3,e4⟩:=Zw h2;have ek:k'=k:=by omega
 subst ek;cases hc:CLS d (BAGL d n k' l' ++ (BAGL d n k' l ++ [])) with
 | some x=>
   obtain⟨s,t⟩:=x;exact⟨s,t,by unfold CLPK;rw[if_pos ⟨h1,h2,h3,h4⟩];exact hc⟩
 | none=>
   refine absurd (z1S (Xs hc) hl hr hl' hr' ((Vf d n k' l).mono fun t ht=>?_) ((Vf d n k' l').mono fun t ht=>?_) (by rw[<-e2,<-e4,h3])) h4
   ·exact List.mem_append.2 (.inr (List.mem_append.2 (.inl ht)))
   ·exact List.mem_append.2 (.inl ht)
theorem Gq(d:Int)(n:Nat)(hn:n<2 ^ 64)(a b:Option Addr)(k k' ca cb:Nat)(hk:k<=1000)(hk':k'<=1000)(l l':List Int)(w:World)(hA:Flat w a k l)(hB:Flat w b k' l')(hX:HX.Tabled w):Calls Tryz.prog 25 #[.int .i64 d,.int .u64 (n:Int),.slice a k ca,.slice b k' cb] w (CLASHED w (CLPK d n k l k' l')):=by
 have HA:Aside (n<2 ^ 64/\k<=1000/\Flat w a k l/\Flat w b k' l'/\HX.Tabled w/\k'<=1000):=⟨hn,hk,hA,hB,hX,hk'⟩
 obtain⟨W0,hW0⟩:∃ W0,w.alloc (.cells #[.slice none 0 0,.slice none 0 0] 35)=W0:=⟨_,rfl⟩
 obtain⟨bz,hbz⟩:∃ bz,w.heap.size=bz:=⟨_,rfl⟩
 have hb0:Below w.heap.size w W0:=by rw[<-hW0];exact(Below.refl _ _).alloc (Nat.le_refl _) _
 have kz:Has W0 bz #[.slice none 0 0,.slice none 0 0] 35:=by rw[<-hW0,<-hbz];exact Has.new _ _ _
 have iR:IsH (BAGA d n k l).2:=uM;have iS:IsH (BAGA d n k' l').2:=uM;have cb1:=X6 d n hn a k ca l W0 (hA.below hb0) (hX.below hb0);have CB:Aside (∀ W,Below w.heap.size w W->Calls Tryz.prog 43 #[.int .i64 d,.int .u64 (n:Int),.slice b k' cb] W fun e w'=>e=.returned (.tuple #[.agg (za (BAGA d n k' l').2).toArray,.int .i64 (BAGA d n k' l').1])/\Below W.heap.size W w'):=fun W h=>X6 d n hn b k' cb l' W (hB.below h) (hX.below h)
 have HC:Aside ((¬ ((BAGA d n k l).1=0/\(BAGA d n k' l').1=0/\(BAGA d n k l).2=(BAGA d n k' l').2/\l≠l')->CLPK d n k l k' l'=none)/\(((BAGA d n k l).1=0/\(BAGA d n k' l').1=0/\(BAGA d n k l).2=(BAGA d n k' l').2/\l≠l')->k=PC n/\k'=k/\0<k/\∃ s t,CLPK d n k l k' l'=some (s,t)/\CLS d (BAGL d n k' l' ++ (BAGL d n k l ++ []))=some (s,t))):=by
  refine⟨fun h=>by unfold CLPK;rw[if_neg h],fun h=>?_⟩;obtain⟨s,t,e⟩:=Vg hA.1 hA.2.2 hB.1 hB.2.2 h;have e1:=(Zw h.1).2.1;have e2:=(Zw h.2.1).2.1;refine⟨e1,by omega,?_,s,t,e,?_⟩
  ·rcases Nat.eq_zero_or_pos k with h0 | h0
   ·exfalso
    apply h.2.2.2;rw[List.length_eq_zero_iff.1 (show l.length=0 by rw[hA.1,h0]),List.length_eq_zero_iff.1 (show l'.length=0 by rw[hB.1];omega)]
   ·exact h0
  ·have:=e
   unfold CLPK at this;rw[if_pos h] at this;exact this
 generalize CLPK d n k l k' l'=X at *
 generalize (BAGA d n k l).2=R at *
 generalize (BAGA d n k l).1=E at *
 generalize (BAGA d n k' l').2=S at *
 generalize (BAGA d n k' l').1=E' at *
 have lR:=iR.1;have lS:=iS.1;have q1:∀ w,(Op.equalIn 10000 23 (.agg (za R).toArray) (.agg (za S).toArray)).run Tryz.prog w=.ok (decide (R=S)) w:=fun w=>jZ lR lS w;have R0:Aside (Below w.heap.size w W0/\Has W0 bz #[.slice none 0 0,.slice none 0 0] 35/\w.heap.size<=bz):=⟨hb0,kz,by omega⟩
 have HZ:Aside (bz=w.heap.size):=hbz.symm;clear hn hk hk' hA hB hX hb0 kz iR iS;go_enter Tryz.func25,Tryz.ntmps25;go_upto_region 1 with fail
 clear hW0 hbz;go_wp2_with fail
 refine cb1.mono ?_;rintro e w1 ⟨rfl,hb1⟩;clear cb1
 go_upto_region 2 with (first
  | (refine wpList_store_row rfl 23 (.tmp 10) (.tmp 20) rfl _ _ rfl rfl 23 _ (Has.new w1 _ _) (zd lR) (by simp[za,lR]) (zx R) ?_;rw[World.setRow_alloc_new])
  | fail)
 obtain⟨w2,hw2⟩:∃ w2,w1.alloc (.cells (za R).toArray 23)=w2:=⟨_,rfl⟩
 obtain⟨ba,hba⟩:∃ b,w1.heap.size=b:=⟨_,rfl⟩
 rw[hw2,hba];have hb2:Below W0.heap.size W0 w2:=by rw[<-hw2];exact hb1.alloc hb1.size _
 have ka:Has w2 ba (za R).toArray 23:=by rw[<-hw2,<-hba];exact Has.new _ _ _
 have hbw2:Below w.heap.size w w2:=R0.out.1.trans (hb2.mono R0.out.1.size);have cb2:=CB.out w2 hbw2;have R2:Aside (Below w.heap.size w w2/\Has w2 bz #[.slice none 0 0,.slice none 0 0] 35/\Has w2 ba (za R).toArray 23):=⟨hbw2,R0.out.2.1.keep hb2,ka⟩
 clear hw2 hba hb1 hb2 ka hbw2 CB;go_wp2_with fail
 refine cb2.mono ?_;rintro e w3 ⟨rfl,hb3⟩;clear cb2
 go_upto_region 3 with (first
  | (refine wpList_store_row rfl 23 (.tmp 12) (.tmp 27) rfl _ _ rfl rfl 23 _ (Has.new w3 _ _) (zd lS) (by simp[za,lS]) (zx S) ?_;rw[World.setRow_alloc_new])
  | fail)
 obtain⟨w4,hw4⟩:∃ w4,w3.alloc (.cells (za S).toArray 23)=w4:=⟨_,rfl⟩
 obtain⟨bb,hbb⟩:∃ b,w3.heap.size=b:=⟨_,rfl⟩
 rw[hw4,hbb];have hb4:Below w2.heap.size w2 w4:=by rw[<-hw4];exact hb3.alloc hb3.size _
 have kb:Has w4 bb (za S).toArray 23:=by rw[<-hw4,<-hbb];exact Has.new _ _ _
 have ka:=R2.out.2.2.keep hb4;have kz:=R2.out.2.1.keep hb4;have hbw:Below w.heap.size w w4:=R2.out.1.trans (hb4.mono R2.out.1.size);have hzb:=R0.out.2.2;clear hw4 hbb hb3 hb4 R2 R0;by_cases hE:E=0
 ·subst hE
  by_cases hE':E'=0
  ·subst hE'
   by_cases hRS:R=S
   ·rw[decide_eq_true hRS] at q1
    have cq:=Ym a b k k' ca cb l l' w4 (HA.out.2.2.1.below hbw) (HA.out.2.2.2.1.below hbw) (by have:=HA.out.2.1;omega);by_cases hll:l=l'
    ·have hX0:=HC.out.1 (by rintro⟨_,_,_,h⟩;exact h hll)
     rw[decide_eq_true hll] at cq;subst hX0;clear HC hRS hll
     go_wp2_with (first
      | (refine ye (by rfl) 23 (.tmp 10) rfl 32 5 ba rfl 23 (za R).toArray (0,0) ka Tryz.underlying23 (zd lR) ?_)
      | (refine ye (by rfl) 23 (.tmp 12) rfl 32 5 bb rfl 23 (za S).toArray (0,0) kb Tryz.underlying23 (zd lS) ?_)
      | fail)
     refine cq.mono ?_;rintro e w5 ⟨rfl,hb5⟩;have kz:=kz.keep hb5;have hbw:Below w.heap.size w w5:=hbw.trans (hb5.mono hbw.size);clear cq ka kb q1 hb5;have x0:w5.cell? ⟨bz,0,none⟩=some (.slice none 0 0):=kz.cell 0;have x1:w5.cell? ⟨bz,1,none⟩=some (.slice none 0 0):=kz.cell 1;have f0:=kz.frozen 0;have f1:=kz.frozen 1;go_wp2;have hH:=(kz.set 0 (.slice none 0 0)).set 1 (.slice none 0 0);have hb:=(hbw.setCell (p:=⟨bz,0,none⟩) hzb (.slice none 0 0)).setCell (p:=⟨bz,1,none⟩) hzb (.slice none 0 0);clear x0 x1 f0 f1 kz;generalize (w5.setCell ⟨bz,0,none⟩ (.slice none 0 0)).setCell ⟨bz,1,none⟩ (.slice none 0 0)=wf at *
     have z0:wf.cell? ⟨bz,0,none⟩=some (.slice none 0 0):=hH.cell 0;have z1:wf.cell? ⟨bz,1,none⟩=some (.slice none 0 0):=hH.cell 1;refine bodyPost_ret (v:=.tuple #[.agg #[.slice none 0 0,.slice none 0 0],.bool false]) ?_ rfl ⟨hb,rfl⟩;simp[results,Tryz.f25,go_sem,z0,z1]
    ·obtain⟨g1,g2,g3,s,t,g4,g5⟩:=HC.out.2 ⟨rfl,rfl,hRS,hll⟩
     rw[decide_eq_false hll] at cq;subst g4;have HG:Aside (k=PC n/\k'=k/\0<k/\CLS d (BAGL d n k' l' ++ (BAGL d n k l ++ []))=some (s,t)):=⟨g1,g2,g3,g5⟩
     clear HC hRS hll g1 g2 g3 g5
     go_wp2_with (first
      | (refine ye (by rfl) 23 (.tmp 10) rfl 32 5 ba rfl 23 (za R).toArray (0,0) ka Tryz.underlying23 (zd lR) ?_)
      | (refine ye (by rfl) 23 (.tmp 12) rfl 32 5 bb rfl 23 (za S).toArray (0,0) kb Tryz.underlying23 (zd lS) ?_)
      | fail)
     refine cq.mono ?_;rintro e w5 ⟨rfl,hb5⟩;have kz5:=kz.keep hb5;have hbw5:Below w.heap.size w w5:=hbw.trans (hb5.mono hbw.size);clear cq ka kb q1 hb5 kz hbw;have cm:=z1U d w5 (fun i=>i≠bz);go_wp2_with fail
     refine cm.mono ?_;rintro e w6 ⟨rfl,hm6,hb6⟩;clear cm;obtain⟨bm,hbm⟩:∃ bm,w5.heap.size+1=bm:=⟨_,rfl⟩
     obtain⟨gm,hgm⟩:∃ gm,w5.heap.size=gm:=⟨_,rfl⟩
     rw[hbm] at hm6 ⊢;rw[hgm] at hm6;have hbw6:Below w.heap.size w w6:=hbw5.trans (hb6.mono hbw5.size);have hs5:=hbw5.size;have hs6:=hb6.size;have kz6:=kz5.keep hb6;obtain⟨ga,oa,rfl,hga, -⟩:=HA.out.2.2.1.2.1 HG.out.2.2.1;obtain⟨gb,ob,rfl,hgb, -⟩:=HA.out.2.2.2.1.2.1 (by have:=HG.out.2.1;have:=HG.out.2.2.1;omega);have htab:∀ W0 W,Below w.heap.size w W0->Below gm W0 W->HX.Tabled W:=fun W0 W h1 h2=>HA.out.2.2.2.2.1.below (h1.trans (h2.mono (by omega)));have c1:=uV d n HA.out.1 ga oa k ca HG.out.2.2.1 HA.out.2.1 l w6 gm w6.heap.size bm gm (fun i=>i≠bz) [] hm6 (by simp) (HA.out.2.2.1.below hbw6) (by omega) (fun i hi=>by have:=kz6.lt;omega) (fun W h=>htab w6 W hbw6 h);have B6:Aside (Below w.heap.size w w6/\bm=gm+1/\w.heap.size<=gm/\w5.heap.size=gm/\Has w6 bz #[.slice none 0 0,.slice none 0 0] 35/\ga<w.heap.size/\gb<w.heap.size/\bz<gm):=⟨hbw6,by omega,by omega,hgm,kz6,hga,hgb,by have:=kz5.lt;omega⟩
     clear hbm hgm hb6 hbw6 hs5 hs6 kz6 hga hgb htab hm6 kz5 hbw5;go_wp2_with fail
     refine c1.mono ?_;rintro e w7 ⟨⟨v,rfl⟩,hm7,st7⟩;clear c1;have hs7:=st7.size
     have hbw7:Below w.heap.size w w7:=by
      have h:=B6.out;exact h.1.trans (st7.below (by have:=h.1.size;omega) (by omega) (by omega))
     have kz7:Has w7 bz #[.slice none 0 0,.slice none 0 0] 35:=(st7.block bz B6.out.2.2.2.2.1.lt (by have:=B6.out;omega) (by have:=B6.out;omega)).trans B6.out.2.2.2.2.1;have htab:∀ W,Below gm w7 W->HX.Tabled W:=fun W h2=>HA.out.2.2.2.2.1.below (hbw7.trans (h2.mono B6.out.2.2.1));have c2:=uV d n HA.out.1 gb ob k' cb (by have:=HG.out;omega) HA.out.2.2.2.2.2 l' w7 gm w7.heap.size bm gm (fun i=>i≠bz) (BAGL d n k l ++ []) hm7 (by rw[List.append_nil,Ky];have:=HA.out.2.1;omega) (HA.out.2.2.2.1.below hbw7) (by have:=B6.out;omega) (fun i hi=>by have:=kz7.lt;omega) htab;have B7:Aside (Below w.heap.size w w7/\Has w7 bz #[.slice none 0 0,.slice none 0 0] 35):=⟨hbw7,kz7⟩
     clear hm7 st7 hs7 hbw7 kz7 htab;go_wp2_with fail
     refine c2.mono ?_;rintro e w8 ⟨⟨v2,rfl⟩,hm8,st8⟩;clear c2;have hs8:=st8.size;have hbw8:Below w.heap.size w w8:=B7.out.1.trans (st8.below (by have:=B7.out.1.size;omega) (by have:=B6.out;omega) (by have:=B6.out;omega));have kz8:Has w8 bz #[.slice none 0 0,.slice none 0 0] 35:=(st8.block bz B7.out.2.lt (by have:=B6.out;omega) (by have:=B6.out;omega)).trans B7.out.2;obtain⟨a1,n1,c1,a2,n2,c2,hB8, -⟩:=hm8.blk;generalize hfd:(CLS d (BAGL d n k' l' ++ (BAGL d n k l ++ []))).isSome=fd at hB8
     have FIN:Aside (∀ W,W=w8.drew->fd=true/\CLASHED w (some (s,t)) (.returned (.tuple #[.agg #[.slice a1 n1 c1,.slice a2 n2 c2],.bool fd])) ((W.setCell ⟨bz,0,none⟩ (.slice a1 n1 c1)).setCell ⟨bz,1,none⟩ (.slice a2 n2 c2))/\Has ((W.setCell ⟨bz,0,none⟩ (.slice a1 n1 c1)).setCell ⟨bz,1,none⟩ (.slice a2 n2 c2)) bz #[.slice a1 n1 c1,.slice a2 n2 c2] 35):=by
      rintro W rfl;have hHz:Has w8.drew bz #[.slice none 0 0,.slice none 0 0] 35:=kz8;have:=METC.told (w0:=w) (w':=(w8.drew.setCell ⟨bz,0,none⟩ (.slice a1 n1 c1)).setCell ⟨bz,1,none⟩ (.slice a2 n2 c2)) (bz:=bz) hm8 hB8 HG.out.2.2.2 B6.out.2.2.1 ((hbw8.drew.setCell (p:=⟨bz,0,none⟩) hzb _).setCell (p:=⟨bz,1,none⟩) hzb _) (fun i hi=>(Below.heap_setCell _ _ _ i hi).trans (Below.heap_setCell _ _ _ i hi)) (fun i h=>h);exact⟨this.1,this.2,(hHz.set 0 _).set 1 _⟩
     have y2:w8.cell? ⟨bm,2,none⟩=some (.slice a1 n1 c1):=hB8.cell 2;have y3:w8.cell? ⟨bm,3,none⟩=some (.slice a2 n2 c2):=hB8.cell 3;have y4:w8.cell? ⟨bm,4,none⟩=some (.bool fd):=hB8.cell 4;have hne:bm≠bz:=by have:=B6.out;omega
     go_upto_region 8 with fail
     refine z0K w8 bm bz a1 a2 n1 c1 n2 c2 fd (fun W=>W=w8.drew) (fun W=>W=(w8.drew.setCell ⟨bz,0,none⟩ (.slice a1 n1 c1)).setCell ⟨bz,1,none⟩ (.slice a2 n2 c2)) rfl (fun W e=>by subst e;exact⟨y2,y3,y4⟩) (fun W e=>by subst e;exact⟨(World.cell?_setCell_other _ _ _ _ (fun e=>hne (congrArg Addr.block e).symm)).trans ((World.cell?_setCell_other _ _ _ _ (fun e=>hne (congrArg Addr.block e).symm)).trans y2),(World.cell?_setCell_other _ _ _ _ (fun e=>hne (congrArg Addr.block e).symm)).trans ((World.cell?_setCell_other _ _ _ _ (fun e=>hne (congrArg Addr.block e).symm)).trans y3),(World.cell?_setCell_other _ _ _ _ (fun e=>hne (congrArg Addr.block e).symm)).trans ((World.cell?_setCell_other _ _ _ _ (fun e=>hne (congrArg Addr.block e).symm)).trans y4)⟩) (fun W e=>by subst e;exact kz8) (fun W e=>by subst e;rfl) (fun _ _ _ _ _ h=>h) ?_;intro W hW;obtain⟨q0,q1,q2⟩:=FIN.out w8.drew rfl;rw[<-hW] at q1 q2;subst q0;clear hW FIN y2 y3 y4 hB8 hm8 st8;have z0:W.cell? ⟨bz,0,none⟩=some (.slice a1 n1 c1):=q2.cell 0;have z1:W.cell? ⟨bz,1,none⟩=some (.slice a2 n2 c2):=q2.cell 1;go_wp2_with fail
     refine bodyPost_ret (v:=.tuple #[.agg #[.slice a1 n1 c1,.slice a2 n2 c2],.bool true]) ?_ rfl q1;simp[results,Tryz.f25,go_sem,z0,z1]
   ·have hX0:=HC.out.1 (by rintro⟨_,_,h,_⟩;exact hRS h)
    rw[decide_eq_false hRS] at q1;subst hX0;clear HC hRS;have x0:w4.cell? ⟨bz,0,none⟩=some (.slice none 0 0):=kz.cell 0;have x1:w4.cell? ⟨bz,1,none⟩=some (.slice none 0 0):=kz.cell 1;have f0:=kz.frozen 0;have f1:=kz.frozen 1
    go_wp2_with (first
     | (refine ye (by rfl) 23 (.tmp 10) rfl 32 5 ba rfl 23 (za R).toArray (0,0) ka Tryz.underlying23 (zd lR) ?_)
     | (refine ye (by rfl) 23 (.tmp 12) rfl 32 5 bb rfl 23 (za S).toArray (0,0) kb Tryz.underlying23 (zd lS) ?_)
     | fail)
    have hH:=(kz.set 0 (.slice none 0 0)).set 1 (.slice none 0 0);have hb:=(hbw.setCell (p:=⟨bz,0,none⟩) hzb (.slice none 0 0)).setCell (p:=⟨bz,1,none⟩) hzb (.slice none 0 0);clear x0 x1 f0 f1 kz;generalize (w4.setCell ⟨bz,0,none⟩ (.slice none 0 0)).setCell ⟨bz,1,none⟩ (.slice none 0 0)=wf at *
    have z0:wf.cell? ⟨bz,0,none⟩=some (.slice none 0 0):=hH.cell 0;have z1:wf.cell? ⟨bz,1,none⟩=some (.slice none 0 0):=hH.cell 1;refine bodyPost_ret (v:=.tuple #[.agg #[.slice none 0 0,.slice none 0 0],.bool false]) ?_ rfl ⟨hb,rfl⟩;simp[results,Tryz.f25,go_sem,z0,z1]
  ·have hX0:=HC.out.1 (by rintro⟨_,h,_,_⟩;exact hE' h)
   have hE2:(E' != 0)=true:=bne_iff_ne.2 hE';subst hX0;clear HC q1 hE' ka kb;have x0:w4.cell? ⟨bz,0,none⟩=some (.slice none 0 0):=kz.cell 0;have x1:w4.cell? ⟨bz,1,none⟩=some (.slice none 0 0):=kz.cell 1;have f0:=kz.frozen 0;have f1:=kz.frozen 1;go_wp2;have hH:=(kz.set 0 (.slice none 0 0)).set 1 (.slice none 0 0);have hb:=(hbw.setCell (p:=⟨bz,0,none⟩) hzb (.slice none 0 0)).setCell (p:=⟨bz,1,none⟩) hzb (.slice none 0 0);clear x0 x1 f0 f1 kz;generalize (w4.setCell ⟨bz,0,none⟩ (.slice none 0 0)).setCell ⟨bz,1,none⟩ (.slice none 0 0)=wf at *
   have z0:wf.cell? ⟨bz,0,none⟩=some (.slice none 0 0):=hH.cell 0;have z1:wf.cell? ⟨bz,1,none⟩=some (.slice none 0 0):=hH.cell 1;refine bodyPost_ret (v:=.tuple #[.agg #[.slice none 0 0,.slice none 0 0],.bool false]) ?_ rfl ⟨hb,rfl⟩;simp[results,Tryz.f25,go_sem,z0,z1]
 ·have hX0:=HC.out.1 (by rintro⟨h,_,_,_⟩;exact hE h)
  have hE1:(E != 0)=true:=bne_iff_ne.2 hE;subst hX0;clear HC q1 hE ka kb;have x0:w4.cell? ⟨bz,0,none⟩=some (.slice none 0 0):=kz.cell 0;have x1:w4.cell? ⟨bz,1,none⟩=some (.slice none 0 0):=kz.cell 1;have f0:=kz.frozen 0;have f1:=kz.frozen 1;go_wp2;have hH:=(kz.set 0 (.slice none 0 0)).set 1 (.slice none 0 0);have hb:=(hbw.setCell (p:=⟨bz,0,none⟩) hzb (.slice none 0 0)).setCell (p:=⟨bz,1,none⟩) hzb (.slice none 0 0);clear x0 x1 f0 f1 kz;generalize (w4.setCell ⟨bz,0,none⟩ (.slice none 0 0)).setCell ⟨bz,1,none⟩ (.slice none 0 0)=wf at *
  have z0:wf.cell? ⟨bz,0,none⟩=some (.slice none 0 0):=hH.cell 0;have z1:wf.cell? ⟨bz,1,none⟩=some (.slice none 0 0):=hH.cell 1;refine bodyPost_ret (v:=.tuple #[.agg #[.slice none 0 0,.slice none 0 0],.bool false]) ?_ rfl ⟨hb,rfl⟩;simp[results,Tryz.f25,go_sem,z0,z1]
theorem J1{n:Nat}{l:List Int}(hl:l.length=n)(hr:∀ x∈l,0<=x/\x<=255):(za l).toArray=HX.UARR .u8 n (FNC l):=by
 unfold HX.UARR za;congr 1
 apply List.ext_getElem (by simp[hl]);intro i h1 h2;have h3:i<l.length:=by simpa using h1
 have:=hr l[i] (List.getElem_mem h3);simp only[List.getElem_map,List.getElem_range,FNC];rw[List.getD_eq_getElem?_getD,List.getElem?_eq_getElem h3,Option.getD_some];congr 1
 omega
theorem z1V{n:Nat}{l k:List Int}(hl:l.length=n)(hr:∀ x∈l,0<=x/\x<=255)(hk:k.length=n)(hs:∀ x∈k,0<=x/\x<=255):((List.range n).all fun i=>FNC l i == FNC k i)=decide (l=k):=by
 by_cases e:l=k
 ·subst e
  simp
 ·rw[decide_eq_false e,Bool.eq_false_iff]
  intro hx;rw[List.all_eq_true] at hx;apply e;apply List.ext_getElem (by omega);intro i h1 h2;have h:=hx i (by simp;omega);have a1:=hr l[i] (List.getElem_mem h1);have a2:=hs k[i] (List.getElem_mem h2);simp only[FNC,List.getD_eq_getElem?_getD,List.getElem?_eq_getElem h1,List.getElem?_eq_getElem h2,Option.getD_some,beq_iff_eq] at h;omega
theorem ke:(Tryz.prog.fieldsOf 56).toList.map (fun f=>(f.name == "_",f.type,f.offset))=[(false,23,0),(false,23,32),(false,23,64)]:=by kernel_rfl
theorem kf(F G:Nat->Nat)(w:World):(Op.equalIn 10000 56 (.agg (HX.UARR .u8 96 F)) (.agg (HX.UARR .u8 96 G))).run Tryz.prog w=.ok ((List.range 96).all fun i=>F i == G i) w:=by
 rw[run_equalIn_struct (P:=Tryz.prog) w 9999 56 _ _ (by kernel_rfl) (by kernel_rfl),HX.Vc 9997 96 F G w _ [(23,0,32),(23,32,32),(23,64,32)] ke]
 ·rw[HX.Vb 32 64,HX.Vb 32 32]
  simp[<-Nat.add_assoc]
 ·intro p hp
  simp only[List.mem_cons,List.not_mem_nil,or_false] at hp;rcases hp with rfl | rfl | rfl
  ·exact⟨HX.Xt w,HX.Y5 w,Tryz.underlying23,by decide⟩
  ·exact⟨HX.Xt w,HX.Y5 w,Tryz.underlying23,by decide⟩
  ·exact⟨HX.Xt w,HX.Y5 w,Tryz.underlying23,by decide⟩
theorem V6{A B Y:List Int}(hA:IsH A)(hB:IsH B)(hY:IsH Y):(A ++ B ++ Y).length=96/\∀ x∈A ++ B ++ Y,0<=x/\x<=255:=by
 refine⟨by simp[hA.1,hB.1,hY.1],fun x hx=>?_⟩;rcases List.mem_append.1 hx with hx | hx
 ·rcases List.mem_append.1 hx with hx | hx
  ·exact hA.2 x hx
  ·exact hB.2 x hx
 ·exact hY.2 x hx
def MNE(A B Y A2 B2 Y2:List Int):Bool:=!decide (A=A2/\B=B2/\Y=Y2)
theorem kg{A B Y A2 B2 Y2:List Int}(hA:IsH A)(hB:IsH B)(hY:IsH Y)(hA2:IsH A2)(hB2:IsH B2)(hY2:IsH Y2)(w:World):(Op.equalIn 10000 56 (.agg (za A ++ za B ++ za Y).toArray) (.agg (za A2 ++ za B2 ++ za Y2).toArray)).run Tryz.prog w=.ok (!(MNE A B Y A2 B2 Y2)) w:=by
 obtain⟨h1,h2⟩:=V6 hA hB hY;obtain⟨k1,k2⟩:=V6 hA2 hB2 hY2
 have e:decide (A ++ B ++ Y=A2 ++ B2 ++ Y2)=!(MNE A B Y A2 B2 Y2):=by
  unfold MNE;rw[Bool.not_not];refine decide_eq_decide.2 ⟨fun h=>?_,fun h=>by rw[h.1,h.2.1,h.2.2]⟩;obtain⟨h,h'⟩:=List.append_inj h (by simp[hA.1,hB.1,hA2.1,hB2.1]);obtain⟨h,h''⟩:=List.append_inj h (by simp[hA.1,hA2.1]);exact⟨h,h'',h'⟩
 have c1:(za A ++ za B ++ za Y).toArray=(za (A ++ B ++ Y)).toArray:=by simp[za]
 have c2:(za A2 ++ za B2 ++ za Y2).toArray=(za (A2 ++ B2 ++ Y2)).toArray:=by simp[za]
 rw[c1,c2,J1 h1 h2,J1 k1 k2,kf,z1V h1 h2 k1 k2,e]
def TWOH(S:List (List Int × List Int)):Prop:=∀ s∈S,IsH s.1/\IsH s.2
theorem TWOH.append{S T:List (List Int × List Int)}(h:TWOH S)(h':TWOH T):TWOH (S ++ T):=fun s hs=>(List.mem_append.1 hs).elim (h s) (h' s)
theorem z2w(d:Int):∀ (h k:Nat) (L:List Nat) (lv nd:List Int) (i j:Nat),UNR h k L->HSS i lv->HSS j nd->L.length<=i->(NEED h k L).length<=j->TWOH (MST d h k L lv nd):=by
 intro h;induction h with
 | zero=>
   intro k L lv nd i j hU hi hj h1 h2;cases L with
   | nil=>intro s hs;cases hs
   | cons x l=>intro s hs;cases hs
 | succ h ih=>
   intro k L lv nd i j hU hi hj h1 h2;by_cases hL:L=[]
   ·subst hL
    rw[XJ];intro s hs;cases hs
   ·obtain⟨r,hr⟩:∃ r,RANKS L ((2*k+1)*2 ^ h) r:=yv hU.1 _
    have hN:=xR hL hr;rw[hN,List.length_append] at h2;have hle:=hr.le;have q1:=yj d h (2*k) (L.take r) lv nd i j (hU.left hr) hi hj (by rw[List.length_take];omega) (by omega);have q2:=yj d h (2*k+1) (L.drop r) _ _ _ _ (hU.right hr) q1.2.1 q1.2.2 (by rw[List.length_take,List.length_drop];omega) (by omega);have p1:=ih (2*k) (L.take r) lv nd i j (hU.left hr) hi hj (by rw[List.length_take];omega) (by omega);have p2:=ih (2*k+1) (L.drop r) _ _ _ _ (hU.right hr) q1.2.1 q1.2.2 (by rw[List.length_take,List.length_drop];omega) (by omega);rw[jB hL hr];refine(p1.append p2).append fun s hs=>?_;obtain rfl:=List.mem_singleton.1 hs;exact⟨q1.1,q2.1⟩
theorem uW{d:Int}:∀ (ps:List (Nat × Nat)) (A B:Nat) (L:List Nat) (lv nd:List Int) (i j:Nat),Tile A ps B->AMID A B L->RISES L->HSS i lv->HSS j nd->L.length<=i->(zc ps L).length<=j->TWOH (MSTS d ps L lv nd)
 | [],_,_,_,_,_,_,_,_,_,_,_,_,_,_=>fun x hx=>by cases hx
 | (h,k) :: ps,A,B,L,lv,nd,i,j,ht,hm,hR,hi,hj,h1,h2=>by
   obtain⟨hN,hA,ht⟩:Node h k/\k*2 ^ h=A/\Tile ((k+1)*2 ^ h) ps B:=ht;obtain⟨r,hr⟩:=yv hR ((k+1)*2 ^ h);have hn:=y7 ps hr;have hle:=hr.le;rw[hn,List.length_append] at h2;have s:=yj d h k (L.take r) lv nd i j (hm.take hR hr hA) hi hj (by rw[List.length_take];omega) (by omega);rw[jo ps hr];exact(z2w d h k (L.take r) lv nd i j (hm.take hR hr hA) hi hj (by rw[List.length_take];omega) (by omega)).append (uW ps ((k+1)*2 ^ h) B (L.drop r) _ _ _ _ ht (hm.drop hr) (hR.drop r) s.2.1 s.2.2 (by rw[List.length_take,List.length_drop];omega) (by omega))
def xK(d:Int)(s t:List Int × List Int):Bool:=decide (zp d s.1 s.2=zp d t.1 t.2) && MNE s.1 s.2 (zp d s.1 s.2) t.1 t.2 (zp d t.1 t.2)
def FPK(d:Int):List (List Int × List Int)->List (List Int × List Int)->Option ((List Int × List Int) × (List Int × List Int))
 | s :: S,t :: T=>if xK d s t=true then some (s,t) else FPK d S T
 | _,_=>none
theorem z2x{d:Int}{S T:List (List Int × List Int)}{i:Nat}{s t:List Int × List Int}(hs:S[i]?=some s)(ht:T[i]?=some t):FPK d (S.drop i) (T.drop i)=if xK d s t=true then some (s,t) else FPK d (S.drop (i+1)) (T.drop (i+1)):=by
 obtain⟨h1,e1⟩:=List.getElem?_eq_some_iff.1 hs;obtain⟨h2,e2⟩:=List.getElem?_eq_some_iff.1 ht;rw[List.drop_eq_getElem_cons h1,List.drop_eq_getElem_cons h2,e1,e2,FPK]
theorem z1W{d:Int}{S T:List (List Int × List Int)}{i:Nat}(h:S.length<=i):FPK d (S.drop i) (T.drop i)=none:=by
 rw[List.drop_of_length_le h];rfl
theorem V7{d:Int}:∀ {S T:List (List Int × List Int)},FPK d S T=none->NOCL d S T
 | [],T,_=>fun p hp=>by simp at hp
 | s :: S,[],_=>fun p hp=>by simp at hp
 | s :: S,t :: T,h=>by
   rw[FPK] at h;by_cases hp:xK d s t=true
   ·rw[if_pos hp] at h
    cases h
   ·rw[if_neg hp] at h
    intro p hm;rw[List.zip_cons_cons] at hm;rcases List.mem_cons.1 hm with rfl | hm
    ·intro he
     have he:zp d s.1 s.2=zp d t.1 t.2:=he;unfold xK MNE at hp;simp only[he,decide_true,Bool.true_and,and_true,Bool.not_eq_true',decide_eq_false_iff_not,Classical.not_not] at hp;exact Prod.ext hp.1 hp.2
    ·exact V7 h p hm
theorem V8{d:Int}:∀ {S T:List (List Int × List Int)} {s t:List Int × List Int},FPK d S T=some (s,t)->s∈S/\t∈T/\zp d s.1 s.2=zp d t.1 t.2/\s≠t
 | [],T,_,_,h=>by cases h
 | x :: S,[],_,_,h=>by cases h
 | x :: S,y :: T,s,t,h=>by
   rw[FPK] at h;by_cases hp:xK d x y=true
   ·rw[if_pos hp] at h
    cases h;unfold xK MNE at hp;simp only[Bool.and_eq_true,decide_eq_true_eq,Bool.not_eq_true',decide_eq_false_iff_not] at hp;refine⟨List.mem_cons_self ..,List.mem_cons_self ..,hp.1,fun e=>?_⟩;subst e;exact hp.2 ⟨rfl,rfl,rfl⟩
   ·rw[if_neg hp] at h
    obtain⟨h1,h2,h3⟩:=V8 h;exact⟨List.mem_cons_of_mem _ h1,List.mem_cons_of_mem _ h2,h3⟩
def MCLK(d:Int)(N:Nat)(L:List Nat)(lx nx ly ny:List Int):Option (List Nat × List Nat):=
 match FPK d (MSTS d (TPS N) L lx nx) (MSTS d (TPS N) L ly ny) with
 | some (s,t)=>some (zJ s.1 s.2,zJ t.1 t.2)
 | none=>CLPK d N (PC N) (MUPS d (TPS N) L lx nx) (PC N) (MUPS d (TPS N) L ly ny)
def MCLA(d:Int)(root:List Int)(N:Nat)(L:List Nat)(kx:Nat)(lx p:List Int)(ky:Nat)(ly q:List Int):Option (List Nat × List Nat):=
 if lx=ly\/MVA d root N L kx lx p≠0\/MVA d root N L ky ly q≠0 then none else MCLK d N L lx (MDC p).2.2.2 ly (MDC q).2.2.2
theorem qG{d:Int}{root:List Int}{N:Nat}{L:List Nat}{k:Nat}{lv b:List Int}(h:MVA d root N L k lv b=0):MDC b=(0,N,L,(MDC b).2.2.2)/\k=L.length/\zy d N (FLD d (MUPS d (TPS N) L lv (MDC b).2.2.2) (PC N))=root:=by
 have s:=Xq d root N L k lv b;rw[h] at s;have e1:(MDC b).1=0:=Classical.byContradiction fun hn=>hn (s.dec hn).symm;have e2:(MDC b).2.1=N:=Classical.byContradiction fun hn=>by have:=s.size e1 hn;omega
 have e3:(MDC b).2.2.1=L:=Classical.byContradiction fun hn=>by have:=s.index e1 e2 hn;omega
 have e4:k=L.length:=Classical.byContradiction fun hn=>by have:=s.count e1 e2 e3 hn;omega
 refine⟨?_,e4,Classical.byContradiction fun hn=>by have:=s.unlike e1 e2 e3 e4 hn;omega⟩;rw[<-e1,<-e2,<-e3]
theorem Zx{d:Int}{root:List Int}{N:Nat}{L:List Nat}{k:Nat}{lv b:List Int}(h:MVA d root N L k lv b=0)(hb:∀ x∈b,0<=x/\x<=255)(hl:HSS k lv):TWOH (MSTS d (TPS N) L lv (MDC b).2.2.2):=by
 obtain⟨e1,e2,_⟩:=qG h;obtain⟨t1,t2,t3,_,t5⟩:=xT hb (by rw[e1]);obtain⟨nd,hnd⟩:∃ nd,(MDC b).2.2.2=nd:=⟨_,rfl⟩
 rw[hnd] at e1 ⊢;clear hnd;rw[e1] at t1 t2 t3 t5;dsimp only at t1 t2 t3 t5;obtain⟨_,r2,r3⟩:=yF t2;exact uW (TPS N) 0 N L lv nd k _ (yE t1) (fun x hx=>⟨Nat.zero_le _,r3 x hx⟩) r2 hl ⟨t3,t5⟩ (by omega) (Nat.le_refl _)
@[go_sem] def MC10OPSq0:Oper:=⟨some 84,.fieldAddr 56 (.tmp 23) 0,0,"many.go:109",#[],none⟩
@[go_sem] def MC10OPSq1:Oper:=⟨some 85,.load 23 (.tmp 84),23,"many.go:109",#[⟨0,.data⟩],none⟩
@[go_sem] def MC10OPSq2:Oper:=⟨some 86,.fieldAddr 56 (.tmp 23) 1,0,"many.go:109",#[],none⟩
@[go_sem] def MC10OPSq3:Oper:=⟨some 87,.load 23 (.tmp 86),23,"many.go:109",#[⟨2,.data⟩],none⟩
@[go_sem] def MC10OPSq4:Oper:=⟨some 88,.call {callee:=.value (.func 24),args:=#[.tmp 85,.tmp 87],argTypes:=#[23,23]},27,"many.go:109",#[⟨1,.data⟩,⟨3,.data⟩],none⟩
@[go_sem] def MC10OPSq5:Oper:=⟨some 89,.fieldAddr 56 (.tmp 24) 0,0,"many.go:109",#[],none⟩
@[go_sem] def MC10OPSq6:Oper:=⟨some 90,.load 23 (.tmp 89),23,"many.go:109",#[⟨5,.data⟩],none⟩
@[go_sem] def MC10OPSq7:Oper:=⟨some 91,.fieldAddr 56 (.tmp 24) 1,0,"many.go:109",#[],none⟩
@[go_sem] def MC10OPSq8:Oper:=⟨some 92,.load 23 (.tmp 91),23,"many.go:109",#[⟨7,.data⟩],none⟩
@[go_sem] def MC10OPSq9:Oper:=⟨some 93,.call {callee:=.value (.func 24),args:=#[.tmp 90,.tmp 92],argTypes:=#[23,23]},27,"many.go:109",#[⟨6,.data⟩,⟨8,.data⟩,⟨4,.chain⟩],none⟩
@[go_sem] def MC10OPSq10:Oper:=⟨some 94,.build 35 #[(0,.tmp 88),(1,.tmp 93)],35,"many.go:109",#[⟨4,.data⟩,⟨9,.data⟩],none⟩
@[go_sem] def MC10OPSq11:Oper:=⟨none,.store 35 (.tmp 16) (.tmp 94),0,"many.go:109",#[⟨10,.data⟩,⟨9,.chain⟩,⟨0,.phase⟩,⟨1,.phase⟩,⟨2,.phase⟩,⟨3,.phase⟩,⟨4,.phase⟩,⟨5,.phase⟩,⟨6,.phase⟩,⟨7,.phase⟩,⟨8,.phase⟩,⟨9,.phase⟩,⟨10,.phase⟩],none⟩
@[go_sem] def MC10OPSq12:Oper:=⟨some 17,.assign (.const (.bool true)),4,"many.go:109",#[⟨11,.chain⟩,⟨0,.phase⟩,⟨1,.phase⟩,⟨2,.phase⟩,⟨3,.phase⟩,⟨4,.phase⟩,⟨5,.phase⟩,⟨6,.phase⟩,⟨7,.phase⟩,⟨8,.phase⟩,⟨9,.phase⟩,⟨10,.phase⟩,⟨11,.phase⟩],none⟩
def Z0:Array Oper:=#[MC10OPSq0,MC10OPSq1,MC10OPSq2,MC10OPSq3,MC10OPSq4,MC10OPSq5,MC10OPSq6,MC10OPSq7,MC10OPSq8,MC10OPSq9,MC10OPSq10,MC10OPSq11,MC10OPSq12]
theorem z0L{Q:Exit->Act->World->Prop}{b d f i j k l m n p q r s u x y C D E F G H I J K L M N O P R T U V Z aa ab ac ad ae af ag ah ai aj ak al am an ao ap aq ar au av aw ax ay az aA aB aC aD aE aF aG aH aI aJ aK aL aM aN aO aP aQ aR aS aT aU aV aW aX aY aZ a0 a1 a2 a3 a4 a5 a6 a7 a8 a9 ba bb bc bd be:Value}(W:World)(b1 b2 bz:Nat)(A B X Y:List Int)(lA:A.length=32)(lB:B.length=32)(lX:X.length=32)(lY:Y.length=32)(P0:World->Prop)(P1:Nat->Nat->World->Prop)(P2 P3:Nat->Nat->Nat->Nat->World->Prop)(h0:P0 W.drew)(t0:∀ w,P0 w->(fun w:World=>w.rangeAt b1 0 (za A)/\w.rangeAt b1 32 (za B)/\w.rangeAt b2 0 (za X)/\w.rangeAt b2 32 (za Y)) w)(t1:∀ g c w,P1 g c w->(fun w:World=>w.rangeAt b1 0 (za A)/\w.rangeAt b1 32 (za B)/\w.rangeAt b2 0 (za X)/\w.rangeAt b2 32 (za Y)) w)(t2:∀ g c g2 c2 w,P2 g c g2 c2 w->(fun w:World=>w.rangeAt b1 0 (za A)/\w.rangeAt b1 32 (za B)/\w.rangeAt b2 0 (za X)/\w.rangeAt b2 32 (za Y)) w)(t3:∀ g c g2 c2 w,P3 g c g2 c2 w->(fun w:World=>w.rangeAt b1 0 (za A)/\w.rangeAt b1 32 (za B)/\w.rangeAt b2 0 (za X)/\w.rangeAt b2 32 (za Y)) w)
  (k1:∀ w,P0 w->Calls Tryz.prog 24 #[.agg (za A).toArray,.agg (za B).toArray] w fun e w'=>∃ g1 c1,e=.returned (.slice (some ⟨g1,0,none⟩) 65 c1)/\P1 g1 c1 w')(k2:∀ g1 c1 w,P1 g1 c1 w->Calls Tryz.prog 24 #[.agg (za X).toArray,.agg (za Y).toArray] w fun e w'=>∃ g2 c2,e=.returned (.slice (some ⟨g2,0,none⟩) 65 c2)/\P2 g1 c1 g2 c2 w')(kz:∀ g1 c1 g2 c2 w,P2 g1 c1 g2 c2 w->Has w bz #[.slice none 0 0,.slice none 0 0] 35)(st:∀ g1 c1 g2 c2 w,P2 g1 c1 g2 c2 w->P3 g1 c1 g2 c2 ((w.setCell ⟨bz,0,none⟩ (.slice (some ⟨g1,0,none⟩) 65 c1)).setCell ⟨bz,1,none⟩ (.slice (some ⟨g2,0,none⟩) 65 c2)))(hQ:∀ c (a:Act) (t:Tmp) (v:Value) w,Q (.panic c) (a.put (some t) v) w->Q (.panic c) a w)
  (hfin:∀ (g1:Nat) (c1:Nat) (g2:Nat) (c2:Nat) (w:World),(P3 g1 c1 g2 c2 w)->Q .normal ⟨#[b,d,f,i,j,k,l,m,n,p,q,r,s,u,x,y,.pointer (some ⟨bz,0,none⟩),.bool true,D,E,F,G,H,.pointer (some ⟨b1,0,none⟩),.pointer (some ⟨b2,0,none⟩),I,J,K,L,M,N,O,P,R,T,U,V,Z,aa,ab,ac,ad,ae,af,ag,ah,ai,aj,ak,al,am,an,ao,ap,aq,ar,au,av,aw,ax,ay,az,aA,aB,aC,aD,aE,aF,aG,aH,aI,aJ,aK,aL,aM,aN,aO,aP,aQ,aR,aS,aT,aU,aV,.pointer (some ⟨b1,0,none⟩),.agg (za A).toArray,.pointer (some ⟨b1,32,none⟩),.agg (za B).toArray,.slice (some ⟨g1,0,none⟩) 65 c1,.pointer (some ⟨b2,0,none⟩),.agg (za X).toArray,.pointer (some ⟨b2,32,none⟩),.agg (za Y).toArray,.slice (some ⟨g2,0,none⟩) 65 c2,.agg #[.slice (some ⟨g1,0,none⟩) 65 c1,.slice (some ⟨g2,0,none⟩) 65 c2],a7,a8,a9,ba,bb,bc,bd,be],[]⟩ w):(Code.region 10 Z0 true).wp Tryz.prog Q ⟨#[b,d,f,i,j,k,l,m,n,p,q,r,s,u,x,y,.pointer (some ⟨bz,0,none⟩),C,D,E,F,G,H,.pointer (some ⟨b1,0,none⟩),.pointer (some ⟨b2,0,none⟩),I,J,K,L,M,N,O,P,R,T,U,V,Z,aa,ab,ac,ad,ae,af,ag,ah,ai,aj,ak,al,am,an,ao,ap,aq,ar,au,av,aw,ax,ay,az,aA,aB,aC,aD,aE,aF,aG,aH,aI,aJ,aK,aL,aM,aN,aO,aP,aQ,aR,aS,aT,aU,aV,aW,aX,aY,aZ,a0,a1,a2,a3,a4,a5,a6,a7,a8,a9,ba,bb,bc,bd,be],[]⟩ W:=by
 have ekst4_9_11:∀ (g1:Nat) (c1:Nat) (g2:Nat) (c2:Nat) (w:World),(P3 g1 c1 g2 c2 w)->wpAnyH Tryz.prog .any Z0 Q (fun w:World=>w.rangeAt b1 0 (za A)/\w.rangeAt b1 32 (za B)/\w.rangeAt b2 0 (za X)/\w.rangeAt b2 32 (za Y)) 1 #[tt,tt,tt,tt,tt,tt,tt,tt,tt,tt,tt,tt,ff] ⟨#[b,d,f,i,j,k,l,m,n,p,q,r,s,u,x,y,.pointer (some ⟨bz,0,none⟩),C,D,E,F,G,H,.pointer (some ⟨b1,0,none⟩),.pointer (some ⟨b2,0,none⟩),I,J,K,L,M,N,O,P,R,T,U,V,Z,aa,ab,ac,ad,ae,af,ag,ah,ai,aj,ak,al,am,an,ao,ap,aq,ar,au,av,aw,ax,ay,az,aA,aB,aC,aD,aE,aF,aG,aH,aI,aJ,aK,aL,aM,aN,aO,aP,aQ,aR,aS,aT,aU,aV,.pointer (some ⟨b1,0,none⟩),.agg (za A).toArray,.pointer (some ⟨b1,32,none⟩),.agg (za B).toArray,.slice (some ⟨g1,0,none⟩) 65 c1,.pointer (some ⟨b2,0,none⟩),.agg (za X).toArray,.pointer (some ⟨b2,32,none⟩),.agg (za Y).toArray,.slice (some ⟨g2,0,none⟩) 65 c2,.agg #[.slice (some ⟨g1,0,none⟩) 65 c1,.slice (some ⟨g2,0,none⟩) 65 c2],a7,a8,a9,ba,bb,bc,bd,be],[]⟩ w:=fun g1 c1 g2 c2 w hp=>by
  have hww:(fun w:World=>w.rangeAt b1 0 (za A)/\w.rangeAt b1 32 (za B)/\w.rangeAt b2 0 (za X)/\w.rangeAt b2 32 (za Y)) w:=t3 _ _ _ _ _ hp;refine tkP MC10OPSq12 (.bool true) 12 hQ hww ?_;simp only[List.set];exact wpAnyH_done (by kernel_rfl) (hfin g1 c1 g2 c2 w hp) _
 have kst:∀ (w:World),(P0 w)->wpAnyH Tryz.prog .any Z0 Q (fun w:World=>w.rangeAt b1 0 (za A)/\w.rangeAt b1 32 (za B)/\w.rangeAt b2 0 (za X)/\w.rangeAt b2 32 (za Y)) 5 #[tt,tt,tt,tt,ff,tt,tt,tt,tt,ff,ff,ff,ff] ⟨#[b,d,f,i,j,k,l,m,n,p,q,r,s,u,x,y,.pointer (some ⟨bz,0,none⟩),C,D,E,F,G,H,.pointer (some ⟨b1,0,none⟩),.pointer (some ⟨b2,0,none⟩),I,J,K,L,M,N,O,P,R,T,U,V,Z,aa,ab,ac,ad,ae,af,ag,ah,ai,aj,ak,al,am,an,ao,ap,aq,ar,au,av,aw,ax,ay,az,aA,aB,aC,aD,aE,aF,aG,aH,aI,aJ,aK,aL,aM,aN,aO,aP,aQ,aR,aS,aT,aU,aV,.pointer (some ⟨b1,0,none⟩),.agg (za A).toArray,.pointer (some ⟨b1,32,none⟩),.agg (za B).toArray,a0,.pointer (some ⟨b2,0,none⟩),.agg (za X).toArray,.pointer (some ⟨b2,32,none⟩),.agg (za Y).toArray,a5,a6,a7,a8,a9,ba,bb,bc,bd,be],[]⟩ w:=fun  w hp=>by
  refine wpAnyH_ready (rs:=[4]) (by kernel_rfl) (by simp) ?_;refine AllReadyH.cons (o:=MC10OPSq4) rfl (fun KQ hKQ=>?_) ?_
  ·rw[if_pos (by rfl)]
   go_simp;refine(show Calls _ _ _ w (fun e w'=>∃ (g1:Nat) (c1:Nat),e=.returned (.slice (some ⟨g1,0,none⟩) 65 c1)/\(P1 g1 c1 w')) from k1 w hp).mono ?_;rintro e w ⟨g1,c1,rfl,hp⟩;refine hKQ.out _ _ (t1 _ _ _ hp) (fun _=>?_);simp only[List.setIfInBounds_toArray,List.set];refine wpAnyH_ready (rs:=[9]) (by kernel_rfl) (by simp) ?_;refine AllReadyH.cons (o:=MC10OPSq9) rfl (fun KQ hKQ=>?_) ?_
   ·rw[if_pos (by rfl)]
    go_simp;refine(show Calls _ _ _ w (fun e w'=>∃ (g2:Nat) (c2:Nat),e=.returned (.slice (some ⟨g2,0,none⟩) 65 c2)/\(P2 g1 c1 g2 c2 w')) from k2 _ _ w hp).mono ?_;rintro e w ⟨g2,c2,rfl,hp⟩;refine hKQ.out _ _ (t2 _ _ _ _ _ hp) (fun _=>?_);simp only[List.setIfInBounds_toArray,List.set];have hww:(fun w:World=>w.rangeAt b1 0 (za A)/\w.rangeAt b1 32 (za B)/\w.rangeAt b2 0 (za X)/\w.rangeAt b2 32 (za Y)) w:=t2 _ _ _ _ _ hp;refine tkP MC10OPSq10 (.agg #[.slice (some ⟨g1,0,none⟩) 65 c1,.slice (some ⟨g2,0,none⟩) 65 c2]) 10 hQ hww ?_;simp only[List.set];refine wpAnyH_ready (rs:=[11]) (by kernel_rfl) (by simp) ?_;refine AllReadyH.cons (o:=MC10OPSq11) rfl (fun KQ hKQ=>?_) ?_
    ·exact(have x0:w.cell? ⟨bz,0,none⟩=some (.slice none 0 0):=(kz _ _ _ _ w hp).cell 0;have x1:w.cell? ⟨bz,1,none⟩=some (.slice none 0 0):=(kz _ _ _ _ w hp).cell 1;have f0:=(kz _ _ _ _ w hp).frozen 0;have f1:=(kz _ _ _ _ w hp).frozen 1;yt (by rfl) (by go_simp) (have hp:(fun(g1:Nat) (c1:Nat) (g2:Nat) (c2:Nat) (w:World)=>(P3 g1 c1 g2 c2 w)) g1 c1 g2 c2 _:=st _ _ _ _ w hp;hKQ.out _ _ (t3 _ _ _ _ _ hp) (fun _=>ekst4_9_11 g1 c1 g2 c2 _ hp)))
    exact AllReadyH.nil
   exact AllReadyH.nil
  exact AllReadyH.nil
 have hp:=h0;have hww:(fun w:World=>w.rangeAt b1 0 (za A)/\w.rangeAt b1 32 (za B)/\w.rangeAt b2 0 (za X)/\w.rangeAt b2 32 (za Y)) W.drew:=t0 _ hp;have last:=kst W.drew hp
 have z:wpAnyH Tryz.prog .any Z0 Q (fun w:World=>w.rangeAt b1 0 (za A)/\w.rangeAt b1 32 (za B)/\w.rangeAt b2 0 (za X)/\w.rangeAt b2 32 (za Y)) 13 #[ff,ff,ff,ff,ff,ff,ff,ff,ff,ff,ff,ff,ff] ⟨#[b,d,f,i,j,k,l,m,n,p,q,r,s,u,x,y,.pointer (some ⟨bz,0,none⟩),C,D,E,F,G,H,.pointer (some ⟨b1,0,none⟩),.pointer (some ⟨b2,0,none⟩),I,J,K,L,M,N,O,P,R,T,U,V,Z,aa,ab,ac,ad,ae,af,ag,ah,ai,aj,ak,al,am,an,ao,ap,aq,ar,au,av,aw,ax,ay,az,aA,aB,aC,aD,aE,aF,aG,aH,aI,aJ,aK,aL,aM,aN,aO,aP,aQ,aR,aS,aT,aU,aV,aW,aX,aY,aZ,a0,a1,a2,a3,a4,a5,a6,a7,a8,a9,ba,bb,bc,bd,be],[]⟩ W.drew:=by
  refine tkP MC10OPSq0 (.pointer (some ⟨b1,0,none⟩)) 0 hQ hww ?_;simp only[List.set];refine tkH MC10OPSq1 (.agg (za A).toArray) 1 hQ (yieldsIf_load_mid (by rfl) 23 (.tmp 84) rfl b1 0 rfl (za A) _ (fun w h=>h.1) Tryz.underlying23 rfl (zo lA)) hww ?_;simp only[List.set];refine tkP MC10OPSq2 (.pointer (some ⟨b1,32,none⟩)) 2 hQ hww ?_;simp only[List.set];refine tkH MC10OPSq3 (.agg (za B).toArray) 3 hQ (yieldsIf_load_mid (by rfl) 23 (.tmp 86) rfl b1 32 rfl (za B) _ (fun w h=>h.2.1) Tryz.underlying23 rfl (zo lB)) hww ?_;simp only[List.set];refine tkP MC10OPSq5 (.pointer (some ⟨b2,0,none⟩)) 5 hQ hww ?_;simp only[List.set];refine tkH MC10OPSq6 (.agg (za X).toArray) 6 hQ (yieldsIf_load_mid (by rfl) 23 (.tmp 89) rfl b2 0 rfl (za X) _ (fun w h=>h.2.2.1) Tryz.underlying23 rfl (zo lX)) hww ?_;simp only[List.set];refine tkP MC10OPSq7 (.pointer (some ⟨b2,32,none⟩)) 7 hQ hww ?_;simp only[List.set];refine tkH MC10OPSq8 (.agg (za Y).toArray) 8 hQ (yieldsIf_load_mid (by rfl) 23 (.tmp 91) rfl b2 32 rfl (za Y) _ (fun w h=>h.2.2.2) Tryz.underlying23 rfl (zo lY)) hww ?_;simp only[List.set];exact last
 exact wp_region_held_drew (S:=(fun w:World=>w.rangeAt b1 0 (za A)/\w.rangeAt b1 32 (za B)/\w.rangeAt b2 0 (za X)/\w.rangeAt b2 32 (za Y))) (by kernel_rfl) hww (fun _=>z)
def STPD(w:World)(d:Int)(N:Nat)(L:List Nat)(lv nd:List Int)(e:Ending)(w':World):Prop:=
 ∃ ap cp vs,e=.returned (.tuple #[.slice ap (PC N) cp,vs])/\w'.ownsRow w.heap.size 23 32 (.slice ap (PC N) cp) (PC N) (za (MUPS d (TPS N) L lv nd))/\w'.ownsRow w.heap.size 56 96 vs (MSTS d (TPS N) L lv nd).length (STL d (MSTS d (TPS N) L lv nd))/\Below w.heap.size w w'
theorem vy(d:Int)(al:Option Addr)(n cl:Nat)(lv:List Int)(ba:Option Addr)(bn bq:Nat)(b:List Int)(N:Nat)(L:List Nat)(nd:List Int)(w:World)(hD:MDC b=(0,N,L,nd))(hl:L.length=n)(hn:n<=1000)(hF:Flat w al n lv)(hcl:n<=cl)(hla:∀ x,al=some x->x.block<w.heap.size)(hB:Bytes w ba bn b)(hbq:bn<=bq)(hbn:bn<=1000000)(hT:Tabled w)(hX:HX.Tabled w)(h0:0<w.heap.size):
  Calls Tryz.prog 23 #[.int .i64 d,.slice al n cl,.slice ba bn bq] w (STPD w d N L lv nd):=by
 have hmf:∀ (fn:Fn) (first cap:Array Value) (w:World),(Instr.makeFunc fn first cap).run Tryz.prog w=.ok (.func fn first cap) w:=fun _ _ _ _=>rfl;have hth:=xT hB.2.2 (by rw[hD]);rw[hD] at hth;dsimp only at hth;obtain⟨t1,t2,t3,t4,t5⟩:=hth;obtain⟨r1,r2,r3⟩:=yF t2;have hfew:=Xj d (TPS N) 0 N L lv nd (yE t1) (fun x hx=>⟨Nat.zero_le _,r3 x hx⟩) r2 (fun p hp=>(yu (n:=N) (by omega) (h:=p.1) (k:=p.2) hp).1);have cd:=Jq ba bn bq b w hB hbq hbn hT h0;rw[hD] at cd;unfold DECM at cd;dsimp only at cd;rw[hl] at cd;have HA:Aside (L.length=n/\n<=1000/\Flat w al n lv/\n<=cl/\(∀ x,al=some x->x.block<w.heap.size)/\N<=4611686018427387904/\RISES L/\(∀ x∈L,x<N)/\nd.length=32*(zc (TPS N) L).length/\(∀ x∈nd,0<=x/\x<=255)/\(MSTS d (TPS N) L lv nd).length<=L.length*62):=⟨hl,hn,hF,hcl,hla,t1,r2,r3,t3,t5,hfew⟩
 have tab:Aside (∀ W,Below w.heap.size w W->Tabled W/\HX.Tabled W/\0<W.heap.size):=fun W hb=>⟨hT.below h0 hb,hX.below hb,by have:=hb.size;omega⟩
 have GX:Aside (1<w.heap.size):=hX.2.2;clear hD hl hn hF hcl hla hB hbq hbn hT hX h0 t1 t2 t3 t4 t5 r1 r2 r3 hfew;go_enter Tryz.func23,Tryz.ntmps23;go_wp2_with fail
 refine cd.mono ?_;rintro e w1 ⟨a3,c3,a4,K,c4,rfl,o3,o4,hK,hb1⟩;clear cd;go_upto_region 3 with fail
 obtain⟨w2,e2⟩:∃ x,w1.alloc (.cells #[.int .u64 (N:Int),.slice a3 n c3,.slice a4 K c4] 45)=x:=⟨_,rfl⟩
 rw[e2];obtain⟨w3,e3⟩:∃ x,w2.alloc (.cells #[.slice none 0 0] 52)=x:=⟨_,rfl⟩
 rw[e3];obtain⟨b8,hb8⟩:∃ x,w1.heap.size=x:=⟨_,rfl⟩
 have n2:w2.heap.size=w1.heap.size+1:=by rw[<-e2];simp
 obtain⟨bs,hbq⟩:∃ x,b8+1=x:=⟨_,rfl⟩
 rw[hb8,hbq];have hbs:w2.heap.size=bs:=by omega
 have q2:Below w1.heap.size w1 w2:=by rw[<-e2];exact(Below.refl _ _).alloc (Nat.le_refl _) _
 have q3:Below w2.heap.size w2 w3:=by rw[<-e3];exact(Below.refl _ _).alloc (Nat.le_refl _) _
 have k8:Has w2 w1.heap.size #[.int .u64 (N:Int),.slice a3 n c3,.slice a4 K c4] 45:=by rw[<-e2];exact Has.new _ _ _
 have ks:Has w3 bs #[.slice none 0 0] 52:=by rw[<-e3,<-hbs];exact Has.new _ _ _
 have q13:Below w1.heap.size w1 w3:=q2.trans (q3.mono q2.size);have qw:Below w.heap.size w w3:=hb1.trans (q13.mono hb1.size);have hKn:K=(zc (TPS N) L).length:=by have:=HA.out.2.2.2.2.2.2.2.2.1;omega
 have sp3:=jj o3;have sp4:=jj o4;have tb:=tab.out w3 qw;have hs1:=hb1.size;have hs3:=q13.size;have cc:=mg d L N a3 n c3 al cl a4 K c4 lv nd bs w3 ks (by have:=GX.out;omega) ⟨fun x e=>by have:=(sp3.2.2 x e).1;omega,fun x e=>by have:=HA.out.2.2.2.2.1 x e;omega,fun x e=>by have:=(sp4.2.2 x e).1;omega⟩ (by have:=HA.out;omega) HA.out.2.2.2.2.2.1 HA.out.1 (by have:=HA.out;omega) HA.out.2.2.2.2.2.2.1 HA.out.2.2.2.2.2.2.2.1 sp3.1 sp3.2.1 (fun x e=>⟨Nat.lt_of_lt_of_le (sp3.2.2 x e).1 hs3,(sp3.2.2 x e).2⟩) ((xD o3 HA.out.1).keep q13) HA.out.2.2.2.1 (fun x e=>Nat.lt_of_lt_of_le (HA.out.2.2.2.2.1 x e) qw.size) (HA.out.2.2.1.below qw) sp4.1 (fun x e=>Nat.lt_of_lt_of_le (sp4.2.2 x e).1 hs3) ((xg o4 HA.out.2.2.2.2.2.2.2.2.2.1).below q13) hKn tb.1 tb.2.1 tb.2.2;have k83:=k8.keep q3;rw[hb8] at k83;have x0:=k83.cell 0;have x1:=k83.cell 1;have x2:=k83.cell 2;have W3:Aside (Below w.heap.size w w3/\bs<w3.heap.size/\w.heap.size<=bs):=⟨qw,ks.lt,by omega⟩
 clear e2 e3 hb8 hbs hbq q2 q3 k8 ks q13 qw n2 hKn sp3 sp4 tb hs1 hs3 o3 o4 hK hb1 k83;unfold MBOX at cc;go_wp2_with fail
 refine cc.mono ?_;rintro e w4 ⟨ap,cp,rfl,o4,h4⟩;clear cc;obtain⟨v,hv⟩:=h4.hr;have y0:w4.cell? ⟨bs,0,none⟩=some v:=hv.box.cell 0
 have FN:Aside (STPD w d N L lv nd (.returned (.tuple #[.slice ap (PC N) cp,v])) w4/\STPD w d N L lv nd (.returned (.tuple #[.slice ap (PC N) cp,v])) w4.drew):=by
  have hw:=W3.out;have hb:Below w.heap.size w w4:=⟨h4.os.trans hw.1.os,h4.tape.trans hw.1.tape,h4.output.trans hw.1.output,Nat.le_trans hw.1.size h4.size,fun q hq=>(h4.block q (Nat.lt_of_lt_of_le hq hw.1.size) (by omega)).trans (hw.1.block q hq)⟩
  refine⟨⟨ap,cp,v,rfl,zq o4 hw.1.size,zq hv.own hw.1.size,hb⟩,⟨ap,cp,v,rfl,zq o4 hw.1.size,zq hv.own hw.1.size,hb.drew⟩⟩
 clear hv h4 o4 x0 x1 x2;go_upto_region 4 with fail
 go_region
 all_goals (go_wp2;go_ret2;first | exact FN.out.1 | exact FN.out.2)
end Go.Proofs.YtobaogpomcocpaaGreatDoor
