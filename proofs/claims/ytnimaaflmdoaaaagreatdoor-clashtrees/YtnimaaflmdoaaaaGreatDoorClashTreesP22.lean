/- ClashTrees: part 22. -/
import Derived.Deep.Cut
import Derived.Test.YtnimaaflmdoaaaaGreatDoorClashTreesP21
namespace Go.Proofs.YtnimaaflmdoaaaaGreatDoor
open Go.RowKit
set_option maxRecDepth 100000
def CLMB (d:Int) (root:List Int) (n i:Nat) (x bp y bq:List Int):Option (List Nat × List Nat):=if x≠y/\MEMA d root n i x bp=0/\MEMA d root n i y bq=0 then CLS d (MEML d y n i (PSP i n).length (DEC bq).2.2.2.2 ++ (MEML d x n i (PSP i n).length (DEC bp).2.2.2.2 ++ [])) else none
theorem zc3 {d:Int} {root:List Int} {n i:Nat} {x bp y bq:List Int} {s t:List Nat} (h:CLMB d root n i x bp y bq=some (s,t)):s≠t/\HSHT d s=HSHT d t:=by
 unfold CLMB at h;split at h
 ·have:=z8M h
  exact ⟨this.1,this.2.1⟩
 ·cases h
structure MEMT (d:Int) (root:List Int) (n i:Nat) (x bp y bq:List Int) (t t':List Int) (s u:List Nat):Prop where
 hp:DEC bp=(0,n,i,(PSP i n).length,t)
 hq:DEC bq=(0,n,i,(PSP i n).length,t')
 hi:i<n
 hn:n<=4611686018427387904
 told:CLMB d root n i x bp y bq=some (s,u)
 cls:CLS d (MEML d y n i (PSP i n).length t' ++ (MEML d x n i (PSP i n).length t ++ []))=some (s,u)
theorem z7D {d:Int} {root:List Int} {n i:Nat} {x bp y bq:List Int} (hn:n<2 ^ 64) (hi:i<2 ^ 64) (hx:IsH x) (hy:IsH y) (hp:∀ z∈bp,0<=z/\z<=255) (hq:∀ z∈bq,0<=z/\z<=255) (lp:(DEC bp).2.2.2.2.length=32*(DEC bp).2.2.2.1/\∀ z∈(DEC bp).2.2.2.2,0<=z/\z<=255) (lq:(DEC bq).2.2.2.2.length=32*(DEC bq).2.2.2.1/\∀ z∈(DEC bq).2.2.2.2,0<=z/\z<=255) (h:x≠y/\MEMA d root n i x bp=0/\MEMA d root n i y bq=0):∃ t t' s u,MEMT d root n i x bp y bq t t' s u:=by
 obtain ⟨t,p1,p2,p3,p4,p5⟩:=z2p hp hn hi h.2.1;obtain ⟨t',r1,r2,r3,r4,r5⟩:=z2p hq hn hi h.2.2;rw [p1] at lp;rw [r1] at lq;dsimp only at lp lq
 have e:CLMB d root n i x bp y bq=CLS d (MEML d y n i (PSP i n).length t' ++ (MEML d x n i (PSP i n).length t ++ [])):=by
   unfold CLMB;rw [if_pos h,p1,r1]
 cases hc:CLS d (MEML d y n i (PSP i n).length t' ++ (MEML d x n i (PSP i n).length t ++ [])) with
 | some z=>
   obtain ⟨s,u⟩:=z;exact ⟨t,t',s,u,p1,r1,p2,p3,by rw [e,hc],hc⟩
 | none=>
   obtain ⟨b1,w1⟩:=zaE d x n i (PSP i n).length t p4;obtain ⟨b2,w2⟩:=zaE d y n i (PSP i n).length t' r4;exact absurd (zc2 (z5N hc) p2 p3 hx hy ⟨lp.1,lp.2,p5⟩ ⟨lq.1,lq.2,r5⟩ (b1.mono fun z hz=>List.mem_append.2 (.inr (List.mem_append.2 (.inl hz)))) (b2.mono fun z hz=>List.mem_append.2 (.inl hz)) (w1.mono fun z hz=>List.mem_append.2 (.inr (List.mem_append.2 (.inl hz)))) (w2.mono fun z hz=>List.mem_append.2 (.inl hz))) h.1
theorem zfm (d:Int) (leaf:List Int) {S I:Nat} (N:Nat) (t:List Int) (hI:I<S) (hS:S<=4611686018427387904):(MEML d leaf S I N t).length<=1000:=by
 unfold MEML;rw [List.length_append,z9K,z2Q];have:=(z0U hI hS).2.1;have:=z1E 64 S (by omega);omega
set_option maxHeartbeats 8000000 in
theorem z9O (d:Int) (root:List Int) (hroot:IsH root) (n i:Nat) (hn:n<2 ^ 64) (hi:i<2 ^ 64) (x y:List Int) (hx:IsH x) (hy:IsH y) (pa qa:Option Addr) (pn pc qn qc:Nat) (hpn:pn<=1000000) (hpc:pn<=pc) (hqn:qn<=1000000) (hqc:qn<=qc) (bp bq:List Int) (w:World) (hP:Bytes w pa pn bp) (hQ:Bytes w qa qn bq) (hT:Tabled w) (hX:HX.Tabled w) (h0:2<w.heap.size)
  (lp:(DEC bp).1=0->(DEC bp).2.2.2.2.length=32*(DEC bp).2.2.2.1/\∀ z∈(DEC bp).2.2.2.2,0<=z/\z<=255) (lq:(DEC bq).1=0->(DEC bq).2.2.2.2.length=32*(DEC bq).2.2.2.1/\∀ z∈(DEC bq).2.2.2.2,0<=z/\z<=255):
  Calls Tryz.prog 9 #[.int .i64 d,.agg (z00 root).toArray,.int .u64 (n:Int),.int .u64 (i:Int),.agg (z00 x).toArray,.slice pa pn pc,.agg (z00 y).toArray,.slice qa qn qc] w (CLASHED w (CLMB d root n i x bp y bq)):=by
 by_cases hxy:x=y
 ·subst hxy
  have e:CLMB d root n i x bp x bq=none:=by unfold CLMB;rw [if_neg (fun h=>h.1 rfl)]
  rw [e];refine (z8Y d n i root x hx.1 _ _ w).mono ?_;rintro e w' ⟨rfl,hb⟩;exact ⟨hb,rfl⟩
 have lr:=hroot.1;have lx:=hx.1;have ly:=hy.1;have HTB:Aside (∀ W,Below w.heap.size w W->Tabled W/\HX.Tabled W/\2<W.heap.size):=fun W h=>⟨hT.below (by omega) h,hX.below h,by have:=h.size;omega⟩
 have CM:Aside (∀ W,Below w.heap.size w W->(Calls Tryz.prog 25 #[.int .i64 d,.agg (z00 root).toArray,.int .u64 (n:Int),.int .u64 (i:Int),.agg (z00 x).toArray,.slice pa pn pc] W fun e w'=>e=.returned (.int .i64 (MEMA d root n i x bp))/\Below W.heap.size W w')/\(Calls Tryz.prog 25 #[.int .i64 d,.agg (z00 root).toArray,.int .u64 (n:Int),.int .u64 (i:Int),.agg (z00 y).toArray,.slice qa qn qc] W fun e w'=>e=.returned (.int .i64 (MEMA d root n i y bq))/\Below W.heap.size W w')):=fun W h=>by
  obtain ⟨g1,g2,g3⟩:=HTB.out W h;exact ⟨z7C d root hroot n i hn x hx pa pn pc hpn hpc bp W (hP.below h) g1 g2 g3,z7C d root hroot n i hn y hy qa qn qc hqn hqc bq W (hQ.below h) g1 g2 g3⟩
 have HC:Aside ((¬ (MEMA d root n i x bp=0/\MEMA d root n i y bq=0)->CLMB d root n i x bp y bq=none)/\((MEMA d root n i x bp=0/\MEMA d root n i y bq=0)->∃ t t' s u,MEMT d root n i x bp y bq t t' s u)):=by
  refine ⟨fun h=>by unfold CLMB;rw [if_neg (fun h2=>h h2.2)],fun h=>?_⟩;obtain ⟨_,p1,_⟩:=z2p hP.2.2 hn hi h.1;obtain ⟨_,r1,_⟩:=z2p hQ.2.2 hn hi h.2;exact z7D hn hi hx hy hP.2.2 hQ.2.2 (lp (by rw [p1])) (lq (by rw [r1])) ⟨hxy,h.1,h.2⟩
 have CMM:Aside (∀ t t' s u,MEMT d root n i x bp y bq t t' s u->∀ base top b g (ok:Nat->Prop) T W,Below w.heap.size w W->w.heap.size<=base->MET W base top ok b g d T->T.length<=50000->(∀ j,W.heap.size<=j->ok j)->(Calls Tryz.prog 27 #[.pointer (some ⟨b,0,none⟩),.agg (z00 x).toArray,.slice pa pn pc] W fun e w'=>(∃ v,e=.returned v)/\MET w' base w'.heap.size ok b g d (MEML d x n i (PSP i n).length t ++ T)/\STEPM b g W w')/\(Calls Tryz.prog 27 #[.pointer (some ⟨b,0,none⟩),.agg (z00 y).toArray,.slice qa qn qc] W fun e w'=>(∃ v,e=.returned v)/\MET w' base w'.heap.size ok b g d (MEML d y n i (PSP i n).length t' ++ T)/\STEPM b g W w')):=fun t t' s u hm base top b g ok T W hW hbase hM hTT hok=>by
  have htb:∀ W2,Below base W W2->Tabled W2/\HX.Tabled W2/\2<W2.heap.size:=fun W2 h=>HTB.out W2 (hW.trans (h.mono hbase));exact ⟨z6i d x hx n i _ t bp hm.hi hm.hn rfl hm.hp pa pn pc hpn hpc W base top b g ok T hM hTT (hP.below hW) hok htb,z6i d y hy n i _ t' bq hm.hi hm.hn rfl hm.hq qa qn qc hqn hqc W base top b g ok T hM hTT (hQ.below hW) hok htb⟩
 have q1:∀ w,(Op.equalIn 10000 23 (.agg (z00 x).toArray) (.agg (z00 y).toArray)).run Tryz.prog w=.ok false w:=fun w=>by rw [z1l lx ly w,decide_eq_false hxy]
 obtain ⟨W0,hW0⟩:∃ W0,(((w.alloc (.cells (z00 root).toArray 23)).alloc (.cells (z00 x).toArray 23)).alloc (.cells (z00 y).toArray 23)).alloc (.cells #[.slice none 0 0,.slice none 0 0] 30)=W0:=⟨_,rfl⟩
 obtain ⟨br,hbr⟩:∃ b,w.heap.size=b:=⟨_,rfl⟩
 have hb0:Below w.heap.size w W0:=by rw [<-hW0];exact ((((Below.refl _ _).alloc (Nat.le_refl _) _).alloc (by simp) _).alloc (by simp;omega) _).alloc (by simp;omega) _
 have kr:Has W0 br (z00 root).toArray 23:=by rw [<-hW0,<-hbr];exact (((Has.new _ _ _).alloc _).alloc _).alloc _
 have kx:Has W0 (br+1) (z00 x).toArray 23:=by rw [<-hW0,<-hbr];exact ((Has.at _ _ _ (by simp)).alloc _).alloc _
 have ky:Has W0 (br+1+1) (z00 y).toArray 23:=by rw [<-hW0,<-hbr];exact (Has.at _ _ _ (by simp)).alloc _
 have kz:Has W0 (br+1+1+1) #[.slice none 0 0,.slice none 0 0] 30:=by rw [<-hW0,<-hbr];exact Has.at _ _ _ (by simp)
 obtain ⟨bx,hbx⟩:∃ b,br+1=b:=⟨_,rfl⟩
 rw [hbx] at kx ky kz;obtain ⟨by9,hby⟩:∃ b,bx+1=b:=⟨_,rfl⟩
 rw [hby] at ky kz;obtain ⟨bz,hbz⟩:∃ b,by9+1=b:=⟨_,rfl⟩
 rw [hbz] at kz;have hzb:w.heap.size<=bz:=by omega
 have HZ:Aside (w.heap.size<=bz):=hzb;have hIn:=HTB.out;obtain ⟨X,hXX⟩:∃ X,CLMB d root n i x bp y bq=X:=⟨_,rfl⟩
 rw [hXX] at HC ⊢;have HXX:Aside (CLMB d root n i x bp y bq=X):=hXX;clear hXX;obtain ⟨U1,hU1⟩:∃ U,MEMA d root n i x bp=U:=⟨_,rfl⟩
 obtain ⟨U2,hU2⟩:∃ U,MEMA d root n i y bq=U:=⟨_,rfl⟩
 rw [hU1,hU2] at CM HC;have c1:=(CM.out W0 hb0).1;have R0:Aside (Below w.heap.size w W0):=hb0;clear hroot hn hi hx hy hpn hpc hqn hqc hP hQ hT hX h0 lp lq hxy hU1 hU2 hb0 hzb hIn HTB;go_enter Tryz.func9,Tryz.ntmps9;go_upto_region 1 with fail
 clear hW0 hbr hbx hby hbz
 go_wp2_with (first
  | (refine z0Q (by rfl) 23 (.tmp 9) rfl 32 5 br rfl 23 (z00 root).toArray (0,0) kr Tryz.underlying23 (z07 lr) ?_)
  | (refine wpList_load_row rfl 23 (.tmp 9) rfl br rfl 23 (z00 root).toArray (0,0) _ kr Tryz.underlying23 rfl (z07 lr) ?_)
  | (refine z0Q (by rfl) 23 (.tmp 12) rfl 32 5 bx rfl 23 (z00 x).toArray (0,0) kx Tryz.underlying23 (z07 lx) ?_)
  | (refine wpList_load_row rfl 23 (.tmp 12) rfl bx rfl 23 (z00 x).toArray (0,0) _ kx Tryz.underlying23 rfl (z07 lx) ?_)
  | (refine z0Q (by rfl) 23 (.tmp 14) rfl 32 5 by9 rfl 23 (z00 y).toArray (0,0) ky Tryz.underlying23 (z07 ly) ?_)
  | (refine wpList_load_row rfl 23 (.tmp 14) rfl by9 rfl 23 (z00 y).toArray (0,0) _ ky Tryz.underlying23 rfl (z07 ly) ?_)
  | fail)
 refine c1.mono ?_;rintro e w1 ⟨rfl,hb1⟩;clear c1;have hbw:Below w.heap.size w w1:=R0.out.trans (hb1.mono R0.out.size);have kr:=kr.keep hb1;have kx:=kx.keep hb1;have ky:=ky.keep hb1;have kz:=kz.keep hb1;clear hb1;by_cases hE:U1=0
 ·subst hE
  have c2:=(CM.out w1 hbw).2
  go_wp2_with (first
   | (refine z0Q (by rfl) 23 (.tmp 9) rfl 32 5 br rfl 23 (z00 root).toArray (0,0) kr Tryz.underlying23 (z07 lr) ?_)
   | (refine wpList_load_row rfl 23 (.tmp 9) rfl br rfl 23 (z00 root).toArray (0,0) _ kr Tryz.underlying23 rfl (z07 lr) ?_)
   | (refine z0Q (by rfl) 23 (.tmp 12) rfl 32 5 bx rfl 23 (z00 x).toArray (0,0) kx Tryz.underlying23 (z07 lx) ?_)
   | (refine wpList_load_row rfl 23 (.tmp 12) rfl bx rfl 23 (z00 x).toArray (0,0) _ kx Tryz.underlying23 rfl (z07 lx) ?_)
   | (refine z0Q (by rfl) 23 (.tmp 14) rfl 32 5 by9 rfl 23 (z00 y).toArray (0,0) ky Tryz.underlying23 (z07 ly) ?_)
   | (refine wpList_load_row rfl 23 (.tmp 14) rfl by9 rfl 23 (z00 y).toArray (0,0) _ ky Tryz.underlying23 rfl (z07 ly) ?_)
   | fail)
  refine c2.mono ?_;rintro e w2 ⟨rfl,hb2⟩;clear c2 q1;have kr:=kr.keep hb2;have kx:=kx.keep hb2;have ky:=ky.keep hb2;have kz:=kz.keep hb2;have hbw:Below w.heap.size w w2:=hbw.trans (hb2.mono hbw.size);clear hb2;by_cases hE':U2=0
  ·subst hE'
   obtain ⟨t,t',s,u,hm⟩:=HC.out.2 (by exact ⟨by first | rfl | trivial,by first | rfl | trivial⟩);have hXe:X=some (s,u):=HXX.out.symm.trans hm.told;subst hXe;have HM:Aside (MEMT d root n i x bp y bq t t' s u):=hm;clear HC HXX hm CM kr;have cm:=zgl d w2 (fun i=>i≠bz);go_wp2_with fail
   refine cm.mono ?_;rintro e w6 ⟨rfl,hm6,hb6⟩;clear cm;obtain ⟨bm,hbm⟩:∃ bm,w2.heap.size+1=bm:=⟨_,rfl⟩
   obtain ⟨gm,hgm⟩:∃ gm,w2.heap.size=gm:=⟨_,rfl⟩
   rw [hbm] at hm6 ⊢;rw [hgm] at hm6;have hbw6:Below w.heap.size w w6:=hbw.trans (hb6.mono hbw.size);have hs5:=hbw.size;have hs6:=hb6.size;have kz6:=kz.keep hb6;have kx6:=kx.keep hb6;have ky6:=ky.keep hb6;have c1:=(CMM.out t t' s u HM.out gm w6.heap.size bm gm (fun i=>i≠bz) [] w6 hbw6 (by omega) hm6 (by simp) (fun j hj=>by have:=kz6.lt;omega)).1;have B6:Aside (Below w.heap.size w w6/\bm=gm+1/\w.heap.size<=gm/\Has w6 bz #[.slice none 0 0,.slice none 0 0] 30/\Has w6 by9 (z00 y).toArray 23/\bz<gm/\by9<gm):=⟨hbw6,by omega,by omega,kz6,ky6,by have:=kz.lt;omega,by have:=ky.lt;omega⟩
   clear hbm hgm hb6 hbw6 hs5 hs6 kz6 hm6 kz hbw kx ky ky6
   go_wp2_with (first
    | (refine wpList_load_row rfl 23 (.tmp 12) rfl bx rfl 23 (z00 x).toArray (0,0) _ kx6 Tryz.underlying23 rfl (z07 lx) ?_)
    | fail)
   refine c1.mono ?_;rintro e w7 ⟨⟨v,rfl⟩,hm7,st7⟩;clear c1 kx6;have hs7:=st7.size
   have hbw7:Below w.heap.size w w7:=by
    have h:=B6.out;exact h.1.trans (st7.below (by have:=h.1.size;omega) (by omega) (by omega))
   have kz7:Has w7 bz #[.slice none 0 0,.slice none 0 0] 30:=(st7.block bz B6.out.2.2.2.1.lt (by have:=B6.out;omega) (by have:=B6.out;omega)).trans B6.out.2.2.2.1;have ky7:Has w7 by9 (z00 y).toArray 23:=(st7.block by9 B6.out.2.2.2.2.1.lt (by have:=B6.out;omega) (by have:=B6.out;omega)).trans B6.out.2.2.2.2.1;have c2:=(CMM.out t t' s u HM.out gm w7.heap.size bm gm (fun i=>i≠bz) (MEML d x n i (PSP i n).length t ++ []) w7 hbw7 B6.out.2.2.1 hm7 (by rw [List.append_nil];have:=zfm d x (PSP i n).length t HM.out.hi HM.out.hn;omega) (fun j hj=>by have:=kz7.lt;omega)).2;have B7:Aside (Below w.heap.size w w7/\Has w7 bz #[.slice none 0 0,.slice none 0 0] 30):=⟨hbw7,kz7⟩
   clear hm7 st7 hs7 hbw7 kz7
   go_wp2_with (first
    | (refine wpList_load_row rfl 23 (.tmp 14) rfl by9 rfl 23 (z00 y).toArray (0,0) _ ky7 Tryz.underlying23 rfl (z07 ly) ?_)
    | fail)
   refine c2.mono ?_;rintro e w8 ⟨⟨v2,rfl⟩,hm8,st8⟩;clear c2 ky7 CMM;have hzb:=HZ.out;have hs8:=st8.size;have hbw8:Below w.heap.size w w8:=B7.out.1.trans (st8.below (by have:=B7.out.1.size;omega) (by have:=B6.out;omega) (by have:=B6.out;omega));have kz8:Has w8 bz #[.slice none 0 0,.slice none 0 0] 30:=(st8.block bz B7.out.2.lt (by have:=B6.out;omega) (by have:=B6.out;omega)).trans B7.out.2;obtain ⟨a1,n1,c1,a2,n2,c2,hB8, -⟩:=hm8.blk;generalize hfd:(CLS d (MEML d y n i (PSP i n).length t' ++ (MEML d x n i (PSP i n).length t ++ []))).isSome=fd at hB8
   have FIN:Aside (∀ W,W=w8.drew->fd=true/\CLASHED w (some (s,u)) (.returned (.tuple #[.agg #[.slice a1 n1 c1,.slice a2 n2 c2],.bool fd])) ((W.setCell ⟨bz,0,none⟩ (.slice a1 n1 c1)).setCell ⟨bz,1,none⟩ (.slice a2 n2 c2))/\Has ((W.setCell ⟨bz,0,none⟩ (.slice a1 n1 c1)).setCell ⟨bz,1,none⟩ (.slice a2 n2 c2)) bz #[.slice a1 n1 c1,.slice a2 n2 c2] 30):=by
    rintro W rfl;have hHz:Has w8.drew bz #[.slice none 0 0,.slice none 0 0] 30:=kz8;have:=MET.told (w0:=w) (w':=(w8.drew.setCell ⟨bz,0,none⟩ (.slice a1 n1 c1)).setCell ⟨bz,1,none⟩ (.slice a2 n2 c2)) (bz:=bz) hm8 hB8 HM.out.cls B6.out.2.2.1 ((hbw8.drew.setCell (p:=⟨bz,0,none⟩) hzb _).setCell (p:=⟨bz,1,none⟩) hzb _) (fun i hi=>(Below.heap_setCell _ _ _ i hi).trans (Below.heap_setCell _ _ _ i hi)) (fun i h=>h);exact ⟨this.1,this.2,(hHz.set 0 _).set 1 _⟩
   have y2:w8.cell? ⟨bm,2,none⟩=some (.slice a1 n1 c1):=hB8.cell 2;have y3:w8.cell? ⟨bm,3,none⟩=some (.slice a2 n2 c2):=hB8.cell 3;have y4:w8.cell? ⟨bm,4,none⟩=some (.bool fd):=hB8.cell 4;have hne:bm≠bz:=by have:=B6.out;omega
   go_upto_region 6 with fail
   refine zdt w8 bm bz a1 a2 n1 c1 n2 c2 fd (fun W=>W=w8.drew) (fun W=>W=(w8.drew.setCell ⟨bz,0,none⟩ (.slice a1 n1 c1)).setCell ⟨bz,1,none⟩ (.slice a2 n2 c2)) rfl (fun W e=>by subst e;exact ⟨y2,y3,y4⟩) (fun W e=>by subst e;exact ⟨(World.cell?_setCell_other _ _ _ _ (fun e=>hne (congrArg Addr.block e).symm)).trans ((World.cell?_setCell_other _ _ _ _ (fun e=>hne (congrArg Addr.block e).symm)).trans y2),(World.cell?_setCell_other _ _ _ _ (fun e=>hne (congrArg Addr.block e).symm)).trans ((World.cell?_setCell_other _ _ _ _ (fun e=>hne (congrArg Addr.block e).symm)).trans y3),(World.cell?_setCell_other _ _ _ _ (fun e=>hne (congrArg Addr.block e).symm)).trans ((World.cell?_setCell_other _ _ _ _ (fun e=>hne (congrArg Addr.block e).symm)).trans y4)⟩) (fun W e=>by subst e;exact kz8) (fun W e=>by subst e;rfl) (fun _ _ _ _ _ h=>h) ?_;intro W hW;obtain ⟨q0,q1,q2⟩:=FIN.out w8.drew rfl;rw [<-hW] at q1 q2;subst q0;clear hW FIN y2 y3 y4 hB8 hm8 st8;have z0:W.cell? ⟨bz,0,none⟩=some (.slice a1 n1 c1):=q2.cell 0;have z1:W.cell? ⟨bz,1,none⟩=some (.slice a2 n2 c2):=q2.cell 1;go_wp2_with fail
   refine bodyPost_ret (v:=.tuple #[.agg #[.slice a1 n1 c1,.slice a2 n2 c2],.bool true]) ?_ rfl q1;simp [results,Tryz.f9,go_sem,z0,z1]
  ·have hX0:=HC.out.1 (by rintro ⟨_,h⟩;exact hE' h)
   have hE2:(U2 != 0)=true:=bne_iff_ne.2 hE';have hzb:=HZ.out;subst hX0;clear HC hE' kr kx ky CM CMM;have x0:w2.cell? ⟨bz,0,none⟩=some (.slice none 0 0):=kz.cell 0;have x1:w2.cell? ⟨bz,1,none⟩=some (.slice none 0 0):=kz.cell 1;have f0:=kz.frozen 0;have f1:=kz.frozen 1;go_wp2;have hH:=(kz.set 0 (.slice none 0 0)).set 1 (.slice none 0 0);have hb:=(hbw.setCell (p:=⟨bz,0,none⟩) hzb (.slice none 0 0)).setCell (p:=⟨bz,1,none⟩) hzb (.slice none 0 0);clear x0 x1 f0 f1 kz;generalize (w2.setCell ⟨bz,0,none⟩ (.slice none 0 0)).setCell ⟨bz,1,none⟩ (.slice none 0 0)=wf at *
   have z0:wf.cell? ⟨bz,0,none⟩=some (.slice none 0 0):=hH.cell 0;have z1:wf.cell? ⟨bz,1,none⟩=some (.slice none 0 0):=hH.cell 1;refine bodyPost_ret (v:=.tuple #[.agg #[.slice none 0 0,.slice none 0 0],.bool false]) ?_ rfl ⟨hb,rfl⟩;simp [results,Tryz.f9,go_sem,z0,z1]
 ·have hX0:=HC.out.1 (by rintro ⟨h,_⟩;exact hE h)
  have hE1:(U1 != 0)=true:=bne_iff_ne.2 hE;have hzb:=HZ.out;subst hX0;clear HC hE q1 kr kx ky CM CMM;have x0:w1.cell? ⟨bz,0,none⟩=some (.slice none 0 0):=kz.cell 0;have x1:w1.cell? ⟨bz,1,none⟩=some (.slice none 0 0):=kz.cell 1;have f0:=kz.frozen 0;have f1:=kz.frozen 1;go_wp2;have hH:=(kz.set 0 (.slice none 0 0)).set 1 (.slice none 0 0);have hb:=(hbw.setCell (p:=⟨bz,0,none⟩) hzb (.slice none 0 0)).setCell (p:=⟨bz,1,none⟩) hzb (.slice none 0 0);clear x0 x1 f0 f1 kz;generalize (w1.setCell ⟨bz,0,none⟩ (.slice none 0 0)).setCell ⟨bz,1,none⟩ (.slice none 0 0)=wf at *
  have z0:wf.cell? ⟨bz,0,none⟩=some (.slice none 0 0):=hH.cell 0;have z1:wf.cell? ⟨bz,1,none⟩=some (.slice none 0 0):=hH.cell 1;refine bodyPost_ret (v:=.tuple #[.agg #[.slice none 0 0,.slice none 0 0],.bool false]) ?_ rfl ⟨hb,rfl⟩;simp [results,Tryz.f9,go_sem,z0,z1]
end Go.Proofs.YtnimaaflmdoaaaaGreatDoor
namespace Go.Proofs.YtnimaaflmdoaaaaGreatDoor.HX
open Go.RowKit
set_option maxRecDepth 100000
def z2f (d:Int) (l k:List Nat):Bool:=!decide (l=k) && (List.range 32).all fun i=>z0e d l i == z0e d k i
theorem zfN {w w':World} (hb:Below w.heap.size w w'):∀ (j:Nat) C t,Has w j C t->Has w' j C t:=fun _ _ _ h=>h.keep hb
theorem z8Z (d:Int) (l:List Nat):z2f d l l=false:=by simp [z2f]
theorem z5P (d:Int) {l k:List Nat} (h:l≠k):z2f d l k=(List.range 32).all fun i=>z0e d l i == z0e d k i:=by simp [z2f,h]
theorem z4X (d:Int) (a:Option Addr) (n c:Nat) (l:List Nat) (b:Option Addr) (m c':Nat) (k:List Nat) (w:World) (h1:Text w a n l) (hc1:n<=c) (hx1:∀ x,a=some x->x.block<w.heap.size) (hn:n<2 ^ 60) (h2:Text w b m k) (hc2:m<=c') (hx2:∀ x,b=some x->x.block<w.heap.size) (hm:m<2 ^ 60) (hT:Tabled w):Calls Tryz.prog 21 #[.int .i64 d,.agg #[.slice a n c,.slice b m c']] w fun e w'=>e=.returned (.bool (z2f d l k))/\Below w.heap.size w w':=by
 have hb0:Below w.heap.size w (w.alloc (.cells #[.slice a n c,.slice b m c'] 30)):=(Below.refl _ _).alloc (Nat.le_refl _) _;have hbox:Has (w.alloc (.cells #[.slice a n c,.slice b m c'] 30)) w.heap.size #[.slice a n c,.slice b m c'] 30:=Has.new w _ _;have H:Aside (Text w a n l/\n<=c/\(∀ x,a=some x->x.block<w.heap.size)/\n<2 ^ 60/\Text w b m k/\m<=c'/\(∀ x,b=some x->x.block<w.heap.size)/\m<2 ^ 60/\Tabled w):=⟨h1,hc1,hx1,hn,h2,hc2,hx2,hm,hT⟩
 clear h1 hc1 hx1 hn h2 hc2 hx2 hm hT;have HR:Aside ((l=k->z2f d l k=false)/\(l≠k->z2f d l k=(List.range 32).all fun i=>z0e d l i == z0e d k i)):=⟨fun h=>by subst h;exact z8Z d l,fun h=>z5P d h⟩
 generalize z2f d l k=hr at *
 go_enter Tryz.func21,Tryz.ntmps21;go_upto_region 1 with fail
 generalize hw1:w.alloc (.cells #[.slice a n c,.slice b m c'] 30)=w1 at *
 have hs:∀ W,Below w1.heap.size w1 W->W.cell? ⟨w.heap.size,0,none⟩=some (.slice a n c)/\W.cell? ⟨w.heap.size,1,none⟩=some (.slice b m c'):=fun W hb=>by
  have h:=hbox.keep hb;exact ⟨(h.cell 0).trans rfl,(h.cell 1).trans rfl⟩
 have hbw:∀ W,Below w1.heap.size w1 W->Below w.heap.size w W:=fun W hb=>hb0.trans (hb.mono hb0.size);by_cases e:l=k
 ·have hr0:=HR.out.1 e
  subst e;refine zhb _ _ _ _ _ _ _ _ _ _ _ _ _ _ _ _ _ _ _ _ _ w1 d w.heap.size a n c b m c' (fun W=>Below w1.heap.size w1 W) hs (Below.refl _ _).drew (fun W hW=>?_) (fun _ _ _ _ _ h=>h) ?_
  ·refine (z2Z a n c l b m c' l W (H.out.1.below (hbw W hW)) (H.out.2.2.2.2.1.below (hbw W hW))).mono ?_
   rintro e w' ⟨rfl,rfl⟩;exact ⟨by rw [decide_eq_true rfl],hW⟩
  ·intro W hW
   have R:=hbw W hW;clear hW hs hbw hbox hb0 hw1;go_wp2;go_ret;exact ⟨by first | rfl | (subst hr0;rfl) | (rw [hr0];rfl),R⟩
 ·have hr0:=HR.out.2 e
  clear HR;refine zhB _ _ _ _ _ _ _ _ _ _ _ _ _ _ _ _ _ _ _ _ _ w1 d w.heap.size a n c b m c' (fun W=>Below w1.heap.size w1 W) hs (Below.refl _ _).drew (z0e d l) (z0e d k) ((List.range 32).all fun i=>z0e d l i == z0e d k i) (fun W o hW=>hW.alloc hW.size _) (fun W=>z4m _ _ W) (fun W hW=>?_) (fun W g hW hg=>?_) (fun W g hW hg=>?_) (fun _ _ _ _ _ h=>h) ?_
  ·refine (z2Z a n c l b m c' k W (H.out.1.below (hbw W hW)) (H.out.2.2.2.2.1.below (hbw W hW))).mono ?_
   rintro e' w' ⟨rfl,rfl⟩;exact ⟨by rw [decide_eq_false e],hW⟩
  ·have hb:=hbw W hW
   refine (sum9 d W g a n c l hg (H.out.1.below hb) H.out.2.1 (fun x hx=>Nat.lt_of_lt_of_le (H.out.2.2.1 x hx) hb.size) H.out.2.2.2.1 (H.out.2.2.2.2.2.2.2.2.below hb)).mono ?_;rintro e' w' ⟨rfl,hb'⟩;exact ⟨rfl,hW.trans (hb'.mono hW.size),zfN hb'⟩
  ·have hb:=hbw W hW
   refine (sum9 d W g b m c' k hg (H.out.2.2.2.2.1.below hb) H.out.2.2.2.2.2.1 (fun x hx=>Nat.lt_of_lt_of_le (H.out.2.2.2.2.2.2.1 x hx) hb.size) H.out.2.2.2.2.2.2.2.1 (H.out.2.2.2.2.2.2.2.2.below hb)).mono ?_;rintro e' w' ⟨rfl,hb'⟩;exact ⟨rfl,hW.trans (hb'.mono hW.size),zfN hb'⟩
  ·intro g g2 W hW
   have R:=hbw W hW;clear hW hs hbw hbox hb0 hw1 e;generalize ((List.range 32).all fun i=>z0e d l i == z0e d k i)=r at *
   go_wp2;go_ret;exact ⟨by first | rfl | (subst hr0;rfl) | (rw [hr0];rfl),R⟩
end Go.Proofs.YtnimaaflmdoaaaaGreatDoor.HX
namespace Go.Proofs.YtnimaaflmdoaaaaGreatDoor
open Go.RowKit
set_option maxRecDepth 100000
structure FourT (w:World) (B:Nat) (K:Nat->Prop) (v:Nat->Value) (n:Nat->Nat) (xs:Nat->List Value):Prop where
 row:∀ x,x<4->w.ownsRow B 5 1 (v x) (n x) (xs x)
 apart:∀ x y,x<4->y<4->x≠y->∀ g,(v x).ownBlock=some g->(v y).ownBlock≠some g
 off:∀ x,x<4->∀ g,(v x).ownBlock=some g->¬ K g
def UPT {α:Type} (f:Nat->α) (x:Nat) (a:α):Nat->α:=fun z=>if z=x then a else f z
theorem z0K {α:Type} (f:Nat->α) (x:Nat) (a:α):UPT f x a x=a:=by simp [UPT]
theorem z0n {α:Type} (f:Nat->α) {x z:Nat} (a:α) (h:z≠x):UPT f x a z=f z:=by simp [UPT,h]
theorem zc4 {w w':World} {B:Nat} {t:TypeId} {s n:Nat} {v:Value} {xs:List Value} (h:w.ownsRow B t s v n xs) (hb:Below w.heap.size w w'):w'.ownsRow B t s v n xs:=by
 refine ⟨h.1,h.2.imp id ?_⟩;rintro ⟨g,c,cur,a1,a2,a3,a4⟩;exact ⟨g,c,cur,a1,a2,(hb.block g (Array.getElem?_eq_some_iff.1 a3).1).trans a3,a4⟩
theorem FourT.alloc {w:World} {B:Nat} {K:Nat->Prop} {v:Nat->Value} {n:Nat->Nat} {xs:Nat->List Value} (h:FourT w B K v n xs) (o:Obj):FourT (w.alloc o) B K v n xs:=⟨fun x hx=>(h.row x hx).alloc o,h.apart,h.off⟩
theorem FourT.more {w:World} {B:Nat} {K K':Nat->Prop} {v:Nat->Value} {n:Nat->Nat} {xs:Nat->List Value} (h:FourT w B K v n xs) (hK:∀ g,g<w.heap.size->K' g->K g):FourT w B K' v n xs:=
 ⟨h.row,h.apart,fun x hx g hg hk=>h.off x hx g hg (hK g ((h.row x hx).lt g hg).2 hk)⟩
theorem FourT.below {w w':World} {B:Nat} {K:Nat->Prop} {v:Nat->Value} {n:Nat->Nat} {xs:Nat->List Value} (h:FourT w B K v n xs) (hb:Below w.heap.size w w'):FourT w' B K v n xs:=⟨fun x hx=>zc4 (h.row x hx) hb,h.apart,h.off⟩
theorem z6k (W:World) (b j:Nat) (v:Value):W.grownBy (W.setCell ⟨b,j,none⟩ v) (some b):=
 ⟨rfl,rfl,rfl,(KeepsWalks.setCell W _ v).size,fun k _ hk=>Below.heap_setCell _ _ _ k (fun e=>hk (by rw [e]))⟩
theorem FourT.other {w:World} {B:Nat} {K:Nat->Prop} {v:Nat->Value} {n:Nat->Nat} {xs:Nat->List Value} (h:FourT w B K v n xs) {b:Nat} (hb:K b) (j:Nat) (u:Value):FourT (w.setCell ⟨b,j,none⟩ u) B K v n xs:=
 ⟨fun x hx=>(h.row x hx).kept (z6k w b j u) (.inr fun e=>h.off x hx b e hb),h.apart,h.off⟩
theorem FourT.store {w:World} {B:Nat} {K:Nat->Prop} {v:Nat->Value} {n:Nat->Nat} {xs:Nat->List Value} (h:FourT w B K v n xs) {x g m cap:Nat} (hx:x<4) (hv:v x=.slice (some ⟨g,0,none⟩) m cap) (j:Nat) (u:Value):
  FourT (w.setCell ⟨g,j,none⟩ u) B K v n (UPT xs x ((xs x).set j u)):=by
 refine ⟨fun z hz=>?_,h.apart,h.off⟩;by_cases e:z=x
 ·subst e
  have hr:=h.row z hz;rw [hv] at hr ⊢
  have hm:m=n z:=by
   rcases hr.2 with ⟨e,_⟩ | ⟨_,_,_,e,_⟩
   ·simp at e
   ·simp at e
    omega
  subst hm;rw [z0K];exact (hr.stored j u).1
 ·rw [z0n xs _ e]
  refine (h.row z hz).kept (z6k w g j u) (.inr fun e2=>?_);exact h.apart x z hx hz (fun e3=>e e3.symm) g (by rw [hv];rfl) e2
theorem FourT.app {w w':World} {B:Nat} {K:Nat->Prop} {v:Nat->Value} {n:Nat->Nat} {xs:Nat->List Value} (h:FourT w B K v n xs) {x g cap:Nat} {u:Value} (hx:x<4) (hK:∀ k,K k->k<w.heap.size)
  (hown:w'.ownsRow B 5 1 (.slice (some ⟨g,0,none⟩) (n x+1) cap) (n x+1) (xs x ++ [u])) (hgrow:w.grownBy w' (v x).ownBlock) (hg:(v x).ownBlock=some g\/g=w.heap.size):
  FourT w' B K (UPT v x (.slice (some ⟨g,0,none⟩) (n x+1) cap)) (UPT n x (n x+1)) (UPT xs x (xs x ++ [u])):=by
 refine ⟨fun z hz=>?_,fun y z hy hz hne k hk=>?_,fun z hz k hk=>?_⟩
 ·by_cases e:z=x
  ·subst e
   rw [z0K,z0K,z0K];exact hown
  ·rw [z0n v _ e,z0n n _ e,z0n xs _ e]
   refine (h.row z hz).kept hgrow ?_;cases hb:(v z).ownBlock with
   | none=>exact .inl rfl
   | some k=>exact .inr fun e2=>h.apart z x hz hx e k hb e2.symm
 ·by_cases ey:y=x
  ·subst ey
   rw [z0K] at hk;have hkg:g=k:=by simpa [Value.ownBlock] using hk
   subst hkg;rw [z0n v _ (fun e=>hne e.symm)];intro e2;rcases hg with hg | hg
   ·exact h.apart y z hx hz hne g hg e2
   ·have:=((h.row z hz).lt g e2).2
    omega
  ·rw [z0n v _ ey] at hk
   by_cases ez:z=x
   ·subst ez
    rw [z0K];intro e2;have hkg:g=k:=by simpa [Value.ownBlock] using e2
    subst hkg;rcases hg with hg | hg
    ·exact h.apart y z hy hz hne g hk hg
    ·have:=((h.row y hy).lt g hk).2
     omega
   ·rw [z0n v _ ez]
    exact h.apart y z hy hz hne k hk
 ·by_cases ez:z=x
  ·subst ez
   rw [z0K] at hk;have hkg:g=k:=by simpa [Value.ownBlock] using hk
   subst hkg;rcases hg with hg | hg
   ·exact h.off z hz g hg
   ·intro hkk
    have:=hK g hkk;omega
  ·rw [z0n v _ ez] at hk
   exact h.off z hz k hk
theorem Has.grown9 {w w':World} {g:Nat} {c:Array Value} {t:TypeId} {row:Option Nat} (h:Has w g c t) (hg:w.grownBy w' row) (hne:row≠some g):Has w' g c t:=by
 obtain ⟨_,_,_,_,hk⟩:=hg;exact (hk g h.lt (fun e=>hne e.symm)).trans h
abbrev CX9 (x:Nat):Value:=.int .u8 (((201+x:Nat)):Int)
def STA (w2:World) (B9 lb gb:Nat) (c0 cg:Array Value) (V:Nat->Value) (N:Nat->Nat) (x y:Nat) (wx:World):Prop:=
 ∃ xs:Nat->List Value,FourT wx B9 (fun g=>g=lb\/g=gb) V N xs/\(Has wx lb c0 25/\Has wx gb cg 68)/\Below B9 w2 wx/\(B9<=w2.heap.size/\B9<=lb/\B9<=gb)/\(∀ z,z<x->∀ j,j<N z->(xs z)[j]?=some (CX9 z))/\(∀ j,j<y->(xs x)[j]?=some (CX9 x))
theorem STA.next {w2:World} {B9 lb gb:Nat} {c0 cg:Array Value} {V:Nat->Value} {N:Nat->Nat} {x:Nat} {wx:World} (h:STA w2 B9 lb gb c0 cg V N x (N x) wx):STA w2 B9 lb gb c0 cg V N (x+1) 0 wx:=by
 obtain ⟨xs,h1,h2,h3,h4,h5,h6⟩:=h;refine ⟨xs,h1,h2,h3,h4,fun z hz j hj=>?_,fun j hj=>by omega⟩;rcases Nat.lt_or_ge z x with h | h
 ·exact h5 z h j hj
 ·obtain rfl:z=x:=by omega
  exact h6 j hj
theorem STA.store {w2:World} {B9 lb gb:Nat} {c0 cg:Array Value} {V:Nat->Value} {N:Nat->Nat} {x y g m cap:Nat} {wx:World} (h:STA w2 B9 lb gb c0 cg V N x y wx) (hx:x<4) (hy:y<N x) (hv:V x=.slice (some ⟨g,0,none⟩) m cap):STA w2 B9 lb gb c0 cg V N x (y+1) (wx.setCell ⟨g,y,none⟩ (CX9 x)):=by
 obtain ⟨xs,h1,h2,h3,h4,h5,h6⟩:=h;have hg:=(h1.row x hx).lt g (by rw [hv];rfl);refine ⟨_,h1.store hx hv y (CX9 x),⟨h2.1.other (fun e=>h1.off x hx g (by rw [hv];rfl) (.inl e.symm)) _,h2.2.other (fun e=>h1.off x hx g (by rw [hv];rfl) (.inr e.symm)) _⟩,h3.setCell hg.1 _,h4,fun z hz j hj=>?_,fun j hj=>?_⟩
 ·rw [z0n xs _ (by omega)]
  exact h5 z hz j hj
 ·rw [z0K,List.getElem?_set]
  have hl:(xs x).length=N x:=by have:=(h1.row x hx).1;omega
  split
  ·rw [if_pos (by omega)]
  ·exact h6 j (by omega)
structure STB (w2:World) (B9 lb gb:Nat) (c0:Array Value) (x:Nat) (wx:World) (V:Nat->Value) (N:Nat->Nat) (xs:Nat->List Value) (cg:Array Value):Prop where
 four:FourT wx B9 (fun g=>g=lb\/g=gb) V N xs
 hl:Has wx lb c0 25
 hg:Has wx gb cg 68
 size:cg.size=4
 bel:Below B9 w2 wx
 hB:B9<=w2.heap.size
 ol:B9<=lb
 og:B9<=gb
 old:∀ z,x<=z->z<4->c0[z]?=some (V z)
 new:∀ z,z<x->cg[z]?=some (V z)
 cell:∀ z,z<4->∀ j,j<N z->(xs z)[j]?=some (CX9 z)
 len:∀ z,z<4->N z<=202
 few:∀ z,x<=z->z<4->N z<=200
theorem STB.step {w2:World} {B9 lb gb:Nat} {c0:Array Value} {x:Nat} {wx:World} {V:Nat->Value} {N:Nat->Nat} {xs:Nat->List Value} {cg:Array Value} (h:STB w2 B9 lb gb c0 x wx V N xs cg) (hx:x<4) (o1 o2:Obj) {g1 q1 g2 q2:Nat} {w5 w6:World}
  (own1:w5.ownsRow B9 5 1 (.slice (some ⟨g1,0,none⟩) (N x+1) q1) (N x+1) (xs x ++ [CX9 x])) (grow1:(wx.alloc o1).grownBy w5 (V x).ownBlock) (at1:(V x).ownBlock=some g1\/g1=(wx.alloc o1).heap.size)
  (own2:w6.ownsRow B9 5 1 (.slice (some ⟨g2,0,none⟩) (N x+1+1) q2) (N x+1+1) (xs x ++ [CX9 x] ++ [CX9 x])) (grow2:(w5.alloc o2).grownBy w6 (some g1)) (at2:some g1=some g2\/g2=(w5.alloc o2).heap.size):
  Has w6 gb cg 68/\∃ V' N' xs',STB w2 B9 lb gb c0 (x+1) (w6.setCell ⟨gb,x,none⟩ (.slice (some ⟨g2,0,none⟩) (N x+1+1) q2)) V' N' xs' (cg.setIfInBounds x (.slice (some ⟨g2,0,none⟩) (N x+1+1) q2)):=by
 have hK:∀ k,(k=lb\/k=gb)->k<(wx.alloc o1).heap.size:=fun k hk=>by
  rcases hk with rfl | rfl
  ·exact (h.hl.alloc o1).lt
  ·exact (h.hg.alloc o1).lt
 have F1:=(h.four.alloc o1).app hx hK own1 grow1 at1;have hr1:∀ k,(k=lb\/k=gb)->(V x).ownBlock≠some k:=fun k hk e=>h.four.off x hx k e hk;have l5:=(h.hl.alloc o1).grown9 grow1 (hr1 lb (.inl rfl));have g5:=(h.hg.alloc o1).grown9 grow1 (hr1 gb (.inr rfl));have hr2:∀ k,(k=lb\/k=gb)->(some g1:Option Nat)≠some k:=fun k hk e=>F1.off x hx k (by rw [z0K];exact e) hk
 have hK2:∀ k,(k=lb\/k=gb)->k<(w5.alloc o2).heap.size:=fun k hk=>by
  rcases hk with rfl | rfl
  ·exact (l5.alloc o2).lt
  ·exact (g5.alloc o2).lt
 have l6:=(l5.alloc o2).grown9 grow2 (hr2 lb (.inl rfl));have g6:=(g5.alloc o2).grown9 grow2 (hr2 gb (.inr rfl));have F2:=(F1.alloc o2).app (x:=x) (g:=g2) (cap:=q2) (u:=CX9 x) (w':=w6) hx hK2 (by rw [z0K,z0K];exact own2) (by rw [z0K];exact grow2) (by rw [z0K];exact at2);have F3:=F2.other (b:=gb) (.inr rfl) x (.slice (some ⟨g2,0,none⟩) (N x+1+1) q2);have b5:Below B9 w2 w5:=(h.bel.alloc (Nat.le_trans h.hB h.bel.size) _).grown grow1 (by have:=h.bel.size;have:=h.hB;simp;omega) (fun k e=>((h.four.row x hx).lt k e).1);have b6:Below B9 w2 w6:=(b5.alloc (Nat.le_trans h.hB b5.size) _).grown grow2 (by have:=b5.size;have:=h.hB;simp;omega) (fun k e=>(own1.lt k e).1);have hlen:(xs x).length=N x:=by have:=(h.four.row x hx).1;omega
 refine ⟨g6,_,_,_,⟨F3,l6.other (a:=⟨gb,x,none⟩) (fun e=>?_) _,g6.set x _,by simpa using h.size,b6.setCell (p:=⟨gb,x,none⟩) h.og _,h.hB,h.ol,h.og,fun z hz hz4=>?_,fun z hz=>?_,fun z hz j hj=>?_,fun z hz=>?_,fun z hz hz4=>?_⟩⟩
 ·have e':lb=gb:=e
  have h1:wx.heap[lb]?=some (.cells c0 25):=h.hl;have h2:wx.heap[gb]?=some (.cells cg 68):=h.hg;rw [e',h2] at h1;simp at h1
 ·rw [z0n _ _ (by omega),z0n _ _ (by omega)]
  exact h.old z (by omega) hz4
 ·rw [Array.getElem?_setIfInBounds]
  by_cases e:z=x
  ·subst e
   rw [if_pos rfl,if_pos (by rw [h.size];exact hx),z0K,z0K]
  ·rw [if_neg (fun e2=>e e2.symm),z0n _ _ e,z0n _ _ e]
   exact h.new z (by omega)
 ·by_cases e:z=x
  ·subst e
   rw [z0K,z0K] at hj;rw [z0K,z0K];rcases Nat.lt_or_ge j (N z) with h1 | h1
   ·rw [List.append_assoc,List.getElem?_append_left (by omega)]
    exact h.cell z hz j h1
   ·rw [List.append_assoc,List.getElem?_append_right (by omega),hlen]
    rcases (show j - N z=0\/j - N z=1 by omega) with h2 | h2 <;> rw [h2] <;> rfl
  ·rw [z0n _ _ e,z0n _ _ e] at hj
   rw [z0n _ _ e,z0n _ _ e];exact h.cell z hz j hj
 ·by_cases e:z=x
  ·subst e
   rw [z0K,z0K];have:=h.few z (Nat.le_refl _) hz;omega
  ·rw [z0n _ _ e,z0n _ _ e]
   exact h.len z hz
 ·rw [z0n _ _ (by omega),z0n _ _ (by omega)]
  exact h.few z (by omega) hz4
theorem STB.start {w2:World} {B9 lb gb:Nat} {c0 cg:Array Value} {V:Nat->Value} {N:Nat->Nat} {wx:World} (h:STA w2 B9 lb gb c0 cg V N 4 0 wx) (hV:∀ x,x<4->c0[x]?=some (V x)) (hN:∀ x,x<4->N x<=200) (hcg:cg.size=4):∃ xs,STB w2 B9 lb gb c0 0 wx V N xs cg:=by
 obtain ⟨xs,h1,h2,h3,h4,h5,h6⟩:=h;refine ⟨xs,h1,h2.1,h2.2,hcg,h3,h4.1,h4.2.1,h4.2.2,fun z _ hz=>hV z hz,fun z hz=>by omega,fun z hz j hj=>h5 z hz j hj,fun z hz=>?_,fun z _ hz=>hN z hz⟩;have:=hN z hz;omega
theorem zfn {d:Int} {s t:List Nat} (hne:s≠t) (he:HSHT d s=HSHT d t):HX.z2f d s t=true:=by
 rw [HX.z5P d hne,List.all_eq_true];intro i hi;have hi:i<32:=List.mem_range.1 hi;have e:(HSHT d s)[i]?=(HSHT d t)[i]?:=by rw [he]
 simp only [HSHT,LST,List.getElem?_map,List.getElem?_range hi,Option.map_some,Option.some.injEq] at e;exact beq_iff_eq.2 (by omega)
structure TOLD2 (w:World) (B9:Nat) (X:Option (List Nat × List Nat)) (C0 C1 D0 D1:Value) (o1 o2:Bool):Prop where
 no:X=none->C0=.slice none 0 0/\C1=.slice none 0 0/\D0=.slice none 0 0/\D1=.slice none 0 0/\o1=false/\o2=false
 yes:∀ s t,X=some (s,t)->o1=true/\o2=true/\∃ gA cA gB cB gC cC gD cD,C0=.slice (some ⟨gA,0,none⟩) s.length cA/\C1=.slice (some ⟨gB,0,none⟩) t.length cB/\D0=.slice (some ⟨gC,0,none⟩) s.length cC/\D1=.slice (some ⟨gD,0,none⟩) t.length cD/\OWNT w B9 gA cA s/\OWNT w B9 gB cB t/\OWNT w B9 gC cC s/\OWNT w B9 gD cD t/\(gA≠gB/\gA≠gC/\gA≠gD/\gB≠gC/\gB≠gD/\gC≠gD)
theorem TOLD2.below {w w':World} {B9:Nat} {X:Option (List Nat × List Nat)} {C0 C1 D0 D1:Value} {o1 o2:Bool} (h:TOLD2 w B9 X C0 C1 D0 D1 o1 o2) (hb:Below w.heap.size w w'):TOLD2 w' B9 X C0 C1 D0 D1 o1 o2:=by
 refine ⟨h.no,fun s t e=>?_⟩;obtain ⟨e1,e2,gA,cA,gB,cB,gC,cC,gD,cD,q1,q2,q3,q4,r1,r2,r3,r4,r5⟩:=h.yes s t e;exact ⟨e1,e2,gA,cA,gB,cB,gC,cC,gD,cD,q1,q2,q3,q4,r1.at (hb.block _ r1.lt.2),r2.at (hb.block _ r2.lt.2),r3.at (hb.block _ r3.lt.2),r4.at (hb.block _ r4.lt.2),r5⟩
def TOLD1 (w:World) (B9:Nat) (X:Option (List Nat × List Nat)) (C0 C1:Value) (o1:Bool):Prop:=(X=none->C0=.slice none 0 0/\C1=.slice none 0 0/\o1=false)/\∀ s t,X=some (s,t)->o1=true/\∃ gA cA gB cB,C0=.slice (some ⟨gA,0,none⟩) s.length cA/\C1=.slice (some ⟨gB,0,none⟩) t.length cB/\OWNT w B9 gA cA s/\OWNT w B9 gB cB t/\gA≠gB
theorem TOLD1.below {w w':World} {B9:Nat} {X:Option (List Nat × List Nat)} {C0 C1:Value} {o1:Bool} (h:TOLD1 w B9 X C0 C1 o1) (hb:Below w.heap.size w w'):TOLD1 w' B9 X C0 C1 o1:=by
 refine ⟨h.1,fun s t e=>?_⟩;obtain ⟨e1,gA,cA,gB,cB,q1,q2,r1,r2,r5⟩:=h.2 s t e;exact ⟨e1,gA,cA,gB,cB,q1,q2,r1.at (hb.block _ r1.lt.2),r2.at (hb.block _ r2.lt.2),r5⟩
theorem CLASHED.told {w w':World} {X:Option (List Nat × List Nat)} {e:Ending} (h:CLASHED w X e w'):∃ a1 n1 c1 a2 n2 c2 o,e=.returned (.tuple #[.agg #[.slice a1 n1 c1,.slice a2 n2 c2],.bool o])/\TOLD1 w' w.heap.size X (.slice a1 n1 c1) (.slice a2 n2 c2) o/\Below w.heap.size w w':=by
 obtain ⟨hb,h⟩:=h;cases X with
 | none=>exact ⟨_,_,_,_,_,_,_,h,⟨fun _=>⟨rfl,rfl,rfl⟩,fun s t e=>by cases e⟩,hb⟩
 | some x=>
   obtain ⟨s,t⟩:=x;obtain ⟨gA,cA,gB,cB,h1,h2,h3,h4⟩:=h;refine ⟨_,_,_,_,_,_,_,h1,⟨(fun e=>by cases e),fun s' t' e=>?_⟩,hb⟩;cases e;exact ⟨rfl,gA,cA,gB,cB,rfl,rfl,h2,h3,h4⟩
end Go.Proofs.YtnimaaflmdoaaaaGreatDoor
namespace Go.Proofs.YtnimaaflmdoaaaaGreatDoor
open Go.RowKit
end Go.Proofs.YtnimaaflmdoaaaaGreatDoor
namespace Go.Proofs.YtnimaaflmdoaaaaGreatDoor
open Go.RowKit
set_option maxRecDepth 100000
theorem z3B {b:List Int} (hr:∀ x∈b,0<=x/\x<=255) (h:(DEC b).1=0):(DEC b).2.2.2.2.length=32*(DEC b).2.2.2.1/\∀ z∈(DEC b).2.2.2.2,0<=z/\z<=255:=by
 obtain ⟨E,S,I,N,t,hD⟩:∃ E S I N t,DEC b=(E,S,I,N,t):=⟨_,_,_,_,_,rfl⟩
 rw [hD] at h ⊢;dsimp only at h ⊢;subst h;obtain ⟨_,_,_,_,_,h6,_,h8⟩:=z6X hr hD;exact ⟨h6,h8⟩
end Go.Proofs.YtnimaaflmdoaaaaGreatDoor
namespace Go.Proofs.YtnimaaflmdoaaaaGreatDoor.HX
open Go.RowKit
set_option maxRecDepth 100000
def SCHK (b:Nat->Nat) (L:List Nat):Bool:=(List.range 16).all (fun t=>L.getD t 0 == z0d b (4*t)) && (List.range 48).all (fun k=>L.getD (16+k) 0 == (z1Y 17 19 10 (L.getD (14+k) 0)+L.getD (9+k) 0+z1Y 7 18 3 (L.getD (1+k) 0)+L.getD k 0) % 4294967296)
theorem zaF {b:Nat->Nat} {L:List Nat} (h:SCHK b L=true):∀ t,t<64->SCH b t=L.getD t 0:=by
 unfold SCHK at h;rw [Bool.and_eq_true,List.all_eq_true,List.all_eq_true] at h;obtain ⟨h1,h2⟩:=h;intro t;induction t using Nat.strongRecOn with
 | ind t ih=>
   intro ht;by_cases h16:t<16
   ·have:=h1 t (List.mem_range.2 h16)
    rw [zd6 b t h16];exact (beq_iff_eq.1 this).symm
   ·obtain ⟨k,rfl⟩:∃ k,t=16+k:=⟨t - 16,by omega⟩
    have:=h2 k (List.mem_range.2 (by omega));rw [zeU b k (by omega),ih (14+k) (by omega) (by omega),ih (9+k) (by omega) (by omega),ih (1+k) (by omega) (by omega),ih k (by omega) (by omega)];exact (beq_iff_eq.1 this).symm
def R8 (L:List Nat) (t:Nat) (S:ST):ST:=RND (KC (t+7)) (L.getD (t+7) 0) (RND (KC (t+6)) (L.getD (t+6) 0) (RND (KC (t+5)) (L.getD (t+5) 0) (RND (KC (t+4)) (L.getD (t+4) 0) (RND (KC (t+3)) (L.getD (t+3) 0) (RND (KC (t+2)) (L.getD (t+2) 0) (RND (KC (t+1)) (L.getD (t+1) 0) (RND (KC t) (L.getD t 0) S)))))))
theorem z2X {x:Nat->Nat} {L:List Nat} (hx:∀ t,t<64->x t=L.getD t 0) (s:ST) (t:Nat) (ht:t+8<=64):RUN x s (t+8)=R8 L t (RUN x s t):=by
 unfold R8;rw [<-hx t (by omega),<-hx (t+1) (by omega),<-hx (t+2) (by omega),<-hx (t+3) (by omega),<-hx (t+4) (by omega),<-hx (t+5) (by omega),<-hx (t+6) (by omega),<-hx (t+7) (by omega)];rfl
theorem z90 {x:Nat->Nat} {L:List Nat} (hx:∀ t,t<64->x t=L.getD t 0) {s s0 s1 s2 s3 s4 s5 s6 s7 s8:ST} (h0:s=s0) (h1:R8 L 0 s0=s1) (h2:R8 L 8 s1=s2) (h3:R8 L 16 s2=s3) (h4:R8 L 24 s3=s4) (h5:R8 L 32 s4=s5) (h6:R8 L 40 s5=s6) (h7:R8 L 48 s6=s7) (h8:R8 L 56 s7=s8):RUN x s 64=s8:=by
 rw [z2X hx s 56 (by decide),z2X hx s 48 (by decide),z2X hx s 40 (by decide),z2X hx s 32 (by decide),z2X hx s 24 (by decide),z2X hx s 16 (by decide),z2X hx s 8 (by decide),z2X hx s 0 (by decide),RUN,h0,h1,h2,h3,h4,h5,h6,h7,h8]
def z7Y:Nat->Nat:=BLK ([0] ++ END 1) 0
theorem zgw:RUN (SCH z7Y) (STOF (z2d 1)) 64=⟨3786312650,1529455603,1134256808,4176700544,1277391920,2463922909,4124671138,3606237390⟩:=z90 (L:=[8388608,0,0,0,0,0,0,0,0,0,0,0,0,0,0,8,8388608,327680,8272,536871234,337772552,8475648,1073741853,2164269061,2230272,337793272,1694501337,1988624393,105919010,1075328946,2958489588,494040618,4190885525,2196774829,2285820332,3305243022,1628256880,606574232,2869189168,912661284,2417538391,662210437,2456130860,1931430815,67023220,2052358436,1064287929,1067640270,2524529989,1109617150,181928543,1162918410,2922595010,279395504,2082656472,3609216951,870645911,2341257311,3664634151,1568575899,3374228186,731796513,3196917518,483982666]) (zaF (by kernel_rfl)) (s0:=⟨1778384896,0,0,0,0,0,0,0⟩) (s1:=⟨1539023587,1248333783,701311635,3734104429,2256981863,2352896890,3562625845,1211164696⟩) (s2:=⟨2928761735,2605442691,3315789819,4251448236,3279475262,3888377115,1434915651,2507752319⟩) (s3:=⟨3615058037,949404587,196844315,3978319571,2690382387,2781411491,3648039147,1695661198⟩) (s4:=⟨2472758969,2578038873,2497727348,4208130110,254028699,1322245983,922282977,3820218414⟩) (s5:=⟨4193763318,1675082568,2837945848,74614242,2915142648,3886259970,1029041734,1529017948⟩) (s6:=⟨2603131860,3335757086,2957313721,1138132233,2217216019,464556621,52348160,106843099⟩) (s7:=⟨1120555960,2235160533,20079379,4231826724,1474721306,1365152638,3934273405,1100153574⟩) (s8:=⟨3786312650,1529455603,1134256808,4176700544,1277391920,2463922909,4124671138,3606237390⟩) (by kernel_rfl) (by kernel_rfl) (by kernel_rfl) (by kernel_rfl) (by kernel_rfl) (by kernel_rfl) (by kernel_rfl) (by kernel_rfl) (by kernel_rfl)
theorem zdI:([0] ++ END 1).length / 64=1:=by rw [List.length_append,z64];kernel_rfl
theorem zaG (d:Int):z0e d [0]=COMP d (z2d d) z7Y:=by
 show z0H d ([0] ++ END 1) (([0] ++ END 1).length / 64)=_;rw [zdI];rfl
theorem zhi:OUTW (z2d 1) z7Y 0=1269730250:=by
 rw [OUTW,zgw];kernel_rfl
theorem zfo:z0e 1 [0] 0=75:=by
 have h:=zhi;rw [zaG,COMP];generalize OUTW (z2d 1) z7Y=X at *
 rw [z0O,if_pos (by decide),z0s];show X 0 / 2 ^ 24 % 256=75;rw [h]
def z7Z:Nat->Nat:=BLK ([118,4,1] ++ END 3) 0
theorem zgx:RUN (SCH z7Z) (STOF (z2d 1)) 64=⟨3779197602,3269671956,994181139,1236734871,3983654061,2328254292,3631449300,3517924143⟩:=z90 (L:=[1979974016,0,0,0,0,0,0,0,0,0,0,0,0,0,0,24,1979974016,983040,2163061954,1610613702,1826171654,25426944,2969095637,4152648078,2139836496,1035532524,574477990,3493732955,1393776172,2253089637,3914451151,1725417296,1359173215,903163568,2471326224,823774989,164009750,1464648138,3434644150,3161181620,3902173805,2918484029,1875533432,914763908,275085993,573475606,361142452,1164267732,3418278767,399282407,4131314663,2765668782,2430419203,977460674,2822496742,400227469,3660752544,817825870,2666717932,990676170,41467273,1779687944,1793738367,556993083]) (zaF (by kernel_rfl)) (s0:=⟨1778384896,0,0,0,0,0,0,0⟩) (s1:=⟨3397932324,3758396031,1833458740,3944590842,3387626738,3398227911,2239248730,2476427147⟩) (s2:=⟨3484038914,3359062569,2580340481,987827534,976456098,302863753,313126024,2842306057⟩) (s3:=⟨3802695057,1740554561,1626480143,294313302,2884376435,828653678,408780192,3059077050⟩) (s4:=⟨1100797075,548049599,2898674914,3112998958,767635691,2752958182,2048642498,3670412790⟩) (s5:=⟨2827025094,1982008953,587894076,2111970979,2362179855,739801084,1232133406,1129161765⟩) (s6:=⟨1391032627,3356876198,2922337936,3720016941,3429078135,3699957301,1453229339,1139055760⟩) (s7:=⟨1956966331,3633507066,3546558560,1316678956,769230860,1797080036,1821486343,1699811024⟩) (s8:=⟨3779197602,3269671956,994181139,1236734871,3983654061,2328254292,3631449300,3517924143⟩) (by kernel_rfl) (by kernel_rfl) (by kernel_rfl) (by kernel_rfl) (by kernel_rfl) (by kernel_rfl) (by kernel_rfl) (by kernel_rfl) (by kernel_rfl)
theorem zdJ:([118,4,1] ++ END 3).length / 64=1:=by rw [List.length_append,z64];kernel_rfl
theorem zaH (d:Int):z0e d [118,4,1]=COMP d (z2d d) z7Z:=by
 show z0H d ([118,4,1] ++ END 3) (([118,4,1] ++ END 3).length / 64)=_;rw [zdJ];rfl
theorem zhj:OUTW (z2d 1) z7Z 0=1262615202:=by
 rw [OUTW,zgx];kernel_rfl
theorem zfp:z0e 1 [118,4,1] 0=75:=by
 have h:=zhj;rw [zaH,COMP];generalize OUTW (z2d 1) z7Z=X at *
 rw [z0O,if_pos (by decide),z0s];show X 0 / 2 ^ 24 % 256=75;rw [h]
theorem zdK:((List.range 32).all fun i=>z0e 1 [118,4,1] i == z0e 1 [0] i)=true:=by
 rw [List.all_eq_true];intro i _;cases i with
 | zero=>rw [zfo,zfp];rfl
 | succ i=>
   rw [zaG,zaH,COMP,COMP,z0O,z0O,if_neg (by have:WID 1=1:=rfl;omega),if_neg (by have:WID 1=1:=rfl;omega)];rfl
end Go.Proofs.YtnimaaflmdoaaaaGreatDoor.HX
