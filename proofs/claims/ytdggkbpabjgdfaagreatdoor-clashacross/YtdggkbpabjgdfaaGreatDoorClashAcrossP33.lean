/- ClashAcross: part 33. -/
import Derived.Deep.Cut
import Derived.Test.YtdggkbpabjgdfaaGreatDoorClashAcrossP32
namespace Go.Proofs.YtdggkbpabjgdfaaGreatDoor
open Go.RowKit
set_option maxRecDepth 100000
def CLFK (d:Int) (m:Nat) (a b:List Int) (n:Nat) (E1 E2:Int) (bp bq:List Int):Option (List Nat × List Nat):=if a≠b/\E1=0/\E2=0 then CLS d (PFXL d m n (DEX bq).2.2.2.2 ++ (PFXL d m n (DEX bp).2.2.2.2 ++ [])) else none
structure FRKT (d:Int) (m:Nat) (a b:List Int) (n:Nat) (r:List Int) (E1 E2:Int) (bp bq:List Int) (t t':List Int) (s u:List Nat):Prop where
 hp:DEX bp=(0,m,n,(PXS m n).length,t)
 hq:DEX bq=(0,m,n,(PXS m n).length,t')
 hm:0<m
 p:PFXOK d m n a r t
 q:PFXOK d m n b r t'
 told:CLFK d m a b n E1 E2 bp bq=some (s,u)
 cls:CLS d (PFXL d m n t' ++ (PFXL d m n t ++ []))=some (s,u)
abbrev PFE (d:Int) (TS:List Int->Nat) (m:Nat) (r1:List Int) (n:Nat) (r2 bl:List Int):Int:=PFXA d (JSX (DEX bl).2.1 (DEX bl).2.2.1 (TS bl)) m r1 n r2 bl
def zdT (TS:List Int->Nat):Prop:=∀ K:List Int,(∀ x∈K,0<=x/\x<=255)->LOWS (DEX K).2.1 (TS K)/\((DEX K).2.1<=(DEX K).2.2.1->(DEX K).2.2.1<=4611686018427387904->JSOK (DEX K).2.1 ((DEX K).2.2.1 - (DEX K).2.1) (JSX (DEX K).2.1 (DEX K).2.2.1 (TS K)))
def CLMB (d:Int) (root:List Int) (n i:Nat) (x bp y bq:List Int):Option (List Nat × List Nat):=if x≠y/\MEMA d root n i x bp=0/\MEMA d root n i y bq=0 then CLS d (MEML d y n i (PSP i n).length (DEC bq).2.2.2.2 ++ (MEML d x n i (PSP i n).length (DEC bp).2.2.2.2 ++ [])) else none
structure MEMT (d:Int) (root:List Int) (n i:Nat) (x bp y bq:List Int) (t t':List Int) (s u:List Nat):Prop where
 hp:DEC bp=(0,n,i,(PSP i n).length,t)
 hq:DEC bq=(0,n,i,(PSP i n).length,t')
 hi:i<n
 hn:n<=4611686018427387904
 told:CLMB d root n i x bp y bq=some (s,u)
 cls:CLS d (MEML d y n i (PSP i n).length t' ++ (MEML d x n i (PSP i n).length t ++ []))=some (s,u)
theorem zb4 (d:Int) (leaf:List Int) {S I:Nat} (N:Nat) (t:List Int) (hI:I<S) (hS:S<=4611686018427387904):(MEML d leaf S I N t).length<=1000:=by
 unfold MEML;rw [List.length_append,z6r,z37];have:=(z0L hI hS).2.1;have:=z0C 64 S (by omega);omega
def CLAC (d:Int) (i m:Nat) (x:List Int) (n:Nat) (y:List Int) (E1 E2 E3:Int) (bp bq bx:List Int):Option (List Nat × List Nat):=if x≠y/\E1=0/\E2=0/\E3=0 then CLS d (PFXL d m n (DEX bx).2.2.2.2 ++ (MEML d y n i (PSP i n).length (DEC bq).2.2.2.2 ++ (MEML d x m i (PSP i m).length (DEC bp).2.2.2.2 ++ []))) else none
theorem zdU {d:Int} {i m n:Nat} {x y bp bq bx:List Int} {E1 E2 E3:Int} {s t:List Nat} (h:CLAC d i m x n y E1 E2 E3 bp bq bx=some (s,t)):s≠t/\HSHT d s=HSHT d t:=by
 unfold CLAC at h;split at h
 ·have:=zau h
  exact ⟨this.1,this.2.1⟩
 ·cases h
structure ACRT (d:Int) (i m:Nat) (r1 x:List Int) (n:Nat) (r2 y:List Int) (E1 E2 E3:Int) (bp bq bx:List Int) (t t' u:List Int) (s v:List Nat):Prop where
 hp:DEC bp=(0,m,i,(PSP i m).length,t)
 hq:DEC bq=(0,n,i,(PSP i n).length,t')
 hx:DEX bx=(0,m,n,(PXS m n).length,u)
 im:i<m
 hn:n<=4611686018427387904
 p:PFXOK d m n r1 r2 u
 told:CLAC d i m x n y E1 E2 E3 bp bq bx=some (s,v)
 cls:CLS d (PFXL d m n u ++ (MEML d y n i (PSP i n).length t' ++ (MEML d x m i (PSP i m).length t ++ [])))=some (s,v)
theorem z9m {d:Int} {TS:List Int->Nat} (hTS:zdT TS) {i m n:Nat} {r1 x r2 y bp bq bx:List Int} (hi:i<2 ^ 64) (hm:m<2 ^ 64) (hn:n<2 ^ 64) (hx:IsH x) (hy:IsH y) (hp:∀ z∈bp,0<=z/\z<=255) (hq:∀ z∈bq,0<=z/\z<=255) (hb:∀ z∈bx,0<=z/\z<=255) (lp:(DEC bp).1=0->(DEC bp).2.2.2.2.length=32*(DEC bp).2.2.2.1/\∀ z∈(DEC bp).2.2.2.2,0<=z/\z<=255) (lq:(DEC bq).1=0->(DEC bq).2.2.2.2.length=32*(DEC bq).2.2.2.1/\∀ z∈(DEC bq).2.2.2.2,0<=z/\z<=255) (lx:(DEX bx).1=0->(DEX bx).2.2.2.2.length=32*(DEX bx).2.2.2.1/\∀ z∈(DEX bx).2.2.2.2,0<=z/\z<=255) (h:x≠y/\MEMA d r1 m i x bp=0/\MEMA d r2 n i y bq=0/\PFE d TS m r1 n r2 bx=0):∃ t t' u s v,ACRT d i m r1 x n r2 y (MEMA d r1 m i x bp) (MEMA d r2 n i y bq) (PFE d TS m r1 n r2 bx) bp bq bx t t' u s v:=by
 obtain ⟨t,p1,p2,p3,p4,p5⟩:=z9k hp hm hi h.2.1;obtain ⟨t',q1,q2,q3,q4,q5⟩:=z9k hq hn hi h.2.2.1;obtain ⟨u,x1,x2⟩:=zfA hb hm hn (hTS bx hb).1 lx h.2.2.2;have lp:=lp (by rw [p1]);have lq:=lq (by rw [q1]);rw [p1] at lp;rw [q1] at lq;dsimp only at lp lq
 have e:CLAC d i m x n y (MEMA d r1 m i x bp) (MEMA d r2 n i y bq) (PFE d TS m r1 n r2 bx) bp bq bx=CLS d (PFXL d m n u ++ (MEML d y n i (PSP i n).length t' ++ (MEML d x m i (PSP i m).length t ++ []))):=by
   unfold CLAC;rw [if_pos h,p1,q1,x1]
 cases hc:CLS d (PFXL d m n u ++ (MEML d y n i (PSP i n).length t' ++ (MEML d x m i (PSP i m).length t ++ []))) with
 | some z=>
   obtain ⟨s,v⟩:=z;exact ⟨t,t',u,s,v,p1,q1,x1,p2,q3,x2,by rw [e,hc],hc⟩
 | none=>
   obtain ⟨b1,w1⟩:=zct d x m i (PSP i m).length t p4;obtain ⟨b2,w2⟩:=zct d y n i (PSP i n).length t' q4;have k1:∀ z∈MEML d x m i (PSP i m).length t,z∈PFXL d m n u ++ (MEML d y n i (PSP i n).length t' ++ (MEML d x m i (PSP i m).length t ++ [])):=fun z hz=>List.mem_append.2 (.inr (List.mem_append.2 (.inr (List.mem_append.2 (.inl hz)))));have k2:∀ z∈MEML d y n i (PSP i n).length t',z∈PFXL d m n u ++ (MEML d y n i (PSP i n).length t' ++ (MEML d x m i (PSP i m).length t ++ [])):=fun z hz=>List.mem_append.2 (.inr (List.mem_append.2 (.inl hz)));exact absurd (zdR (z6O hc) p2 x2 hx hy ⟨lp.1,lp.2,p5⟩ ⟨lq.1,lq.2,q5⟩ (b1.mono k1) (b2.mono k2) (w1.mono k1) (w2.mono k2) (fun z hz=>List.mem_append.2 (.inl hz))) h.1
set_option maxHeartbeats 8000000 in
theorem zbP (d:Int) (TS:List Int->Nat) (hTS:zdT TS) (i m:Nat) (hi:i<2 ^ 64) (hm:m<2 ^ 64) (r1 x:List Int) (hr1:IsH r1) (hx:IsH x) (n:Nat) (hn:n<2 ^ 64) (r2 y:List Int) (hr2:IsH r2) (hy:IsH y) (pa qa xa:Option Addr) (pn pc qn qc xn xc:Nat) (hpn:pn<=1000000) (hpc:pn<=pc) (hqn:qn<=1000000) (hqc:qn<=qc) (hxn:xn<=1000000) (hxc:xn<=xc) (bp bq bx:List Int) (w:World) (hP:Bytes w pa pn bp) (hQ:Bytes w qa qn bq) (hB:Bytes w xa xn bx) (hT:Tabled w) (hX:HX.Tabled w) (h0:2<w.heap.size)
  (lp:(DEC bp).1=0->(DEC bp).2.2.2.2.length=32*(DEC bp).2.2.2.1/\∀ z∈(DEC bp).2.2.2.2,0<=z/\z<=255) (lq:(DEC bq).1=0->(DEC bq).2.2.2.2.length=32*(DEC bq).2.2.2.1/\∀ z∈(DEC bq).2.2.2.2,0<=z/\z<=255) (lx:(DEX bx).1=0->(DEX bx).2.2.2.2.length=32*(DEX bx).2.2.2.1/\∀ z∈(DEX bx).2.2.2.2,0<=z/\z<=255):
  Calls Tryz.prog 7 #[.int .i64 d,.int .u64 (i:Int),.int .u64 (m:Int),.agg (z01 r1).toArray,.agg (z01 x).toArray,.slice pa pn pc,.int .u64 (n:Int),.agg (z01 r2).toArray,.agg (z01 y).toArray,.slice qa qn qc,.slice xa xn xc] w (CLASHED w (CLAC d i m x n y (MEMA d r1 m i x bp) (MEMA d r2 n i y bq) (PFE d TS m r1 n r2 bx) bp bq bx)):=by
 by_cases hxy:x=y
 ·subst hxy
  have e:CLAC d i m x n x (MEMA d r1 m i x bp) (MEMA d r2 n i x bq) (PFE d TS m r1 n r2 bx) bp bq bx=none:=by unfold CLAC;rw [if_neg (fun h=>h.1 rfl)]
  rw [e];refine (zb3 d i m n r1 r2 x hx.1 _ _ _ w).mono ?_;rintro e w' ⟨rfl,hb⟩;exact ⟨hb,rfl⟩
 have l1:=hr1.1;have l2:=hx.1;have l3:=hr2.1;have l4:=hy.1;have HTB:Aside (∀ W,Below w.heap.size w W->Tabled W/\HX.Tabled W/\2<W.heap.size):=fun W h=>⟨hT.below (by omega) h,hX.below h,by have:=h.size;omega⟩
 have CM:Aside (∀ W,Below w.heap.size w W->(Calls Tryz.prog 16 #[.int .i64 d,.agg (z01 r1).toArray,.int .u64 (m:Int),.int .u64 (i:Int),.agg (z01 x).toArray,.slice pa pn pc] W fun e w'=>e=.returned (.int .i64 (MEMA d r1 m i x bp))/\Below W.heap.size W w')/\(Calls Tryz.prog 16 #[.int .i64 d,.agg (z01 r2).toArray,.int .u64 (n:Int),.int .u64 (i:Int),.agg (z01 y).toArray,.slice qa qn qc] W fun e w'=>e=.returned (.int .i64 (MEMA d r2 n i y bq))/\Below W.heap.size W w')/\(Calls Tryz.prog 17 #[.int .i64 d,.int .u64 (m:Int),.agg (z01 r1).toArray,.int .u64 (n:Int),.agg (z01 r2).toArray,.slice xa xn xc] W fun e w'=>e=.returned (.int .i64 (PFE d TS m r1 n r2 bx))/\Below W.heap.size W w')):=fun W h=>by
  obtain ⟨g1,g2,g3⟩:=HTB.out W h;exact ⟨z9f d r1 hr1 m i hm x hx pa pn pc hpn hpc bp W (hP.below h) g1 g2 g3,z9f d r2 hr2 n i hn y hy qa qn qc hqn hqc bq W (hQ.below h) g1 g2 g3,zfz d m hm r1 hr1 n hn r2 hr2 xa xn xc hxn hxc bx _ (hTS bx hB.2.2).2 W (hB.below h) g1 g2 g3⟩
 have HC:Aside ((¬ (MEMA d r1 m i x bp=0/\MEMA d r2 n i y bq=0/\PFE d TS m r1 n r2 bx=0)->CLAC d i m x n y (MEMA d r1 m i x bp) (MEMA d r2 n i y bq) (PFE d TS m r1 n r2 bx) bp bq bx=none)/\((MEMA d r1 m i x bp=0/\MEMA d r2 n i y bq=0/\PFE d TS m r1 n r2 bx=0)->∃ t t' u s v,ACRT d i m r1 x n r2 y (MEMA d r1 m i x bp) (MEMA d r2 n i y bq) (PFE d TS m r1 n r2 bx) bp bq bx t t' u s v)):=
  ⟨fun h=>by unfold CLAC;rw [if_neg (fun h2=>h h2.2)],fun h=>z9m hTS hi hm hn hx hy hP.2.2 hQ.2.2 hB.2.2 lp lq lx ⟨hxy,h⟩⟩
 have CMM:Aside (∀ E1 E2 E3 t t' u s v,ACRT d i m r1 x n r2 y E1 E2 E3 bp bq bx t t' u s v->∀ base top k g (ok:Nat->Prop) T W,Below w.heap.size w W->w.heap.size<=base->MET W base top ok k g d T->T.length<=50000->(∀ j,W.heap.size<=j->ok j)->(Calls Tryz.prog 19 #[.pointer (some ⟨k,0,none⟩),.agg (z01 x).toArray,.slice pa pn pc] W fun e w'=>(∃ v,e=.returned v)/\MET w' base w'.heap.size ok k g d (MEML d x m i (PSP i m).length t ++ T)/\STEPM k g W w')/\(Calls Tryz.prog 19 #[.pointer (some ⟨k,0,none⟩),.agg (z01 y).toArray,.slice qa qn qc] W fun e w'=>(∃ v,e=.returned v)/\MET w' base w'.heap.size ok k g d (MEML d y n i (PSP i n).length t' ++ T)/\STEPM k g W w')/\(Calls Tryz.prog 20 #[.pointer (some ⟨k,0,none⟩),.slice xa xn xc] W fun e w'=>(∃ v,e=.returned v)/\MET w' base w'.heap.size ok k g d (PFXL d m n u ++ T)/\STEPM k g W w')):=fun E1 E2 E3 t t' u s v ha base top k g ok T W hW hbase hM hTT hok=>by
  have htb:∀ W2,Below base W W2->Tabled W2/\HX.Tabled W2/\2<W2.heap.size:=fun W2 h=>HTB.out W2 (hW.trans (h.mono hbase));have hmn:=ha.p.le;have him:=ha.im;have hnt:=ha.hn;exact ⟨z7S d x hx m i _ t bp him (by omega) rfl ha.hp pa pn pc hpn hpc W base top k g ok T hM hTT (hP.below hW) hok htb,z7S d y hy n i _ t' bq (by omega) hnt rfl ha.hq qa qn qc hqn hqc W base top k g ok T hM hTT (hQ.below hW) hok htb,zdQ d m n _ u bx (by omega) hmn hnt rfl ha.hx xa xn xc hxn hxc W base top k g ok T hM hTT (hB.below hW) hok htb⟩
 have q1:∀ w,(Op.equalIn 10000 24 (.agg (z01 x).toArray) (.agg (z01 y).toArray)).run Tryz.prog w=.ok false w:=fun w=>by rw [z3G l2 l4 w,decide_eq_false hxy]
 obtain ⟨W0,hW0⟩:∃ W0,((((w.alloc (.cells (z01 r1).toArray 24)).alloc (.cells (z01 x).toArray 24)).alloc (.cells (z01 r2).toArray 24)).alloc (.cells (z01 y).toArray 24)).alloc (.cells #[.slice none 0 0,.slice none 0 0] 31)=W0:=⟨_,rfl⟩
 obtain ⟨b1,hb1⟩:∃ b,w.heap.size=b:=⟨_,rfl⟩
 have hb0:Below w.heap.size w W0:=by rw [<-hW0];exact (((((Below.refl _ _).alloc (Nat.le_refl _) _).alloc (by simp) _).alloc (by simp;omega) _).alloc (by simp;omega) _).alloc (by simp;omega) _
 have k1:Has W0 b1 (z01 r1).toArray 24:=by rw [<-hW0,<-hb1];exact ((((Has.new _ _ _).alloc _).alloc _).alloc _).alloc _
 have k2:Has W0 (b1+1) (z01 x).toArray 24:=by rw [<-hW0,<-hb1];exact (((Has.at _ _ _ (by simp)).alloc _).alloc _).alloc _
 have k3:Has W0 (b1+1+1) (z01 r2).toArray 24:=by rw [<-hW0,<-hb1];exact ((Has.at _ _ _ (by simp)).alloc _).alloc _
 have k4:Has W0 (b1+1+1+1) (z01 y).toArray 24:=by rw [<-hW0,<-hb1];exact (Has.at _ _ _ (by simp)).alloc _
 have kz:Has W0 (b1+1+1+1+1) #[.slice none 0 0,.slice none 0 0] 31:=by rw [<-hW0,<-hb1];exact Has.at _ _ _ (by simp)
 obtain ⟨b2,hb2⟩:∃ b,b1+1=b:=⟨_,rfl⟩
 rw [hb2] at k2 k3 k4 kz;obtain ⟨b3,hb3⟩:∃ b,b2+1=b:=⟨_,rfl⟩
 rw [hb3] at k3 k4 kz;obtain ⟨b4,hb4⟩:∃ b,b3+1=b:=⟨_,rfl⟩
 rw [hb4] at k4 kz;obtain ⟨bz,hbz⟩:∃ b,b4+1=b:=⟨_,rfl⟩
 rw [hbz] at kz;have hzb:w.heap.size<=bz:=by omega
 have HZ:Aside (w.heap.size<=bz):=hzb;obtain ⟨X,hXX⟩:∃ X,CLAC d i m x n y (MEMA d r1 m i x bp) (MEMA d r2 n i y bq) (PFE d TS m r1 n r2 bx) bp bq bx=X:=⟨_,rfl⟩
 rw [hXX] at HC ⊢;have HXX:Aside (CLAC d i m x n y (MEMA d r1 m i x bp) (MEMA d r2 n i y bq) (PFE d TS m r1 n r2 bx) bp bq bx=X):=hXX;clear hXX;generalize MEMA d r1 m i x bp=U1 at *
 generalize MEMA d r2 n i y bq=U2 at *
 generalize PFE d TS m r1 n r2 bx=U3 at *
 have c1:=(CM.out W0 hb0).1;have R0:Aside (Below w.heap.size w W0):=hb0;clear hr1 hx hr2 hy hi hm hn hpn hpc hqn hqc hxn hxc hP hQ hB hT hX h0 lp lq lx hxy hb0 hzb HTB hTS;go_enter Tryz.func7,Tryz.ntmps7;go_upto_region 1 with fail
 clear hW0 hb1 hb2 hb3 hb4 hbz
 go_wp2_with (first
  | (refine z05 (by rfl) 24 (.tmp 14) rfl 32 5 b1 rfl 24 (z01 r1).toArray (0,0) k1 Tryz.underlying24 (z02 l1) ?_)
  | (refine wpList_load_row rfl 24 (.tmp 14) rfl b1 rfl 24 (z01 r1).toArray (0,0) _ k1 Tryz.underlying24 rfl (z02 l1) ?_)
  | (refine z05 (by rfl) 24 (.tmp 15) rfl 32 5 b2 rfl 24 (z01 x).toArray (0,0) k2 Tryz.underlying24 (z02 l2) ?_)
  | (refine wpList_load_row rfl 24 (.tmp 15) rfl b2 rfl 24 (z01 x).toArray (0,0) _ k2 Tryz.underlying24 rfl (z02 l2) ?_)
  | (refine z05 (by rfl) 24 (.tmp 18) rfl 32 5 b3 rfl 24 (z01 r2).toArray (0,0) k3 Tryz.underlying24 (z02 l3) ?_)
  | (refine wpList_load_row rfl 24 (.tmp 18) rfl b3 rfl 24 (z01 r2).toArray (0,0) _ k3 Tryz.underlying24 rfl (z02 l3) ?_)
  | (refine z05 (by rfl) 24 (.tmp 19) rfl 32 5 b4 rfl 24 (z01 y).toArray (0,0) k4 Tryz.underlying24 (z02 l4) ?_)
  | (refine wpList_load_row rfl 24 (.tmp 19) rfl b4 rfl 24 (z01 y).toArray (0,0) _ k4 Tryz.underlying24 rfl (z02 l4) ?_)
  | fail)
 refine c1.mono ?_;rintro e w1 ⟨rfl,hb1⟩;clear c1;have hbw:Below w.heap.size w w1:=R0.out.trans (hb1.mono R0.out.size);have k1:=k1.keep hb1;have k2:=k2.keep hb1;have k3:=k3.keep hb1;have k4:=k4.keep hb1;have kz:=kz.keep hb1;clear hb1;by_cases hE1:U1=0
 ·subst hE1
  have c2:=(CM.out w1 hbw).2.1
  go_wp2_with (first
   | (refine z05 (by rfl) 24 (.tmp 14) rfl 32 5 b1 rfl 24 (z01 r1).toArray (0,0) k1 Tryz.underlying24 (z02 l1) ?_)
   | (refine wpList_load_row rfl 24 (.tmp 14) rfl b1 rfl 24 (z01 r1).toArray (0,0) _ k1 Tryz.underlying24 rfl (z02 l1) ?_)
   | (refine z05 (by rfl) 24 (.tmp 15) rfl 32 5 b2 rfl 24 (z01 x).toArray (0,0) k2 Tryz.underlying24 (z02 l2) ?_)
   | (refine wpList_load_row rfl 24 (.tmp 15) rfl b2 rfl 24 (z01 x).toArray (0,0) _ k2 Tryz.underlying24 rfl (z02 l2) ?_)
   | (refine z05 (by rfl) 24 (.tmp 18) rfl 32 5 b3 rfl 24 (z01 r2).toArray (0,0) k3 Tryz.underlying24 (z02 l3) ?_)
   | (refine wpList_load_row rfl 24 (.tmp 18) rfl b3 rfl 24 (z01 r2).toArray (0,0) _ k3 Tryz.underlying24 rfl (z02 l3) ?_)
   | (refine z05 (by rfl) 24 (.tmp 19) rfl 32 5 b4 rfl 24 (z01 y).toArray (0,0) k4 Tryz.underlying24 (z02 l4) ?_)
   | (refine wpList_load_row rfl 24 (.tmp 19) rfl b4 rfl 24 (z01 y).toArray (0,0) _ k4 Tryz.underlying24 rfl (z02 l4) ?_)
   | fail)
  refine c2.mono ?_;rintro e w2 ⟨rfl,hb2⟩;clear c2;have k1:=k1.keep hb2;have k2:=k2.keep hb2;have k3:=k3.keep hb2;have k4:=k4.keep hb2;have kz:=kz.keep hb2;have hbw:Below w.heap.size w w2:=hbw.trans (hb2.mono hbw.size);clear hb2;by_cases hE2:U2=0
  ·subst hE2
   have c3:=(CM.out w2 hbw).2.2
   go_wp2_with (first
    | (refine z05 (by rfl) 24 (.tmp 14) rfl 32 5 b1 rfl 24 (z01 r1).toArray (0,0) k1 Tryz.underlying24 (z02 l1) ?_)
    | (refine wpList_load_row rfl 24 (.tmp 14) rfl b1 rfl 24 (z01 r1).toArray (0,0) _ k1 Tryz.underlying24 rfl (z02 l1) ?_)
    | (refine z05 (by rfl) 24 (.tmp 15) rfl 32 5 b2 rfl 24 (z01 x).toArray (0,0) k2 Tryz.underlying24 (z02 l2) ?_)
    | (refine wpList_load_row rfl 24 (.tmp 15) rfl b2 rfl 24 (z01 x).toArray (0,0) _ k2 Tryz.underlying24 rfl (z02 l2) ?_)
    | (refine z05 (by rfl) 24 (.tmp 18) rfl 32 5 b3 rfl 24 (z01 r2).toArray (0,0) k3 Tryz.underlying24 (z02 l3) ?_)
    | (refine wpList_load_row rfl 24 (.tmp 18) rfl b3 rfl 24 (z01 r2).toArray (0,0) _ k3 Tryz.underlying24 rfl (z02 l3) ?_)
    | (refine z05 (by rfl) 24 (.tmp 19) rfl 32 5 b4 rfl 24 (z01 y).toArray (0,0) k4 Tryz.underlying24 (z02 l4) ?_)
    | (refine wpList_load_row rfl 24 (.tmp 19) rfl b4 rfl 24 (z01 y).toArray (0,0) _ k4 Tryz.underlying24 rfl (z02 l4) ?_)
    | fail)
   refine c3.mono ?_;rintro e w3 ⟨rfl,hb3⟩;clear c3 q1;have k1:=k1.keep hb3;have k2:=k2.keep hb3;have k3:=k3.keep hb3;have k4:=k4.keep hb3;have kz:=kz.keep hb3;have hbw:Below w.heap.size w w3:=hbw.trans (hb3.mono hbw.size);clear hb3;by_cases hE3:U3=0
   ·subst hE3
    obtain ⟨t,t',u,s,v,ha⟩:=HC.out.2 (by exact ⟨by first | rfl | trivial,by first | rfl | trivial,by first | rfl | trivial⟩);have hXe:X=some (s,v):=HXX.out.symm.trans ha.told;subst hXe;have HM:Aside (ACRT d i m r1 x n r2 y 0 0 0 bp bq bx t t' u s v):=ha;clear HC HXX ha CM k1 k3;have cm:=zi8 d w3 (fun i=>i≠bz);go_wp2_with fail
    refine cm.mono ?_;rintro e w6 ⟨rfl,hm6,hb6⟩;clear cm;obtain ⟨bm,hbm⟩:∃ bm,w3.heap.size+1=bm:=⟨_,rfl⟩
    obtain ⟨gm,hgm⟩:∃ gm,w3.heap.size=gm:=⟨_,rfl⟩
    rw [hbm] at hm6 ⊢;rw [hgm] at hm6;have hbw6:Below w.heap.size w w6:=hbw.trans (hb6.mono hbw.size);have hs5:=hbw.size;have hs6:=hb6.size;have kz6:=kz.keep hb6;have k26:=k2.keep hb6;have k46:=k4.keep hb6;have c1:=(CMM.out 0 0 0 t t' u s v HM.out gm w6.heap.size bm gm (fun i=>i≠bz) [] w6 hbw6 (by omega) hm6 (by simp) (fun j hj=>by have:=kz6.lt;omega)).1;have B6:Aside (Below w.heap.size w w6/\bm=gm+1/\w.heap.size<=gm/\Has w6 bz #[.slice none 0 0,.slice none 0 0] 31/\Has w6 b4 (z01 y).toArray 24/\bz<gm/\b4<gm):=⟨hbw6,by omega,by omega,kz6,k46,by have:=kz.lt;omega,by have:=k4.lt;omega⟩
    clear hbm hgm hb6 hbw6 hs5 hs6 kz6 hm6 kz hbw k2 k4 k46
    go_wp2_with (first
     | (refine wpList_load_row rfl 24 (.tmp 15) rfl b2 rfl 24 (z01 x).toArray (0,0) _ k26 Tryz.underlying24 rfl (z02 l2) ?_)
     | fail)
    refine c1.mono ?_;rintro e w7 ⟨⟨v1,rfl⟩,hm7,st7⟩;clear c1 k26;have hs7:=st7.size
    have hbw7:Below w.heap.size w w7:=by
     have h:=B6.out;exact h.1.trans (st7.below (by have:=h.1.size;omega) (by omega) (by omega))
    have kz7:Has w7 bz #[.slice none 0 0,.slice none 0 0] 31:=(st7.block bz B6.out.2.2.2.1.lt (by have:=B6.out;omega) (by have:=B6.out;omega)).trans B6.out.2.2.2.1;have k47:Has w7 b4 (z01 y).toArray 24:=(st7.block b4 B6.out.2.2.2.2.1.lt (by have:=B6.out;omega) (by have:=B6.out;omega)).trans B6.out.2.2.2.2.1;have f1:(MEML d x m i (PSP i m).length t).length<=1000:=zb4 d x (PSP i m).length t HM.out.im (by have:=HM.out.p.le;have:=HM.out.hn;omega);have f2:(MEML d y n i (PSP i n).length t').length<=1000:=zb4 d y (PSP i n).length t' (by have:=HM.out.p.le;have:=HM.out.im;omega) HM.out.hn;have c2:=(CMM.out 0 0 0 t t' u s v HM.out gm w7.heap.size bm gm (fun i=>i≠bz) (MEML d x m i (PSP i m).length t ++ []) w7 hbw7 B6.out.2.2.1 hm7 (by rw [List.append_nil];omega) (fun j hj=>by have:=kz7.lt;omega)).2.1;have B7:Aside (Below w.heap.size w w7/\Has w7 bz #[.slice none 0 0,.slice none 0 0] 31/\(MEML d x m i (PSP i m).length t).length<=1000/\(MEML d y n i (PSP i n).length t').length<=1000):=⟨hbw7,kz7,f1,f2⟩
    clear hm7 st7 hs7 hbw7 kz7 f1 f2
    go_wp2_with (first
     | (refine wpList_load_row rfl 24 (.tmp 19) rfl b4 rfl 24 (z01 y).toArray (0,0) _ k47 Tryz.underlying24 rfl (z02 l4) ?_)
     | fail)
    refine c2.mono ?_;rintro e w7' ⟨⟨v2,rfl⟩,hm7,st7⟩;clear c2 k47;have hs7:=st7.size;have hbw7:Below w.heap.size w w7':=B7.out.1.trans (st7.below (by have:=B7.out.1.size;omega) (by have:=B6.out;omega) (by have:=B6.out;omega));have kz7:Has w7' bz #[.slice none 0 0,.slice none 0 0] 31:=(st7.block bz B7.out.2.1.lt (by have:=B6.out;omega) (by have:=B6.out;omega)).trans B7.out.2.1;have c3:=(CMM.out 0 0 0 t t' u s v HM.out gm w7'.heap.size bm gm (fun i=>i≠bz) (MEML d y n i (PSP i n).length t' ++ (MEML d x m i (PSP i m).length t ++ [])) w7' hbw7 B6.out.2.2.1 hm7 (by rw [List.append_nil,List.length_append];have:=B7.out;omega) (fun j hj=>by have:=kz7.lt;omega)).2.2;have B8:Aside (Below w.heap.size w w7'/\Has w7' bz #[.slice none 0 0,.slice none 0 0] 31):=⟨hbw7,kz7⟩
    clear hm7 st7 hs7 hbw7 kz7 B7;go_wp2_with fail
    refine c3.mono ?_;rintro e w8 ⟨⟨v3,rfl⟩,hm8,st8⟩;clear c3 CMM;have hzb:=HZ.out;have hs8:=st8.size;have hbw8:Below w.heap.size w w8:=B8.out.1.trans (st8.below (by have:=B8.out.1.size;omega) (by have:=B6.out;omega) (by have:=B6.out;omega));have kz8:Has w8 bz #[.slice none 0 0,.slice none 0 0] 31:=(st8.block bz B8.out.2.lt (by have:=B6.out;omega) (by have:=B6.out;omega)).trans B8.out.2;obtain ⟨a1,n1,c1,a2,n2,c2,hB8, -⟩:=hm8.blk;generalize hfd:(CLS d (PFXL d m n u ++ (MEML d y n i (PSP i n).length t' ++ (MEML d x m i (PSP i m).length t ++ [])))).isSome=fd at hB8
    have FIN:Aside (∀ W,W=w8.drew->fd=true/\CLASHED w (some (s,v)) (.returned (.tuple #[.agg #[.slice a1 n1 c1,.slice a2 n2 c2],.bool fd])) ((W.setCell ⟨bz,0,none⟩ (.slice a1 n1 c1)).setCell ⟨bz,1,none⟩ (.slice a2 n2 c2))/\Has ((W.setCell ⟨bz,0,none⟩ (.slice a1 n1 c1)).setCell ⟨bz,1,none⟩ (.slice a2 n2 c2)) bz #[.slice a1 n1 c1,.slice a2 n2 c2] 31):=by
     rintro W rfl;have hHz:Has w8.drew bz #[.slice none 0 0,.slice none 0 0] 31:=kz8;have:=MET.told (w0:=w) (w':=(w8.drew.setCell ⟨bz,0,none⟩ (.slice a1 n1 c1)).setCell ⟨bz,1,none⟩ (.slice a2 n2 c2)) (bz:=bz) hm8 hB8 HM.out.cls B6.out.2.2.1 ((hbw8.drew.setCell (p:=⟨bz,0,none⟩) hzb _).setCell (p:=⟨bz,1,none⟩) hzb _) (fun i hi=>(Below.heap_setCell _ _ _ i hi).trans (Below.heap_setCell _ _ _ i hi)) (fun i h=>h);exact ⟨this.1,this.2,(hHz.set 0 _).set 1 _⟩
    have y2:w8.cell? ⟨bm,2,none⟩=some (.slice a1 n1 c1):=hB8.cell 2;have y3:w8.cell? ⟨bm,3,none⟩=some (.slice a2 n2 c2):=hB8.cell 3;have y4:w8.cell? ⟨bm,4,none⟩=some (.bool fd):=hB8.cell 4;have hne:bm≠bz:=by have:=B6.out;omega
    go_upto_region 7 with fail
    refine zf9 w8 bm bz a1 a2 n1 c1 n2 c2 fd (fun W=>W=w8.drew) (fun W=>W=(w8.drew.setCell ⟨bz,0,none⟩ (.slice a1 n1 c1)).setCell ⟨bz,1,none⟩ (.slice a2 n2 c2)) rfl (fun W e=>by subst e;exact ⟨y2,y3,y4⟩) (fun W e=>by subst e;exact ⟨(World.cell?_setCell_other _ _ _ _ (fun e=>hne (congrArg Addr.block e).symm)).trans ((World.cell?_setCell_other _ _ _ _ (fun e=>hne (congrArg Addr.block e).symm)).trans y2),(World.cell?_setCell_other _ _ _ _ (fun e=>hne (congrArg Addr.block e).symm)).trans ((World.cell?_setCell_other _ _ _ _ (fun e=>hne (congrArg Addr.block e).symm)).trans y3),(World.cell?_setCell_other _ _ _ _ (fun e=>hne (congrArg Addr.block e).symm)).trans ((World.cell?_setCell_other _ _ _ _ (fun e=>hne (congrArg Addr.block e).symm)).trans y4)⟩) (fun W e=>by subst e;exact kz8) (fun W e=>by subst e;rfl) (fun _ _ _ _ _ h=>h) ?_;intro W hW;obtain ⟨q0,q1,q2⟩:=FIN.out w8.drew rfl;rw [<-hW] at q1 q2;subst q0;clear hW FIN y2 y3 y4 hB8 hm8 st8;have z0:W.cell? ⟨bz,0,none⟩=some (.slice a1 n1 c1):=q2.cell 0;have z1:W.cell? ⟨bz,1,none⟩=some (.slice a2 n2 c2):=q2.cell 1;go_wp2_with fail
    refine bodyPost_ret (v:=.tuple #[.agg #[.slice a1 n1 c1,.slice a2 n2 c2],.bool true]) ?_ rfl q1;simp [results,Tryz.f7,go_sem,z0,z1]
   ·have hX0:=HC.out.1 (by rintro ⟨_,_,h⟩;exact hE3 h)
    have hE9:(U3 != 0)=true:=bne_iff_ne.2 hE3;have hzb:=HZ.out;subst hX0;clear HC k1 k2 k3 k4 CM CMM;have x0:w3.cell? ⟨bz,0,none⟩=some (.slice none 0 0):=kz.cell 0;have x1:w3.cell? ⟨bz,1,none⟩=some (.slice none 0 0):=kz.cell 1;have f0:=kz.frozen 0;have f1:=kz.frozen 1;go_wp2;have hH:=(kz.set 0 (.slice none 0 0)).set 1 (.slice none 0 0);have hb:=(hbw.setCell (p:=⟨bz,0,none⟩) hzb (.slice none 0 0)).setCell (p:=⟨bz,1,none⟩) hzb (.slice none 0 0);clear x0 x1 f0 f1 kz;generalize (w3.setCell ⟨bz,0,none⟩ (.slice none 0 0)).setCell ⟨bz,1,none⟩ (.slice none 0 0)=wf at *
    have z0:wf.cell? ⟨bz,0,none⟩=some (.slice none 0 0):=hH.cell 0;have z1:wf.cell? ⟨bz,1,none⟩=some (.slice none 0 0):=hH.cell 1;refine bodyPost_ret (v:=.tuple #[.agg #[.slice none 0 0,.slice none 0 0],.bool false]) ?_ rfl ⟨hb,rfl⟩;simp [results,Tryz.f7,go_sem,z0,z1]
  ·have hX0:=HC.out.1 (by rintro ⟨_,h,_⟩;exact hE2 h)
   have hE9:(U2 != 0)=true:=bne_iff_ne.2 hE2;have hzb:=HZ.out;subst hX0;clear HC k1 k2 k3 k4 CM CMM;have x0:w2.cell? ⟨bz,0,none⟩=some (.slice none 0 0):=kz.cell 0;have x1:w2.cell? ⟨bz,1,none⟩=some (.slice none 0 0):=kz.cell 1;have f0:=kz.frozen 0;have f1:=kz.frozen 1;go_wp2;have hH:=(kz.set 0 (.slice none 0 0)).set 1 (.slice none 0 0);have hb:=(hbw.setCell (p:=⟨bz,0,none⟩) hzb (.slice none 0 0)).setCell (p:=⟨bz,1,none⟩) hzb (.slice none 0 0);clear x0 x1 f0 f1 kz;generalize (w2.setCell ⟨bz,0,none⟩ (.slice none 0 0)).setCell ⟨bz,1,none⟩ (.slice none 0 0)=wf at *
   have z0:wf.cell? ⟨bz,0,none⟩=some (.slice none 0 0):=hH.cell 0;have z1:wf.cell? ⟨bz,1,none⟩=some (.slice none 0 0):=hH.cell 1;refine bodyPost_ret (v:=.tuple #[.agg #[.slice none 0 0,.slice none 0 0],.bool false]) ?_ rfl ⟨hb,rfl⟩;simp [results,Tryz.f7,go_sem,z0,z1]
 ·have hX0:=HC.out.1 (by rintro ⟨h,_⟩;exact hE1 h)
  have hE9:(U1 != 0)=true:=bne_iff_ne.2 hE1;have hzb:=HZ.out;subst hX0;clear HC k1 k2 k3 k4 CM CMM;have x0:w1.cell? ⟨bz,0,none⟩=some (.slice none 0 0):=kz.cell 0;have x1:w1.cell? ⟨bz,1,none⟩=some (.slice none 0 0):=kz.cell 1;have f0:=kz.frozen 0;have f1:=kz.frozen 1;go_wp2;have hH:=(kz.set 0 (.slice none 0 0)).set 1 (.slice none 0 0);have hb:=(hbw.setCell (p:=⟨bz,0,none⟩) hzb (.slice none 0 0)).setCell (p:=⟨bz,1,none⟩) hzb (.slice none 0 0);clear x0 x1 f0 f1 kz;generalize (w1.setCell ⟨bz,0,none⟩ (.slice none 0 0)).setCell ⟨bz,1,none⟩ (.slice none 0 0)=wf at *
  have z0:wf.cell? ⟨bz,0,none⟩=some (.slice none 0 0):=hH.cell 0;have z1:wf.cell? ⟨bz,1,none⟩=some (.slice none 0 0):=hH.cell 1;refine bodyPost_ret (v:=.tuple #[.agg #[.slice none 0 0,.slice none 0 0],.bool false]) ?_ rfl ⟨hb,rfl⟩;simp [results,Tryz.f7,go_sem,z0,z1]
end Go.Proofs.YtdggkbpabjgdfaaGreatDoor
namespace Go.Proofs.YtdggkbpabjgdfaaGreatDoor.HX
open Go.RowKit
set_option maxRecDepth 100000
def z1v (d:Int) (l k:List Nat):Bool:=!decide (l=k) && (List.range 32).all fun i=>z0b d l i == z0b d k i
theorem z9H {w w':World} (hb:Below w.heap.size w w'):∀ (j:Nat) C t,Has w j C t->Has w' j C t:=fun _ _ _ h=>h.keep hb
theorem z6Z (d:Int) (l:List Nat):z1v d l l=false:=by simp [z1v]
theorem z58 (d:Int) {l k:List Nat} (h:l≠k):z1v d l k=(List.range 32).all fun i=>z0b d l i == z0b d k i:=by simp [z1v,h]
theorem z9n (d:Int) (a:Option Addr) (n c:Nat) (l:List Nat) (b:Option Addr) (m c':Nat) (k:List Nat) (w:World) (h1:Text w a n l) (hc1:n<=c) (hx1:∀ x,a=some x->x.block<w.heap.size) (hn:n<2 ^ 60) (h2:Text w b m k) (hc2:m<=c') (hx2:∀ x,b=some x->x.block<w.heap.size) (hm:m<2 ^ 60) (hT:Tabled w):Calls Tryz.prog 23 #[.int .i64 d,.agg #[.slice a n c,.slice b m c']] w fun e w'=>e=.returned (.bool (z1v d l k))/\Below w.heap.size w w':=by
 have hb0:Below w.heap.size w (w.alloc (.cells #[.slice a n c,.slice b m c'] 31)):=(Below.refl _ _).alloc (Nat.le_refl _) _;have hbox:Has (w.alloc (.cells #[.slice a n c,.slice b m c'] 31)) w.heap.size #[.slice a n c,.slice b m c'] 31:=Has.new w _ _;have H:Aside (Text w a n l/\n<=c/\(∀ x,a=some x->x.block<w.heap.size)/\n<2 ^ 60/\Text w b m k/\m<=c'/\(∀ x,b=some x->x.block<w.heap.size)/\m<2 ^ 60/\Tabled w):=⟨h1,hc1,hx1,hn,h2,hc2,hx2,hm,hT⟩
 clear h1 hc1 hx1 hn h2 hc2 hx2 hm hT;have HR:Aside ((l=k->z1v d l k=false)/\(l≠k->z1v d l k=(List.range 32).all fun i=>z0b d l i == z0b d k i)):=⟨fun h=>by subst h;exact z6Z d l,fun h=>z58 d h⟩
 generalize z1v d l k=hr at *
 go_enter Tryz.func23,Tryz.ntmps23;go_upto_region 1 with fail
 generalize hw1:w.alloc (.cells #[.slice a n c,.slice b m c'] 31)=w1 at *
 have hs:∀ W,Below w1.heap.size w1 W->W.cell? ⟨w.heap.size,0,none⟩=some (.slice a n c)/\W.cell? ⟨w.heap.size,1,none⟩=some (.slice b m c'):=fun W hb=>by
  have h:=hbox.keep hb;exact ⟨(h.cell 0).trans rfl,(h.cell 1).trans rfl⟩
 have hbw:∀ W,Below w1.heap.size w1 W->Below w.heap.size w W:=fun W hb=>hb0.trans (hb.mono hb0.size);by_cases e:l=k
 ·have hr0:=HR.out.1 e
  subst e;refine ziU _ _ _ _ _ _ _ _ _ _ _ _ _ _ _ _ _ _ _ _ _ w1 d w.heap.size a n c b m c' (fun W=>Below w1.heap.size w1 W) hs (Below.refl _ _).drew (fun W hW=>?_) (fun _ _ _ _ _ h=>h) ?_
  ·refine (z3i a n c l b m c' l W (H.out.1.below (hbw W hW)) (H.out.2.2.2.2.1.below (hbw W hW))).mono ?_
   rintro e w' ⟨rfl,rfl⟩;exact ⟨by rw [decide_eq_true rfl],hW⟩
  ·intro W hW
   have R:=hbw W hW;clear hW hs hbw hbox hb0 hw1;go_wp2;go_ret;exact ⟨by first | rfl | (subst hr0;rfl) | (rw [hr0];rfl),R⟩
 ·have hr0:=HR.out.2 e
  clear HR;refine zjm _ _ _ _ _ _ _ _ _ _ _ _ _ _ _ _ _ _ _ _ _ w1 d w.heap.size a n c b m c' (fun W=>Below w1.heap.size w1 W) hs (Below.refl _ _).drew (z0b d l) (z0b d k) ((List.range 32).all fun i=>z0b d l i == z0b d k i) (fun W o hW=>hW.alloc hW.size _) (fun W=>z3n _ _ W) (fun W hW=>?_) (fun W g hW hg=>?_) (fun W g hW hg=>?_) (fun _ _ _ _ _ h=>h) ?_
  ·refine (z3i a n c l b m c' k W (H.out.1.below (hbw W hW)) (H.out.2.2.2.2.1.below (hbw W hW))).mono ?_
   rintro e' w' ⟨rfl,rfl⟩;exact ⟨by rw [decide_eq_false e],hW⟩
  ·have hb:=hbw W hW
   refine (sum9 d W g a n c l hg (H.out.1.below hb) H.out.2.1 (fun x hx=>Nat.lt_of_lt_of_le (H.out.2.2.1 x hx) hb.size) H.out.2.2.2.1 (H.out.2.2.2.2.2.2.2.2.below hb)).mono ?_;rintro e' w' ⟨rfl,hb'⟩;exact ⟨rfl,hW.trans (hb'.mono hW.size),z9H hb'⟩
  ·have hb:=hbw W hW
   refine (sum9 d W g b m c' k hg (H.out.2.2.2.2.1.below hb) H.out.2.2.2.2.2.1 (fun x hx=>Nat.lt_of_lt_of_le (H.out.2.2.2.2.2.2.1 x hx) hb.size) H.out.2.2.2.2.2.2.2.1 (H.out.2.2.2.2.2.2.2.2.below hb)).mono ?_;rintro e' w' ⟨rfl,hb'⟩;exact ⟨rfl,hW.trans (hb'.mono hW.size),z9H hb'⟩
  ·intro g g2 W hW
   have R:=hbw W hW;clear hW hs hbw hbox hb0 hw1 e;generalize ((List.range 32).all fun i=>z0b d l i == z0b d k i)=r at *
   go_wp2;go_ret;exact ⟨by first | rfl | (subst hr0;rfl) | (rw [hr0];rfl),R⟩
theorem zb5 (d:Int) (a:Option Addr) (n c:Nat) (l:List Nat) (b:Option Addr) (m c':Nat) (k:List Nat) (w:World) (h1:Text w a n l) (hc1:a=none->c=0) (hn:n<2 ^ 30) (h2:Text w b m k) (hc2:b=none->c'=0) (hm:m<2 ^ 30):Calls Tryz.prog 21 #[.int .i64 d,.agg #[.slice a n c,.slice b m c']] w fun e w'=>e=.returned (.bool (z1v d l k))/\Below w.heap.size w w':=by
 have hb0:Below w.heap.size w (w.alloc (.cells #[.slice a n c,.slice b m c'] 31)):=(Below.refl _ _).alloc (Nat.le_refl _) _;have hbox:Has (w.alloc (.cells #[.slice a n c,.slice b m c'] 31)) w.heap.size #[.slice a n c,.slice b m c'] 31:=Has.new w _ _;have H:Aside (Text w a n l/\(a=none->c=0)/\n<2 ^ 30/\Text w b m k/\(b=none->c'=0)/\m<2 ^ 30):=⟨h1,hc1,hn,h2,hc2,hm⟩
 clear h1 hc1 hn h2 hc2 hm;have HR:Aside ((l=k->z1v d l k=false)/\(l≠k->z1v d l k=(List.range 32).all fun i=>z0b d l i == z0b d k i)):=⟨fun h=>by subst h;exact z6Z d l,fun h=>z58 d h⟩
 generalize z1v d l k=hr at *
 go_enter Tryz.func21,Tryz.ntmps21;go_upto_region 1 with fail
 generalize hw1:w.alloc (.cells #[.slice a n c,.slice b m c'] 31)=w1 at *
 have hs:∀ W,Below w1.heap.size w1 W->W.cell? ⟨w.heap.size,0,none⟩=some (.slice a n c)/\W.cell? ⟨w.heap.size,1,none⟩=some (.slice b m c'):=fun W hb=>by
  have h:=hbox.keep hb;exact ⟨(h.cell 0).trans rfl,(h.cell 1).trans rfl⟩
 have hbw:∀ W,Below w1.heap.size w1 W->Below w.heap.size w W:=fun W hb=>hb0.trans (hb.mono hb0.size);by_cases e:l=k
 ·have hr0:=HR.out.1 e
  subst e;refine ziV _ _ _ _ _ _ _ _ _ _ _ _ _ _ _ _ _ _ _ _ _ w1 d w.heap.size a n c b m c' (fun W=>Below w1.heap.size w1 W) hs (Below.refl _ _).drew (fun W hW=>?_) (fun _ _ _ _ _ h=>h) ?_
  ·refine (z1S a b n m c c' l l W (H.out.1.below (hbw W hW)) (H.out.2.2.2.1.below (hbw W hW)) (by have:=H.out.2.2.1;omega)).mono ?_
   rintro e w' ⟨rfl,hb', -⟩;exact ⟨by rw [decide_eq_true rfl],hW.trans (hb'.mono hW.size)⟩
  ·intro W hW
   have R:=hbw W hW;clear hW hs hbw hbox hb0 hw1;go_wp2;go_ret;exact ⟨by first | rfl | (subst hr0;rfl) | (rw [hr0];rfl),R⟩
 ·have hr0:=HR.out.2 e
  clear HR;refine zjn _ _ _ _ _ _ _ _ _ _ _ _ _ _ _ _ _ _ _ _ _ w1 d w.heap.size a n c b m c' (fun W=>Below w1.heap.size w1 W) hs (Below.refl _ _).drew (z0b d l) (z0b d k) ((List.range 32).all fun i=>z0b d l i == z0b d k i) (fun W o hW=>hW.alloc hW.size _) (fun W=>z3n _ _ W) (fun W hW=>?_) (fun W g hW hg=>?_) (fun W g hW hg=>?_) (fun _ _ _ _ _ h=>h) ?_
  ·refine (z1S a b n m c c' l k W (H.out.1.below (hbw W hW)) (H.out.2.2.2.1.below (hbw W hW)) (by have:=H.out.2.2.1;omega)).mono ?_
   rintro e' w' ⟨rfl,hb', -⟩;exact ⟨by rw [decide_eq_false e],hW.trans (hb'.mono hW.size)⟩
  ·refine (zcn d W g a n c l hg (H.out.1.below (hbw W hW)) H.out.2.1 H.out.2.2.1).mono ?_
   rintro e' w' ⟨rfl,hb'⟩;exact ⟨rfl,hW.trans (hb'.mono hW.size),z9H hb'⟩
  ·refine (zcn d W g b m c' k hg (H.out.2.2.2.1.below (hbw W hW)) H.out.2.2.2.2.1 H.out.2.2.2.2.2).mono ?_
   rintro e' w' ⟨rfl,hb'⟩;exact ⟨rfl,hW.trans (hb'.mono hW.size),z9H hb'⟩
  ·intro g g2 W hW
   have R:=hbw W hW;clear hW hs hbw hbox hb0 hw1 e;generalize ((List.range 32).all fun i=>z0b d l i == z0b d k i)=r at *
   go_wp2;go_ret;exact ⟨by first | rfl | (subst hr0;rfl) | (rw [hr0];rfl),R⟩
end Go.Proofs.YtdggkbpabjgdfaaGreatDoor.HX
namespace Go.Proofs.YtdggkbpabjgdfaaGreatDoor
open Go.RowKit
set_option maxRecDepth 100000
structure FourT (w:World) (B:Nat) (K:Nat->Prop) (v:Nat->Value) (n:Nat->Nat) (xs:Nat->List Value):Prop where
 row:∀ x,x<4->w.ownsRow B 5 1 (v x) (n x) (xs x)
 apart:∀ x y,x<4->y<4->x≠y->∀ g,(v x).ownBlock=some g->(v y).ownBlock≠some g
 off:∀ x,x<4->∀ g,(v x).ownBlock=some g->¬ K g
def UPT {α:Type} (f:Nat->α) (x:Nat) (a:α):Nat->α:=fun z=>if z=x then a else f z
theorem z0Z {α:Type} (f:Nat->α) (x:Nat) (a:α):UPT f x a x=a:=by simp [UPT]
theorem z0A {α:Type} (f:Nat->α) {x z:Nat} (a:α) (h:z≠x):UPT f x a z=f z:=by simp [UPT,h]
theorem zfB:(Tryz.prog.info? 5).map (fun i=>(i.zero,i.size,i.bytes))=some (some (.int .u8 0),1,1):=by kernel_rfl
theorem zdV {w w':World} {B:Nat} {t:TypeId} {s n:Nat} {v:Value} {xs:List Value} (h:w.ownsRow B t s v n xs) (hb:Below w.heap.size w w'):w'.ownsRow B t s v n xs:=by
 refine ⟨h.1,h.2.imp id ?_⟩;rintro ⟨g,c,cur,a1,a2,a3,a4⟩;exact ⟨g,c,cur,a1,a2,(hb.block g (Array.getElem?_eq_some_iff.1 a3).1).trans a3,a4⟩
theorem FourT.alloc {w:World} {B:Nat} {K:Nat->Prop} {v:Nat->Value} {n:Nat->Nat} {xs:Nat->List Value} (h:FourT w B K v n xs) (o:Obj):FourT (w.alloc o) B K v n xs:=⟨fun x hx=>(h.row x hx).alloc o,h.apart,h.off⟩
theorem FourT.below {w w':World} {B:Nat} {K:Nat->Prop} {v:Nat->Value} {n:Nat->Nat} {xs:Nat->List Value} (h:FourT w B K v n xs) (hb:Below w.heap.size w w'):FourT w' B K v n xs:=⟨fun x hx=>zdV (h.row x hx) hb,h.apart,h.off⟩
theorem z7T (W:World) (b j:Nat) (v:Value):W.grownBy (W.setCell ⟨b,j,none⟩ v) (some b):=
 ⟨rfl,rfl,rfl,(KeepsWalks.setCell W _ v).size,fun k _ hk=>Below.heap_setCell _ _ _ k (fun e=>hk (by rw [e]))⟩
theorem FourT.other {w:World} {B:Nat} {K:Nat->Prop} {v:Nat->Value} {n:Nat->Nat} {xs:Nat->List Value} (h:FourT w B K v n xs) {b:Nat} (hb:K b) (j:Nat) (u:Value):FourT (w.setCell ⟨b,j,none⟩ u) B K v n xs:=
 ⟨fun x hx=>(h.row x hx).kept (z7T w b j u) (.inr fun e=>h.off x hx b e hb),h.apart,h.off⟩
theorem FourT.store {w:World} {B:Nat} {K:Nat->Prop} {v:Nat->Value} {n:Nat->Nat} {xs:Nat->List Value} (h:FourT w B K v n xs) {x g m cap:Nat} (hx:x<4) (hv:v x=.slice (some ⟨g,0,none⟩) m cap) (j:Nat) (u:Value):
  FourT (w.setCell ⟨g,j,none⟩ u) B K v n (UPT xs x ((xs x).set j u)):=by
 refine ⟨fun z hz=>?_,h.apart,h.off⟩;by_cases e:z=x
 ·subst e
  have hr:=h.row z hz;rw [hv] at hr ⊢
  have hm:m=n z:=by
   rcases hr.2 with ⟨e,_⟩ | ⟨_,_,_,e,_⟩
   ·simp at e
   ·simp at e
    omega
  subst hm;rw [z0Z];exact (hr.stored j u).1
 ·rw [z0A xs _ e]
  refine (h.row z hz).kept (z7T w g j u) (.inr fun e2=>?_);exact h.apart x z hx hz (fun e3=>e e3.symm) g (by rw [hv];rfl) e2
theorem FourT.app {w w':World} {B:Nat} {K:Nat->Prop} {v:Nat->Value} {n:Nat->Nat} {xs:Nat->List Value} (h:FourT w B K v n xs) {x g cap:Nat} {u:Value} (hx:x<4) (hK:∀ k,K k->k<w.heap.size)
  (hown:w'.ownsRow B 5 1 (.slice (some ⟨g,0,none⟩) (n x+1) cap) (n x+1) (xs x ++ [u])) (hgrow:w.grownBy w' (v x).ownBlock) (hg:(v x).ownBlock=some g\/g=w.heap.size):
  FourT w' B K (UPT v x (.slice (some ⟨g,0,none⟩) (n x+1) cap)) (UPT n x (n x+1)) (UPT xs x (xs x ++ [u])):=by
 refine ⟨fun z hz=>?_,fun y z hy hz hne k hk=>?_,fun z hz k hk=>?_⟩
 ·by_cases e:z=x
  ·subst e
   rw [z0Z,z0Z,z0Z];exact hown
  ·rw [z0A v _ e,z0A n _ e,z0A xs _ e]
   refine (h.row z hz).kept hgrow ?_;cases hb:(v z).ownBlock with
   | none=>exact .inl rfl
   | some k=>exact .inr fun e2=>h.apart z x hz hx e k hb e2.symm
 ·by_cases ey:y=x
  ·subst ey
   rw [z0Z] at hk;have hkg:g=k:=by simpa [Value.ownBlock] using hk
   subst hkg;rw [z0A v _ (fun e=>hne e.symm)];intro e2;rcases hg with hg | hg
   ·exact h.apart y z hx hz hne g hg e2
   ·have:=((h.row z hz).lt g e2).2
    omega
  ·rw [z0A v _ ey] at hk
   by_cases ez:z=x
   ·subst ez
    rw [z0Z];intro e2;have hkg:g=k:=by simpa [Value.ownBlock] using e2
    subst hkg;rcases hg with hg | hg
    ·exact h.apart y z hy hz hne g hk hg
    ·have:=((h.row y hy).lt g hk).2
     omega
   ·rw [z0A v _ ez]
    exact h.apart y z hy hz hne k hk
 ·by_cases ez:z=x
  ·subst ez
   rw [z0Z] at hk;have hkg:g=k:=by simpa [Value.ownBlock] using hk
   subst hkg;rcases hg with hg | hg
   ·exact h.off z hz g hg
   ·intro hkk
    have:=hK g hkk;omega
  ·rw [z0A v _ ez] at hk
   exact h.off z hz k hk
theorem z59 {w:World} {B n:Nat} {v:Value} {xs:List Value} (h:w.ownsRow B 5 1 v n xs):∃ a cap,v=.slice a n cap/\(0<n->∃ g,a=some ⟨g,0,none⟩/\g<w.heap.size/\B<=g):=by
 rcases h.2 with ⟨rfl,h0⟩ | ⟨g,cap,cur,rfl,hb,hg,r⟩
 ·subst h0
  exact ⟨none,0,rfl,fun h=>by omega⟩
 ·exact ⟨_,cap,rfl,fun _=>⟨g,rfl,(Array.getElem?_eq_some_iff.1 hg).1,hb⟩⟩
theorem z9o {ops:Array Oper} {rest:List Oper} {o:Oper} {a:Act} {Q:Exit->Act->World->Prop} (w:World) (hgd:o.guard=none) (s x:Operand)
   (ho:o.op=.call {callee:=.builtin .append,args:=#[s,x],argTypes:=#[25,25]})
   (base:Nat) (v:Value) (n:Nat) (xs:List Value) (hs:a.eval s=v) (hown:w.ownsRow base 5 1 v n xs)
   (b c:Nat) (y:Int) (hx:a.eval x=.slice (some ⟨b,0,none⟩) 1 c) (hc:w.cell? ⟨b,0,none⟩=some (.int .u8 y))
   (hb:n<=100000) (hbase:base<=w.heap.size)
   (h:∀ g cap w',w'.ownsRow base 5 1 (.slice (some ⟨g,0,none⟩) (n+1) cap) (n+1) (xs ++ [.int .u8 y])->w.grownBy w' v.ownBlock->(v.ownBlock=some g\/g=w.heap.size)->g<w'.heap.size->wpList Tryz.prog ops Q rest (a.put o.dst (.slice (some ⟨g,0,none⟩) (n+1) cap)) w'):wpList Tryz.prog ops Q (o :: rest) a w:=by
 obtain ⟨i,hi,hz,hs1,hby⟩:=info_parts zfB;refine wpList_append_lies w hgd s x 25 ho base 5 i (.int .u8 0) 1 1 Tryz.underlying25 hi hz hs1 hby rfl (by decide) v n xs hs hown ⟨b,0,none⟩ 1 c [.int .u8 y] hx rfl ?_ (fun u hu=>by simp at hu;subst hu;rfl) (by decide) (by simp only [maxLen];omega) (by omega) hbase w.heap.size rfl h;intro j u hj;cases j with
 | zero=>
   simp only [List.getElem?_cons_zero,Option.some.injEq] at hj;subst hj;exact hc
 | succ j=>simp at hj
theorem Has.grown9 {w w':World} {g:Nat} {c:Array Value} {t:TypeId} {row:Option Nat} (h:Has w g c t) (hg:w.grownBy w' row) (hne:row≠some g):Has w' g c t:=by
 obtain ⟨_,_,_,_,hk⟩:=hg;exact (hk g h.lt (fun e=>hne e.symm)).trans h
abbrev CX9 (x:Nat):Value:=.int .u8 (((201+x:Nat)):Int)
def STA (w2:World) (B9 lb gb:Nat) (c0 cg:Array Value) (V:Nat->Value) (N:Nat->Nat) (x y:Nat) (wx:World):Prop:=
 ∃ xs:Nat->List Value,FourT wx B9 (fun g=>g=lb\/g=gb) V N xs/\(Has wx lb c0 25/\Has wx gb cg 62)/\Below B9 w2 wx/\(B9<=w2.heap.size/\B9<=lb/\B9<=gb)/\(∀ z,z<x->∀ j,j<N z->(xs z)[j]?=some (CX9 z))/\(∀ j,j<y->(xs x)[j]?=some (CX9 x))
theorem STA.next {w2:World} {B9 lb gb:Nat} {c0 cg:Array Value} {V:Nat->Value} {N:Nat->Nat} {x:Nat} {wx:World} (h:STA w2 B9 lb gb c0 cg V N x (N x) wx):STA w2 B9 lb gb c0 cg V N (x+1) 0 wx:=by
 obtain ⟨xs,h1,h2,h3,h4,h5,h6⟩:=h;refine ⟨xs,h1,h2,h3,h4,fun z hz j hj=>?_,fun j hj=>by omega⟩;rcases Nat.lt_or_ge z x with h | h
 ·exact h5 z h j hj
 ·obtain rfl:z=x:=by omega
  exact h6 j hj
theorem STA.store {w2:World} {B9 lb gb:Nat} {c0 cg:Array Value} {V:Nat->Value} {N:Nat->Nat} {x y g m cap:Nat} {wx:World} (h:STA w2 B9 lb gb c0 cg V N x y wx) (hx:x<4) (hy:y<N x) (hv:V x=.slice (some ⟨g,0,none⟩) m cap):STA w2 B9 lb gb c0 cg V N x (y+1) (wx.setCell ⟨g,y,none⟩ (CX9 x)):=by
 obtain ⟨xs,h1,h2,h3,h4,h5,h6⟩:=h;have hg:=(h1.row x hx).lt g (by rw [hv];rfl);refine ⟨_,h1.store hx hv y (CX9 x),⟨h2.1.other (fun e=>h1.off x hx g (by rw [hv];rfl) (.inl e.symm)) _,h2.2.other (fun e=>h1.off x hx g (by rw [hv];rfl) (.inr e.symm)) _⟩,h3.setCell hg.1 _,h4,fun z hz j hj=>?_,fun j hj=>?_⟩
 ·rw [z0A xs _ (by omega)]
  exact h5 z hz j hj
 ·rw [z0Z,List.getElem?_set]
  have hl:(xs x).length=N x:=by have:=(h1.row x hx).1;omega
  split
  ·rw [if_pos (by omega)]
  ·exact h6 j (by omega)
structure STB (w2:World) (B9 lb gb:Nat) (c0:Array Value) (x:Nat) (wx:World) (V:Nat->Value) (N:Nat->Nat) (xs:Nat->List Value) (cg:Array Value):Prop where
 four:FourT wx B9 (fun g=>g=lb\/g=gb) V N xs
 hl:Has wx lb c0 25
 hg:Has wx gb cg 62
 size:cg.size=4
 bel:Below B9 w2 wx
 hB:B9<=w2.heap.size
 ol:B9<=lb
 og:B9<=gb
 old:∀ z,x<=z->z<4->c0[z]?=some (V z)
 new:∀ z,z<x->cg[z]?=some (V z)
 cell:∀ z,z<4->∀ j,j<N z->(xs z)[j]?=some (CX9 z)
 len:∀ z,z<4->N z<=202
 few:∀ z,x<=z->z<4->N z<=200
theorem STB.step {w2:World} {B9 lb gb:Nat} {c0:Array Value} {x:Nat} {wx:World} {V:Nat->Value} {N:Nat->Nat} {xs:Nat->List Value} {cg:Array Value} (h:STB w2 B9 lb gb c0 x wx V N xs cg) (hx:x<4) (o1 o2:Obj) {g1 q1 g2 q2:Nat} {w5 w6:World}
  (own1:w5.ownsRow B9 5 1 (.slice (some ⟨g1,0,none⟩) (N x+1) q1) (N x+1) (xs x ++ [CX9 x])) (grow1:(wx.alloc o1).grownBy w5 (V x).ownBlock) (at1:(V x).ownBlock=some g1\/g1=(wx.alloc o1).heap.size)
  (own2:w6.ownsRow B9 5 1 (.slice (some ⟨g2,0,none⟩) (N x+1+1) q2) (N x+1+1) (xs x ++ [CX9 x] ++ [CX9 x])) (grow2:(w5.alloc o2).grownBy w6 (some g1)) (at2:some g1=some g2\/g2=(w5.alloc o2).heap.size):
  Has w6 gb cg 62/\∃ V' N' xs',STB w2 B9 lb gb c0 (x+1) (w6.setCell ⟨gb,x,none⟩ (.slice (some ⟨g2,0,none⟩) (N x+1+1) q2)) V' N' xs' (cg.setIfInBounds x (.slice (some ⟨g2,0,none⟩) (N x+1+1) q2)):=by
 have hK:∀ k,(k=lb\/k=gb)->k<(wx.alloc o1).heap.size:=fun k hk=>by
  rcases hk with rfl | rfl
  ·exact (h.hl.alloc o1).lt
  ·exact (h.hg.alloc o1).lt
 have F1:=(h.four.alloc o1).app hx hK own1 grow1 at1;have hr1:∀ k,(k=lb\/k=gb)->(V x).ownBlock≠some k:=fun k hk e=>h.four.off x hx k e hk;have l5:=(h.hl.alloc o1).grown9 grow1 (hr1 lb (.inl rfl));have g5:=(h.hg.alloc o1).grown9 grow1 (hr1 gb (.inr rfl));have hr2:∀ k,(k=lb\/k=gb)->(some g1:Option Nat)≠some k:=fun k hk e=>F1.off x hx k (by rw [z0Z];exact e) hk
 have hK2:∀ k,(k=lb\/k=gb)->k<(w5.alloc o2).heap.size:=fun k hk=>by
  rcases hk with rfl | rfl
  ·exact (l5.alloc o2).lt
  ·exact (g5.alloc o2).lt
 have l6:=(l5.alloc o2).grown9 grow2 (hr2 lb (.inl rfl));have g6:=(g5.alloc o2).grown9 grow2 (hr2 gb (.inr rfl));have F2:=(F1.alloc o2).app (x:=x) (g:=g2) (cap:=q2) (u:=CX9 x) (w':=w6) hx hK2 (by rw [z0Z,z0Z];exact own2) (by rw [z0Z];exact grow2) (by rw [z0Z];exact at2);have F3:=F2.other (b:=gb) (.inr rfl) x (.slice (some ⟨g2,0,none⟩) (N x+1+1) q2);have b5:Below B9 w2 w5:=(h.bel.alloc (Nat.le_trans h.hB h.bel.size) _).grown grow1 (by have:=h.bel.size;have:=h.hB;simp;omega) (fun k e=>((h.four.row x hx).lt k e).1);have b6:Below B9 w2 w6:=(b5.alloc (Nat.le_trans h.hB b5.size) _).grown grow2 (by have:=b5.size;have:=h.hB;simp;omega) (fun k e=>(own1.lt k e).1);have hlen:(xs x).length=N x:=by have:=(h.four.row x hx).1;omega
 refine ⟨g6,_,_,_,⟨F3,l6.other (a:=⟨gb,x,none⟩) (fun e=>?_) _,g6.set x _,by simpa using h.size,b6.setCell (p:=⟨gb,x,none⟩) h.og _,h.hB,h.ol,h.og,fun z hz hz4=>?_,fun z hz=>?_,fun z hz j hj=>?_,fun z hz=>?_,fun z hz hz4=>?_⟩⟩
 ·have e':lb=gb:=e
  have h1:wx.heap[lb]?=some (.cells c0 25):=h.hl;have h2:wx.heap[gb]?=some (.cells cg 62):=h.hg;rw [e',h2] at h1;simp at h1
 ·rw [z0A _ _ (by omega),z0A _ _ (by omega)]
  exact h.old z (by omega) hz4
 ·rw [Array.getElem?_setIfInBounds]
  by_cases e:z=x
  ·subst e
   rw [if_pos rfl,if_pos (by rw [h.size];exact hx),z0Z,z0Z]
  ·rw [if_neg (fun e2=>e e2.symm),z0A _ _ e,z0A _ _ e]
   exact h.new z (by omega)
 ·by_cases e:z=x
  ·subst e
   rw [z0Z,z0Z] at hj;rw [z0Z,z0Z];rcases Nat.lt_or_ge j (N z) with h1 | h1
   ·rw [List.append_assoc,List.getElem?_append_left (by omega)]
    exact h.cell z hz j h1
   ·rw [List.append_assoc,List.getElem?_append_right (by omega),hlen]
    rcases (show j - N z=0\/j - N z=1 by omega) with h2 | h2 <;> rw [h2] <;> rfl
  ·rw [z0A _ _ e,z0A _ _ e] at hj
   rw [z0A _ _ e,z0A _ _ e];exact h.cell z hz j hj
 ·by_cases e:z=x
  ·subst e
   rw [z0Z,z0Z];have:=h.few z (Nat.le_refl _) hz;omega
  ·rw [z0A _ _ e,z0A _ _ e]
   exact h.len z hz
 ·rw [z0A _ _ (by omega),z0A _ _ (by omega)]
  exact h.few z (by omega) hz4
theorem STB.start {w2:World} {B9 lb gb:Nat} {c0 cg:Array Value} {V:Nat->Value} {N:Nat->Nat} {wx:World} (h:STA w2 B9 lb gb c0 cg V N 4 0 wx) (hV:∀ x,x<4->c0[x]?=some (V x)) (hN:∀ x,x<4->N x<=200) (hcg:cg.size=4):∃ xs,STB w2 B9 lb gb c0 0 wx V N xs cg:=by
 obtain ⟨xs,h1,h2,h3,h4,h5,h6⟩:=h;refine ⟨xs,h1,h2.1,h2.2,hcg,h3,h4.1,h4.2.1,h4.2.2,fun z _ hz=>hV z hz,fun z hz=>by omega,fun z hz j hj=>h5 z hz j hj,fun z hz=>?_,fun z _ hz=>hN z hz⟩;have:=hN z hz;omega
end Go.Proofs.YtdggkbpabjgdfaaGreatDoor
