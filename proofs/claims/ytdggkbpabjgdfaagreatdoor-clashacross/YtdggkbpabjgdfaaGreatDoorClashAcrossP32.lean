/- ClashAcross: part 32. -/
import Derived.Test.YtdggkbpabjgdfaaGreatDoorClashAcrossP30
import Derived.Test.YtdggkbpabjgdfaaGreatDoorClashAcrossP31
set_option maxHeartbeats 8000000
namespace Go.Proofs.YtdggkbpabjgdfaaGreatDoor
open Go.RowKit
set_option maxRecDepth 100000
def WAYR (d:Int) (leaf:List Int) (I:Nat) (l:List Int):Nat->List (List Nat)
 | 0=>[]
 | m+1=>(if I / 2 ^ m % 2=0 then z0t (WAYH d leaf I l m) (HSH l m) else z0t (HSH l m) (WAYH d leaf I l m)) :: WAYR d leaf I l m
theorem z37 (d:Int) (leaf:List Int) (I:Nat) (l:List Int):∀ m,(WAYR d leaf I l m).length=m
 | 0=>rfl
 | m+1=>by rw [WAYR,List.length_cons,z37 d leaf I l m]
theorem zb0 (d:Int) (leaf:List Int) (I:Nat) (l:List Int):∀ m,WAYT d leaf I m l (WAYR d leaf I l m)
 | 0=>fun t h=>by omega
 | m + 1=>fun t h=>by
   rw [WAYR];by_cases e:t=m
   ·subst e
    exact List.mem_cons_self ..
   ·exact List.mem_cons_of_mem _ (zb0 d leaf I l m t (by omega))
def MEML (d:Int) (leaf:List Int) (S I N:Nat) (t:List Int):List (List Nat):=BAGL d S (PC S) (CLA d leaf S I N t).2.2 ++ WAYR d leaf I t (RISE I S)
structure MINV (w4:World) (base b g:Nat) (ok:Nat->Prop) (b10:Nat) (d:Int) (A:List Int) (TT:List (List Nat)) (W:World):Prop where
 met:∃ top,MET W base top (fun k=>ok k/\k≠b10) b g d TT
 acc:Has W b10 (z01 A).toArray 24
 os:W.os=w4.os
 tape:W.tape=w4.tape
 output:W.output=w4.output
 size:w4.heap.size<=W.heap.size
 block:∀ k,k<w4.heap.size->k≠b->k≠g->k≠b10->W.heap[k]?=w4.heap[k]?
theorem MINV.turn {w4 W w2:World} {base b g b10:Nat} {ok:Nat->Prop} {d:Int} {A X:List Int} {TT T2:List (List Nat)} (h:MINV w4 base b g ok b10 d A TT W) (hm:∃ top,MET w2 base top (fun k=>ok k/\k≠b10) b g d T2) (st:STEPM b g W w2) (hb:b10≠b/\b10≠g):MINV w4 base b g ok b10 d X T2 (w2.setRow b10 (z01 X).toArray):=by
 have h6:Has w2 b10 (z01 A).toArray 24:=(st.block _ h.acc.lt hb.1 hb.2).trans h.acc;obtain ⟨t2,m2⟩:=hm;refine ⟨⟨t2,m2.keepc (fun i h1 h2=>setRow_other w2 _ i _ (fun e=>?_)) (Nat.le_refl _) (by simpa using m2.htop)⟩,h6.row _,st.os.trans h.os,st.tape.trans h.tape,st.output.trans h.output,by have:=st.size;have:=h.size;simp;omega,fun k h1 h2 h3 h4=>(setRow_other w2 _ k _ h4).trans ((st.block k (Nat.lt_of_lt_of_le h1 h.size) h2 h3).trans (h.block k h1 h2 h3 h4))⟩;subst e;rcases h2 with h2 | h2 | h2
 ·exact hb.1 h2
 ·exact hb.2 h2
 ·exact h2.1.2 rfl
theorem MINV.below {w4 W W':World} {base b g b10:Nat} {ok:Nat->Prop} {d:Int} {A:List Int} {TT:List (List Nat)} (h:MINV w4 base b g ok b10 d A TT W) (hb:Below W.heap.size W W'):MINV w4 base b g ok b10 d A TT W':=by
 obtain ⟨top,hm⟩:=h.met;exact ⟨⟨top,hm.below hb⟩,h.acc.keep hb,hb.os.trans h.os,hb.tape.trans h.tape,hb.output.trans h.output,Nat.le_trans h.size hb.size,fun k h1 h2 h3 h4=>(hb.block k (Nat.lt_of_lt_of_le h1 h.size)).trans (h.block k h1 h2 h3 h4)⟩
theorem MINV.bel {w w4 W:World} {base b g b10:Nat} {ok:Nat->Prop} {d:Int} {A:List Int} {TT:List (List Nat)} (h:MINV w4 base b g ok b10 d A TT W) (hw:Below w.heap.size w w4) (h1:base<=w.heap.size) (hb:base<=b) (hg:base<=g) (h10:base<=b10):Below base w W:=
 (hw.mono h1).trans ⟨h.os,h.tape,h.output,h.size,fun k hk=>h.block k (by have:=hw.size;omega) (by omega) (by omega) (by omega)⟩
theorem z7S (d:Int) (leaf:List Int) (hleaf:IsH leaf) (S I N:Nat) (t bl:List Int) (hIS:I<S) (hS:S<=4611686018427387904) (hN:N=(PSP I S).length) (hD:DEC bl=(0,S,I,N,t)) (ba:Option Addr) (bn bc:Nat) (hbn:bn<=1000000) (hbc:bn<=bc) (w:World) (base top b g:Nat) (ok:Nat->Prop) (T:List (List Nat)) (hM:MET w base top ok b g d T) (hT:T.length<=50000) (hB:Bytes w ba bn bl) (hok:∀ i,w.heap.size<=i->ok i) (hX:∀ W,Below base w W->Tabled W/\HX.Tabled W/\2<W.heap.size):
  Calls Tryz.prog 19 #[.pointer (some ⟨b,0,none⟩),.agg (z01 leaf).toArray,.slice ba bn bc] w fun e w'=>(∃ v,e=.returned v)/\MET w' base w'.heap.size ok b g d (MEML d leaf S I N t ++ T)/\STEPM b g w w':=by
 have htp:=hM.htop;have hbb:=hM.hb;have hgg:=hM.hg;have l32:=hleaf.1;have hr62:=(z0L hIS hS).2.1
 have hCLA:(CLA d leaf S I N t)=(0,PC S,CAT (CLM d leaf S I t) (SPAN 0 S)):=by
  have e1:PLA I S=(0,PLCS (PSP I S)):=by unfold PLA;rw [if_neg (by omega),if_neg (by omega)]
  unfold CLA;rw [e1,if_neg (by simp),if_neg (by simp [PLCS,hN])]
 have HA:Aside (IsH leaf/\I<S/\S<=4611686018427387904/\N=(PSP I S).length/\DEC bl=(0,S,I,N,t)/\MET w base top ok b g d T/\T.length<=50000/\(∀ i,w.heap.size<=i->ok i)/\RISE I S<=62/\CLA d leaf S I N t=(0,PC S,CAT (CLM d leaf S I t) (SPAN 0 S))):=⟨hleaf,hIS,hS,hN,hD,hM,hT,hok,hr62,hCLA⟩
 have HB:Aside (top<=w.heap.size/\(base<=b/\b<top)/\(base<=g/\g<top)/\b≠g):=⟨htp,hbb,hgg,hM.ne⟩
 have HTB:Aside (∀ W,Below base w W->Tabled W/\HX.Tabled W/\2<W.heap.size):=hX;obtain ⟨W0,hW0⟩:∃ W0,w.alloc (.cells (z01 leaf).toArray 24)=W0:=⟨_,rfl⟩
 obtain ⟨b4,hb4⟩:∃ b4,w.heap.size=b4:=⟨_,rfl⟩
 have hb0:Below w.heap.size w W0:=by rw [<-hW0];exact (Below.refl _ _).alloc (Nat.le_refl _) _
 have k4:Has W0 b4 (z01 leaf).toArray 24:=by rw [<-hW0,<-hb4];exact Has.new _ _ _
 have hX0:=hX W0 (hb0.mono (by omega));have c1:=z9e ba bn bc hbn bl W0 (hB.below hb0) hbc hX0.1 (by omega);rw [hD] at c1;have R0:Aside (Below w.heap.size w W0/\Has W0 b4 (z01 leaf).toArray 24/\w.heap.size=b4):=⟨hb0,k4,hb4⟩
 have C2:=z87 I S hIS hS;clear hleaf hIS hS hN hD hM hT hB hok hX htp hbb hgg hr62 hCLA hbn hbc hb0 k4 hX0;go_enter Tryz.func19,Tryz.ntmps19;go_upto_region 1 with fail
 clear hW0 hb4;go_wp2_with fail
 refine c1.mono ?_;rintro e w1 ⟨v,rfl,hb1,hv⟩;clear c1;rcases hv with ⟨h, -⟩ | ⟨-,hS64,hI64,ht32,htr,gn,rfl,hgn,hHn⟩
 ·exact absurd rfl h
 dsimp only at hS64 hI64 ht32 htr hHn ⊢;go_upto_region 2 with fail
 obtain ⟨w2,hw2⟩:∃ w2,w1.alloc (.cells #[.int .u64 (S:Int),.int .u64 (I:Int),.slice (some ⟨gn,0,none⟩) N N] 40)=w2:=⟨_,rfl⟩
 obtain ⟨b6,hb6⟩:∃ b6,w1.heap.size=b6:=⟨_,rfl⟩
 rw [hw2,hb6];have hb12:Below w1.heap.size w1 w2:=by rw [<-hw2];exact (Below.refl _ _).alloc (Nat.le_refl _) _
 have hb02:Below W0.heap.size W0 w2:=hb1.trans (hb12.mono hb1.size);have k6:Has w2 b6 #[.int .u64 (S:Int),.int .u64 (I:Int),.slice (some ⟨gn,0,none⟩) N N] 40:=by rw [<-hw2,<-hb6];exact Has.new _ _ _
 have x0:w2.cell? ⟨b6,0,none⟩=some (.int .u64 (S:Int)):=k6.cell 0;have x1:w2.cell? ⟨b6,1,none⟩=some (.int .u64 (I:Int)):=k6.cell 1;have kn:Has w2 gn (z01 t).toArray 24:=hHn.keep hb12
 have R2:Aside (Below w.heap.size w w2/\Has w2 b4 (z01 leaf).toArray 24/\Has w2 b6 #[.int .u64 (S:Int),.int .u64 (I:Int),.slice (some ⟨gn,0,none⟩) N N] 40/\Has w2 gn (z01 t).toArray 24/\t.length=32*N/\(∀ x∈t,0<=x/\x<=255)/\w.heap.size=b4/\b4<b6/\b4<gn):=by
  have h:=R0.out;have:=h.2.1.lt;have:=hb1.size;exact ⟨h.1.trans (hb02.mono h.1.size),h.2.1.keep hb02,k6,kn,ht32,htr,h.2.2,by omega,by omega⟩
 have c2:=C2 w2;clear hw2 hb6 hb1 hb12 hb02 k6 kn hHn hgn htr ht32 hS64 hI64 R0 C2;go_wp2_with fail
 refine c2.mono ?_;rintro e w3 ⟨gp,pcap,rfl,hrow,hgp,hb3⟩;clear c2 x0 x1;have k43:=R2.out.2.1.keep hb3;obtain ⟨R,hR⟩:∃ R,RISE I S=R:=⟨_,rfl⟩
 rw [hR] at hrow ⊢
 go_upto_region 4 with (first
  | (refine wpList_load_row rfl 24 (.tmp 4) rfl b4 rfl 24 (z01 leaf).toArray (0,0) _ k43 Tryz.underlying24 rfl (z02 l32) ?_)
  | (refine wpList_store_row rfl 24 (.tmp 10) (.tmp 28) rfl _ _ rfl rfl 24 _ (Has.new w3 _ _) (z02 l32) (by simp [z01,l32]) (z0k leaf) ?_;rw [World.setRow_alloc_new])
  | fail)
 obtain ⟨w4,hw4⟩:∃ w4,w3.alloc (.cells (z01 leaf).toArray 24)=w4:=⟨_,rfl⟩
 obtain ⟨b10,hb10⟩:∃ b10,w3.heap.size=b10:=⟨_,rfl⟩
 rw [hw4,hb10];have hb34:Below w3.heap.size w3 w4:=by rw [<-hw4];exact (Below.refl _ _).alloc (Nat.le_refl _) _
 have hb24:Below w2.heap.size w2 w4:=hb3.trans (hb34.mono hb3.size);have hbw4:Below w.heap.size w w4:=R2.out.1.trans (hb24.mono R2.out.1.size);have k10:Has w4 b10 (z01 leaf).toArray 24:=by rw [<-hw4,<-hb10];exact Has.new _ _ _
 have hrow4:w4.ownsRow w2.heap.size 22 1 (.slice (some ⟨gp,0,none⟩) R pcap) R (z04 (WAY I R)):=by rw [<-hw4];exact hrow.alloc _
 have hgp2:=(hrow4.lt gp rfl).1;have hs4:w4.heap.size=b10+1:=by rw [<-hw4,<-hb10];simp
 have R4:Aside (Below w.heap.size w w4/\Has w4 b4 (z01 leaf).toArray 24/\Has w4 b6 #[.int .u64 (S:Int),.int .u64 (I:Int),.slice (some ⟨gn,0,none⟩) N N] 40/\Has w4 gn (z01 t).toArray 24/\(∀ j,j<R->w4.cell? ⟨gp,j,none⟩=some (.int .u64 ((PLC j (SIB (I / 2 ^ j)):Nat):Int)))/\gp<b10):=by
  refine ⟨hbw4,R2.out.2.1.keep hb24,R2.out.2.2.1.keep hb24,R2.out.2.2.2.1.keep hb24,fun j hj=>?_,by omega⟩;rw [hrow4.cellAt j (by omega)];simp [z04,WAY,hj]
 have RB:Aside (w.heap.size=b4/\b4<b6/\b4<gn/\b6<b10/\gn<b10/\gp<b10/\w.heap.size<=gp/\w4.heap.size=b10+1/\t.length=32*N/\(∀ x∈t,0<=x/\x<=255)/\R<=N/\R<=62):=by
  have h:=R2.out;have a1:=h.2.2.1.lt;have a2:=h.2.2.2.1.lt;have a3:=hb3.size;have a4:=h.1.size
  have a5:R<=N:=by
    have q:=HA.out;rw [q.2.2.2.1,<-hR];unfold PSP;rw [List.length_append,z27];omega
  exact ⟨h.2.2.2.2.2.2.1,h.2.2.2.2.2.2.2.1,h.2.2.2.2.2.2.2.2,by omega,by omega,by omega,by omega,hs4,h.2.2.2.2.1,h.2.2.2.2.2.1,a5,by rw [<-hR];exact HA.out.2.2.2.2.2.2.2.2.1⟩
 have M0:Aside (MINV w4 base b g ok b10 d (WAYH d leaf I t 0) (WAYR d leaf I t 0 ++ T) w4):=by
  have q:=HB.out;have q2:=RB.out;exact ⟨⟨top,(HA.out.2.2.2.2.2.1.keep (fun i hi=>hbw4.block i (by omega)) (Nat.le_refl _) (by omega)).sub (fun i h1 h2=>⟨h2,by omega⟩)⟩,k10,rfl,rfl,rfl,Nat.le_refl _,fun _ _ _ _ _=>rfl⟩
 have HR:Aside (RISE I S=R):=hR;clear hw4 hb10 hb34 hb24 hbw4 k10 hrow4 hgp2 hs4 hb3 hrow hgp k43 R2 hR;go_wp2_with fail
 go_loopg [31] R (fun q s31 wx=>∃ j:Nat,s31=.int .i64 (j:Int)/\Aside (j+q=R/\MINV w4 base b g ok b10 d (WAYH d leaf I t j) (WAYR d leaf I t j ++ T) wx))
 case atStart=>exact ⟨0,rfl,by omega,M0.out⟩
 case round=>
  obtain ⟨j,rfl,A0⟩:=hrel;clear M0;cases gk with
  | zero=>
    obtain rfl:j=R:=by have:=A0.out.1;omega
    have hlt:¬ (j:Int)<(j:Int):=by omega
    have M5:=A0.out.2;obtain ⟨top',hm⟩:=M5.met;obtain ⟨q1,q2,q3,q4,q5,q6,q7,q8,q9,q10,q11,q12⟩:=RB.out;obtain ⟨y1,y2,y3,y4⟩:=HB.out;have hbw5:Below base w wr:=M5.bel R4.out.1 (by omega) y2.1 y3.1 (by omega);have hsz:=M5.size;have keep:∀ i c ty,i<b10->i≠b->i≠g->Has w4 i c ty->Has wr i c ty:=fun i c ty h1 h2 h3 h=>(M5.block i (by omega) h2 h3 (by omega)).trans h;have k4:=keep b4 _ _ (by omega) (by omega) (by omega) R4.out.2.1;have k6:=keep b6 _ _ (by omega) (by omega) (by omega) R4.out.2.2.1;have kn:=keep gn _ _ (by omega) (by omega) (by omega) R4.out.2.2.2.1;obtain ⟨ma,mn,mc,mb,mn2,mc2,hBlk, -⟩:=hm.blk;have fl:Flat wr (some ⟨gn,0,none⟩) N t:=z4R kn q9 q10;have SB:Aside (∀ W,Below wr.heap.size wr W->W.cell? ⟨b,0,none⟩=some (.int .i64 d)/\W.rangeAt b4 0 (z01 leaf)/\W.cell? ⟨b6,0,none⟩=some (.int .u64 (S:Int))/\W.cell? ⟨b6,1,none⟩=some (.int .u64 (I:Int))/\W.cell? ⟨b6,2,none⟩=some (.slice (some ⟨gn,0,none⟩) N N)):=fun W h=>⟨(hBlk.keep h).cell 0,z0D (k4.keep h),(k6.keep h).cell 0,(k6.keep h).cell 1,(k6.keep h).cell 2⟩
    have cC:∀ W,Below wr.heap.size wr W->Calls Tryz.prog 39 #[.int .i64 d,.agg (z01 leaf).toArray,.agg #[.int .u64 (S:Int),.int .u64 (I:Int),.slice (some ⟨gn,0,none⟩) N N]] W fun e w'=>∃ (pa:Option Addr) (pc:Nat),e=.returned (.tuple #[.slice pa (PC S) pc,.int .i64 0])/\(w'.ownsRow W.heap.size 24 32 (.slice pa (PC S) pc) (PC S) (z01 (CLA d leaf S I N t).2.2)/\Below wr.heap.size wr w'/\wr.heap.size<=W.heap.size):=fun W h=>by
     have hx:=HTB.out W (hbw5.trans (h.mono (by omega)));have:=zar d leaf HA.out.1 S I (some ⟨gn,0,none⟩) N N t W (fl.below h) hx.1 hx.2.1 hx.2.2;refine this.mono ?_;rintro e w' ⟨pa,pc,rfl,ho,hb⟩;have hC:=HA.out.2.2.2.2.2.2.2.2.2;rw [hC] at ho ⊢;exact ⟨pa,pc,rfl,ho,h.trans (hb.mono h.size),h.size⟩
    have FN:Aside (∀ w7 w8:World,Below wr.heap.size wr w7->MET w8 base w8.heap.size (fun i=>ok i/\i≠b10) b g d (BAGL d S (PC S) (CLA d leaf S I N t).2.2 ++ (WAYR d leaf I t j ++ T))->STEPM b g w7 w8->MET w8 base w8.heap.size ok b g d (MEML d leaf S I N t ++ T)/\STEPM b g w w8):=fun w7 w8 h7 m8 st8=>by
     refine ⟨?_,?_⟩
     ·have:=m8.sub (ok':=ok) (fun i _ h=>h.1)
      unfold MEML;rw [HR.out,List.append_assoc];exact this
     ·have hwr:STEPM b g w wr:=⟨M5.os.trans R4.out.1.os,M5.tape.trans R4.out.1.tape,M5.output.trans R4.out.1.output,by have:=R4.out.1.size;omega,fun i h1 h2 h3=>(M5.block i (by omega) h2 h3 (by omega)).trans (R4.out.1.block i h1)⟩
      exact (hwr.trans (STEPM.of_below h7)).trans st8
    have hok2:=HA.out.2.2.2.2.2.2.2.1
    have CBG:Aside (∀ (W:World) (pa:Option Addr) (pc:Nat) (w7:World),w7.ownsRow W.heap.size 24 32 (.slice pa (PC S) pc) (PC S) (z01 (CLA d leaf S I N t).2.2)->Below wr.heap.size wr w7->wr.heap.size<=W.heap.size->Calls Tryz.prog 47 #[.pointer (some ⟨b,0,none⟩),.int .u64 (S:Int),.slice pa (PC S) pc] w7 fun e w'=>(∃ v,e=.returned v)/\MET w' base w'.heap.size (fun i=>ok i/\i≠b10) b g d (BAGL d S (PC S) (CLA d leaf S I N t).2.2 ++ (WAYR d leaf I t j ++ T))/\STEPM b g w7 w'):=fun W pa pc w7 ho hb7 hWs=>by
     have hpc:0<PC S:=Nat.pos_of_ne_zero (fun h=>by have:=z1Z h;have:=HA.out;omega);have hpc2:PC S<=1000:=by have:=z0C 64 S (by have:=HA.out;omega);omega
     have hs7:=hb7.size;have hrg:∀ x∈(CLA d leaf S I N t).2.2,0<=x/\x<=255:=z5I HA.out.1 q9 q10;obtain ⟨ad,cap,e,_,hsh⟩:=z2m ho;obtain ⟨gq,e2,hq1,hq2⟩:=hsh hpc;simp only [Value.slice.injEq] at e;obtain ⟨rfl, -,rfl⟩:=e;subst e2;refine z8l d S (by have:=HA.out;omega) gq 0 (PC S) pc hpc hpc2 _ w7 base top' b g _ _ (hm.below hb7) ?_ (z1c ho hrg) ⟨by omega,by omega⟩ (fun i hi=>⟨hok2 i (by omega),by omega⟩) (fun W2 h=>(HTB.out W2 (hbw5.trans ((hb7.mono (by omega)).trans h))).2.1);rw [List.length_append,z37];have:=HA.out;omega
    clear A0 M5 hm hsz keep k4 k6 kn hBlk fl hbw5 hok2 R4 q1 q2 q3 q4 q5 q6 q7 q8 q9 q10 q11 q12 y1 y2 y3 y4;go_upto_region 11 with fail
    refine zhg wr d b b4 b6 gn 0 N N S I (PC S) leaf l32 (fun W=>Below wr.heap.size wr W) (fun pa pc W=>(∃ W0:World,W.ownsRow W0.heap.size 24 32 (.slice pa (PC S) pc) (PC S) (z01 (CLA d leaf S I N t).2.2)/\wr.heap.size<=W0.heap.size)/\Below wr.heap.size wr W) (Below.refl _ _).drew (fun W h=>SB.out W h) (fun pa pc W h=>SB.out W h.2) (fun W h=>(cC W h).mono fun e w' ⟨pa,pc,h1,h2,h3,h4⟩=>⟨pa,pc,h1,⟨W,h2,h4⟩,h3⟩) (fun _ _ _ _ _ h=>h) ?_;rintro pa pc w7 ⟨⟨W2,ho,hWs⟩,hb7⟩;have x0:w7.cell? ⟨b6,0,none⟩=some (.int .u64 (S:Int)):=(SB.out w7 hb7).2.2.1;have c7:=CBG.out W2 pa pc w7 ho hb7 hWs;clear cC SB CBG ho hWs;go_wp2_with fail
    refine c7.mono ?_;rintro e w8 ⟨⟨v,rfl⟩,m8,st8⟩;clear c7 x0;have F:=FN.out w7 w8 hb7 m8 st8;clear m8 st8 hb7 FN;go_wp2;go_end0
    exact ⟨⟨_,rfl⟩,F⟩
  | succ q=>
    have hjR:j+1+q=R:=by have:=A0.out.1;omega
    have HJ:Aside (j+1+q=R):=hjR;obtain ⟨q1,q2,q3,q4,q5,q6,q7,q8,q9,q10,q11,q12⟩:=RB.out;obtain ⟨y1,y2,y3,y4⟩:=HB.out;have hlt:(j:Int)<(R:Int):=by omega
    have hjN:(j:Int)<(N:Int):=by omega
    have M4:=A0.out.2;have hcell:wr.cell? ⟨gp,j,none⟩=some (.int .u64 ((PLC j (SIB (I / 2 ^ j)):Nat):Int)):=(World.cell?_of_block (w:=w4) (by exact M4.block gp (by omega) (by omega) (by omega) (by omega))).trans (R4.out.2.2.2.2.1 j (by omega));have hw:=zcf (i:=I) (n:=S) (t:=j) (by have:=HR.out;omega);have hN:Node j (SIB (I / 2 ^ j)):=((z4D HA.out.2.1 HA.out.2.2.1).1 _ (List.mem_of_getElem? hw)).1;have cR:=z2v j (SIB (I / 2 ^ j)) hN wr;have E1:Aside (wrap64 ((j:Int)+1)=((j+1:Nat):Int)):=by show wrap64 ((j:Int)+1)=((j+1:Nat):Int);unfold wrap64;omega
    have hA:IsH (WAYH d leaf I t j):=z4V HA.out.1 j;have hL:IsH (HSH t j):=z1E q9 q10 (by omega);have eX0:WAYH d leaf I t (j+1)=if I / 2 ^ j % 2=0 then z0o d (WAYH d leaf I t j) (HSH t j) else z0o d (HSH t j) (WAYH d leaf I t j):=rfl;have eT0:WAYR d leaf I t (j+1) ++ T=(if I / 2 ^ j % 2=0 then z0t (WAYH d leaf I t j) (HSH t j) else z0t (HSH t j) (WAYH d leaf I t j)) :: (WAYR d leaf I t j ++ T):=rfl;have hTT:(WAYR d leaf I t j ++ T).length<=100000:=by rw [List.length_append,z37];have:=HA.out;omega
    have hok2:=HA.out.2.2.2.2.2.2.2.1;have hfl:Flat w4 (some ⟨gn,0,none⟩) N t:=z4R R4.out.2.2.2.1 q9 q10;have hat:w4.rangeAt gn (0+j*32) (z01 (HSH t j)):=hfl.at (by omega)
    have hsib:=z4T (q:=I / 2 ^ j);have k62:w4.cell? ⟨b6,2,none⟩=some (.slice (some ⟨gn,0,none⟩) N N):=R4.out.2.2.1.cell 2;generalize hAe:WAYH d leaf I t j=A at *
    generalize hLe:HSH t j=L at *
    generalize hTe:WAYR d leaf I t j ++ T=TT at *
    clear A0;go_wp2_with fail
    refine cR.mono ?_;rintro e w5 ⟨rfl,hb5⟩;have M5:=M4.below hb5;have hs5:=M5.size;obtain ⟨top',hm⟩:=M5.met;have hmt:=hm.htop;have hbw5:Below base w w5:=M5.bel R4.out.1 (by omega) y2.1 y3.1 (by omega)
    have b65:∀ W:World,(∀ i,i<w5.heap.size->i≠b->i≠g->i≠b10->W.heap[i]?=w5.heap[i]?)->W.cell? ⟨b6,2,none⟩=some (.slice (some ⟨gn,0,none⟩) N N)/\W.rangeAt gn (0+j*32) (z01 L):=fun W h=>by
     have e6:W.heap[b6]?=w4.heap[b6]?:=(h b6 (by omega) (by omega) (by omega) (by omega)).trans (M5.block b6 (by omega) (by omega) (by omega) (by omega));have en:W.heap[gn]?=w4.heap[gn]?:=(h gn (by omega) (by omega) (by omega) (by omega)).trans (M5.block gn (by omega) (by omega) (by omega) (by omega));exact ⟨(World.cell?_of_block (w:=w4) (by exact e6)).trans k62,fun i v hv=>(World.cell?_of_block (w:=w4) (by exact en)).trans (hat i v hv)⟩
    have SB:Aside ((∀ W,Below w5.heap.size w5 W->W.cell? ⟨b6,2,none⟩=some (.slice (some ⟨gn,0,none⟩) N N)/\W.rangeAt gn (0+j*32) (z01 L))/\(∀ W,STEPM b g w5 W->W.cell? ⟨b6,2,none⟩=some (.slice (some ⟨gn,0,none⟩) N N)/\W.rangeAt gn (0+j*32) (z01 L))/\∀ W (c:Array Value),STEPM b g w5 W->(W.setRow b10 c).cell? ⟨b6,2,none⟩=some (.slice (some ⟨gn,0,none⟩) N N)/\(W.setRow b10 c).rangeAt gn (0+j*32) (z01 L)):=
     ⟨fun W h=>b65 W (fun i h1 _ _ _=>h.block i h1),fun W h=>b65 W (fun i h1 h2 h3 _=>h.block i h1 h2 h3),fun W c h=>b65 _ (fun i h1 h2 h3 h4=>(setRow_other W b10 i c h4).trans (h.block i h1 h2 h3))⟩
    have K10:Aside ((∀ W,Below w5.heap.size w5 W->Has W b10 (z01 A).toArray 24)/\∀ W,STEPM b g w5 W->Has W b10 (z01 A).toArray 24):=⟨fun W h=>M5.acc.keep h,fun W h=>(h.block b10 M5.acc.lt (by omega) (by omega)).trans M5.acc⟩
    have h9:base<=w5.heap.size:=by omega
    have hfac:w.heap.size<=w5.heap.size/\b10<w5.heap.size/\b<b10/\g<b10:=⟨by omega,by omega,by omega,by omega⟩
    clear cR hcell M4 hb5 b65 hat hfl k62 hw q1 q2 q3 q4 q5 q6 q7 q9 q10 q11 q12 hs5;by_cases hev:I / 2 ^ j % 2=0
    ·have A6:=(hsib.1 hev).1
     have hr:decide (SIB (I / 2 ^ j) % 2=1)=true:=decide_eq_true (by omega);have eX:WAYH d leaf I t (j+1)=z0o d A L:=by rw [eX0,if_pos hev]
     have eT:WAYR d leaf I t (j+1) ++ T=z0t A L :: TT:=by rw [eT0,if_pos hev]
     have eA2:True:=trivial;rw [hr];clear hsib hr hev eX0 eT0 hAe hLe hTe hjR;have cF:∀ W,Below w5.heap.size w5 W->Calls Tryz.prog 46 #[.agg (z01 A).toArray,.agg (z01 L).toArray] W fun e w'=>∃ (gt:Nat) (c:Nat),e=.returned (.slice (some ⟨gt,0,none⟩) 65 c)/\(w5.heap.size<=gt/\OWNT w' base gt c (z0t A L)/\Below w5.heap.size w5 w'):=fun W h=>(z6Q A L hA hL W base (by have:=h.size;omega)).mono fun e w' ⟨gt,c',h1,h2,h3,h4⟩=>⟨gt,c',h1,by have:=h.size;omega,h3,h.trans (h4.mono h.size)⟩
     have cT:∀ gt c' w1,(w5.heap.size<=gt/\OWNT w1 base gt c' (z0t A L)/\Below w5.heap.size w5 w1)->Calls Tryz.prog 45 #[.pointer (some ⟨b,0,none⟩),.slice (some ⟨gt,0,none⟩) 65 c'] w1 fun e w'=>e=.returned (.agg (z01 (z0o d A L)).toArray)/\(∃ t2,MET w' base t2 (fun i=>ok i/\i≠b10) b g d ((z0t A L) :: TT))/\STEPM b g w5 w':=fun gt c' w1 h=>
      (z3N d w1 base top' b g _ TT (hm.below h.2.2) hTT gt c' 65 (z0t A L) (z2N _ _) h.2.1 (by omega) ⟨hok2 gt (by omega),by omega⟩ (HTB.out w1 (hbw5.trans (h.2.2.mono (by omega)))).2.1 (z0o d A L) rfl).mono fun e w' h3=>⟨h3.1,⟨_,h3.2.1⟩,(STEPM.of_below h.2.2).trans h3.2.2⟩
     have PO:Aside (∀ w2:World,((∃ t2,MET w2 base t2 (fun i=>ok i/\i≠b10) b g d ((z0t A L) :: TT))/\STEPM b g w5 w2)->MINV w4 base b g ok b10 d (WAYH d leaf I t (j+1)) (WAYR d leaf I t (j+1) ++ T) (w2.setRow b10 (z01 (z0o d A L)).toArray)):=fun w2 h=>by
      rw [eX,eT];exact M5.turn h.1 h.2 ⟨by omega,by omega⟩
     clear M5 hm hmt hTT hok2 hbw5 eX eT eA2 A6 hN hfac h9;go_upto_region 8 with fail
     refine zio w5 b b6 b10 gn 0 N N j L A (z0o d A L) hL.1 hA.1 (z1r _ _ _).1 hjN (fun W=>Below w5.heap.size w5 W) (fun gt c' W=>w5.heap.size<=gt/\OWNT W base gt c' (z0t A L)/\Below w5.heap.size w5 W) (fun W=>(∃ t2,MET W base t2 (fun i=>ok i/\i≠b10) b g d ((z0t A L) :: TT))/\STEPM b g w5 W) (fun W=>∃ w2,((∃ t2,MET w2 base t2 (fun i=>ok i/\i≠b10) b g d ((z0t A L) :: TT))/\STEPM b g w5 w2)/\W=w2.setRow b10 (z01 (z0o d A L)).toArray)
      (Below.refl _ _).drew (fun W h=>SB.out.1 W h) (fun gt c' W h=>SB.out.1 W h.2.2) (fun W h=>SB.out.2.1 W h.2) (fun W h=>by obtain ⟨w2,h1,rfl⟩:=h;exact SB.out.2.2 w2 _ h1.2) (fun W h=>z0D (K10.out.1 W h)) cF cT (fun W h=>K10.out.2 W h.2) (fun W h=>⟨W,h,rfl⟩) (fun _ _ _ _ _ h=>h) ?_
     rintro gt c' W ⟨w2,h1,rfl⟩;have Z:=PO.out w2 h1;have Z:Aside (MINV w4 base b g ok b10 d (WAYH d leaf I t (j+1)) (WAYR d leaf I t (j+1) ++ T) (w2.setRow b10 (z01 (z0o d A L)).toArray)):=Z;clear cF cT PO h1 SB K10;generalize w2.setRow b10 (z01 (z0o d A L)).toArray=w6 at *
     go_wp2;go_roundg q
     case measure=>exact Nat.lt_succ_self _
     case rel=>exact ⟨j+1,by first | rfl | (rw [E1.out]),HJ.out,Z.out⟩
    ·have A6:=(hsib.2 (by omega)).1
     have hr:decide (SIB (I / 2 ^ j) % 2=1)=false:=decide_eq_false (by omega);have eX:WAYH d leaf I t (j+1)=z0o d L A:=by rw [eX0,if_neg hev]
     have eT:WAYR d leaf I t (j+1) ++ T=z0t L A :: TT:=by rw [eT0,if_neg hev]
     have eA2:True:=trivial;rw [hr];clear hsib hr hev eX0 eT0 hAe hLe hTe hjR;have cF:∀ W,Below w5.heap.size w5 W->Calls Tryz.prog 46 #[.agg (z01 L).toArray,.agg (z01 A).toArray] W fun e w'=>∃ (gt:Nat) (c:Nat),e=.returned (.slice (some ⟨gt,0,none⟩) 65 c)/\(w5.heap.size<=gt/\OWNT w' base gt c (z0t L A)/\Below w5.heap.size w5 w'):=fun W h=>(z6Q L A hL hA W base (by have:=h.size;omega)).mono fun e w' ⟨gt,c',h1,h2,h3,h4⟩=>⟨gt,c',h1,by have:=h.size;omega,h3,h.trans (h4.mono h.size)⟩
     have cT:∀ gt c' w1,(w5.heap.size<=gt/\OWNT w1 base gt c' (z0t L A)/\Below w5.heap.size w5 w1)->Calls Tryz.prog 45 #[.pointer (some ⟨b,0,none⟩),.slice (some ⟨gt,0,none⟩) 65 c'] w1 fun e w'=>e=.returned (.agg (z01 (z0o d L A)).toArray)/\(∃ t2,MET w' base t2 (fun i=>ok i/\i≠b10) b g d ((z0t L A) :: TT))/\STEPM b g w5 w':=fun gt c' w1 h=>
      (z3N d w1 base top' b g _ TT (hm.below h.2.2) hTT gt c' 65 (z0t L A) (z2N _ _) h.2.1 (by omega) ⟨hok2 gt (by omega),by omega⟩ (HTB.out w1 (hbw5.trans (h.2.2.mono (by omega)))).2.1 (z0o d L A) rfl).mono fun e w' h3=>⟨h3.1,⟨_,h3.2.1⟩,(STEPM.of_below h.2.2).trans h3.2.2⟩
     have PO:Aside (∀ w2:World,((∃ t2,MET w2 base t2 (fun i=>ok i/\i≠b10) b g d ((z0t L A) :: TT))/\STEPM b g w5 w2)->MINV w4 base b g ok b10 d (WAYH d leaf I t (j+1)) (WAYR d leaf I t (j+1) ++ T) (w2.setRow b10 (z01 (z0o d L A)).toArray)):=fun w2 h=>by
      rw [eX,eT];exact M5.turn h.1 h.2 ⟨by omega,by omega⟩
     clear M5 hm hmt hTT hok2 hbw5 eX eT eA2 A6 hN hfac h9;go_upto_region 9 with fail
     refine zip w5 b b6 b10 gn 0 N N j L A (z0o d L A) hL.1 hA.1 (z1r _ _ _).1 hjN (fun W=>Below w5.heap.size w5 W) (fun gt c' W=>w5.heap.size<=gt/\OWNT W base gt c' (z0t L A)/\Below w5.heap.size w5 W) (fun W=>(∃ t2,MET W base t2 (fun i=>ok i/\i≠b10) b g d ((z0t L A) :: TT))/\STEPM b g w5 W) (fun W=>∃ w2,((∃ t2,MET w2 base t2 (fun i=>ok i/\i≠b10) b g d ((z0t L A) :: TT))/\STEPM b g w5 w2)/\W=w2.setRow b10 (z01 (z0o d L A)).toArray)
      (Below.refl _ _).drew (fun W h=>SB.out.1 W h) (fun gt c' W h=>SB.out.1 W h.2.2) (fun W h=>SB.out.2.1 W h.2) (fun W h=>by obtain ⟨w2,h1,rfl⟩:=h;exact SB.out.2.2 w2 _ h1.2) (fun W h=>z0D (K10.out.1 W h)) cF cT (fun W h=>K10.out.2 W h.2) (fun W h=>⟨W,h,rfl⟩) (fun _ _ _ _ _ h=>h) ?_
     rintro gt c' W ⟨w2,h1,rfl⟩;have Z:=PO.out w2 h1;have Z:Aside (MINV w4 base b g ok b10 d (WAYH d leaf I t (j+1)) (WAYR d leaf I t (j+1) ++ T) (w2.setRow b10 (z01 (z0o d L A)).toArray)):=Z;clear cF cT PO h1 SB K10;generalize w2.setRow b10 (z01 (z0o d L A)).toArray=w6 at *
     go_wp2;go_roundg q
     case measure=>exact Nat.lt_succ_self _
     case rel=>exact ⟨j+1,by first | rfl | (rw [E1.out]),HJ.out,Z.out⟩
theorem z9j {b t:List Int} (hr:∀ x∈b,0<=x/\x<=255) {S I N:Nat} (hS:S<2 ^ 64) (hI:I<2 ^ 64) (h:DEC b=(0,S,I,N,t)):I<S/\S<=4611686018427387904/\N=(PSP I S).length:=by
 obtain ⟨_,_,h3,h4,_⟩:=zfq hS hI (zdE hr h).1
 have hIS:I<S/\S<=4611686018427387904:=by
  unfold PLA at h3;split at h3
  ·simp at h3
  ·split at h3
   ·simp at h3
   ·omega
 have hPL:PLA I S=(0,PLCS (PSP I S)):=by
  unfold PLA;rw [if_neg (by omega),if_neg (by omega)]
 refine ⟨hIS.1,hIS.2,?_⟩;rw [h4,hPL];exact z0u _
theorem z5S (d:Int) (root:List Int) (hroot:IsH root) (n i:Nat) (hn:n<2 ^ 64) (leaf:List Int) (hleaf:IsH leaf) (ba:Option Addr) (bn bc:Nat) (hbn:bn<=1000000) (hbc:bn<=bc) (bl:List Int) (w:World) (hB:Bytes w ba bn bl) (hS:(DEC bl).2.1<2 ^ 64) (hI:(DEC bl).2.2.1<2 ^ 64):
  Calls Tryz.prog 5 #[.int .i64 d,.agg (z01 root).toArray,.int .u64 (n:Int),.int .u64 (i:Int),.agg (z01 leaf).toArray,.slice ba bn bc] w fun e w'=>e=.returned (.int .i64 (MEMA d root n i leaf bl))/\Below w.heap.size w w':=by
 have l32:=hleaf.1;have r32:=hroot.1;obtain ⟨W0,hW0⟩:∃ W0,(w.alloc (.cells (z01 root).toArray 24)).alloc (.cells (z01 leaf).toArray 24)=W0:=⟨_,rfl⟩
 obtain ⟨b7,hb7⟩:∃ b7,w.heap.size=b7:=⟨_,rfl⟩
 obtain ⟨b10,hb10⟩:∃ b10,b7+1=b10:=⟨_,rfl⟩
 have R0:Aside (Below w.heap.size w W0/\Has W0 b7 (z01 root).toArray 24/\Has W0 b10 (z01 leaf).toArray 24):=by
  rw [<-hW0,<-hb10,<-hb7];exact ⟨((Below.refl _ _).alloc (Nat.le_refl _) _).alloc (by simp) _,(Has.new _ _ _).alloc _,Has.at _ _ _ (by simp)⟩
 have cd:=zaY ba bn bc hbn bl W0 (hB.below R0.out.1) hbc;have hth:(DEC bl).1=0->(DEC bl).2.2.1<(DEC bl).2.1/\(DEC bl).2.1<=4611686018427387904/\(DEC bl).2.2.2.1=(PSP (DEC bl).2.2.1 (DEC bl).2.1).length:=fun h=>z9j hB.2.2 hS hI (t:=(DEC bl).2.2.2.2) (by rw [<-h]);unfold MEMA;unfold DECF at cd;generalize DEC bl=D at *
 obtain ⟨E,S,I,N,L⟩:=D;dsimp only at *
 have HA:Aside (IsH leaf/\IsH root/\n<2 ^ 64/\(E=0->I<S/\S<=4611686018427387904/\N=(PSP I S).length)/\S<2 ^ 64/\I<2 ^ 64):=⟨hleaf,hroot,hn,hth,hS,hI⟩
 clear hleaf hroot hn hbn hbc hB hth hS hI;obtain ⟨V,hV⟩:∃ V,(if E≠0 then E else if S≠n then 30 else if I≠i then 32 else UNDA d n (CLA d leaf S I N L).2.1 (CLA d leaf S I N L).2.2 root)=V:=⟨_,rfl⟩
 rw [hV]
 have HV:Aside ((¬ E=0->V=E)/\(E=0->¬ S=n->V=30)/\(E=0->S=n->¬ I=i->V=32)/\(E=0->S=n->I=i->V=UNDA d n (CLA d leaf S I N L).2.1 (CLA d leaf S I N L).2.2 root)):=by
  rw [<-hV];exact ⟨fun h=>if_pos h,fun h h2=>by rw [if_neg (by simpa using h),if_pos h2],fun h h2 h3=>by rw [if_neg (by simpa using h),if_neg (by simpa using h2),if_pos h3],fun h h2 h3=>by rw [if_neg (by simpa using h),if_neg (by simpa using h2),if_neg (by simpa using h3)]⟩
 clear hV;go_enter Tryz.func5,Tryz.ntmps5;go_upto_region 1 with fail
 clear hW0;go_wp2_with fail
 refine cd.mono ?_;rintro e w1 ⟨a1,c1,rfl,f1,hb1,_⟩;have R1:Aside (Below w.heap.size w w1/\Has w1 b7 (z01 root).toArray 24/\Has w1 b10 (z01 leaf).toArray 24/\Flat w1 a1 N L):=⟨R0.out.1.trans (hb1.mono R0.out.1.size),R0.out.2.1.keep hb1,R0.out.2.2.keep hb1,f1⟩
 clear cd R0 hb1 f1 hb7 hb10;go_upto_region 2 with fail
 obtain ⟨w2,e2⟩:∃ w2,w1.alloc (.cells #[.int .u64 (S:Int),.int .u64 (I:Int),.slice a1 N c1] 40)=w2:=⟨_,rfl⟩
 obtain ⟨b13,hb13⟩:∃ b13,w1.heap.size=b13:=⟨_,rfl⟩
 rw [e2,hb13];have hb2:Below w1.heap.size w1 w2:=by rw [<-e2];exact (Below.refl _ _).alloc (Nat.le_refl _) _
 have R2:Aside (Below w.heap.size w w2/\Has w2 b7 (z01 root).toArray 24/\Has w2 b10 (z01 leaf).toArray 24/\Flat w2 a1 N L/\Has w2 b13 #[.int .u64 (S:Int),.int .u64 (I:Int),.slice a1 N c1] 40):=⟨R1.out.1.trans (hb2.mono R1.out.1.size),R1.out.2.1.keep hb2,R1.out.2.2.1.keep hb2,R1.out.2.2.2.below hb2,by rw [<-e2,<-hb13];exact Has.new _ _ _⟩
 clear e2 hb13 hb2 R1;have hb:=R2.out.1;by_cases hE:E=0
 ·subst hE
  have p0:=R2.out.2.2.2.2.cell 0;have p1:=R2.out.2.2.2.2.cell 1;have p2:=R2.out.2.2.2.2.cell 2;by_cases hSn:S=n
  ·subst hSn
   by_cases hIi:I=i
   ·subst hIi
    have hV:=HV.out.2.2.2 rfl rfl rfl;obtain ⟨t1,t2,t3⟩:=HA.out.2.2.2.1 rfl
    have hPL:PLA I S=(0,PLCS (PSP I S)):=by
     unfold PLA;rw [if_neg (by omega),if_neg (by omega)]
    have cc:=zbK d leaf HA.out.1 S I (by omega) (by omega) a1 N c1 (by have:=z5Y t1 t2;omega) L w2 R2.out.2.2.2.1
    have hCL:CLA d leaf S I N L=(0,PC S,CAT (CLM d leaf S I L) (SPAN 0 S)):=by
     unfold CLA;rw [hPL,if_neg (by simp),if_neg (by rw [z0u];simpa using t3)]
    have hrg:=z5I (d:=d) (S:=S) (I:=I) HA.out.1 R2.out.2.2.2.1.1 R2.out.2.2.2.1.2.2;rw [hCL] at cc hrg hV;dsimp only at hrg hV;unfold ANSH at cc;dsimp only at cc;generalize CAT (CLM d leaf S I L) (SPAN 0 S)=P at *
    have hpc:PC S≠0:=fun h=>by
     have:=z4B t1 t2;have:=z2I t1 t2;omega
    have hUN:UNDA d S (PC S) P root=if z0z d S (FLD d P (PC S))=root then 0 else 80:=by
     have hBA:BAGA d S (PC S) P=(0,z0z d S (FLD d P (PC S))):=by
      unfold BAGA;rw [if_neg (by omega),if_neg (by simp)]
     unfold UNDA;rw [hBA];simp
    rw [hUN] at hV;have CB:Aside (∀ W a c,Flat W a (PC S) P->Calls Tryz.prog 13 #[.int .i64 d,.int .u64 (S:Int),.slice a (PC S) c] W fun e w'=>e=.returned (.tuple #[.agg (z01 (z0z d S (FLD d P (PC S)))).toArray,.int .i64 0])/\Below W.heap.size W w'):=fun W a c hf=>z7R d S t2 a (PC S) c rfl hpc P W hf;have hYI:IsH (z0z d S (FLD d P (PC S))):=z2x _ _ _;generalize z0z d S (FLD d P (PC S))=Y at *
    generalize PC S=m at *
    have hs10:=R2.out.2.2.1;have HP:Aside (∀ x∈P,0<=x/\x<=255):=hrg;have HW:Aside (V=if Y=root then 0 else 80):=hV;clear t1 t2 t3 hPL hCL hrg hpc hUN hV HV;go_wp2_with (refine wpList_load_row rfl 24 (.tmp 10) rfl b10 rfl 24 (z01 leaf).toArray (0,0) _ hs10 Tryz.underlying24 rfl (z02 l32) ?_)
    refine cc.mono ?_;rintro e w3 ⟨a3,c3,rfl,o3,hb3⟩;have R3:Aside (Below w.heap.size w w3/\Has w3 b7 (z01 root).toArray 24/\Flat w3 a3 m P):=⟨R2.out.1.trans (hb3.mono R2.out.1.size),R2.out.2.1.keep hb3,z1c o3 HP.out⟩
    clear cc o3 hb3 hs10 p0 p1 p2 R2 hb HP;have cb:=CB.out w3 a3 c3 R3.out.2.2;have y32:=hYI.1;go_wp2_with fail
    refine cb.mono ?_;rintro e w4 ⟨rfl,hb4⟩;have R4:Aside (Below w.heap.size w w4/\Has w4 b7 (z01 root).toArray 24):=⟨R3.out.1.trans (hb4.mono R3.out.1.size),R3.out.2.1.keep hb4⟩
    clear cb hb4 R3 CB;go_upto_region 10 with (refine wpList_store_row rfl 24 (.tmp 17) (.tmp 47) rfl _ _ rfl rfl 24 _ (Has.new w4 _ _) (z02 y32) (by simp [z01,y32]) (z0k Y) ?_;rw [World.setRow_alloc_new])
    have R5:Aside (Below w.heap.size w (w4.alloc (.cells (z01 Y).toArray 24))/\Has (w4.alloc (.cells (z01 Y).toArray 24)) b7 (z01 root).toArray 24/\Has (w4.alloc (.cells (z01 Y).toArray 24)) w4.heap.size (z01 Y).toArray 24):=⟨R4.out.1.alloc R4.out.1.size _,R4.out.2.alloc _,Has.new _ _ _⟩
    generalize w4.alloc (.cells (z01 Y).toArray 24)=w5 at *
    generalize w4.heap.size=b17 at *
    have h7:=R5.out.2.1;have h17:=R5.out.2.2;have hq:=z7A hYI HA.out.2.1;by_cases hY:Y=root
    ·have HY:Aside (Y=root):=hY
     rw [decide_eq_true hY] at hq;clear hYI hY
     go_wp2_with (first
      | (refine wpList_load_row rfl 24 (.tmp 17) rfl b17 rfl 24 (z01 Y).toArray (0,0) _ h17 Tryz.underlying24 rfl (z02 y32) ?_)
      | (refine wpList_load_row rfl 24 (.tmp 7) rfl b7 rfl 24 (z01 root).toArray (0,0) _ h7 Tryz.underlying24 rfl (z02 r32) ?_))
     go_ret;exact ⟨by rw [HW.out,if_pos HY.out];rfl,R5.out.1⟩
    ·have HY:Aside (¬ Y=root):=hY
     rw [decide_eq_false hY] at hq;clear hYI hY
     go_wp2_with (first
      | (refine wpList_load_row rfl 24 (.tmp 17) rfl b17 rfl 24 (z01 Y).toArray (0,0) _ h17 Tryz.underlying24 rfl (z02 y32) ?_)
      | (refine wpList_load_row rfl 24 (.tmp 7) rfl b7 rfl 24 (z01 root).toArray (0,0) _ h7 Tryz.underlying24 rfl (z02 r32) ?_))
     go_ret;exact ⟨by rw [HW.out,if_neg HY.out];rfl,R5.out.1⟩
   ·have hV:Aside (V=32):=HV.out.2.2.1 rfl rfl hIi
    have hne:((I:Int) == (i:Int))=false:=beq_eq_false_iff_ne.2 (by omega);clear hIi R2 HA HV;go_wp2_with fail
    go_ret;exact ⟨by rw [hV.out];rfl,hb⟩
  ·have hV:Aside (V=30):=HV.out.2.1 rfl hSn
   have hne:((S:Int) == (n:Int))=false:=beq_eq_false_iff_ne.2 (by omega);clear hSn R2 HA HV;go_wp2_with fail
   go_ret;exact ⟨by rw [hV.out];rfl,hb⟩
 ·have hV:Aside (V=E):=HV.out.1 hE
  have hne:(E == 0)=false:=beq_eq_false_iff_ne.2 hE;clear R2 HA hE HV;go_wp2_with fail
  go_ret;exact ⟨by rw [hV.out];rfl,hb⟩
end Go.Proofs.YtdggkbpabjgdfaaGreatDoor
namespace Go.Proofs.YtdggkbpabjgdfaaGreatDoor
set_option maxRecDepth 100000
theorem z8z {M:Nat->Nat->List Int}:∀ {ss:List (Nat × Nat)},(∀ s∈ss,(M s.1 s.2).length=32)->∀ {t h k:Nat},ss[t]?=some (h,k)->HSH (CAT M ss) t=M h k
 | [],_,t,h,k,e=>by simp at e
 | s :: ss,hl,0,h,k,e=>by
   simp only [List.getElem?_cons_zero,Option.some.injEq] at e;subst e;have h1:=hl (h,k) (List.mem_cons_self ..);unfold HSH CAT;rw [List.flatMap_cons,Nat.mul_zero,List.drop_zero,List.take_append_of_le_length (by omega),List.take_of_length_le (by omega)]
 | s :: ss,hl,t+1,h,k,e=>by
   have h1:=hl s (List.mem_cons_self ..);have ih:=z8z (fun x hx=>hl x (List.mem_cons_of_mem _ hx)) (t:=t) (h:=h) (k:=k) (by simpa using e);rw [<-ih];unfold HSH CAT;rw [List.flatMap_cons,List.drop_append,List.drop_of_length_le (by omega),List.nil_append,h1,show 32*(t+1) - 32=32*t by omega]
theorem z9k {d:Int} {root:List Int} {n i:Nat} {leaf bl:List Int} (hr:∀ x∈bl,0<=x/\x<=255) (hn:n<2 ^ 64) (hi:i<2 ^ 64) (h:MEMA d root n i leaf bl=0):∃ t,DEC bl=(0,n,i,(PSP i n).length,t)/\i<n/\n<=4611686018427387904/\(CLA d leaf n i (PSP i n).length t)=(0,PC n,CAT (CLM d leaf n i t) (SPAN 0 n))/\z0z d n (FLD d (CAT (CLM d leaf n i t) (SPAN 0 n)) (PC n))=root:=by
 obtain ⟨E,S,I,N,t,hD⟩:∃ E S I N t,DEC bl=(E,S,I,N,t):=⟨_,_,_,_,_,rfl⟩
 unfold MEMA at h;rw [hD] at h;dsimp only at h;by_cases h1:E=0
 ·rw [if_neg (by simpa using h1)] at h
  by_cases h2:S=n
  ·rw [if_neg (by simpa using h2)] at h
   by_cases h3:I=i
   ·rw [if_neg (by simpa using h3)] at h
    subst h1 h2 h3;obtain ⟨p1,p2,p3⟩:=z9j hr hn hi hD;subst p3;have e1:PLA I S=(0,PLCS (PSP I S)):=by unfold PLA;rw [if_neg (by omega),if_neg (by omega)]
    have hC:(CLA d leaf S I (PSP I S).length t)=(0,PC S,CAT (CLM d leaf S I t) (SPAN 0 S)):=by
     unfold CLA;rw [e1,if_neg (by simp),if_neg (by simp [PLCS])]
    rw [hC] at h;refine ⟨t,hD,p1,p2,hC,?_⟩;dsimp only at h;unfold UNDA at h;split at h
    ·next hb=>
     rw [<-hb.2];unfold BAGA;rw [if_neg (by omega),if_neg (by simp)]
    ·cases h
   ·rw [if_pos h3] at h
    cases h
  ·rw [if_pos h2] at h
   cases h
 ·rw [if_pos h1] at h
  exact absurd h h1
theorem zb1 {d:Int} {leaf:List Int} {S I:Nat} {t:List Int} (hleaf:IsH leaf) (ht:t.length=32*(PSP I S).length) (hr:∀ x∈t,0<=x/\x<=255) (a b:Nat):IsH (CLM d leaf S I t a b):=z7v (fun p q=>z3w (z2D ht hr _ (Nat.le_refl _)) hleaf 0 I p q) _ a b
theorem z57 {M:Nat->Nat->List Int} (hM:∀ a b,IsH (M a b)):∀ ss:List (Nat × Nat),(CAT M ss).length=32*ss.length/\∀ x∈CAT M ss,0<=x/\x<=255
 | []=>⟨rfl,fun x hx=>by simp [CAT] at hx⟩
 | s :: ss=>by
   obtain ⟨h1,h2⟩:=z57 hM ss;have h3:=hM s.1 s.2;constructor
   ·unfold CAT at h1 ⊢
    rw [List.flatMap_cons,List.length_append,h1,h3.1,List.length_cons];omega
   ·intro x hx
    unfold CAT at h2 hx;rw [List.flatMap_cons] at hx;rcases List.mem_append.1 hx with hx | hx
    ·exact h3.2 x hx
    ·exact h2 x hx
def ACC9 (d:Int) (root:List Int) (n i:Nat) (x t:List Int):Prop:=t.length=32*(PSP i n).length/\(∀ y∈t,0<=y/\y<=255)/\z0z d n (FLD d (CAT (CLM d x n i t) (SPAN 0 n)) (PC n))=root
theorem zct (d:Int) (leaf:List Int) (S I N:Nat) (t:List Int) (hC:(CLA d leaf S I N t)=(0,PC S,CAT (CLM d leaf S I t) (SPAN 0 S))):BAGS d S (PC S) (CAT (CLM d leaf S I t) (SPAN 0 S)) (MEML d leaf S I N t)/\WAYT d leaf I (RISE I S) t (MEML d leaf S I N t):=by
 unfold MEML;rw [hC];exact ⟨(z5B ..).mono fun t ht=>List.mem_append.2 (.inl ht),WAYT.mono (zb0 d leaf I t (RISE I S)) fun t ht=>List.mem_append.2 (.inr ht)⟩
theorem ziq {d:Int} {x y:List Int} {I m N N':Nat} {l l':List Int} {T:List (List Nat)} (hT:INJ d T) (hx:IsH x) (hy:IsH y) (hm:m<=N) (hm':m<=N') (hl:l.length=32*N) (hr:∀ x∈l,0<=x/\x<=255) (hl':l'.length=32*N') (hr':∀ x∈l',0<=x/\x<=255) (h1:WAYT d x I m l T) (h2:WAYT d y I m l' T) (e:WAYH d x I l m=WAYH d y I l' m):x=y:=by
 induction m with
 | zero=>exact e
 | succ m ih=>
   refine ih (by omega) (by omega) (fun t ht=>h1 t (by omega)) (fun t ht=>h2 t (by omega)) ?_;have a:=h1 m (by omega);have b:=h2 m (by omega);rw [WAYH,WAYH] at e;have i1:=z4V (d:=d) (I:=I) (l:=l) hx m;have i2:=z4V (d:=d) (I:=I) (l:=l') hy m;have i3:=z1E hl hr (show m<N by omega);have i4:=z1E hl' hr' (show m<N' by omega);by_cases hq:I / 2 ^ m % 2=0
   ·rw [if_pos hq] at a b
    rw [if_pos hq,if_pos hq] at e;exact (z4U hT i1 i3 i2 i4 a b e).1
   ·rw [if_neg hq] at a b
    rw [if_neg hq,if_neg hq] at e;exact (z4U hT i3 i1 i4 i2 a b e).2
theorem zhh {u:List Int} {k j:Nat} (hj:j<k):HSH (u.take (32*k)) j=HSH u j:=by
 unfold HSH;rw [List.drop_take,List.take_take,Nat.min_eq_left (by omega)]
theorem z8A (i n:Nat):RISE i n<=(PSP i n).length:=by unfold PSP;rw [List.length_append,z27];omega
theorem zb2 {d:Int} {n i:Nat} {y t:List Int} (hi:i<n) (hn:n<=4611686018427387904) (hy:IsH y) (l:t.length=32*(PSP i n).length) (r:∀ x∈t,0<=x/\x<=255):HSH (CAT (CLM d y n i t) (SPAN 0 n)) (KTH i n)=WAYH d y i t (RISE i n):=by
 have hk:=(z3D hi hn).1;rw [z8z (M:=CLM d y n i t) (fun s _=>(zb1 (d:=d) (S:=n) (I:=i) hy l r s.1 s.2).1) hk,zat (d:=d) (leaf:=y) hi hn t hk];unfold PEK;rw [if_pos rfl]
theorem zdR {d:Int} {T:List (List Nat)} (hT:INJ d T) {i m n:Nat} {x y r1 r2 t t' u:List Int} (hi:i<m) (h3:PFXOK d m n r1 r2 u) (hx:IsH x) (hy:IsH y) (h1:ACC9 d r1 m i x t) (h2:ACC9 d r2 n i y t')
    (b1:BAGS d m (PC m) (CAT (CLM d x m i t) (SPAN 0 m)) T) (b2:BAGS d n (PC n) (CAT (CLM d y n i t') (SPAN 0 n)) T) (w1:WAYT d x i (RISE i m) t T) (w2:WAYT d y i (RISE i n) t' T) (s3:∀ z∈PFXL d m n u,z∈T):x=y:=by
  obtain ⟨l1,q1,e1⟩:=h1;obtain ⟨l2,q2,e2⟩:=h2;have hmn:=h3.le;have hn:=h3.top;have hm:m<=4611686018427387904:=by omega
  have hin:i<n:=by omega
  obtain ⟨c1,c2,c3⟩:=zin d m n u;have hv:=z52 (d:=d) h3.len h3.rng (Nat.le_refl _);have ht:=z1M hmn hn;have hlenm:=z57 (fun a b=>zb1 (d:=d) (S:=m) (I:=i) hx l1 q1 a b) (SPAN 0 m);rw [z0i hm] at hlenm
  have hPm:PC m<=(PXS m n).length:=by
    rw [<-z0i hm];unfold PXS;rw [List.length_append];omega
  have hA:=zcg hT hlenm.1 hlenm.2 (by rw [List.length_take,h3.len];omega) (fun z hz=>h3.rng z (List.mem_of_mem_take hz)) b1 (c2.mono s3) (e1.trans h3.low.symm);have hkm:=(z3D hi hm).1;have hKm:KTH i m<PC m:=by rw [<-z0i hm];exact (List.getElem?_eq_some_iff.1 hkm).1
  have hW1:=zb2 (d:=d) hi hm hx l1 q1;rw [hA,zhh hKm] at hW1
  have hs0:(PXS m n)[KTH i m]?=some (RISE i m,i / 2 ^ RISE i m):=by
    unfold PXS;rw [List.getElem?_append_left (by rw [z0i hm];exact hKm)];exact hkm
  have hmem:=List.mem_of_getElem? hs0
  have hV0:VH d (PXS m n) u (RISE i m) (i / 2 ^ RISE i m)=WAYH d x i t (RISE i m):=by
    rw [z7D hmem,z2Y ht.off hs0 _ (List.getElem?_eq_some_iff.1 hs0).1 (Nat.le_refl _)];exact hW1
  have hlenn:=z57 (fun a b=>zb1 (d:=d) (S:=n) (I:=i) hy l2 q2 a b) (SPAN 0 n);have hcn:=z7Q (d:=d) h3.len h3.rng (SPAN 0 n);rw [z0i hn] at hlenn hcn;have hB:=zcg hT hlenn.1 hlenn.2 hcn.1 hcn.2 b2 (c1.mono s3) (e2.trans h3.high.symm);have hkn:=(z3D hin hn).1;have hW2:=zb2 (d:=d) hin hn hy l2 q2;rw [hB,z8z (M:=PXV d m n u) (fun s _=>(hv s.1 s.2).1) hkn] at hW2;have hin0:=ht.within _ hmem;dsimp only at hin0;obtain ⟨I,hI⟩:=zic hn hin0.2.1;have hIn:=(z0T hn (Nat.zero_le _)).within _ hI;dsimp only at hIn
  have eR:RISE i n=RISE i m+I:=by
    rcases Classical.em ((RISE i m+I,i / 2 ^ RISE i m / 2 ^ I)=(RISE i n,i / 2 ^ RISE i n)) with e | e
    · exact (congrArg Prod.fst e).symm
    · exfalso
      have:=z6T (z0T hn (Nat.zero_le _)).off hI (List.mem_of_getElem? hkn) e;unfold Off at this;dsimp only at this;rw [Nat.div_div_eq_div_mul,<-Nat.pow_add] at this;have p1:=z2f i (RISE i m+I);have p2:=z2f i (RISE i n);omega
  have key:∀ j,j<=I->VH d (PXS m n) u (RISE i m+(I - j)) (i / 2 ^ (RISE i m+(I - j)))=WAYH d y i t' (RISE i m+(I - j)):=fun j=>by
    induction j with
    | zero=>
      intro _;rw [Nat.sub_zero,<-eR];exact hW2
    | succ j ih=>
      intro hj;obtain ⟨a,ha⟩:∃ a,I - (j+1)=a:=⟨_,rfl⟩
      have ih:=ih (by omega);rw [show I - j=a+1 by omega] at ih;rw [ha]
      have hup:(RISE i m+a+1,i / 2 ^ (RISE i m+a+1)) ∉ PXS m n:=by
        have:=zfg (i:=a) ht.off hmem;rwa [Nat.div_div_eq_div_mul,<-Nat.pow_add] at this
      rw [show RISE i m+(a+1)=RISE i m+a+1 by omega,z7E hup,WAYH] at ih;have z1:=z9G (RISE i m) (i / 2 ^ RISE i m) (a+1);rw [Nat.div_div_eq_div_mul,<-Nat.pow_add] at z1;have z2:=z9G (RISE i m+(a+1)) (i / 2 ^ (RISE i m+(a+1))) (I - (a+1));rw [show RISE i m+(a+1)+(I - (a+1))=RISE i m+I by omega,Nat.div_div_eq_div_mul,<-Nat.pow_add,show RISE i m+(a+1)+(I - (a+1))=RISE i m+I by omega] at z2;have hIn2:=hIn.2.1;rw [Nat.div_div_eq_div_mul,<-Nat.pow_add] at hIn2;have h62:=hIn.2.2.1;have m1:=s3 _ (c3 _ (zib (PXV d m n u) ht hmem (H:=RISE i m+a) (K:=i / 2 ^ (RISE i m+a+1)) (by omega) z1.1 z1.2 (Nat.le_trans z2.2 hIn2) (by omega)));have m2:=w2 (RISE i m+a) (by omega);have i1:=z4V (d:=d) (I:=i) (l:=t') hy (RISE i m+a);have i2:=z1E l2 q2 (show RISE i m+a<(PSP i n).length by have:=z8A i n;omega);have dn:=z41 i (RISE i m+a);clear z1 z2 hIn2 hIn hI hup e1 e2;rw [<-dn] at ih m1;by_cases hq:i / 2 ^ (RISE i m+a) % 2=0
      · rw [if_pos hq] at ih m2
        have c:=(z4U hT (hv _ _) (hv _ _) i1 i2 m1 m2 ih).1;generalize i / 2 ^ (RISE i m+a)=z at *
        rwa [show 2*(z / 2)=z by omega] at c
      · rw [if_neg hq] at ih m2
        have c:=(z4U hT (hv _ _) (hv _ _) i2 i1 m1 m2 ih).2;generalize i / 2 ^ (RISE i m+a)=z at *
        rwa [show 2*(z / 2)+1=z by omega] at c
  have hk0:=key I (Nat.le_refl _);rw [Nat.sub_self,Nat.add_zero] at hk0;exact ziq hT hx hy (z8A i m) (by have:=z8A i n;omega) l1 q1 l2 q2 w1 (fun z hz=>w2 z (by omega)) (hV0.symm.trans hk0)
end Go.Proofs.YtdggkbpabjgdfaaGreatDoor
namespace Go.Proofs.YtdggkbpabjgdfaaGreatDoor
open Go.RowKit
set_option maxRecDepth 100000
theorem zb3 (d i m n:Int) (R S L:List Int) (lL:L.length=32) (p q x:Value) (w:World):Calls Tryz.prog 7 #[.int .i64 d,.int .u64 i,.int .u64 m,.agg (z01 R).toArray,.agg (z01 L).toArray,p,.int .u64 n,.agg (z01 S).toArray,.agg (z01 L).toArray,q,x] w fun e w'=>e=.returned (.tuple #[.agg #[.slice none 0 0,.slice none 0 0],.bool false])/\Below w.heap.size w w':=by
 obtain ⟨W0,hW0⟩:∃ W0,(((((w.alloc (.cells (z01 R).toArray 24)).alloc (.cells (z01 L).toArray 24)).alloc (.cells (z01 S).toArray 24)).alloc (.cells (z01 L).toArray 24)).alloc (.cells #[.slice none 0 0,.slice none 0 0] 31))=W0:=⟨_,rfl⟩
 have R0:Aside (Below w.heap.size w W0):=by rw [<-hW0];exact ((((((Below.refl _ _).alloc (Nat.le_refl _) _).alloc (by simp) _).alloc (by simp;omega) _).alloc (by simp;omega) _).alloc (by simp;omega) _)
 have ka:Has W0 (w.heap.size+1) (z01 L).toArray 24:=by rw [<-hW0];exact ((((Has.at _ _ _ (by simp)).alloc _).alloc _).alloc _)
 have kb:Has W0 (w.heap.size+1+1+1) (z01 L).toArray 24:=by rw [<-hW0];exact ((Has.at _ _ _ (by simp)).alloc _)
 have kz:Has W0 (w.heap.size+1+1+1+1) #[.slice none 0 0,.slice none 0 0] 31:=by rw [<-hW0];exact (Has.at _ _ _ (by simp))
 have q1:∀ w,(Op.equalIn 10000 24 (.agg (z01 L).toArray) (.agg (z01 L).toArray)).run Tryz.prog w=.ok true w:=fun w=>by rw [z3G lL lL w];simp
 go_enter Tryz.func7,Tryz.ntmps7;go_upto_region 1 with fail
 clear hW0;obtain ⟨ba,hba⟩:∃ b,b=w.heap.size+1:=⟨_,rfl⟩
 obtain ⟨bb,hbb⟩:∃ b,b=w.heap.size+1+1+1:=⟨_,rfl⟩
 obtain ⟨bz,hbz⟩:∃ b,b=w.heap.size+1+1+1+1:=⟨_,rfl⟩
 have HZ:Aside (w.heap.size<=bz):=by show w.heap.size<=bz;omega
 rw [<-hbz] at kz ⊢;rw [<-hbb] at kb ⊢;rw [<-hba] at ka ⊢;clear hba hbb hbz;have x0:W0.cell? ⟨bz,0,none⟩=some (.slice none 0 0):=kz.cell 0;have x1:W0.cell? ⟨bz,1,none⟩=some (.slice none 0 0):=kz.cell 1;have f0:=kz.frozen 0;have f1:=kz.frozen 1
 go_wp2_with (first
  | (refine wpList_load_row rfl 24 (.tmp 15) rfl ba rfl 24 (z01 L).toArray (0,0) _ ka Tryz.underlying24 rfl (z02 lL) ?_)
  | (refine wpList_load_row rfl 24 (.tmp 19) rfl bb rfl 24 (z01 L).toArray (0,0) _ kb Tryz.underlying24 rfl (z02 lL) ?_)
  | fail)
 have hH:=(kz.set 0 (.slice none 0 0)).set 1 (.slice none 0 0);have hb:=(R0.out.setCell (p:=⟨bz,0,none⟩) HZ.out (.slice none 0 0)).setCell (p:=⟨bz,1,none⟩) HZ.out (.slice none 0 0);clear x0 x1 f0 f1 kz ka kb q1;generalize (W0.setCell ⟨bz,0,none⟩ (.slice none 0 0)).setCell ⟨bz,1,none⟩ (.slice none 0 0)=wf at *
 have z0:wf.cell? ⟨bz,0,none⟩=some (.slice none 0 0):=hH.cell 0;have z1:wf.cell? ⟨bz,1,none⟩=some (.slice none 0 0):=hH.cell 1;refine bodyPost_ret (v:=.tuple #[.agg #[.slice none 0 0,.slice none 0 0],.bool false]) ?_ rfl ⟨rfl,hb⟩;simp [results,Tryz.f7,go_sem,z0,z1]
end Go.Proofs.YtdggkbpabjgdfaaGreatDoor
namespace Go.Proofs.YtdggkbpabjgdfaaGreatDoor
open Go.RowKit
theorem z9l {K:Int} {chk:Nat->Bool} {PF:Nat->Nat->Int × List Nat} {l:List Int} (hr:∀ x∈l,0<=x/\x<=255):(DC0 K chk PF l).2.1<2 ^ 64/\(DC0 K chk PF l).2.2.1<2 ^ 64:=by
  have hz:∀ E,(DERR E).2.1<2 ^ 64/\(DERR E).2.2.1<2 ^ 64:=fun E=>⟨by simp [DERR],by simp [DERR]⟩
  unfold DC0;split
  · exact hz _
  · split
    · exact hz _
    · unfold DC1
      have hr1:∀ x∈l.drop 1,0<=x/\x<=255:=fun x hx=>hr x (List.mem_of_mem_drop hx);generalize l.drop 1=t at *
      split
      · exact hz _
      · rename_i h1
        obtain ⟨Z,m,hZ,_,_,e,_⟩:=z1P hr1 (Decidable.not_not.1 h1);split
        · exact hz _
        · have hr2:∀ x∈t.drop (LNG t).2.1.toNat,0<=x/\x<=255:=fun x hx=>hr1 x (List.mem_of_mem_drop hx)
          have hX:(LNG t).1.toNat<2 ^ 64:=by rw [e];simpa using hZ
          unfold DC2;generalize t.drop (LNG t).2.1.toNat=s at *
          split
          · exact hz _
          · rename_i h2
            obtain ⟨Z',m',hZ',_,_,e',_⟩:=z1P hr2 (Decidable.not_not.1 h2);have hY:(LNG s).1.toNat<2 ^ 64:=by rw [e'];simpa using hZ'
            unfold DC3;split
            · exact hz _
            · split
              · exact hz _
              · split
                · exact hz _
                · exact ⟨hX,hY⟩
theorem z44 {l:List Int} (hr:∀ x∈l,0<=x/\x<=255):(DEC l).2.1<2 ^ 64/\(DEC l).2.2.1<2 ^ 64:=z9l hr
theorem z5T {l:List Int} (hr:∀ x∈l,0<=x/\x<=255):(DEX l).2.1<2 ^ 64/\(DEX l).2.2.1<2 ^ 64:=z9l hr
end Go.Proofs.YtdggkbpabjgdfaaGreatDoor
namespace Go.Proofs.YtdggkbpabjgdfaaGreatDoor
open Go.RowKit
set_option maxRecDepth 100000
theorem zhi (F:Nat) (hF:F<2 ^ 64):∃ t,LOWS F t:=by
 obtain ⟨t,h1,h2,h3,_⟩:=z8d F hF;exact ⟨t,h1,h2,h3⟩
theorem zhj (F S:Nat) (hF:F<2 ^ 64):∃ t,LOWS F t/\(F<=S->S<=4611686018427387904->JSOK F (S - F) (JSX F S t)):=by
 by_cases h:F<=S/\S<=4611686018427387904
 ·obtain ⟨t,ht,hc⟩:=zgY F (S - F) (by omega)
  refine ⟨t,ht,fun _ _=>⟨Nat.le_trans (z91 _ _ _ _) (by omega),fun i x y e=>?_,hc⟩⟩;obtain ⟨h1,h2,h3,h4⟩:=zco e
  have h5:y<=(y+1)*2 ^ x:=by
   have:=Nat.pos_of_ne_zero (n:=2 ^ x) (by simp)
   calc y<=y+1:=by omega
    _=(y+1)*1:=by omega
    _<=(y+1)*2 ^ x:=Nat.mul_le_mul_left _ this
  exact ⟨by omega,by omega,by omega⟩
 ·obtain ⟨t,ht⟩:=zhi F hF
  exact ⟨t,ht,fun h1 h2=>absurd ⟨h1,h2⟩ h⟩
theorem zdS:∃ TS:List Int->Nat,∀ K,(∀ x∈K,0<=x/\x<=255)->LOWS (DEX K).2.1 (TS K)/\((DEX K).2.1<=(DEX K).2.2.1->(DEX K).2.2.1<=4611686018427387904->JSOK (DEX K).2.1 ((DEX K).2.2.1 - (DEX K).2.1) (JSX (DEX K).2.1 (DEX K).2.2.1 (TS K))):=by
 have h:∀ K:List Int,∃ t,(∀ x∈K,0<=x/\x<=255)->LOWS (DEX K).2.1 t/\((DEX K).2.1<=(DEX K).2.2.1->(DEX K).2.2.1<=4611686018427387904->JSOK (DEX K).2.1 ((DEX K).2.2.1 - (DEX K).2.1) (JSX (DEX K).2.1 (DEX K).2.2.1 t)):=fun K=>by
  by_cases hr:∀ x∈K,0<=x/\x<=255
  ·obtain ⟨t,ht⟩:=zhj (DEX K).2.1 (DEX K).2.2.1 (z5T hr).1
   exact ⟨t,fun _=>ht⟩
  ·exact ⟨0,fun h=>absurd h hr⟩
 exact Classical.axiomOfChoice h
end Go.Proofs.YtdggkbpabjgdfaaGreatDoor
