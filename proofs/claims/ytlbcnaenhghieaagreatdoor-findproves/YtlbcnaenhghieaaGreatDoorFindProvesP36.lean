/- FindProves: part 36. -/
import Derived.Test.YtlbcnaenhghieaaGreatDoorFindProvesP35
namespace Go.Proofs.YtlbcnaenhghieaaGreatDoor
open Go.RowKit Go.Maps
set_option maxRecDepth 100000
theorem z2N:(Tryz.prog.info? 48).map (fun i=>(i.zero,i.size,i.bytes))=some (some (.agg #[.int .u64 0,.int .u64 0,.slice none 0 0]),3,40):=by kernel_rfl
theorem zaa (n:Nat) (hn:n<=100000) (w:World):∃ cur:Array Value,cur.size=n*3/\(Instr.makeSlice 42 (.int .i64 0) (.int .i64 (n:Int))).run Tryz.prog w=.ok (.slice (some ⟨w.heap.size,0,none⟩) 0 n) (w.alloc (.cells cur 48)):=by
 obtain ⟨i,hi,hz,hs1,hby⟩:=info_parts z2N;have h:=run_make (P:=Tryz.prog) w 42 48 i _ Tryz.underlying42 hi hz .i64 .i64 0 n (by omega) (by omega) (by rw [hby];omega) (by omega);refine ⟨_,?_,h⟩;rw [size_madeCells,hs1];omega
structure PRW where
 i:Nat
 a:Option Addr
 n:Nat
 c:Nat
 z:List Int
def PRW.cells (N:Nat) (r:PRW):List Value:=[.int .u64 (N:Int),.int .u64 (r.i:Int),.slice r.a r.n r.c]
def PRC (N:Nat) (R:List PRW):List Value:=R.flatMap (PRW.cells N)
theorem zdS (N:Nat):∀ (R:List PRW) (i:Nat) (r:PRW),R[i]?=some r->∀ j,j<3->(PRC N R)[3*i+j]?=(r.cells N)[j]?
 | [],i,r,h,_,_=>by simp at h
 | x :: R,0,r,h,j,hj=>by
   simp only [List.getElem?_cons_zero,Option.some.injEq] at h;subst h;unfold PRC;rw [List.flatMap_cons,List.getElem?_append_left (by simp [PRW.cells];omega)];simp
 | x :: R,i+1,r,h,j,hj=>by
   rw [List.getElem?_cons_succ] at h;have ih:=zdS N R i r h j hj;unfold PRC at *
   rw [List.flatMap_cons,List.getElem?_append_right (by simp [PRW.cells];omega),<-ih];congr 1
   simp [PRW.cells];omega
structure PLST (B:Nat) (W:World) (N:Nat) (v:Value) (k:Nat) (R:List PRW):Prop where
 len:R.length=k
 own:W.ownsRow B 48 3 v k (PRC N R)
 flat:∀ r∈R,Flat W r.a r.n r.z
 ne:∀ r∈R,∀ y,0<r.n->r.a=some y->y.block<W.heap.size/\v.ownBlock≠some y.block
theorem PLST.below {B N k:Nat} {W W':World} {v:Value} {R:List PRW} (h:PLST B W N v k R) (hb:Below W.heap.size W W'):PLST B W' N v k R:=
 ⟨h.len,z0J h.own fun x e=>hb.block x (h.own.lt x e).2,fun r hr=>(h.flat r hr).below hb,fun r hr y h1 h2=>⟨Nat.lt_of_lt_of_le (h.ne r hr y h1 h2).1 hb.size,(h.ne r hr y h1 h2).2⟩⟩
theorem PLST.nil (B N:Nat) (W:World):PLST B W N (.slice none 0 0) 0 []:=⟨rfl,⟨rfl,.inl ⟨rfl,rfl⟩⟩,fun r hr=>(by cases hr),fun r hr=>by cases hr⟩
theorem PLST.made {B N n:Nat} {w:World} {cur:Array Value} (hc:cur.size=n*3) (hn:n<=100000) (hB:B<=w.heap.size):PLST B (w.alloc (.cells cur 48)) N (.slice (some ⟨w.heap.size,0,none⟩) 0 n) 0 []:=
 ⟨rfl,⟨rfl,.inr ⟨w.heap.size,n,cur,rfl,hB,Has.new w _ _,Nat.zero_le _,by simp only [maxLen];omega,hc,by simp [PRC]⟩⟩,fun r hr=>(by cases hr),fun r hr=>by cases hr⟩
theorem PLST.at {B N k:Nat} {W:World} {a:Option Addr} {c:Nat} {R:List PRW} (h:PLST B W N (.slice a k c) k R) {i:Nat} {r:PRW} (hr:R[i]?=some r):∃ g,a=some ⟨g,0,none⟩/\W.rangeAt g (3*i) (r.cells N):=by
 have hi:=(List.getElem?_eq_some_iff.1 hr).1;have hl:=h.len
 obtain ⟨ad,cap,e,_,hg⟩:∃ ad cap,Value.slice a k c=.slice ad k cap/\True/\∃ g,ad=some ⟨g,0,none⟩:=by
  rcases h.own.2 with ⟨e,e0⟩ | ⟨g,cap,cur,e,_⟩
  ·omega
  ·exact ⟨_,_,e,trivial,g,rfl⟩
 obtain ⟨g,rfl⟩:=hg;cases e;refine ⟨g,rfl,fun j u hj=>?_⟩;have hj3:j<3:=(List.getElem?_eq_some_iff.1 hj).1;rw [h.own.cellAt _ (by omega),zdS N R i r hr j hj3];exact hj
theorem z7y {ops:Array Oper} {rest:List Oper} {o:Oper} {a:Act} {Q:Exit->Act->World->Prop} (w:World) (hgd:o.guard=none) (s x:Operand)
  (ho:o.op=.call {callee:=.builtin .append,args:=#[s,x],argTypes:=#[42,42]})
  (base N:Nat) (v:Value) (n:Nat) (R:List PRW) (hs:a.eval s=v) (hown:w.ownsRow base 48 3 v n (PRC N R))
  (b c:Nat) (r:PRW) (hx:a.eval x=.slice (some ⟨b,0,none⟩) 1 c) (hc:Has w b (r.cells N).toArray 48)
  (hb:n<=100000) (hbase:base<=w.heap.size)
  (h:∀ g cap w',w'.ownsRow base 48 3 (.slice (some ⟨g,0,none⟩) (n+1) cap) (n+1) (PRC N (R ++ [r]))->w.grownBy w' v.ownBlock->(v.ownBlock=some g\/g=w.heap.size)->g<w'.heap.size->wpList Tryz.prog ops Q rest (a.put o.dst (.slice (some ⟨g,0,none⟩) (n+1) cap)) w'):wpList Tryz.prog ops Q (o :: rest) a w:=by
 obtain ⟨i,hi,hz,hs1,hby⟩:=info_parts z2N;have e:PRC N (R ++ [r])=PRC N R ++ r.cells N:=by unfold PRC;rw [List.flatMap_append];simp
 rw [e] at h;refine wpList_append_lies w hgd s x 42 ho base 48 i _ 3 40 Tryz.underlying42 hi hz hs1 hby rfl (by decide) v n (PRC N R) hs hown ⟨b,0,none⟩ 1 c (r.cells N) hx rfl ?_ ?_ (by decide) (by simp only [maxLen];omega) (by omega) hbase w.heap.size rfl h
 ·intro j u hj
  rw [z0y,Nat.zero_add,hc.cell,List.getElem?_toArray];exact hj
 ·intro u hu
  unfold PRW.cells at hu;simp only [List.mem_cons,List.not_mem_nil,or_false] at hu;rcases hu with rfl | rfl | rfl <;> rfl
theorem Flat.heap {w w':World} {a:Option Addr} {n:Nat} {l:List Int} (h:Flat w a n l) (hs:w.heap.size<=w'.heap.size) (hk:∀ y,0<n->a=some y->w'.heap[y.block]?=w.heap[y.block]?):Flat w' a n l:=by
 refine ⟨h.1,fun h0=>?_,h.2.2⟩;obtain ⟨b,o,e,hb,hc⟩:=h.2.1 h0;exact ⟨b,o,e,by omega,fun j hj=>(World.cell?_of_block (a:=⟨b,o+j,none⟩) (hk ⟨b,o,none⟩ h0 e)).trans (hc j hj)⟩
theorem PLST.put {B N k g c:Nat} {w wA w':World} {v:Value} {R:List PRW} {r:PRW} (h:PLST B w N v k R) (hr:Flat w r.a r.n r.z) (hne:∀ y,0<r.n->r.a=some y->y.block<w.heap.size/\v.ownBlock≠some y.block) (hb:Below w.heap.size w wA) (hgrow:wA.grownBy w' v.ownBlock) (hg:v.ownBlock=some g\/g=wA.heap.size) (ho:w'.ownsRow B 48 3 (.slice (some ⟨g,0,none⟩) (k+1) c) (k+1) (PRC N (R ++ [r]))):PLST B w' N (.slice (some ⟨g,0,none⟩) (k+1) c) (k+1) (R ++ [r]):=by
 have hs:=hb.size;have hs2:=hgrow.size
 have key:∀ q:PRW,Flat w q.a q.n q.z->(∀ y,0<q.n->q.a=some y->y.block<w.heap.size/\v.ownBlock≠some y.block)->Flat w' q.a q.n q.z/\∀ y,0<q.n->q.a=some y->y.block<w'.heap.size/\some g≠some y.block:=by
  intro q hq hn;refine ⟨hq.heap (by omega) fun y h1 h2=>?_,fun y h1 h2=>?_⟩
  ·obtain ⟨c1,c2⟩:=hn y h1 h2
   exact (hgrow.block y.block (by omega) (fun e=>c2 e.symm)).trans (hb.block y.block c1)
  ·obtain ⟨c1,c2⟩:=hn y h1 h2
   refine ⟨by omega,fun e=>?_⟩;rcases hg with h' | h'
   ·exact c2 (h'.trans e)
   ·simp only [Option.some.injEq] at e
    omega
 refine ⟨by rw [List.length_append,h.len];rfl,ho,fun q hq=>?_,fun q hq=>?_⟩
 ·rcases List.mem_append.1 hq with h1 | h1
  ·exact (key q (h.flat q h1) (h.ne q h1)).1
  ·rw [List.mem_singleton.1 h1]
   exact (key r hr hne).1
 ·rcases List.mem_append.1 hq with h1 | h1
  ·exact (key q (h.flat q h1) (h.ne q h1)).2
  ·rw [List.mem_singleton.1 h1]
   exact (key r hr hne).2
def PRE (EN:Nat->Int) (n i:Nat):Int:=WNT EN (PLA i n).1 (PLA i n).2
def z1e (EN:Nat->Int) (n:Nat) (A:List Nat):Int:=if A=[] then 32 else FSTE (PRE EN n) A
def z1l (EN:Nat->Int) (G:Nat->List Int) (n:Nat) (A:List Nat):List (Nat × List Int):=if z1e EN n A=0 then A.map fun i=>(i,(PLA i n).2.flatMap G) else []
def z1m (r:PRW):Nat × List Int:=(r.i,r.z)
set_option maxHeartbeats 4000000 in
theorem zcb {w:World} {B p n:Nat} {v:Value} {m:Option Nat} {f:Nat->List Int} (H:FIND w B p v m f n) (hn:n<=300) {h:List Int} (hh:FISH h) (g:Nat) (G:Nat->List Int) (EN:Nat->Int) (hG:∀ p,(G p).length=32) (hGb:∀ p,∀ x∈G p,0<=x/\x<=255) (hN:∀ i,z4a w g G EN (PLA i n).2) (hT:Tabled w) (h0:0<w.heap.size):
  Calls Tryz.prog 14 #[.pointer (some ⟨p,0,none⟩),.iface 28 (.pointer (some ⟨g,0,none⟩)),.agg (z00 h).toArray] w fun e w'=>∃ a k c R,e=.returned (.tuple #[.slice a k c,.int .i64 (z1e EN n (ATS f n h))])/\Below w.heap.size w w'/\PLST w.heap.size w' n (.slice a k c) k R/\R.map z1m=z1l EN G n (ATS f n h):=by
 obtain ⟨w0,hw0⟩:∃ w0,w.alloc (.cells (z00 h).toArray 25)=w0:=⟨_,rfl⟩
 obtain ⟨b3,hb3⟩:∃ b,w.heap.size=b:=⟨_,rfl⟩
 have hb0:Below w.heap.size w w0:=by rw [<-hw0];exact (Below.refl _ _).alloc (Nat.le_refl _) _
 have k3:Has w0 b3 (z00 h).toArray 25:=by rw [<-hw0,<-hb3];exact Has.new _ _ _
 have h3:w0.rangeAt b3 0 (z00 h):=z0s k3;have L:Aside (h.length=32):=hh.1;have hs:=zaA (H.keep hb0) (by omega) hh
 have MK:Aside (∀ W,Below w.heap.size w W->∀ i:Nat,Calls Tryz.prog 35 #[.iface 28 (.pointer (some ⟨g,0,none⟩)),.int .u64 (i:Int),.int .u64 (n:Int)] W (TMADE W G EN (PLA i n) n i)):=fun W hW i=>
  zfH n i g G EN hG W (fun W' hW'=>hN i W' (hW.trans (hW'.mono hW.size))) (hT.below h0 hW) (Nat.lt_of_lt_of_le h0 hW.size)
 have HA:Aside (FIND w B p v m f n/\n<=300/\Below w.heap.size w w0/\∀ p,∀ x∈G p,0<=x/\x<=255):=⟨H,hn,hb0,hGb⟩
 have hlen:=z1g f h n;have A64:Aside ((∀ i∈ATS f n h,i<300)/\(ATS f n h).length<=300):=⟨fun i hi=>by have:=(z6r.1 hi).1;omega,by omega⟩
 generalize ATS f n h=A at *
 clear hlen H hn hb0 k3 hh hGb hG hN hT h0;go_enter Tryz.func14,Tryz.ntmps14
 go_wp2_with (first
  | (refine wpList_load_mid rfl 25 (.tmp 5) rfl b3 0 rfl (z00 h) _ h3 Tryz.underlying25 rfl (z0g L.out) ?_)
  | fail)
 refine hs.mono ?_;rintro e w1 ⟨aa,ca,rfl,ow,hb1⟩;have HB:Aside (Below w.heap.size w w1/\NUML w1 aa A/\∀ y,aa=some y->y.block<w1.heap.size):=⟨HA.out.2.2.1.trans (hb1.mono HA.out.2.2.1.size),z5C ow rfl,fun y e=>(ow.lt y.block (by rw [e];rfl)).2⟩
 have hz:=z7e (HA.out.1.keep HB.out.1) (by have:=HA.out.2.1;omega);clear hs hb1 hw0 hb3 h3 ow;go_wp2_with fail
 refine hz.mono ?_;rintro e w2 ⟨rfl,rfl⟩;clear hz;obtain ⟨K,hK⟩:∃ K,A.length=K:=⟨_,rfl⟩
 by_cases hA:A=[]
 ·subst hA
  have Z:Aside (Below w.heap.size w w1):=HB.out.1;clear HB HA MK A64 hK;go_wp2_with fail
  go_ret2;exact ⟨none,0,0,[],rfl,Z.out,PLST.nil _ _ _,by unfold z1l z1e;simp⟩
 ·have hK0:0<K:=by
   rw [<-hK];exact List.length_pos_iff.2 hA
  have hE:z1e EN n A=FSTE (PRE EN n) A:=if_neg hA;obtain ⟨E,hEE⟩:∃ E,z1e EN n A=E:=⟨_,rfl⟩
  have hKi:((K:Int) == 0)=false:=by rw [beq_eq_false_iff_ne];omega
  obtain ⟨cur,hcur,hmk⟩:=zaa K (by have:=A64.out.2;omega) w1;obtain ⟨w2,hw2⟩:∃ w2,w1.alloc (.cells cur 48)=w2:=⟨_,rfl⟩
  obtain ⟨b1,hb1⟩:∃ b,w1.heap.size=b:=⟨_,rfl⟩
  have P0:PLST b1 w2 n (.slice (some ⟨b1,0,none⟩) 0 K) 0 []:=by
   rw [<-hw2,<-hb1];exact PLST.made hcur (by have:=A64.out.2;omega) (Nat.le_refl _)
  have hb2:Below b1 w1 w2:=by rw [<-hw2,<-hb1];exact (Below.refl _ _).alloc (Nat.le_refl _) _
  have HC:Aside (Below w.heap.size w w1/\NUML w1 aa A/\(∀ y,aa=some y->y.block<b1)/\w1.heap.size=b1/\E=FSTE (PRE EN n) A/\z1e EN n A=E):=
   ⟨HB.out.1,HB.out.2.1,by rw [<-hb1];exact HB.out.2.2,hb1,hEE ▸ hE,hEE⟩
  have H0:Aside (Below b1 w1 w2/\PLST b1 w2 n (.slice (some ⟨b1,0,none⟩) 0 K) 0 []):=⟨hb2,P0⟩
  have AK:Aside (A.length=K):=hK;rw [hK];rw [hw2,hb1] at hmk;clear hcur hw2 P0 hE hEE hA hK HB hb1 hb2;go_wp2;go_loopg [10,12,13,14,28] K (fun q s10 _ _ _ s28 wx=>∃ (i:Nat) (oa:Option Addr) (oc:Nat) (R:List PRW),s10=.slice oa i oc/\s28=.int .i64 (i:Int)/\Aside (i+q=K/\Below b1 w1 wx/\PLST b1 wx n (.slice oa i oc) i R/\R.map z1m=(A.take i).map (fun i=>(i,(PLA i n).2.flatMap G))/\(∀ x∈A.take i,PRE EN n x=0)))
  case atStart=>exact ⟨0,_,K,[],rfl,rfl,by omega,H0.out.1,H0.out.2,rfl,by simp⟩
  case round=>
   obtain ⟨i,oa,oc,R,rfl,rfl,S⟩:=hrel;cases gk with
   | zero=>
     obtain rfl:i=K:=by have:=S.out.1;omega
     have hlt:¬ (i:Int)<(i:Int):=by omega
     have Z:Aside (z1e EN n A=0/\Below w.heap.size w wr/\PLST w.heap.size wr n (.slice oa i oc) i R/\R.map z1m=z1l EN G n A):=by
      have ht:A.take i=A:=List.take_of_length_le (by have:=AK.out;omega);obtain ⟨_,s2,s4,s5,s6⟩:=S.out;rw [ht] at s5 s6;have hE:E=0:=HC.out.2.2.2.2.1.trans (z2C s6);refine ⟨HC.out.2.2.2.2.2.trans hE,HC.out.1.trans (s2.mono (by rw [<-HC.out.2.2.2.1];exact HC.out.1.size)),⟨s4.len,HX.z1b s4.own (by rw [<-HC.out.2.2.2.1];exact HC.out.1.size),s4.flat,s4.ne⟩,?_⟩;unfold z1l;rw [if_pos (HC.out.2.2.2.2.2.trans hE)];exact s5
     clear S HC hmk;go_wp2;go_ret2;obtain ⟨z1,z2,z3,z4⟩:=Z.out;rw [z1];exact ⟨oa,i,oc,rfl,z2,R,z3,z4⟩
   | succ q=>
     have hin:i<K:=by have:=S.out.1;omega
     have hlt:(i:Int)<(K:Int):=by omega
     obtain ⟨x,hx⟩:∃ x,A[i]?=some x:=⟨_,List.getElem?_eq_getElem (by have:=AK.out;omega)⟩
     obtain ⟨db,dof,rfl,hdb,hdc⟩:=(HC.out.2.1.below S.out.2.1 HC.out.2.2.1) (by have:=AK.out;omega)
     have hc:=hdc i x hx;have SW:Aside (Below w.heap.size w wr/\b1<=wr.heap.size):=⟨HC.out.1.trans (S.out.2.1.mono (by rw [<-HC.out.2.2.2.1];exact HC.out.1.size)),by have:=S.out.2.1.size;have:=HC.out.2.2.2.1;omega⟩
     have ck:=MK.out wr SW.out.1 x;have A3:Aside (i+1+q=K/\A[i]?=some x):=⟨by have:=S.out.1;omega,hx⟩
     have ei:wrap64 ((i:Int)+1)=((i+1:Nat):Int):=by have:=A64.out.2;have:=AK.out;unfold wrap64;omega
     clear hdc hx hin hmk hdb;go_wp2_with fail
     refine ck.mono ?_;rintro e w3 h5;clear ck;obtain ⟨hb3,X',Y',a',c',rfl,o3,hxy⟩:=zdR h5;clear h5;have hV:WNT EN (PLA x n).1 (PLA x n).2=PRE EN n x:=rfl;rw [hV] at o3 hxy;rw [hV];go_upto_region 9 with fail
     obtain ⟨b4,hb4⟩:∃ x,w3.heap.size=x:=⟨_,rfl⟩
     obtain ⟨w4,e4⟩:∃ z,w3.alloc (.cells #[.int .u64 (X':Int),.int .u64 (Y':Int),.slice a' (KOF (PRE EN n x) (PLA x n).2) c'] 48)=z:=⟨_,rfl⟩
     have k4:Has w4 b4 #[.int .u64 (X':Int),.int .u64 (Y':Int),.slice a' (KOF (PRE EN n x) (PLA x n).2) c'] 48:=by rw [<-e4,<-hb4];exact Has.new _ _ _
     have hbw:Below w3.heap.size w3 w4:=by rw [<-e4];exact (Below.refl _ _).alloc (Nat.le_refl _) _
     rw [e4,hb4];have hbr:Below wr.heap.size wr w4:=hb3.trans (hbw.mono hb3.size);have W4:Aside (Below w.heap.size w w4/\Below b1 w1 w4/\b1<=w4.heap.size):=⟨SW.out.1.trans (hbr.mono SW.out.1.size),S.out.2.1.trans (hbr.mono SW.out.2),Nat.le_trans SW.out.2 hbr.size⟩
     by_cases hv:PRE EN n x=0
     ·obtain ⟨e1,e2⟩:=hxy hv
      have hk:KOF 0 (PLA x n).2=(PLA x n).2.length:=if_pos rfl;have hz:ZOF 0 G (PLA x n).2=(PLA x n).2.flatMap G:=if_pos rfl;rw [hv,hk,hz] at o3;rw [hv,hk,e1,e2] at k4;rw [hv,hk]
      have hr4:w4.rangeAt b4 0 (PRW.cells n ⟨x,a',(PLA x n).2.length,c',(PLA x n).2.flatMap G⟩):=fun j u hj=>by
       rw [Nat.zero_add,k4.cell];show (PRW.cells n ⟨x,a',(PLA x n).2.length,c',(PLA x n).2.flatMap G⟩).toArray[j]?=some u;rw [List.getElem?_toArray];exact hj
      have hfl:=(z8M o3 (fun y hy=>by
       obtain ⟨p,_,hp⟩:=List.mem_flatMap.1 hy;exact HA.out.2.2.2 p y hp)).below hbw
      have hne:∀ y,0<(PLA x n).2.length->a'=some y->y.block<w4.heap.size/\(Value.slice oa i oc).ownBlock≠some y.block:=fun y _ e=>by
       have h1:=o3.lt y.block (by rw [e];rfl);have:=hbw.size;refine ⟨by omega,fun e2=>?_⟩;have:=(S.out.2.2.1.own.lt y.block e2).2;omega
      have P4:=S.out.2.2.1.below hbr
      have Q4:Aside (PLST b1 w4 n (.slice oa i oc) i R/\Flat w4 a' (PLA x n).2.length ((PLA x n).2.flatMap G)/\(∀ y,0<(PLA x n).2.length->a'=some y->y.block<w4.heap.size/\(Value.slice oa i oc).ownBlock≠some y.block)/\(R ++ [(⟨x,a',(PLA x n).2.length,c',(PLA x n).2.flatMap G⟩:PRW)]).map z1m=(A.take (i+1)).map (fun i=>(i,(PLA i n).2.flatMap G))/\(∀ y∈A.take (i+1),PRE EN n y=0)):=by
       have et:A.take (i+1)=A.take i ++ [x]:=by rw [List.take_add_one,A3.out.2];rfl
       refine ⟨P4,hfl,hne,?_,?_⟩
       ·rw [et,List.map_append,List.map_append,S.out.2.2.2.1]
        rfl
       ·rw [et]
        intro y hy;rcases List.mem_append.1 hy with h1 | h1
        ·exact S.out.2.2.2.2 y h1
        ·rw [List.mem_singleton.1 h1]
         exact hv
      have hi6:i<=100000:=by have:=A64.out.2;have:=AK.out;omega
      clear hxy e1 e2 hk hz o3 hfl hne P4 hbr hbw hb3 e4 hb4 S hv k4 hV hc HC SW;generalize (PLA x n).2.length=L7 at *
      generalize (PLA x n).2.flatMap G=Z7 at *
      go_wp2_with (first
       | (refine wpList_load_mid rfl 48 (.tmp 13) rfl b4 0 rfl _ _ hr4 Tryz.underlying48 rfl (by kernel_rfl) ?_)
       | (refine z0S _ rfl 42 48 (.tmp 43) rfl (PRW.cells n ⟨x,a',L7,c',Z7⟩).toArray rfl 3 _ _ Tryz.underlying42 z2N rfl rfl (by decide) (by decide) ?_)
       | (at_builtin;refine z7y _ rfl (.tmp 42) (.tmp 44) rfl b1 n (.slice oa i oc) i R rfl (Q4.out.1.own.alloc _) _ 1 ⟨x,a',L7,c',Z7⟩ rfl (Has.new _ _ _) hi6 (by have:=W4.out.2.2;simp;omega) ?_;intro g7 c7 w7 hown hgrow hat hg7)
       | fail)
      have ha4:Below w4.heap.size w4 (w4.alloc (.cells (PRW.cells n ⟨x,a',L7,c',Z7⟩).toArray 48)):=(Below.refl _ _).alloc (Nat.le_refl _) _
      have Z:Aside (Below b1 w1 w7/\PLST b1 w7 n (.slice (some ⟨g7,0,none⟩) (i+1) c7) (i+1) (R ++ [⟨x,a',L7,c',Z7⟩])):=
       ⟨(W4.out.2.1.trans (ha4.mono W4.out.2.2)).grown hgrow (by have:=W4.out.2.2;simp;omega) (fun k e=>(Q4.out.1.own.lt k e).1),Q4.out.1.put Q4.out.2.1 Q4.out.2.2.1 ha4 hgrow hat hown⟩
      clear hown hgrow hat hg7 ha4 hr4 hi6;go_wp2;go_roundg q
      case measure=>exact Nat.lt_succ_self _
      case rel=>exact ⟨i+1,some ⟨g7,0,none⟩,c7,R ++ [⟨x,a',L7,c',Z7⟩],rfl,(by first | rfl | rw [ei]),A3.out.1,Z.out.1,Z.out.2,Q4.out.2.2.2.1,Q4.out.2.2.2.2⟩
     ·have hV0:z1e EN n A=PRE EN n x:=by
       rw [HC.out.2.2.2.2.2,HC.out.2.2.2.2.1];exact z3C A3.out.2 (fun j y hj hy=>S.out.2.2.2.2 y (List.mem_of_getElem? (by rw [List.getElem?_take_of_lt hj];exact hy))) hv
      have Z:Aside (Below w.heap.size w w4/\z1e EN n A=PRE EN n x/\z1l EN G n A=[]):=⟨W4.out.1,hV0,by unfold z1l;rw [if_neg (by rw [hV0];exact hv)]⟩
      have hne:(PRE EN n x != 0)=true:=by rw [bne_iff_ne];exact hv
      clear hV0 hxy o3 hbr hbw hb3 e4 hb4 S k4 hV hc HC SW W4 hv;generalize PRE EN n x=V at *
      go_wp2;go_ret2;obtain ⟨z1,z2,z3⟩:=Z.out;rw [z2];exact ⟨none,0,0,[],rfl,z1,PLST.nil _ _ _,by rw [z3];rfl⟩
end Go.Proofs.YtlbcnaenhghieaaGreatDoor
