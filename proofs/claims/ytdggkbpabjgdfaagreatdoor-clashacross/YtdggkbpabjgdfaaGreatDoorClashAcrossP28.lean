/- ClashAcross: part 28. -/
import Derived.Test.YtdggkbpabjgdfaaGreatDoorClashAcrossP19
import Derived.Test.YtdggkbpabjgdfaaGreatDoorClashAcrossP27
namespace Go.Proofs.YtdggkbpabjgdfaaGreatDoor
open Go.RowKit
set_option maxRecDepth 100000
theorem z2s {w:World} {B s n:Nat} {t:TypeId} {v:Value} {xs:List Value} (h:w.ownsRow B t s v n xs):∃ a c,v=.slice a n c:=by
 rcases h.2 with ⟨e,h0⟩ | ⟨g,cap,cur,e,_⟩
 ·exact ⟨none,0,by rw [e,h0]⟩
 ·exact ⟨_,_,e⟩
theorem zbL (l k:List (Nat × Nat)):z07 (l ++ k)=z07 l ++ z07 k:=by unfold z07;rw [List.flatMap_append]
theorem zbM (l:List (Nat × Nat)):∀ u∈z07 l,u.oneCell'=true:=fun u hu=>by
 unfold z07 at hu;obtain ⟨x,_,hx⟩:=List.mem_flatMap.1 hu;simp at hx;rcases hx with rfl | rfl <;> rfl
theorem zdP {ops:Array Oper} {rest:List Oper} {o:Oper} {a:Act} {Q:Exit->Act->World->Prop} (w:World) (hgd:o.guard=none) (s x:Operand)
   (ho:o.op=.call {callee:=.builtin .append,args:=#[s,x],argTypes:=#[74,74]})
   (base:Nat) (v:Value) (n:Nat) (xs:List (Nat × Nat)) (hs:a.eval s=v) (hown:w.ownsRow base 77 2 v n (z07 xs))
   (B:Nat) (ad:Option Addr) (m c:Nat) (l:List (Nat × Nat)) (hx:a.eval x=.slice ad m c) (hsrc:w.ownsRow B 77 2 (.slice ad m c) m (z07 l))
   (hb:n+m<=2 ^ 26) (hbase:base<=w.heap.size)
   (hh:∀ a' c' w',w'.ownsRow base 77 2 (.slice a' (n+m) c') (n+m) (z07 (xs ++ l))->w.grownBy w' v.ownBlock->wpList Tryz.prog ops Q rest (a.put o.dst (.slice a' (n+m) c')) w'):wpList Tryz.prog ops Q (o :: rest) a w:=by
 obtain ⟨i,hi,hz,hs1,hby⟩:=info_parts z8G;have hlm:(z07 l).length=m*2:=hsrc.1;cases ad with
 | none=>
   have h0:m=0/\c=0:=by
    rcases hsrc.2 with ⟨e,h0⟩ | ⟨_,_,_,e,_⟩
    ·cases e;exact ⟨rfl,rfl⟩
    ·cases e
   obtain ⟨rfl,rfl⟩:=h0
   have hl0:l=[]:=by
    cases l with
    | nil=>rfl
    | cons y l=>simp [z07] at hlm
   subst hl0;refine wpList_append_own_none hgd s x 74 ho base 77 i 2 Tryz.underlying74 hi v n (z07 xs) hs hown hx ?_;obtain ⟨a',c',rfl⟩:=z2s hown;have:=hh a' c' w (by simpa using hown) ⟨rfl,rfl,rfl,Nat.le_refl _,fun _ _ _=>rfl⟩;simpa using this
 | some ad=>
   obtain ⟨g,rfl⟩:∃ g,ad=⟨g,0,none⟩:=by
    rcases hsrc.2 with ⟨e,h0⟩ | ⟨g,_,_,e,_⟩
    ·cases e
    ·cases e;exact ⟨g,rfl⟩
   refine wpList_append_own w hgd s x 74 ho base 77 i _ 2 16 Tryz.underlying74 hi hz hs1 hby rfl (by decide) v n (z07 xs) hs hown ⟨g,0,none⟩ m c (z07 l) hx hlm (fun j u hu=>?_) (zbM l) (by simp only [maxLen];omega) (by omega) hbase ?_
   ·have hj:j<m*2:=by rw [<-hlm];exact (List.getElem?_eq_some_iff.1 hu).1
    rw [show (⟨g,0,none⟩:Addr).add j=⟨g,j,none⟩ by unfold Addr.add;split <;> simp_all];exact (hsrc.cellAt j hj).trans hu
   ·intro v' w' h1 h2 _
    obtain ⟨a',c',rfl⟩:=z2s h1;rw [<-zbL] at h1;exact hh a' c' w' h1 h2
theorem zfy {n:Nat} (hn:n<=4611686018427387904):TOPS 0 n=SPAN 0 n:=by
 have hl:=z32 (n:=n) (by omega) 0 (by omega);rw [Nat.pow_zero,Nat.div_one] at hl;refine List.ext_getElem? fun j=>?_;by_cases hj:j<PC n
 ·rw [z5Z (by omega) hj,z1f hn hj]
 ·rw [List.getElem?_eq_none (by omega),List.getElem?_eq_none (by rw [z0i hn];omega)]
theorem z6Y (n:Nat) (hn:n<=4611686018427387904) (w:World):Calls Tryz.prog 30 #[.int .u64 (n:Int)] w fun e w'=>
  ∃ a c,e=.returned (.slice a (PC n) c)/\w'.ownsRow w.heap.size 77 2 (.slice a (PC n) c) (PC n) (z07 (SPAN 0 n))/\Below w.heap.size w w':=by
 refine (z8b n hn w).mono ?_;rintro e w' ⟨v,rfl,ho,hb⟩;obtain ⟨a,c,rfl⟩:=z2s ho;rw [zfy hn] at ho;exact ⟨a,c,rfl,ho,hb⟩
theorem zhb (a b:Nat) (hab:a<=b) (hb:b<=4611686018427387904) (w:World):Calls Tryz.prog 36 #[.int .u64 (a:Int),.int .u64 (b:Int)] w fun e w'=>
  ∃ ad c,e=.returned (.slice ad (SPAN a b).length c)/\w'.ownsRow w.heap.size 77 2 (.slice ad (SPAN a b).length c) (SPAN a b).length (z07 (SPAN a b))/\Below w.heap.size w w':=by
 rcases Nat.eq_or_lt_of_le hab with e | h
 ·subst e
  refine (z5n a a (.inl (Nat.le_refl _)) w).mono ?_;rintro e w' ⟨rfl,rfl⟩;rw [z17 (Nat.le_refl _)];exact ⟨none,0,rfl,World.ownsRow_nil _ _ _ _,Below.refl _ _⟩
 ·refine (z7i a b h hb w).mono ?_
  rintro e w' ⟨v,rfl,ho,hb⟩;obtain ⟨ad,c,rfl⟩:=z2s ho;exact ⟨ad,c,rfl,ho,hb⟩
theorem Flat.take {w:World} {a:Option Addr} {n:Nat} {l:List Int} (h:Flat w a n l) {m:Nat} (hm:m<=n):Flat w a m (l.take (32*m)):=by
 refine ⟨by rw [List.length_take,h.1];omega,fun h0=>?_,fun x hx=>h.2.2 x (List.mem_of_mem_take hx)⟩;obtain ⟨b,o,e,hb,hc⟩:=h.2.1 (by omega);refine ⟨b,o,e,hb,fun j hj=>?_⟩;rw [hc j (by omega)];congr 2
 rw [List.getD_eq_getElem?_getD,List.getD_eq_getElem?_getD,List.getElem?_take,if_pos (by omega)]
theorem z5M {d:Int} {F S t:Nat} (hFS:F<=S) (hS:S<=4611686018427387904) (hL:LOWS F t) (l:List Int):∀ m,m<=PC F->CAT (RCM d (JSX F S t) F S l) ((SPAN 0 F).take m)=l.take (32*m)
 | 0,_=>by simp [CAT]
 | m + 1,hm=>by
   have hlt:m<(SPAN 0 F).length:=by rw [z0i (by omega)];omega
   obtain ⟨⟨h,k⟩,e⟩:∃ s,(SPAN 0 F)[m]?=some s:=⟨_,List.getElem?_eq_getElem hlt⟩
   have hso:=(z1M hFS hS).off
   have e2:(PXS F S)[m]?=some (h,k):=by
    unfold PXS;rw [List.getElem?_append_left hlt];exact e
   rw [z4S e,z5M hFS hS hL l m (by omega),z3E];congr 1
   unfold RCM;rw [z7G hFS hS hL _ (List.mem_of_getElem? e2) _ (Nat.le_refl _),z2Y hso e2 _ (List.getElem?_eq_some_iff.1 e2).1 (Nat.le_refl _)]
theorem z9g {M M':Nat->Nat->List Int} {ss:List (Nat × Nat)} (h:∀ x y,(x,y)∈ss->M x y=M' x y):CAT M ss=CAT M' ss:=by
 unfold CAT;induction ss with
 | nil=>rfl
 | cons s ss ih=>
   rw [List.flatMap_cons,List.flatMap_cons,h s.1 s.2 List.mem_cons_self,ih fun x y hxy=>h x y (List.mem_cons_of_mem _ hxy)]
theorem zhc {F S h k p:Nat} (hFS:F<=S) (hS:S<=4611686018427387904) (hm:(h,k)∈SPAN 0 S):∀ s∈(PXS F S).drop p,(s.2+1)*2 ^ s.1<=(k+1)*2 ^ h\/(k+1)*2 ^ h<=s.2*2 ^ s.1:=by
 intro s hs;obtain ⟨_,w2,_⟩:=(z1M hFS hS).within s (List.mem_of_mem_drop hs)
 have hpar:S<(k / 2+1)*2 ^ (h+1):=by
  obtain ⟨i,hi⟩:=List.mem_iff_getElem?.1 hm
  have hi2:i<PC S:=by
   rw [<-z0i hS];exact (List.getElem?_eq_some_iff.1 hi).1
  have hat:=z1f hS hi2;rw [hi] at hat
  simp only [Option.some.injEq,Prod.mk.injEq] at hat
  rcases Nat.lt_or_ge S ((k / 2+1)*2 ^ (h+1)) with c | c
  ·exact c
  ·exfalso
   have h1:=z4l c;have h2:=z48 (n:=S) (i:=i);rw [<-hat.1,<-hat.2] at h2;omega
 obtain ⟨x,y⟩:=s;dsimp only at *
 rcases Nat.lt_or_ge ((k+1)*2 ^ h) ((y+1)*2 ^ x) with c1 | c1
 ·rcases Nat.lt_or_ge (y*2 ^ x) ((k+1)*2 ^ h) with c2 | c2
  ·exfalso
   rcases Nat.lt_or_ge h x with c | c
   ·obtain ⟨q,hq⟩:2 ^ (h+1) ∣ 2 ^ x:=Nat.pow_dvd_pow 2 c
    have hu:=z23 h
    have e1:(k+1)*2 ^ h<=(k / 2+1)*2 ^ (h+1):=by
     rw [hu,<-Nat.mul_assoc];exact Nat.mul_le_mul_right _ (by omega)
    have e2:(k / 2+1)*2 ^ (h+1)<=(k+2)*2 ^ h:=by
     rw [hu,<-Nat.mul_assoc];exact Nat.mul_le_mul_right _ (by omega)
    have e3:=z0N (k+1) h;have hx:(y+1)*2 ^ x=2 ^ (h+1)*((y+1)*q):=by rw [hq,Nat.mul_left_comm]
    rw [hx] at c1 w2;have c1':2 ^ h*(k+1)<2 ^ h*(2*((y+1)*q)):=by rw [<-Nat.mul_assoc,Nat.mul_comm (2 ^ h) 2,<-hu,Nat.mul_comm (2 ^ h)];exact c1
    have g1:=Nat.lt_of_mul_lt_mul_left c1';have g2:(k / 2+1)<=(y+1)*q:=by omega
    have g3:(k / 2+1)*2 ^ (h+1)<=2 ^ (h+1)*((y+1)*q):=by
     rw [Nat.mul_comm];exact Nat.mul_le_mul_left _ g2
    omega
   ·obtain ⟨q,hq⟩:2 ^ x ∣ 2 ^ h:=Nat.pow_dvd_pow 2 c
    have hx:(k+1)*2 ^ h=2 ^ x*((k+1)*q):=by rw [hq,Nat.mul_left_comm]
    rw [hx] at c1 c2;have c1':2 ^ x*((k+1)*q)<2 ^ x*(y+1):=by rw [Nat.mul_comm (2 ^ x) (y+1)];exact c1
    have c2':2 ^ x*y<2 ^ x*((k+1)*q):=by rw [Nat.mul_comm (2 ^ x) y];exact c2
    have g1:=Nat.lt_of_mul_lt_mul_left c1';have g2:=Nat.lt_of_mul_lt_mul_left c2';omega
  ·exact .inr c2
 ·exact .inl c1
def PFXL (d:Int) (F S:Nat) (t:List Int):List (List Nat):=BAGL d S (PC S) (CAT (PXV d F S t) (SPAN 0 S)) ++ (BAGL d F (PC F) (t.take (32*PC F)) ++ PTX (PXV d F S t) (PXS F S))
structure PINV (w4:World) (base b g:Nat) (ok:Nat->Prop) (d:Int) (pv:Value) (m:Nat) (xs:List Int) (TT:List (List Nat)) (W:World):Prop where
 met:∃ top,MET W base top (fun k=>ok k/\pv.ownBlock≠some k) b g d TT
 own:W.ownsRow w4.heap.size 24 32 pv m (z01 xs)
 stp:STEPM b g w4 W
structure QINV (w4:World) (base b g:Nat) (ok:Nat->Prop) (d:Int) (x:Nat) (A:List Int) (pv:Value) (m:Nat) (xs:List Int) (TT:List (List Nat)) (W:World):Prop where
 met:∃ top,MET W base top (fun k=>(ok k/\pv.ownBlock≠some k)/\k≠x) b g d TT
 own:W.ownsRow w4.heap.size 24 32 pv m (z01 xs)
 acc:Has W x (z01 A).toArray 24
 stp:STEPM b g w4 W
 ge:w4.heap.size<=x
 ne:pv.ownBlock≠some x
theorem z5N {w w':World} {B s n:Nat} {t:TypeId} {v:Value} {xs:List Value} (h:w.ownsRow B t s v n xs) (hk:∀ k,v.ownBlock=some k->w'.heap[k]?=w.heap[k]?):w'.ownsRow B t s v n xs:=by
 refine ⟨h.1,?_⟩;rcases h.2 with h | ⟨g,cap,cur,rfl,hb,hg,r⟩
 ·exact .inl h
 ·exact .inr ⟨g,cap,cur,rfl,hb,(hk g rfl).trans hg,r⟩
theorem zhd {w:World} {B g n cap:Nat} {l L:List Int} (h:w.ownsRow B 24 32 (.slice (some ⟨g,0,none⟩) (n+1) cap) (n+1) (z01 (l ++ L))) (hl:l.length=32*n):w.ownsRow B 24 32 (.slice (some ⟨g,0,none⟩) n cap) n (z01 l):=by
 have h1:=h.1;rcases h.2 with ⟨_,e⟩ | ⟨g',cap',cur,e,hb,hg,hc,hm,hs,ht⟩
 ·omega
 ·simp only [Value.slice.injEq,Option.some.injEq,Addr.mk.injEq,true_and,and_true] at e
  obtain ⟨rfl,rfl⟩:=e;refine ⟨by simp [z01,hl,Nat.mul_comm],.inr ⟨g,cap,cur,rfl,hb,hg,by omega,hm,hs,?_⟩⟩;have lc:(z01 l).length=n*32:=by simp [z01,hl,Nat.mul_comm]
  have:=congrArg (List.take (n*32)) ht;rw [List.take_take,Nat.min_eq_left (by omega),z0x,List.take_append_of_le_length (Nat.le_of_eq lc.symm)] at this;rw [this];exact List.take_of_length_le (Nat.le_of_eq lc)
theorem QINV.below {w4 W W':World} {base b g x m:Nat} {ok:Nat->Prop} {d:Int} {A xs:List Int} {pv:Value} {TT:List (List Nat)} (h:QINV w4 base b g ok d x A pv m xs TT W) (hb:Below W.heap.size W W'):QINV w4 base b g ok d x A pv m xs TT W':=by
 obtain ⟨top,hm⟩:=h.met;exact ⟨⟨top,hm.below hb⟩,z5N h.own fun k e=>hb.block k (h.own.lt k e).2,h.acc.keep hb,h.stp.trans (STEPM.of_below hb),h.ge,h.ne⟩
theorem QINV.turn {w4 W w2:World} {base b g x m gp cap:Nat} {ok:Nat->Prop} {d:Int} {A X xs L:List Int} {TT T2:List (List Nat)} (h:QINV w4 base b g ok d x A (.slice (some ⟨gp,0,none⟩) (m+1) cap) (m+1) (xs ++ L) TT W) (hxs:xs.length=32*m) (hm:∃ top,MET w2 base top (fun k=>(ok k/\some gp≠some k)/\k≠x) b g d T2) (st:STEPM b g W w2) (hb:b<w4.heap.size) (hg:g<w4.heap.size):QINV w4 base b g ok d x X (.slice (some ⟨gp,0,none⟩) m cap) m xs T2 (w2.setRow x (z01 X).toArray):=by
 have hge:=h.ge;have hgp:=h.own.lt gp rfl;have hne:gp≠x:=fun e=>h.ne (by rw [<-e];rfl);have h6:Has w2 x (z01 A).toArray 24:=(st.block _ h.acc.lt (by omega) (by omega)).trans h.acc;obtain ⟨t2,m2⟩:=hm;refine ⟨⟨t2,m2.keepc (fun i h1 h2=>setRow_other w2 _ i _ (fun e=>?_)) (Nat.le_refl _) (by simpa using m2.htop)⟩,z5N (zhd h.own hxs) (fun k e=>?_),h6.row _,⟨st.os.trans h.stp.os,st.tape.trans h.stp.tape,st.output.trans h.stp.output,by have:=st.size;have:=h.stp.size;simp;omega,fun k h1 h2 h3=>(setRow_other w2 _ k _ (by omega)).trans ((st.block k (Nat.lt_of_lt_of_le h1 h.stp.size) h2 h3).trans (h.stp.block k h1 h2 h3))⟩,hge,h.ne⟩
 ·subst e
  rcases h2 with h2 | h2 | h2
  ·omega
  ·omega
  ·exact h2.1.2 rfl
 ·have e:gp=k:=by simpa [Value.ownBlock] using e
  subst e;exact (setRow_other w2 _ _ _ hne).trans (st.block _ hgp.2 (by omega) (by omega))
theorem PINV.begin {w4 W:World} {base b g m:Nat} {ok:Nat->Prop} {d:Int} {A xs:List Int} {pv:Value} {TT:List (List Nat)} (h:PINV w4 base b g ok d pv m xs TT W):QINV w4 base b g ok d W.heap.size A pv m xs TT (W.alloc (.cells (z01 A).toArray 24)):=by
 obtain ⟨top,hm⟩:=h.met;have hb:Below W.heap.size W (W.alloc (.cells (z01 A).toArray 24)):=(Below.refl _ _).alloc (Nat.le_refl _) _;have ht:=hm.htop;refine ⟨⟨top,(hm.below hb).sub fun k h1 h2=>⟨h2,by omega⟩⟩,h.own.alloc _,Has.new _ _ _,h.stp.trans (STEPM.of_below hb),h.stp.size,fun e=>?_⟩;have:=(h.own.lt _ e).2;omega
theorem QINV.push {w4 W w7:World} {base b g x m g7 c7:Nat} {ok:Nat->Prop} {d:Int} {A xs:List Int} {pv:Value} {TT:List (List Nat)} {o:Obj} (h:QINV w4 base b g ok d x A pv m xs TT W) (hgr:(W.alloc o).grownBy w7 pv.ownBlock) (hat:pv.ownBlock=some g7\/g7=(W.alloc o).heap.size) (hown:w7.ownsRow w4.heap.size 24 32 (.slice (some ⟨g7,0,none⟩) (m+1) c7) (m+1) (z01 xs ++ z01 A)) (hb:b<w4.heap.size) (hg:g<w4.heap.size):PINV w4 base b g ok d (.slice (some ⟨g7,0,none⟩) (m+1) c7) (m+1) (xs ++ A) TT w7:=by
 obtain ⟨top,hm⟩:=h.met;have ht:=hm.htop;have hal:Below W.heap.size W (W.alloc o):=(Below.refl _ _).alloc (Nat.le_refl _) _;have hbk:∀ k,k<W.heap.size->pv.ownBlock≠some k->w7.heap[k]?=W.heap[k]?:=fun k h1 h2=>(hgr.block k (Nat.lt_of_lt_of_le h1 hal.size) (fun e=>h2 e.symm)).trans (hal.block k h1);have hst:=h.stp.size;refine ⟨⟨top,(hm.keepc (fun k h1 h2=>hbk k (by omega) (fun e=>?_)) (Nat.le_refl _) (by have:=hal.size;have:=hgr.size;omega)).sub fun k h1 h2=>⟨h2.1.1,fun e=>?_⟩⟩,by rw [z0x];exact hown,⟨hgr.os.trans (hal.os.trans h.stp.os),hgr.tape.trans (hal.tape.trans h.stp.tape),hgr.output.trans (hal.output.trans h.stp.output),by have:=hal.size;have:=hgr.size;omega,fun k h1 h2 h3=>(hbk k (by omega) (fun e=>by have:=(h.own.lt k e).1;omega)).trans (h.stp.block k h1 h2 h3)⟩⟩
 ·have:=(h.own.lt k e).1
  rcases h2 with h2 | h2 | h2
  ·omega
  ·omega
  ·exact h2.1.1.2 e
 ·have e:g7=k:=by simpa [Value.ownBlock] using e
  subst e;rcases hat with hat | hat
  ·exact h2.1.2 hat
  ·have:=hal.size
   omega
theorem zhe {l L:List Int} {m:Nat} (hl:l.length=32*m) (hL:L.length=32):HSH (l ++ L) m=L:=by
 unfold HSH;rw [<-hl,List.drop_left,List.take_of_length_le (by omega)]
theorem z7P (b off n c k:Nat) (hk:k<=c) (w:World):(Instr.slice 38 (.slice (some ⟨b,off,none⟩) n c) none (some (.int .i64 (k:Int))) none).run Tryz.prog w=.ok (.slice (some ⟨b,off,none⟩) k c) w:=by
 have k1:(k:Int)<=(c:Int):=by omega
 simp [go_sem,k1,Addr.add]
theorem z0j {m:Nat} (h:m<2 ^ 62):wrap64 (m:Int)=(m:Int):=by unfold wrap64;omega
theorem zhf {P:Nat} (h:P+1<9223372036854775807):IntKind.u64.wrap ((P:Int)+1)=((P+1:Nat):Int):=by rw [IntKind.wrap_u64];omega
structure SPOTP (d:Int) (F S:Nat) (t:List Int) (j h k:Nat):Prop where
 at_:(PXS F S)[j]?=some (h,k)
 node:Node h k
 start:Tile 0 ((PXS F S).take j) (k*2 ^ h)
 stop:Tile 0 ((PXS F S).take (j+1)) ((k+1)*2 ^ h)
 val:PXV d F S t h k=HSH t j
theorem zjq {d:Int} {F S:Nat} {t:List Int} (hFS:F<=S) (hS:S<=4611686018427387904) {j:Nat} (hj:j<(PXS F S).length):∃ h k,SPOTP d F S t j h k:=by
 obtain ⟨⟨h,k⟩,e⟩:∃ s,(PXS F S)[j]?=some s:=⟨_,List.getElem?_eq_getElem hj⟩
 have ht:=z1M hFS hS;obtain ⟨h1,h2,h3⟩:=zfe ht e;refine ⟨h,k,e,h3,h1,h2,?_⟩;unfold PXV;rw [z7D (List.mem_of_getElem? e),z2Y ht.off e _ hj (Nat.le_refl _)]
theorem z7Q {d:Int} {F S:Nat} {t:List Int} (ht:t.length=32*(PXS F S).length) (hr:∀ x∈t,0<=x/\x<=255) (ss:List (Nat × Nat)):(CAT (PXV d F S t) ss).length=32*ss.length/\∀ x∈CAT (PXV d F S t) ss,0<=x/\x<=255:=by
 have hv:=z52 (d:=d) ht hr (Nat.le_refl _);refine ⟨zdh fun s _=>(hv _ _).1,fun x hx=>?_⟩;obtain ⟨s,_,hx⟩:=List.mem_flatMap.1 hx;exact (hv _ _).2 x hx
theorem zaV (M:Nat->Nat->List Int) (ss:List (Nat × Nat)) (h k:Nat):CAT M (ss ++ [(h,k)])=CAT M ss ++ M h k:=by simp [CAT]
set_option maxHeartbeats 8000000 in
theorem zdQ (d:Int) (F S N:Nat) (t bl:List Int) (hF:0<F) (hFS:F<=S) (hS:S<=4611686018427387904) (hN:N=(PXS F S).length) (hD:DEX bl=(0,F,S,N,t)) (ba:Option Addr) (bn bc:Nat) (hbn:bn<=1000000) (hbc:bn<=bc) (w:World) (base top b g:Nat) (ok:Nat->Prop) (T:List (List Nat)) (hM:MET w base top ok b g d T) (hT:T.length<=50000) (hB:Bytes w ba bn bl) (hok:∀ i,w.heap.size<=i->ok i) (hX:∀ W,Below base w W->Tabled W/\HX.Tabled W/\2<W.heap.size):
    Calls Tryz.prog 20 #[.pointer (some ⟨b,0,none⟩),.slice ba bn bc] w fun e w'=>(∃ v,e=.returned v)/\MET w' base w'.heap.size ok b g d (PFXL d F S t ++ T)/\STEPM b g w w':=by
  have htp:=hM.htop;have hbb:=hM.hb;have hgg:=hM.hg;have hN188:N<=188:=by rw [hN];exact z2K hFS hS
  have hN0:0<N:=by
    rw [hN];refine Nat.pos_of_ne_zero fun e=>?_;have:=(z1M hFS hS).size;rw [List.eq_nil_of_length_eq_zero e] at this;have e:0+0=S:=this;omega
  have HA:Aside (0<F/\F<=S/\S<=4611686018427387904/\N=(PXS F S).length/\MET w base top ok b g d T/\T.length<=50000/\(∀ i,w.heap.size<=i->ok i)/\N<=188/\0<N):=⟨hF,hFS,hS,hN,hM,hT,hok,hN188,hN0⟩
  have HB:Aside (top<=w.heap.size/\(base<=b/\b<top)/\(base<=g/\g<top)/\b≠g):=⟨htp,hbb,hgg,hM.ne⟩
  have HTB:Aside (∀ W,Below base w W->Tabled W/\HX.Tabled W/\2<W.heap.size):=hX;have hX0:=hX w (Below.refl _ _);have c1:=z42 ba bn bc hbn bl w hB hbc hX0.1 (by omega);rw [hD] at c1;clear hF hFS hS hN hD hM hT hB hok hX htp hbb hgg hbn hbc hX0 hN188 hN0;go_enter Tryz.func20,Tryz.ntmps20;go_wp2_with fail
  refine c1.mono ?_;rintro e w1 ⟨v,rfl,hb1,hv⟩;clear c1;rcases hv with ⟨h, -⟩ | ⟨-,hF64,hS64,ht32,htr,gn,rfl,hgn,hHn⟩
  · exact absurd rfl h
  dsimp only at hF64 hS64 ht32 htr hHn ⊢;go_upto_region 1 with fail
  obtain ⟨w2,hw2⟩:∃ w2,w1.alloc (.cells #[.int .u64 (F:Int),.int .u64 (S:Int),.slice (some ⟨gn,0,none⟩) N N] 48)=w2:=⟨_,rfl⟩
  obtain ⟨b4,hb4⟩:∃ b4,w1.heap.size=b4:=⟨_,rfl⟩
  rw [hw2,hb4];have hb12:Below w1.heap.size w1 w2:=by rw [<-hw2];exact (Below.refl _ _).alloc (Nat.le_refl _) _
  have hb02:Below w.heap.size w w2:=hb1.trans (hb12.mono hb1.size);have k4:Has w2 b4 #[.int .u64 (F:Int),.int .u64 (S:Int),.slice (some ⟨gn,0,none⟩) N N] 48:=by rw [<-hw2,<-hb4];exact Has.new _ _ _
  have x0:w2.cell? ⟨b4,0,none⟩=some (.int .u64 (F:Int)):=k4.cell 0;have x1:w2.cell? ⟨b4,1,none⟩=some (.int .u64 (S:Int)):=k4.cell 1;have kn:Has w2 gn (z01 t).toArray 24:=hHn.keep hb12;have t2:=HTB.out w2 (hb02.mono (by have:=HB.out;omega));have c2:=z5m F S w2 t2.1 (by omega);rw [show PPA F S=(0,PLCS (PXS F S)) from if_neg (by have:=HA.out;omega)] at c2;dsimp only at c2;rw [z0u,<-HA.out.2.2.2.1] at c2;have R2:Aside (Below w.heap.size w w2/\Has w2 b4 #[.int .u64 (F:Int),.int .u64 (S:Int),.slice (some ⟨gn,0,none⟩) N N] 48/\Has w2 gn (z01 t).toArray 24/\t.length=32*N/\(∀ x∈t,0<=x/\x<=255)/\w.heap.size<=b4/\w.heap.size<=gn/\F<2 ^ 64/\S<2 ^ 64):=⟨hb02,k4,kn,ht32,htr,by have:=hb1.size;omega,hgn,hF64,hS64⟩
  clear hw2 hb4 hb1 hb12 hb02 k4 kn hHn hgn htr ht32 hS64 hF64 t2;go_wp2_with fail
  refine c2.mono ?_;rintro e w4 ⟨vp,rfl,hrow,hb4'⟩;clear c2 x0 x1;obtain ⟨ad,pcap,rfl,_,hsh⟩:=z2m hrow;obtain ⟨gp,rfl,hgp1,hgp2⟩:=hsh HA.out.2.2.2.2.2.2.2.2
  have R4:Aside (Below w.heap.size w w4/\Has w4 b4 #[.int .u64 (F:Int),.int .u64 (S:Int),.slice (some ⟨gn,0,none⟩) N N] 48/\Has w4 gn (z01 t).toArray 24/\w4.ownsRow w2.heap.size 22 1 (.slice (some ⟨gp,0,none⟩) N pcap) N (z04 (PLCS (PXS F S)))):=by
    have h:=R2.out;exact ⟨h.1.trans (hb4'.mono h.1.size),h.2.1.keep hb4',h.2.2.1.keep hb4',hrow⟩
  have RB:Aside (t.length=32*N/\(∀ x∈t,0<=x/\x<=255)/\w.heap.size<=b4/\b4<w4.heap.size/\w.heap.size<=gn/\gn<w4.heap.size/\w.heap.size<=gp/\gp<w4.heap.size/\F<2 ^ 64/\S<2 ^ 64/\w.heap.size<=w4.heap.size):=by
    have h:=R2.out;have h2:=R4.out;have:=h2.2.1.lt;have:=h2.2.2.1.lt;have:=h.1.size;have:=h2.1.size;exact ⟨h.2.2.2.1,h.2.2.2.2.1,h.2.2.2.2.2.1,by omega,h.2.2.2.2.2.2.1,by omega,by omega,hgp2,h.2.2.2.2.2.2.2.1,h.2.2.2.2.2.2.2.2,by omega⟩
  have M0:Aside (PINV w4 base b g ok d (.slice none 0 0) 0 (CAT (PXV d F S t) (SPAN 0 0)) (PTX (PXV d F S t) ((PXS F S).take 0) ++ T) w4):=by
    have q:=HB.out;have q2:=RB.out;have h2:=R4.out.1;exact ⟨⟨top,(HA.out.2.2.2.2.1.keep (fun i hi=>h2.block i (by omega)) (Nat.le_refl _) (by omega)).sub (fun i h1 h2=>⟨h2,fun e=>by cases e⟩)⟩,⟨rfl,.inl ⟨rfl,rfl⟩⟩,STEPM.refl _ _ _⟩
  clear hrow hgp1 hgp2 hsh hb4' R2;go_wp2_with fail
  go_loopg [8,28] N (fun q s8 s28 wx=>∃ (j m:Nat) (pa:Option Addr) (pc A:Nat),s8=.slice pa m pc/\s28=.int .i64 (j:Int)/\Aside (j+q=N/\Tile 0 ((PXS F S).take j) A/\m=(SPAN 0 A).length/\PINV w4 base b g ok d (.slice pa m pc) m (CAT (PXV d F S t) (SPAN 0 A)) (PTX (PXV d F S t) ((PXS F S).take j) ++ T) wx))
  case atStart=>exact ⟨0,0,none,0,0,rfl,rfl,by omega,rfl,rfl,M0.out⟩
  case round=>
    obtain ⟨j,m,pa,pc,A,rfl,rfl,A0⟩:=hrel;clear M0;cases gk with
    | zero=>
      obtain rfl:j=N:=by have:=A0.out.1;omega
      have hlt:¬ (j:Int)<(j:Int):=by omega
      have hAS:A=S:=by
        have h1:=A0.out.2.1;rw [List.take_of_length_le (by rw [<-HA.out.2.2.2.1];exact Nat.le_refl _)] at h1;exact zaJ h1 (z1M HA.out.2.1 HA.out.2.2.1)
      subst hAS;have M5:=A0.out.2.2.2;have hmP:=A0.out.2.2.1;rw [z0i HA.out.2.2.1] at hmP;subst hmP;rw [List.take_of_length_le (by rw [<-HA.out.2.2.2.1];exact Nat.le_refl _)] at M5;obtain ⟨top',hm⟩:=M5.met;have hmt:=hm.htop;obtain ⟨q1,q2,q3,q4,q5,q6,q7,q8,q9,q10,q11⟩:=RB.out;obtain ⟨y1,y2,y3,y4⟩:=HB.out;have hsz:=M5.stp.size;have hpF:0<PC F:=Nat.pos_of_ne_zero (fun h=>by have:=z1Z h;have:=HA.out;omega);have hpS:0<PC A:=Nat.pos_of_ne_zero (fun h=>by have:=z1Z h;have:=HA.out;omega);have hpF2:PC F<=64:=z0C 64 F (by omega);have hpS2:PC A<=64:=z0C 64 A (by omega)
      have hFN:PC F<=j:=by
        rw [HA.out.2.2.2.1,<-z0i (n:=F) (by have:=HA.out;omega)];unfold PXS;rw [List.length_append];omega
      have hbw5:Below base w wr:=(R4.out.1.mono (by omega)).trans ⟨M5.stp.os,M5.stp.tape,M5.stp.output,hsz,fun k hk=>M5.stp.block k (by omega) (by omega) (by omega)⟩;have k4:Has wr b4 #[.int .u64 (F:Int),.int .u64 (A:Int),.slice (some ⟨gn,0,none⟩) j j] 48:=(M5.stp.block b4 (by omega) (by omega) (by omega)).trans R4.out.2.1;have kn:Has wr gn (z01 t).toArray 24:=(M5.stp.block gn (by omega) (by omega) (by omega)).trans R4.out.2.2.1;obtain ⟨ad,cap,e,hcp,hsh⟩:=z2m M5.own;obtain ⟨gk,e2,hk1,hk2⟩:=hsh hpS;simp only [Value.slice.injEq] at e;obtain ⟨rfl, -,rfl⟩:=e;subst e2;have flF:Flat wr (some ⟨gn,0,none⟩) (PC F) (t.take (32*PC F)):=(z4R kn q1 q2).take hFN;have hcr:=(z7Q (d:=d) (F:=F) (S:=A) (t:=t) (by rw [<-HA.out.2.2.2.1];exact q1) q2 (SPAN 0 A)).2
      have hTl:(PTX (PXV d F A t) (PXS F A) ++ T).length<=80000:=by
        rw [List.length_append];have:=z53 (PXV d F A t) (PXS F A);have hh:=HA.out;omega
      have hok2:=HA.out.2.2.2.2.2.2.1;obtain ⟨okp,hokp⟩:∃ okp:Nat->Prop,okp=fun k=>ok k/\(Value.slice (some ⟨gk,0,none⟩) (PC A) pc).ownBlock≠some k:=⟨_,rfl⟩
      rw [<-hokp] at hm;have hop:∀ i,wr.heap.size<=i->okp i:=fun i hi=>by rw [hokp];exact ⟨hok2 i (by omega),fun e=>by have e:gk=i:=(by simpa [Value.ownBlock] using e);omega⟩
      have CB1:Aside (∀ W,Below wr.heap.size wr W->Calls Tryz.prog 47 #[.pointer (some ⟨b,0,none⟩),.int .u64 (F:Int),.slice (some ⟨gn,0,none⟩) (PC F) j] W fun e w'=>∃ v,e=.returned v/\(MET w' base w'.heap.size okp b g d (BAGL d F (PC F) (t.take (32*PC F)) ++ (PTX (PXV d F A t) (PXS F A) ++ T))/\STEPM b g wr w')):=fun W h=>by
        refine (z8l d F q9 gn 0 (PC F) j hpF (by omega) _ W base top' b g okp _ (hm.below h) (by omega) (flF.below h) ⟨by omega,by omega⟩ (fun i hi=>hop i (by have:=h.size;omega)) (fun W2 h2=>(HTB.out W2 (hbw5.trans ((h.mono (by omega)).trans h2))).2.1)).mono ?_;rintro e w' ⟨⟨v,rfl⟩,h1,h2⟩;exact ⟨v,rfl,h1,(STEPM.of_below h).trans h2⟩
      have CB2:Aside (∀ W,MET W base W.heap.size okp b g d (BAGL d F (PC F) (t.take (32*PC F)) ++ (PTX (PXV d F A t) (PXS F A) ++ T))->STEPM b g wr W->Calls Tryz.prog 47 #[.pointer (some ⟨b,0,none⟩),.int .u64 (A:Int),.slice (some ⟨gk,0,none⟩) (PC A) pc] W fun e w'=>(∃ v,e=.returned v)/\MET w' base w'.heap.size okp b g d (BAGL d A (PC A) (CAT (PXV d F A t) (SPAN 0 A)) ++ (BAGL d F (PC F) (t.take (32*PC F)) ++ (PTX (PXV d F A t) (PXS F A) ++ T)))/\STEPM b g W w'):=fun W hmW hsW=>by
        have hoW:W.ownsRow w4.heap.size 24 32 (.slice (some ⟨gk,0,none⟩) (PC A) pc) (PC A) (z01 (CAT (PXV d F A t) (SPAN 0 A))):=z5N M5.own fun k e=>hsW.block k (M5.own.lt k e).2 (by have:=(M5.own.lt k e).1;omega) (by have:=(M5.own.lt k e).1;omega);refine z8l d A q10 gk 0 (PC A) pc hpS (by omega) _ W base _ b g okp _ hmW ?_ (z1c hoW hcr) ⟨by omega,by omega⟩ (fun i hi=>hop i (by have:=hsW.size;omega)) (fun W2 h2=>(HTB.out W2 (hbw5.trans (Below.trans ⟨hsW.os,hsW.tape,hsW.output,hsW.size,fun k hk=>hsW.block k (by omega) (by omega) (by omega)⟩ h2))).2.1);rw [List.length_append,z6r];omega
      have FN:Aside (∀ w7 w8:World,STEPM b g wr w7->MET w8 base w8.heap.size okp b g d (BAGL d A (PC A) (CAT (PXV d F A t) (SPAN 0 A)) ++ (BAGL d F (PC F) (t.take (32*PC F)) ++ (PTX (PXV d F A t) (PXS F A) ++ T)))->STEPM b g w7 w8->MET w8 base w8.heap.size ok b g d (PFXL d F A t ++ T)/\STEPM b g w w8):=fun w7 w8 h7 m8 st8=>by
        refine ⟨?_,?_⟩
        · have:=m8.sub (ok':=ok) (fun i _ h=>by rw [hokp] at h;exact h.1)
          unfold PFXL;rw [List.append_assoc,List.append_assoc];exact this
        · exact ((STEPM.of_below R4.out.1).trans M5.stp).trans (h7.trans st8)
      have SB:Aside ((∀ W,Below wr.heap.size wr W->W.cell? ⟨b4,0,none⟩=some (.int .u64 (F:Int))/\W.cell? ⟨b4,2,none⟩=some (.slice (some ⟨gn,0,none⟩) j j))/\∀ W,STEPM b g wr W->W.cell? ⟨b4,0,none⟩=some (.int .u64 (F:Int))/\W.cell? ⟨b4,2,none⟩=some (.slice (some ⟨gn,0,none⟩) j j)/\W.cell? ⟨b4,1,none⟩=some (.int .u64 (A:Int))):=by
        refine ⟨fun W h=>⟨(k4.keep h).cell 0,(k4.keep h).cell 2⟩,fun W h=>?_⟩;have k:Has W b4 #[.int .u64 (F:Int),.int .u64 (A:Int),.slice (some ⟨gn,0,none⟩) j j] 48:=(h.block b4 k4.lt (by omega) (by omega)).trans k4;exact ⟨k.cell 0,k.cell 2,k.cell 1⟩
      have hsl:=z7P gn 0 j j (PC F) hFN
      have CO:Aside (∀ W,Below wr.heap.size wr W->Calls Tryz.prog 49 #[.int .u64 (F:Int)] W fun e w'=>e=.returned (.int .i64 (PC F:Int))/\Below wr.heap.size wr w'):=fun W h=>by
        have:=z2H F q9 W;rw [z5e q9] at this;refine this.mono ?_;rintro e w' ⟨rfl,rfl⟩;exact ⟨rfl,h⟩
      clear A0 M5 hm hmt hsz hpF hpS hpF2 hpS2 hFN hbw5 k4 kn hsh hk1 hk2 flF hcr hTl hok2 hop hokp hcp q1 q2 q3 q4 q5 q6 q7 q8 q9 q10 q11 y1 y2 y3 y4 R4;go_upto_region 14 with fail
      refine zh3 wr b b4 gn j j (PC F) F hsl (fun W=>Below wr.heap.size wr W) (fun W=>Below wr.heap.size wr W) (fun W=>MET W base W.heap.size okp b g d (BAGL d F (PC F) (t.take (32*PC F)) ++ (PTX (PXV d F A t) (PXS F A) ++ T))/\STEPM b g wr W) (Below.refl _ _).drew (fun W h=>SB.out.1 W h) (fun W h=>SB.out.1 W h) (fun W h=>⟨(SB.out.2 W h.2).1,(SB.out.2 W h.2).2.1⟩) CO.out CB1.out (fun _ _ _ _ _ h=>h) ?_;rintro v w7 ⟨m7,st7⟩;have x1:w7.cell? ⟨b4,1,none⟩=some (.int .u64 (A:Int)):=(SB.out.2 w7 st7).2.2;have c7:=CB2.out w7 m7 st7;clear CB1 CB2 SB CO m7 hsl;go_wp2_with fail
      refine c7.mono ?_;rintro e w8 ⟨⟨v,rfl⟩,m8,st8⟩;clear c7 x1;have FF:=FN.out w7 w8 st7 m8 st8;clear m8 st8 st7 FN;go_wp2;go_end0
      exact ⟨⟨_,rfl⟩,FF⟩
    | succ q=>
      obtain ⟨q1,q2,q3,q4,q5,q6,q7,q8,q9,q10,q11⟩:=RB.out;obtain ⟨y1,y2,y3,y4⟩:=HB.out;have hjN:j<N:=by have:=A0.out.1;omega
      have HJ:Aside (j+1+q=N):=by have:=A0.out.1;show j+1+q=N;omega
      have hlt:(j:Int)<(N:Int):=by omega
      obtain ⟨h,k,SPT⟩:=zjq (d:=d) (t:=t) HA.out.2.1 HA.out.2.2.1 (j:=j) (by rw [<-HA.out.2.2.2.1];exact hjN);have hAe:A=k*2 ^ h:=zaJ A0.out.2.1 SPT.start;have M4:=A0.out.2.2.2
      have hcell:wr.cell? ⟨gp,j,none⟩=some (.int .u64 ((PLC h k:Nat):Int)):=by
        rw [World.cell?_of_block (w:=w4) (by exact M4.stp.block gp (by omega) (by omega) (by omega)),R4.out.2.2.2.cellAt j (by omega)];simp [z04,PLCS,SPT.at_]
      have x2:wr.cell? ⟨b4,2,none⟩=some (.slice (some ⟨gn,0,none⟩) N N):=(World.cell?_of_block (w:=w4) (by exact M4.stp.block b4 (by omega) (by omega) (by omega))).trans (R4.out.2.1.cell 2);have kn:Has wr gn (z01 t).toArray 24:=(M4.stp.block gn (by omega) (by omega) (by omega)).trans R4.out.2.2.1;have hrg:wr.rangeAt gn (0+j*32) (z01 (HSH t j)):=(z4R kn q1 q2).at hjN;rw [Nat.zero_add] at hrg;have l32:(HSH t j).length=32:=z16 q1 hjN;obtain ⟨c,hc⟩:∃ c,TRO 64 k=c:=⟨_,rfl⟩
      have hTS:=zaI (f:=64) (k:=k) (by have:=SPT.node.2;exact Nat.lt_of_lt_of_le this (Nat.pow_le_pow_right (by decide) (by omega)));rw [hc] at hTS;have Q0:Aside (QINV w4 base b g ok d wr.heap.size (HSH t j) (.slice pa m pc) m (CAT (PXV d F S t) (SPAN 0 A)) (PTX (PXV d F S t) ((PXS F S).take j) ++ T) (wr.alloc (.cells (z01 (HSH t j)).toArray 24))):=M4.begin;have SP:Aside (SPOTP d F S t j h k/\TRO 64 k=c/\ODDS k c/\k / 2 ^ c % 2=0/\A=k*2 ^ h/\m=(SPAN 0 A).length):=⟨SPT,hc,hTS.1,hTS.2,hAe,A0.out.2.2.1⟩
      have EJ:Aside (wrap64 ((j:Int)+1)=((j+1:Nat):Int)):=by show wrap64 ((j:Int)+1)=((j+1:Nat):Int);unfold wrap64;have:=HA.out;omega
      clear SPT hAe M4 kn hTS hc A0 q1 q2 q3 q4 q5 q6 q7 q8 q9 q10 q11 y1 y2 y3 y4 hjN;generalize hY:HSH t j=Y at *
      obtain ⟨P0,hP0⟩:∃ P,PLC h k=P:=⟨_,rfl⟩
      rw [hP0] at hcell
      go_wp2_with (first
        | (refine wpList_load_mid rfl 24 (.tmp 36) rfl gn (j*32) rfl (z01 Y) _ hrg Tryz.underlying24 rfl (z09 l32) ?_)
        | (refine wpList_store_row rfl 24 (.tmp 11) (.tmp 37) rfl _ _ rfl rfl 24 _ (Has.new wr _ _) (z02 l32) (by simp [z01,l32]) (z0k Y) ?_;rw [World.setRow_alloc_new])
        | fail)
      generalize wr.alloc (.cells (z01 Y).toArray 24)=w5 at *
      obtain ⟨x,hx⟩:∃ x,wr.heap.size=x:=⟨_,rfl⟩
      rw [hx] at Q0 ⊢
      have I0:Aside (Node (h+0) (k / 2 ^ 0)/\(k / 2 ^ 0+1)*2 ^ (h+0)=(k+1)*2 ^ h/\m=(SPAN 0 (k / 2 ^ 0*2 ^ (h+0))).length/\PLC (h+0) (k / 2 ^ 0)=P0/\QINV w4 base b g ok d x (PXV d F S t (h+0) (k / 2 ^ 0)) (.slice pa m pc) m (CAT (PXV d F S t) (SPAN 0 (k / 2 ^ 0*2 ^ (h+0)))) (JR (PXV d F S t) h k 0 ++ (PTX (PXV d F S t) ((PXS F S).take j) ++ T)) w5):=by
        have z:=SP.out;unfold Aside;rw [Nat.pow_zero,Nat.div_one,Nat.add_zero,z.1.val,hY,<-z.2.2.2.2.1];exact ⟨z.1.node,rfl,z.2.2.2.2.2,hP0,Q0.out⟩
      clear hcell x2 hrg l32 Q0 hx hP0 hlt;simp only [Act.put];go_loopg [8,10] c (fun q' s8 s10 wx=>∃ (i m:Nat) (pa:Option Addr) (pc P:Nat),s8=.slice pa m pc/\s10=.int .u64 (P:Int)/\Aside (i+q'=c/\Node (h+i) (k / 2 ^ i)/\(k / 2 ^ i+1)*2 ^ (h+i)=(k+1)*2 ^ h/\m=(SPAN 0 (k / 2 ^ i*2 ^ (h+i))).length/\PLC (h+i) (k / 2 ^ i)=P/\QINV w4 base b g ok d x (PXV d F S t (h+i) (k / 2 ^ i)) (.slice pa m pc) m (CAT (PXV d F S t) (SPAN 0 (k / 2 ^ i*2 ^ (h+i)))) (JR (PXV d F S t) h k i ++ (PTX (PXV d F S t) ((PXS F S).take j) ++ T)) wx))
      case atStart=>exact ⟨0,m,pa,pc,P0,rfl,rfl,by omega,I0.out⟩
      case round=>
        obtain ⟨i,m,pa,pc,P,rfl,rfl,B0⟩:=hrel;clear I0;have cR:=z2v (h+i) (k / 2 ^ i) B0.out.2.1 wr;rw [B0.out.2.2.2.2.1] at cR;cases gk with
        | zero=>
          obtain rfl:i=c:=by have:=B0.out.1;omega
          have hr:decide (k / 2 ^ i % 2=1)=false:=decide_eq_false (by have:=SP.out.2.2.2.1;omega);rw [hr] at cR;have QB:=B0.out.2.2.2.2.2;have NB:Aside (Node (h+i) (k / 2 ^ i)/\(k / 2 ^ i+1)*2 ^ (h+i)=(k+1)*2 ^ h/\m=(SPAN 0 (k / 2 ^ i*2 ^ (h+i))).length):=⟨B0.out.2.1,B0.out.2.2.1,B0.out.2.2.2.1⟩
          clear B0 hr;generalize hY2:PXV d F S t (h+i) (k / 2 ^ i)=Y2 at *
          have lY:Y2.length=32:=by rw [<-hY2];exact (z52 (d:=d) RB.out.1 RB.out.2.1 (by have:=HA.out.2.2.2.1;omega) _ _).1
          have hm124:m<=124:=by
            have:=z6R NB.out.1;have hle:k / 2 ^ i*2 ^ (h+i)<=(k / 2 ^ i+1)*2 ^ (h+i):=Nat.mul_le_mul_right _ (Nat.le_succ _);rw [NB.out.2.2];exact z1L (Nat.le_trans hle this)
          have HM:Aside (m<=124):=hm124;clear hm124;go_wp2_with fail
          refine cR.mono ?_;rintro e w6 ⟨rfl,hb6⟩;clear cR;have QC:Aside (QINV w4 base b g ok d x Y2 (.slice pa m pc) m (CAT (PXV d F S t) (SPAN 0 (k / 2 ^ i*2 ^ (h+i)))) (JR (PXV d F S t) h k i ++ (PTX (PXV d F S t) ((PXS F S).take j) ++ T)) w6):=QB.below hb6;have kx:=QC.out.acc;clear QB hb6
          go_wp2_with (first
            | (refine wpList_load_row rfl 24 (.tmp 11) rfl x rfl 24 (z01 Y2).toArray (0,0) _ kx Tryz.underlying24 rfl (z02 lY) ?_)
            | (refine z1B _ rfl 38 24 (.tmp 57) rfl (z01 Y2).toArray rfl 32 _ _ Tryz.underlying38 z1A (by simp [z01,lY]) rfl (by decide) (by decide) ?_)
            | (at_builtin;refine z2V _ rfl (.tmp 56) (.tmp 58) rfl w4.heap.size (.slice pa m pc) m _ rfl (QC.out.own.alloc _) _ 1 Y2 lY rfl (Has.new _ _ _) (by have:=HM.out;omega) (by have:=QC.out.stp.size;simp;omega) ?_;intro g7 c7 w7 hown hgrow hat hg7)
            | fail)
          have Z:Aside (Tile 0 ((PXS F S).take (j+1)) ((k+1)*2 ^ h)/\m+1=(SPAN 0 ((k+1)*2 ^ h)).length/\PINV w4 base b g ok d (.slice (some ⟨g7,0,none⟩) (m+1) c7) (m+1) (CAT (PXV d F S t) (SPAN 0 ((k+1)*2 ^ h))) (PTX (PXV d F S t) ((PXS F S).take (j+1)) ++ T) w7):=by
            have z:=SP.out;have nb:=NB.out;have hB:=HB.out;have hsz:=RB.out;have:=QC.out.push hgrow hat hown (by omega) (by omega);have e1:=z95 nb.1 z.2.2.2.1;rw [nb.2.1] at e1;refine ⟨z.1.stop,by rw [e1,List.length_append,<-nb.2.2];rfl,?_⟩;rw [e1,zaV,hY2,List.take_add_one,z.1.at_,Option.toList_some,zaK,z.2.1,List.append_assoc];exact this
          clear hown hgrow hat hg7 QC kx lY NB SP HM;go_wp2;go_roundg q
          case measure=>exact Nat.lt_succ_self _
          case rel=>exact ⟨j+1,m+1,some ⟨g7,0,none⟩,c7,(k+1)*2 ^ h,rfl,by first | rfl | (rw [EJ.out]),HJ.out,Z.out⟩
        | succ q'=>
          have hi1:i+1+q'=c:=by have:=B0.out.1;omega
          have ho:k / 2 ^ i % 2=1:=SP.out.2.2.1 i (by omega);rw [decide_eq_true ho] at cR;have hc64:c<=64:=by rw [<-SP.out.2.1];exact zaH _ _
          have htl:t.length=32*(PXS F S).length:=by rw [<-HA.out.2.2.2.1];exact RB.out.1
          have e1:=zh4 B0.out.2.1 ho;have v:=z52 (d:=d) htl RB.out.2.1 (Nat.le_refl _);have hup:=zjp (d:=d) (z1M HA.out.2.1 HA.out.2.2.1).off (l:=t) (List.mem_of_getElem? SP.out.1.at_) ho
          have NX:Aside (Node (h+(i+1)) (k / 2 ^ (i+1))/\(k / 2 ^ (i+1)+1)*2 ^ (h+(i+1))=(k+1)*2 ^ h/\PLC (h+(i+1)) (k / 2 ^ (i+1))=P+1):=by
            have e2:=zia (h:=h+i) ho;have e3:=B0.out.2.1.odd_up ho;have e4:=ziW (h:=h+i) ho;rw [z41] at e2 e3 e4;exact ⟨e3,e2.trans B0.out.2.2.1,by rw [<-B0.out.2.2.2.2.1];exact e4⟩
          rw [z41] at e1;obtain ⟨SS,hSS⟩:∃ SS,SPAN 0 (k / 2 ^ (i+1)*2 ^ (h+i+1))=SS:=⟨_,rfl⟩
          rw [hSS] at e1
          have hSl:SS.length<=124:=by
            rw [<-hSS];have:=z6R NX.out.1;exact z1L (Nat.le_trans (Nat.mul_le_mul_right _ (Nat.le_succ _)) this)
          have QB:=B0.out.2.2.2.2.2;have hm:=B0.out.2.2.2.1;rw [e1,zaV] at QB;rw [e1,List.length_append] at hm;obtain ⟨m',hm'⟩:∃ m',SS.length=m':=⟨_,rfl⟩
          obtain rfl:m=m'+1:=by rw [hm,hm'];rfl
          have hxl:=(z7Q (d:=d) htl RB.out.2.1 SS).1;have hxr:=(z7Q (d:=d) htl RB.out.2.1 SS).2;rw [hm'] at hxl hSl;have hLi:IsH (PXV d F S t (h+i) (k / 2 ^ i - 1)):=v _ _;have hAi:IsH (PXV d F S t (h+i) (k / 2 ^ i)):=v _ _;obtain ⟨TT,hTT⟩:∃ TT,JR (PXV d F S t) h k i ++ (PTX (PXV d F S t) ((PXS F S).take j) ++ T)=TT:=⟨_,rfl⟩
          have hTl:TT.length<=100000:=by
            rw [<-hTT,List.length_append,z5C,List.length_append];have:=z53 (PXV d F S t) ((PXS F S).take j);have hh:=HA.out;rw [List.length_take] at this;omega
          have hTX:JR (PXV d F S t) h k (i+1) ++ (PTX (PXV d F S t) ((PXS F S).take j) ++ T)=z0t (PXV d F S t (h+i) (k / 2 ^ i - 1)) (PXV d F S t (h+i) (k / 2 ^ i)) :: TT:=by rw [<-hTT];rfl
          rw [hTT] at QB;have hup:z0o d (PXV d F S t (h+i) (k / 2 ^ i - 1)) (PXV d F S t (h+i) (k / 2 ^ i))=PXV d F S t (h+(i+1)) (k / 2 ^ (i+1)):=hup;have hSS2:SPAN 0 (k / 2 ^ (i+1)*2 ^ (h+(i+1)))=SS:=hSS;generalize hxs:CAT (PXV d F S t) SS=xs at *
          have RL:Aside (∀ wx gk pc,QINV w4 base b g ok d x (z0o d (PXV d F S t (h+i) (k / 2 ^ i - 1)) (PXV d F S t (h+i) (k / 2 ^ i))) (.slice (some ⟨gk,0,none⟩) m' pc) m' xs (z0t (PXV d F S t (h+i) (k / 2 ^ i - 1)) (PXV d F S t (h+i) (k / 2 ^ i)) :: TT) wx->i+1+q'=c/\Node (h+(i+1)) (k / 2 ^ (i+1))/\(k / 2 ^ (i+1)+1)*2 ^ (h+(i+1))=(k+1)*2 ^ h/\m'=(SPAN 0 (k / 2 ^ (i+1)*2 ^ (h+(i+1)))).length/\PLC (h+(i+1)) (k / 2 ^ (i+1))=P+1/\QINV w4 base b g ok d x (PXV d F S t (h+(i+1)) (k / 2 ^ (i+1))) (.slice (some ⟨gk,0,none⟩) m' pc) m' (CAT (PXV d F S t) (SPAN 0 (k / 2 ^ (i+1)*2 ^ (h+(i+1))))) (JR (PXV d F S t) h k (i+1) ++ (PTX (PXV d F S t) ((PXS F S).take j) ++ T)) wx):=fun wx gk pc hq=>by
            rw [hTX,hSS2,<-hup,hm'];exact ⟨hi1,NX.out.1,NX.out.2.1,rfl,NX.out.2.2,hxs ▸ hq⟩
          generalize PXV d F S t (h+i) (k / 2 ^ i - 1)=L at *
          generalize PXV d F S t (h+i) (k / 2 ^ i)=A2 at *
          obtain ⟨ad,cap,e,hcp,hsh⟩:=z2m QB.own;obtain ⟨gk,e2,hk1,hk2⟩:=hsh (by omega);simp only [Value.slice.injEq] at e;obtain ⟨rfl, -,rfl⟩:=e;subst e2
          have hr2:∀ y∈xs ++ L,0<=y/\y<=255:=fun y hy=>by
            rcases List.mem_append.1 hy with hy | hy
            · exact hxr y hy
            · exact hLi.2 y hy
          have hPN:=NX.out.1.lt;rw [NX.out.2.2] at hPN;have hm1:(m':Int)<((m'+1:Nat):Int):=by omega
          have hm2:(m':Int)<=(pc:Int):=by omega
          have hm3:m'<2 ^ 62:=by omega
          have hsl:=z7P gk 0 (m'+1) pc m' (by omega);have eP:=zhf hPN;have eL:=z0j hm3;have HX2:Aside (0=0/\xs.length=32*m'/\IsH L/\IsH A2/\TT.length<=100000/\m'+1<=pc):=⟨rfl,hxl,hLi,hAi,hTl,hcp⟩
          have EQ:Aside (IntKind.u64.wrap ((P:Int)+1)=((P+1:Nat):Int)):=eP;clear B0 e1 v NX hSS hxs hSl hm hm' hxl hxr hTT hTl hTX hup hSS2 hsh hi1 ho hc64 htl hcp hPN eP hm3;go_wp2_with fail
          refine cR.mono ?_;rintro e w5 ⟨rfl,hb5⟩;clear cR;have Q5:=QB.below hb5
          have hat:w5.rangeAt gk (0+m'*32) (z01 L):=by
            have:=(z1c Q5.own hr2).at (i:=m') (by omega)
            rwa [zhe HX2.out.2.1 HX2.out.2.2.1.1] at this
          have hs5:=Q5.stp.size;obtain ⟨y1,y2,y3,y4⟩:=HB.out;obtain ⟨q1,q2,q3,q4,q5,q6,q7,q8,q9,q10,q11⟩:=RB.out;have hgk:=Q5.own.lt gk rfl;have hxk:gk≠x:=fun e=>Q5.ne (by rw [<-e];rfl);obtain ⟨top',hmt⟩:=Q5.met;have hmtt:=hmt.htop;have hbw5:Below base w w5:=(R4.out.1.mono (by omega)).trans ⟨Q5.stp.os,Q5.stp.tape,Q5.stp.output,hs5,fun k hk=>Q5.stp.block k (by omega) (by omega) (by omega)⟩;have b65:∀ W:World,W.heap[gk]?=w5.heap[gk]?->W.rangeAt gk (0+m'*32) (z01 L):=fun W h=>fun i v hv=>(World.cell?_of_block (w:=w5) (by exact h)).trans (hat i v hv)
          have SB:Aside ((∀ W,Below w5.heap.size w5 W->W.rangeAt gk (0+m'*32) (z01 L))/\(∀ W,STEPM b g w5 W->W.rangeAt gk (0+m'*32) (z01 L))/\∀ W (c:Array Value),STEPM b g w5 W->(W.setRow x c).rangeAt gk (0+m'*32) (z01 L)):=
            ⟨fun W h=>b65 W (h.block gk hgk.2),fun W h=>b65 W (h.block gk hgk.2 (by omega) (by omega)),fun W c h=>b65 _ ((setRow_other W x gk c hxk).trans (h.block gk hgk.2 (by omega) (by omega)))⟩
          have K10:Aside ((∀ W,Below w5.heap.size w5 W->Has W x (z01 A2).toArray 24)/\∀ W,STEPM b g w5 W->Has W x (z01 A2).toArray 24):=⟨fun W h=>Q5.acc.keep h,fun W h=>(h.block x Q5.acc.lt (by have:=Q5.ge;omega) (by have:=Q5.ge;omega)).trans Q5.acc⟩
          have hok2:=HA.out.2.2.2.2.2.2.1;have hL:=HX2.out.2.2.1;have hA:=HX2.out.2.2.2.1;have cF:∀ W,Below w5.heap.size w5 W->Calls Tryz.prog 46 #[.agg (z01 L).toArray,.agg (z01 A2).toArray] W fun e w'=>∃ (gt:Nat) (c:Nat),e=.returned (.slice (some ⟨gt,0,none⟩) 65 c)/\(w5.heap.size<=gt/\OWNT w' base gt c (z0t L A2)/\Below w5.heap.size w5 w'):=fun W h=>(z6Q L A2 hL hA W base (by have:=h.size;omega)).mono fun e w' ⟨gt,c',h1,h2,h3,h4⟩=>⟨gt,c',h1,by have:=h.size;omega,h3,h.trans (h4.mono h.size)⟩
          have cT:∀ gt c' w1,(w5.heap.size<=gt/\OWNT w1 base gt c' (z0t L A2)/\Below w5.heap.size w5 w1)->Calls Tryz.prog 45 #[.pointer (some ⟨b,0,none⟩),.slice (some ⟨gt,0,none⟩) 65 c'] w1 fun e w'=>e=.returned (.agg (z01 (z0o d L A2)).toArray)/\(∃ t2,MET w' base t2 (fun k=>(ok k/\some gk≠some k)/\k≠x) b g d ((z0t L A2) :: TT))/\STEPM b g w5 w':=fun gt c' w1 h=>
            (z3N d w1 base top' b g _ TT (hmt.below h.2.2) HX2.out.2.2.2.2.1 gt c' 65 (z0t L A2) (z2N _ _) h.2.1 (by omega) ⟨⟨hok2 gt (by omega),fun e=>by have e:gk=gt:=(by simpa [Value.ownBlock] using e);omega⟩,by have:=Q5.acc.lt;omega⟩ (HTB.out w1 (hbw5.trans (h.2.2.mono (by omega)))).2.1 (z0o d L A2) rfl).mono fun e w' h3=>⟨h3.1,⟨_,h3.2.1⟩,(STEPM.of_below h.2.2).trans h3.2.2⟩
          have PO:Aside (∀ w2:World,((∃ t2,MET w2 base t2 (fun k=>(ok k/\some gk≠some k)/\k≠x) b g d ((z0t L A2) :: TT))/\STEPM b g w5 w2)->QINV w4 base b g ok d x (z0o d L A2) (.slice (some ⟨gk,0,none⟩) m' pc) m' xs (z0t L A2 :: TT) (w2.setRow x (z01 (z0o d L A2)).toArray)):=fun w2 h=>Q5.turn HX2.out.2.1 h.1 h.2 (by omega) (by omega);clear Q5 hat hs5 hgk hxk hmt hmtt hbw5 b65 hok2 QB hb5 q1 q2 q3 q4 q5 q6 q7 q8 q9 q10 q11 y1 y2 y3 y4 hk1 hk2 hr2 hLi hAi;go_upto_region 10 with fail
          rw [eL]
          refine zh2 w5 b x gk 0 (m'+1) pc m' L A2 (z0o d L A2) hL.1 hA.1 (z1r _ _ _).1 hm1 (fun W=>Below w5.heap.size w5 W) (fun gt c' W=>w5.heap.size<=gt/\OWNT W base gt c' (z0t L A2)/\Below w5.heap.size w5 W) (fun W=>(∃ t2,MET W base t2 (fun k=>(ok k/\some gk≠some k)/\k≠x) b g d ((z0t L A2) :: TT))/\STEPM b g w5 W) (fun W=>∃ w2,((∃ t2,MET w2 base t2 (fun k=>(ok k/\some gk≠some k)/\k≠x) b g d ((z0t L A2) :: TT))/\STEPM b g w5 w2)/\W=w2.setRow x (z01 (z0o d L A2)).toArray)
            (Below.refl _ _).drew (fun W h=>SB.out.1 W h) (fun gt c' W h=>SB.out.1 W h.2.2) (fun W h=>SB.out.2.1 W h.2) (fun W h=>by obtain ⟨w2,h1,rfl⟩:=h;exact SB.out.2.2 w2 _ h1.2) (fun W h=>z0D (K10.out.1 W h)) cF cT (fun W h=>K10.out.2 W h.2) (fun W h=>⟨W,h,rfl⟩) (fun _ _ _ _ _ h=>h) ?_
          rintro gt c' W ⟨w2,h1,rfl⟩;have Z:Aside (QINV w4 base b g ok d x (z0o d L A2) (.slice (some ⟨gk,0,none⟩) m' pc) m' xs (z0t L A2 :: TT) (w2.setRow x (z01 (z0o d L A2)).toArray)):=PO.out w2 h1;clear cF cT PO h1 SB K10 hm1 eL;generalize w2.setRow x (z01 (z0o d L A2)).toArray=w6 at *
          have eP:=EQ.out;go_wp2;go_roundg q'
          case measure=>exact Nat.lt_succ_self _
          case rel=>exact ⟨i+1,m',some ⟨gk,0,none⟩,pc,P+1,rfl,by first | rfl | (rw [EQ.out]),RL.out _ _ _ Z.out⟩
end Go.Proofs.YtdggkbpabjgdfaaGreatDoor
