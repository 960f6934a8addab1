/- FindProves: part 35. -/
import Derived.Test.YtlbcnaenhghieaaGreatDoorFindProvesP22
import Derived.Test.YtlbcnaenhghieaaGreatDoorFindProvesP34
namespace Go.Proofs.YtlbcnaenhghieaaGreatDoor
open Go.RowKit
set_option maxRecDepth 100000
def TVAL (d:Int) (f:Nat->Nat->Nat) (h k:Nat):List Int:=LST (HX.VAL d f h k)
theorem zaY {d:Int} {f:Nat->Nat->Nat} {n h k:Nat} (hf:∀ k,k<n->∀ i,f k i<256) (hk:(k+1)*2 ^ h<=n):IsH (TVAL d f h k):=zdD fun i=>HX.z4J hf h k hk i
theorem z92 {w:World} {B g:Nat} {d:Int} {log n h k:Nat} {C:HX.z01} {f:Nat->Nat->Nat} (hF:HX.FOREST w B g d log n C f) (hs:(k+1)*2 ^ h<=n):HX.GOTH C log (z02 n) (PLC h k)=HX.VAL d f h k/\HX.GOT C log (z02 n) (PLC h k)=0:=by
 have h1:=z6D hs;unfold HX.GOTH HX.GOT;rw [if_pos h1,if_pos h1,hF.node h k hs];exact ⟨rfl,rfl⟩
def INN (ss:List (Nat × Nat)) (n:Nat):Prop:=∀ s∈ss,(s.2+1)*2 ^ s.1<=n
theorem zfI {ss:List (Nat × Nat)} {p:Nat} (h:p∈PLCS ss):∃ s∈ss,p=PLC s.1 s.2:=by
 unfold PLCS at h;obtain ⟨s,hs,e⟩:=List.mem_map.1 h;exact ⟨s,hs,e.symm⟩
theorem z93 {w:World} {B g:Nat} {d:Int} {log n:Nat} {C:HX.z01} {f:Nat->Nat->Nat} (hF:HX.FOREST w B g d log n C f):∀ (ss:List (Nat × Nat)),INN ss n->∀ j,j<=ss.length->TFL (fun p=>LST (HX.GOTH C log (z02 n) p)) (PLCS ss) j=CAT (TVAL d f) (ss.take j)
 | ss,hs,0,_=>by simp [TFL,CAT]
 | ss,hs,j+1,hj=>by
   obtain ⟨s,e⟩:∃ s,ss[j]?=some s:=⟨_,List.getElem?_eq_getElem (by omega)⟩
   obtain ⟨h,k⟩:=s;rw [z91,z93 hF ss hs j (by omega),zfl e,zar e,(z92 hF (hs _ (List.mem_of_getElem? e))).1];rfl
def zhG (w:World) (d:Int) (f:Nat->Nat->Nat) (ss:List (Nat × Nat)) (X Y:Nat) (e:Ending) (w':World):Prop:=
 ∃ a c,e=.returned (.tuple #[.agg #[.int .u64 (X:Int),.int .u64 (Y:Int),.slice a ss.length c],.int .i64 0])/\w'.ownsRow w.heap.size 25 32 (.slice a ss.length c) ss.length (z00 (CAT (TVAL d f) ss))/\Below w.heap.size w w'
theorem TMADE.tree {w0 w w':World} {B g:Nat} {d:Int} {log n:Nat} {C:HX.z01} {f:Nat->Nat->Nat} (hF:HX.FOREST w0 B g d log n C f) {ss:List (Nat × Nat)} (hs:INN ss n) {X Y:Nat} {e:Ending} (h:TMADE w (fun p=>LST (HX.GOTH C log (z02 n) p)) (HX.GOT C log (z02 n)) (0,PLCS ss) X Y e w'):zhG w d f ss X Y e w':=by
 obtain ⟨hb,h⟩:=h
 have hz:∀ p∈PLCS ss,HX.GOT C log (z02 n) p=0:=fun p hp=>by
  obtain ⟨s,h1,rfl⟩:=zfI hp;exact (z92 hF (hs s h1)).2
 rcases h with ⟨h1,_⟩ | ⟨_,_,u,rfl,hu⟩ | ⟨_,j,hj,_,h1,_⟩
 ·exact absurd rfl h1
 ·dsimp only at hu
  rw [z3n,z93 hF ss hs _ (Nat.le_refl _),List.take_length] at hu;rcases hu.2 with ⟨e,h0⟩ | ⟨g,cap,cur,e,_⟩
  ·subst e
   refine ⟨none,0,by rw [h0],?_,hb⟩;rw [h0] at hu ⊢;exact hu
  ·subst e
   exact ⟨_,cap,rfl,hu,hb⟩
 ·refine absurd (hz _ ?_) h1
  dsimp only at hj ⊢;rw [List.getD_eq_getElem?_getD,List.getElem?_eq_getElem hj];exact List.getElem_mem _
def HOW (P:Nat->Bool):Nat->Nat
 | 0=>0
 | n+1=>HOW P n+if P n then 1 else 0
theorem zaZ {P:Nat->Bool}:∀ {n:Nat},(∀ p,p<n->P p=true)->HOW P n=n
 | 0,_=>rfl
 | n+1,h=>by rw [HOW,zaZ fun p hp=>h p (by omega),h n (by omega)];rfl
theorem z7w {P Q:Nat->Bool}:∀ {n:Nat},(∀ p,p<n->P p=Q p)->HOW P n=HOW Q n
 | 0,_=>rfl
 | n+1,h=>by rw [HOW,HOW,z7w fun p hp=>h p (by omega),h n (by omega)]
theorem zdP (P:Nat->Bool):∀ n,HOW P n<=n
 | 0=>Nat.le_refl _
 | n+1=>by
   have:=zdP P n;rw [HOW];split <;> omega
theorem z5A {P Q:Nat->Bool} {p:Nat} (hP:P p=true) (hQ:Q p=false) (he:∀ q,q≠p->Q q=P q):∀ {n:Nat},p<n->HOW Q n+1=HOW P n
 | 0,h=>by omega
 | n + 1,h=>by
   rw [HOW,HOW];by_cases e:p=n
   ·subst e
    rw [hP,hQ,z7w (P:=Q) (Q:=P) fun q hq=>he q (by omega)];rfl
   ·have:=z5A hP hQ he (n:=n) (by omega)
    rw [he n (fun e'=>e e'.symm)];omega
structure TWIN (C:HX.z01) (log len alive:Nat) (l:List RND):Prop where
 long:l.length=len
 yes:∀ p f,p<len->HX.AT C log p=some f->l[p]?=some ⟨LST f,true,0⟩
 no:∀ p,p<len->HX.AT C log p=none->l[p]?=some ZRN
 count:alive=HOW (fun p=>(HX.AT C log p).isSome) len
theorem TWIN.got {C:HX.z01} {log len alive:Nat} {l:List RND} (h:TWIN C log len alive l) (p:Nat):HX.GOT C log len p=(RGOT l p).1/\LST (HX.GOTH C log len p)=(RGOT l p).2:=by
 unfold HX.GOT HX.GOTH RGOT;by_cases hp:p<len
 ·rw [if_pos hp,if_pos hp]
  cases hA:HX.AT C log p with
  | none=>rw [h.no p hp hA];exact ⟨rfl,rfl⟩
  | some f=>rw [h.yes p f hp hA];exact ⟨rfl,rfl⟩
 ·rw [if_neg hp,if_neg hp,List.getElem?_eq_none (by rw [h.long];omega)]
  exact ⟨rfl,rfl⟩
theorem TWIN.far {C:HX.z01} {log len alive p:Nat} {l:List RND} (h:TWIN C log len alive l) (hp:len<=p):RDRP l p=31:=by
 unfold RDRP;rw [List.getElem?_eq_none (by rw [h.long];exact hp)]
theorem TWIN.near {C:HX.z01} {log len alive p:Nat} {l:List RND} (h:TWIN C log len alive l) (hp:p<len):RDRP l p=0:=by
 unfold RDRP;cases hA:HX.AT C log p with
 | none=>rw [h.no p hp hA];rfl
 | some f=>rw [h.yes p f hp hA];rfl
theorem TWIN.dead {C:HX.z01} {log len alive p:Nat} {l:List RND} (h:TWIN C log len alive l) (hp:p<len) (hA:HX.AT C log p=none):TWIN C log len alive (l.set p ZRN):=by
 have e:l.set p ZRN=l:=by
  have:=h.no p hp hA;obtain ⟨h1,h2⟩:=List.getElem?_eq_some_iff.1 this;rw [<-h2,List.set_getElem_self]
 rw [e];exact h
theorem TWIN.drop {C C':HX.z01} {log len alive p:Nat} {l:List RND} {f:Nat->Nat} (h:TWIN C log len alive l) (hp:p<len) (hA:HX.AT C log p=some f) (hC:∀ q,HX.AT C' log q=if q=p then none else HX.AT C log q):alive - 1+1=alive/\TWIN C' log len (alive - 1) (l.set p ZRN):=by
 have hc:=z5A (P:=fun p=>(HX.AT C log p).isSome) (Q:=fun p=>(HX.AT C' log p).isSome) (p:=p) (by simp [hA]) (by simp [hC]) (fun q hq=>by simp [hC,hq]) hp;have ha:=h.count;refine ⟨by omega,⟨by rw [List.length_set];exact h.long,fun q g hq hg=>?_,fun q hq hg=>?_,by omega⟩⟩
 ·rw [hC] at hg
  by_cases e:q=p
  ·rw [if_pos e] at hg;cases hg
  ·rw [if_neg e] at hg
   rw [List.getElem?_set_ne (fun x=>e x.symm)];exact h.yes q g hq hg
 ·rw [hC] at hg
  by_cases e:q=p
  ·subst e
   rw [List.getElem?_set_self (by rw [h.long];exact hq)]
  ·rw [if_neg e] at hg
   rw [List.getElem?_set_ne (fun x=>e x.symm)];exact h.no q hq hg
def RBK (gt gs:Nat) (v:Value) (x:Nat):Prop:=x=gt\/x=gs\/v.ownBlock=some x
structure SIDES (w0 wx:World) (g:Nat) (C:HX.z01) (B2 gt gs:Nat) (D:Int) (n:Nat) (l:List RND) (a:Option Addr) (c:Nat):Prop where
 pin:wx.cell? ⟨g,4,none⟩=some (.map none)
 rt:RTREE wx B2 gt gs D n l a c
 off:∀ x,RBK gt gs (.slice a l.length c) x->x≠g/\¬ HX.FOOT wx g C x
 bel:Below w0.heap.size w0 wx
 lo:w0.heap.size<=B2
theorem RTREE.blk {w:World} {B gt gs n c x:Nat} {D:Int} {l:List RND} {a:Option Addr} (h:RTREE w B gt gs D n l a c) (hx:RBK gt gs (.slice a l.length c) x):x<w.heap.size:=by
 rcases hx with rfl | rfl | hx
 ·exact h.box.lt
 ·exact h.store.box.lt
 ·exact (h.store.own.lt x hx).2
theorem SIDES.step {w0 wx w':World} {g B2 gt gs n c:Nat} {C C':HX.z01} {D:Int} {l:List RND} {a:Option Addr} (h:SIDES w0 wx g C B2 gt gs D n l a c) (hst:HX.TSTEP wx w' g C C') (hb:Below w0.heap.size wx w'):SIDES w0 w' g C' B2 gt gs D n l a c:=by
 have one:∀ x,RBK gt gs (.slice a l.length c) x->w'.heap[x]?=wx.heap[x]?:=fun x hx=>hst.same x (h.rt.blk hx) (h.off x hx).1 (h.off x hx).2;refine ⟨hst.pin.trans h.pin,h.rt.keep (one gt (.inl rfl)) (one gs (.inr (.inl rfl))) (fun k e=>one k (.inr (.inr e))),fun x hx=>⟨(h.off x hx).1,fun hf=>?_⟩,h.bel.trans hb,h.lo⟩;rcases hst.foot x hf with h1 | h1
 ·exact (h.off x hx).2 h1
 ·have:=h.rt.blk hx
  omega
theorem SIDES.below {w0 wx w':World} {g B2 gt gs n c B log len alive N:Nat} {C:HX.z01} {D:Int} {l:List RND} {a:Option Addr} (h:SIDES w0 wx g C B2 gt gs D n l a c) (hS:HX.STORE wx B g log len alive N C) (hb:Below wx.heap.size wx w'):SIDES w0 w' g C B2 gt gs D n l a c:=
 h.step (HX.STEP.below hS hb).tree (hb.mono h.bel.size)
theorem SIDES.pins {w0 wx:World} {g B2 gt gs n c B:Nat} {C:HX.z01} {D:Int} {l:List RND} {a:Option Addr} (h:SIDES w0 wx g C B2 gt gs D n l a c):HX.PINS wx B g 0 C (fun _=>0):=
 ⟨⟨none,h.pin,fun _ _=>rfl,fun b e=>by cases e⟩⟩
theorem SIDES.rdrop {w0 wx w':World} {g B2 gt gs n c B log len alive N:Nat} {C:HX.z01} {D:Int} {l l':List RND} {a:Option Addr} (h:SIDES w0 wx g C B2 gt gs D n l a c) (hS:HX.STORE wx B g log len alive N C) (hl:l'.length=l.length) (hR:RSTORE w' B2 gs 3 l' a c) (hg:wx.grownBy w' (Value.slice a l.length c).ownBlock):HX.STORE w' B g log len alive N C/\SIDES w0 w' g C B2 gt gs D n l' a c:=by
 have one:∀ x,x<wx.heap.size->(Value.slice a l.length c).ownBlock≠some x->w'.heap[x]?=wx.heap[x]?:=fun x hx hne=>hg.block x hx (fun e=>hne e.symm);have hG:w'.heap[g]?=wx.heap[g]?:=one g hS.lt fun e=>(h.off g (.inr (.inr e))).1 rfl;obtain ⟨k1,k2,k3⟩:=hS.held hG (fun x hf=>one x (hS.foot_lt hf) fun e=>(h.off x (.inr (.inr e))).2 hf);refine ⟨k1,(k3 4).trans h.pin,⟨(one gt h.rt.box.lt h.rt.nt).trans h.rt.box,hR,h.rt.ne,by rw [hl];exact h.rt.nt,h.rt.base⟩,fun x hx=>?_,h.bel.trans ⟨hg.os,hg.tape,hg.output,hg.size,fun x hx=>one x (Nat.lt_of_lt_of_le hx h.bel.size) fun e=>?_⟩,h.lo⟩
 ·rw [hl] at hx
  exact ⟨(h.off x hx).1,fun hf=>(h.off x hx).2 (k2 x hf)⟩
 ·have:=(h.rt.store.own.lt x e).1
  have:=h.lo;omega
theorem z6o {n p:Nat} (hn:n<=2 ^ 20) (hp:p<z02 n):∃ h k,p=PLC h k/\(k+1)*2 ^ h<=n:=by
 have hb:=z2p (n:=n) (h:=21) (by omega);obtain ⟨h,k,hN,e⟩:=Node.of (p:=p) (by omega);refine ⟨h,k,e,?_⟩;rcases Nat.lt_or_ge n ((k+1)*2 ^ h) with h1 | h1
 ·have h2:=z5r h k
  have h3:z02 n<=z02 ((k+1)*2 ^ h - 1):=z3G (by omega);omega
 ·exact h1
theorem zgS {w:World} {B g n:Nat} {d:Int} {log:Nat} {C:HX.z01} {f:Nat->Nat->Nat} {l:List RND} (hF:HX.FOREST w B g d log n C f) (hl:l.length=z02 n) (hn:∀ h k,(k+1)*2 ^ h<=n->l[PLC h k]?=some ⟨TVAL d f h k,true,0⟩):TWIN C log (z02 n) (z02 n) l:=by
 have hp:=fun p (h:p<z02 n)=>z6o hF.few h;refine ⟨hl,fun p x hx hA=>?_,fun p hx hA=>?_,(zaZ fun p hx=>?_).symm⟩
 ·obtain ⟨h,k,rfl,hk⟩:=hp p hx
  rw [hF.node h k hk] at hA;cases hA;exact hn h k hk
 ·obtain ⟨h,k,rfl,hk⟩:=hp p hx
  rw [hF.node h k hk] at hA;cases hA
 ·obtain ⟨h,k,rfl,hk⟩:=hp p hx
  show (HX.AT C log (PLC h k)).isSome=true;rw [hF.node h k hk];rfl
theorem z5B:∀ x∈ZRN.hash,0<=x/\x<=255:=by decide
structure BOTHD (w wx:World) (g log len N B2 gt gs:Nat) (D:Int) (n:Nat) (a:Option Addr) (c:Nat) (l:List RND) (C:HX.z01) (alive:Nat):Prop where
 st:HX.STORE wx w.heap.size g log len alive N C
 sd:SIDES w wx g C B2 gt gs D n l a c
 tw:TWIN C log len alive l
 byte:∀ v∈l,∀ x∈v.hash,0<=x/\x<=255
theorem BOTHD.below {w wx w':World} {g log len N B2 gt gs n c alive:Nat} {D:Int} {a:Option Addr} {l:List RND} {C:HX.z01} (h:BOTHD w wx g log len N B2 gt gs D n a c l C alive) (hb:Below wx.heap.size wx w'):BOTHD w w' g log len N B2 gt gs D n a c l C alive:=
 ⟨h.st.below hb,h.sd.below h.st hb,h.tw,h.byte⟩
theorem BOTHD.noded {w wx:World} {g log len N B2 gt gs n c alive:Nat} {D:Int} {a:Option Addr} {l:List RND} {C:HX.z01} (h:BOTHD w wx g log len N B2 gt gs D n a c l C alive) (P:List Nat) (hP:∀ p∈P,p<2 ^ 64):z4a wx g (fun p=>(RGOT l p).2) (fun p=>(RGOT l p).1) P:=fun W hb p hp=>by
 have hc:=HX.z9U (h.st.below hb) p (hP p hp);rw [z44,(h.tw.got p).1,(h.tw.got p).2] at hc;exact hc
theorem z7x {l:List RND} (h:∀ v∈l,∀ x∈v.hash,0<=x/\x<=255) (P:List Nat):∀ x∈P.flatMap fun p=>(RGOT l p).2,0<=x/\x<=255:=fun x hx=>by
 obtain ⟨p,_,hx⟩:=List.mem_flatMap.1 hx;unfold RGOT at hx;cases hp:l[p]? with
 | none=>rw [hp] at hx;exact z5B x hx
 | some v=>
   rw [hp] at hx;dsimp only at hx;split at hx
   ·exact h v (List.mem_of_getElem? hp) x hx
   ·exact z5B x hx
theorem z4N (g:Nat) (w:World):Calls Tryz.prog 6 #[.pointer (some ⟨g,0,none⟩)] w fun e w'=>e=.returned (.pointer (some ⟨g,0,none⟩))/\w=w':=by
 go_enter Tryz.func6,Tryz.ntmps6;go_wp2;go_ret;exact ⟨rfl,rfl⟩
theorem zdQ {w w1 w2:World} {g gt gs n c log:Nat} {d D:Int} {l:List RND} {a:Option Addr} (hH:HX.Has w1 g (HX.z4K d log) 65) (hb1:Below w.heap.size w w1) (hR:RTREE w2 w1.heap.size gt gs D n l a c) (hb2:Below w1.heap.size w1 w2):SIDES w w2 g (fun _=>none) w1.heap.size gt gs D n l a c:=by
 have h2:=hH.keep hb2;have hg:=hH.lt;refine ⟨h2.cell 4,hR,fun x hx=>⟨?_,fun hf=>?_⟩,hb1.trans (hb2.mono hb1.size),hb1.size⟩
 ·have:w1.heap.size<=x:=by
   rcases hx with rfl | rfl | hx
   ·exact hR.base
   ·exact hR.store.base
   ·exact (hR.store.own.lt x hx).1
  omega
 ·rcases hf with hf | ⟨k,gc,rs,e,_⟩
  ·rw [h2.cell 3] at hf
   cases hf
  ·cases e
theorem zgT {w wx:World} {g B2 gt gs n c log:Nat} {d D:Int} {l:List RND} {a:Option Addr} {C:HX.z01} {f:Nat->Nat->Nat} (hF:HX.FOREST wx w.heap.size g d log n C f) (hS:SIDES w wx g C B2 gt gs D n l a c) (hl:l.length=z02 n) (hn:∀ h k,(k+1)*2 ^ h<=n->l[PLC h k]?=some ⟨TVAL d f h k,true,0⟩):BOTHD w wx g log (z02 n) (z02 n) B2 gt gs D n a c l C (z02 n):=by
 refine ⟨hF.store,hS,zgS hF hl hn,fun v hv=>?_⟩;obtain ⟨p,hp⟩:=List.mem_iff_getElem?.1 hv;have hlt:=(List.getElem?_eq_some_iff.1 hp).1;obtain ⟨h,k,rfl,hk⟩:=z6o hF.few (by omega:p<z02 n);rw [hn h k hk] at hp;cases hp;exact (zaY hF.byte hk).2
def FSTE (EN:Nat->Int):List Nat->Int
 | []=>0
 | p :: P=>if EN p=0 then FSTE EN P else EN p
theorem z2C {EN:Nat->Int}:∀ {P:List Nat},(∀ p∈P,EN p=0)->FSTE EN P=0
 | [],_=>rfl
 | p :: P,h=>by rw [FSTE,if_pos (h p (List.mem_cons_self ..))];exact z2C fun q hq=>h q (List.mem_cons_of_mem _ hq)
theorem z3C {EN:Nat->Int}:∀ {P:List Nat} {j p:Nat},P[j]?=some p->(∀ (i q:Nat),i<j->P[i]?=some q->EN q=0)->EN p≠0->FSTE EN P=EN p
 | [],j,p,h,_,_=>by simp at h
 | x :: P,0,p,h,_,hn=>by
   simp only [List.getElem?_cons_zero,Option.some.injEq] at h;subst h;rw [FSTE,if_neg hn]
 | x :: P,j+1,p,h,hz,hn=>by
   rw [FSTE,if_pos (hz 0 x (by omega) rfl)];exact z3C (by simpa using h) (fun i q hi hq=>hz (i+1) q (by omega) (by simpa using hq)) hn
theorem zgU {w w':World} {l:List RND} {P:List Nat} {e:Ending} (h:RAT w l P e w'):Below w.heap.size w w'/\((FSTE (fun p=>(RGOT l p).1) P≠0/\e=.returned (.tuple #[.slice none 0 0,.int .i64 (FSTE (fun p=>(RGOT l p).1) P)]))\/(FSTE (fun p=>(RGOT l p).1) P=0/\∃ a c,e=.returned (.tuple #[.slice a P.length c,.int .i64 0])/\w'.ownsRow w.heap.size 25 32 (.slice a P.length c) P.length (z00 (P.flatMap fun p=>(RGOT l p).2)))):=by
 obtain ⟨hb,h⟩:=h;refine ⟨hb,?_⟩;rcases h with ⟨hz,h⟩ | ⟨j,p,h1,h2,h3,rfl⟩
 ·exact .inr ⟨z2C hz,h⟩
 ·have e:=z3C (EN:=fun p=>(RGOT l p).1) h1 h2 h3
  exact .inl ⟨by rw [e];exact h3,by rw [e]⟩
def WNT (EN:Nat->Int) (E:Int) (P:List Nat):Int:=if E=0 then FSTE EN P else E
def zhH (v:Value) (X Y:Nat) (nv:Value):Array Value:=#[v,.int .u64 (X:Int),.int .u64 (Y:Int),nv]
structure FRM (w0 w:World) (rb gl:Nat) (t:TypeId) (v:Value) (X Y:Nat) (nv:Value) (fl:Array Value) (tf:TypeId):Prop where
 bel:Below w0.heap.size w0 w
 rd:Has w rb (zhH v X Y nv) t
 fl:Has w gl fl tf
 ne:gl≠rb
 lb:w0.heap.size<=rb
 lg:w0.heap.size<=gl
def SRC (w0:World) (a:Option Addr) (c:Nat) (t:List Int):Prop:=Bytes w0 a t.length t/\t.length<=c/\t.length<=1000000
theorem FRM.drew {w0 w:World} {rb gl:Nat} {t:TypeId} {v:Value} {X Y:Nat} {nv:Value} {fl:Array Value} {tf:TypeId} (h:FRM w0 w rb gl t v X Y nv fl tf):FRM w0 w.drew rb gl t v X Y nv fl tf:=⟨h.bel.drew,h.rd,h.fl,h.ne,h.lb,h.lg⟩
theorem FRM.keep {w0 w w':World} {rb gl:Nat} {t:TypeId} {v:Value} {X Y:Nat} {nv:Value} {fl:Array Value} {tf:TypeId} (h:FRM w0 w rb gl t v X Y nv fl tf) (hb:Below w.heap.size w w'):FRM w0 w' rb gl t v X Y nv fl tf:=⟨h.bel.trans (hb.mono h.bel.size),h.rd.keep hb,h.fl.keep hb,h.ne,h.lb,h.lg⟩
theorem FRM.rest {w0 w:World} {rb gl:Nat} {t:TypeId} {v:Value} {X Y:Nat} {nv:Value} {fl:Array Value} {tf:TypeId} (h:FRM w0 w rb gl t v X Y nv fl tf) (v':Value):FRM w0 (w.setCell ⟨rb,0,none⟩ v') rb gl t v' X Y nv fl tf:=
 ⟨h.bel.setCell (p:=⟨rb,0,none⟩) h.lb _,h.rd.set 0 v',h.fl.other (a:=⟨rb,0,none⟩) h.ne _,h.ne,h.lb,h.lg⟩
theorem FRM.nodes {w0 w:World} {rb gl:Nat} {t:TypeId} {v:Value} {X Y:Nat} {nv:Value} {fl:Array Value} {tf:TypeId} (h:FRM w0 w rb gl t v X Y nv fl tf) (nv':Value):FRM w0 (w.setCell ⟨rb,3,none⟩ nv') rb gl t v X Y nv' fl tf:=
 ⟨h.bel.setCell (p:=⟨rb,3,none⟩) h.lb _,h.rd.set 3 _,h.fl.other (a:=⟨rb,3,none⟩) h.ne _,h.ne,h.lb,h.lg⟩
theorem SRC.drop {w0:World} {b off c:Nat} {t:List Int} (h:SRC w0 (some ⟨b,off,none⟩) c t) (k:Nat) (hk:k<=t.length):SRC w0 (REST b off c k) (c - k) (t.drop k):=by
 obtain ⟨h1,h2,h3⟩:=h;have:=h1.behind k hk h2;refine ⟨?_,by rw [List.length_drop];omega,by rw [List.length_drop];omega⟩;rw [List.length_drop];exact this
def DECD (w:World) (D:DANS) (e:Ending) (w':World):Prop:=
 ∃ v,e=.returned (.tuple #[v,.int .i64 D.1])/\Below w.heap.size w w'/\((D.1≠0/\v=.agg #[.int .u64 0,.int .u64 0,.slice none 0 0])\/(D.1=0/\D.2.1<2 ^ 64/\D.2.2.1<2 ^ 64/\D.2.2.2.2.length=32*D.2.2.2.1/\(∀ x∈D.2.2.2.2,0<=x/\x<=255)/\∃ g,v=.agg #[.int .u64 (D.2.1:Int),.int .u64 (D.2.2.1:Int),.slice (some ⟨g,0,none⟩) D.2.2.2.1 D.2.2.2.1]/\w.heap.size<=g/\Has w' g (z00 D.2.2.2.2).toArray 25))
theorem zgV (PF:Nat->Nat->Int × List Nat) (X Y:Nat) (t:List Int):DC3 PF X Y t=DERR (DC3 PF X Y t).1\/(DC3 PF X Y t).1=0:=by
 unfold DC3;split
 ·exact .inl rfl
 ·split
  ·exact .inl rfl
  ·split
   ·exact .inl rfl
   ·exact .inr rfl
theorem zgW (PF:Nat->Nat->Int × List Nat) (X:Nat) (t:List Int):DC2 PF X t=DERR (DC2 PF X t).1\/(DC2 PF X t).1=0:=by
 unfold DC2;split
 ·exact .inl rfl
 ·exact zgV _ _ _ _
theorem zgX (chk:Nat->Bool) (PF:Nat->Nat->Int × List Nat) (t:List Int):DC1 chk PF t=DERR (DC1 chk PF t).1\/(DC1 chk PF t).1=0:=by
 unfold DC1;split
 ·exact .inl rfl
 ·split
  ·exact .inl rfl
  ·exact zgW _ _ _
theorem zgY {K:Int} {chk:Nat->Bool} {PF:Nat->Nat->Int × List Nat} {l:List Int} (h:(DC0 K chk PF l).1≠0):DC0 K chk PF l=DERR (DC0 K chk PF l).1:=by
 have:DC0 K chk PF l=DERR (DC0 K chk PF l).1\/(DC0 K chk PF l).1=0:=by
  unfold DC0;split
  ·exact .inl rfl
  ·split
   ·exact .inl rfl
   ·exact zgX _ _ _
 rcases this with h1 | h1
 ·exact h1
 ·exact absurd h1 h
theorem zca {w:World} {B g N:Nat} {l:List Int} (h:Has w g (z00 l).toArray 25) (hl:l.length=32*N) (hB:B<=g) (hN:N<=1000):w.ownsRow B 25 32 (.slice (some ⟨g,0,none⟩) N N) N (z00 l):=by
 refine ⟨by rw [z00,List.length_map,hl,Nat.mul_comm],.inr ⟨g,N,_,rfl,hB,h,Nat.le_refl _,by simp [maxLen];omega,?_,?_⟩⟩
 ·simp [z00,hl,Nat.mul_comm]
 ·rw [List.take_of_length_le (by simp [z00,hl];omega)]
def DECO (w:World) (D:DANS) (e:Ending) (w':World):Prop:=
 ∃ a c,e=.returned (.tuple #[.agg #[.int .u64 (D.2.1:Int),.int .u64 (D.2.2.1:Int),.slice a D.2.2.2.1 c],.int .i64 D.1])/\w'.ownsRow w.heap.size 25 32 (.slice a D.2.2.2.1 c) D.2.2.2.1 (z00 D.2.2.2.2)/\(∀ x∈D.2.2.2.2,0<=x/\x<=255)/\Below w.heap.size w w'
theorem DECD.own {w w':World} {K:Int} {chk:Nat->Bool} {PF:Nat->Nat->Int × List Nat} {l:List Int} {e:Ending} (h:DECD w (DC0 K chk PF l) e w') (hf:(DC0 K chk PF l).1=0->(DC0 K chk PF l).2.2.2.1<=1000):DECO w (DC0 K chk PF l) e w':=by
 obtain ⟨v,rfl,hb,h⟩:=h;rcases h with ⟨hE,rfl⟩ | ⟨hE,h1,h2,h3,h4,g,rfl,hg,hh⟩
 ·have hD:=zgY hE
  rw [hD];refine ⟨none,0,rfl,World.ownsRow_nil _ _ _ _,by simp [DERR],hb⟩
 ·exact ⟨_,_,rfl,zca hh h3 hg (hf hE),h4,hb⟩
structure FAM (M:Nat) (t:TypeId) (s:Nat) (w:World) (B:Nat) (K:Nat->Prop) (v:Nat->Value) (n:Nat->Nat) (xs:Nat->List Value):Prop where
 row:∀ x,x<M->w.ownsRow B t s (v x) (n x) (xs x)
 apart:∀ x y,x<M->y<M->x≠y->∀ g,(v x).ownBlock=some g->(v y).ownBlock≠some g
 off:∀ x,x<M->∀ g,(v x).ownBlock=some g->¬ K g
theorem FAM.below {M:Nat} {t:TypeId} {s:Nat} {w w':World} {B:Nat} {K:Nat->Prop} {v:Nat->Value} {n:Nat->Nat} {xs:Nat->List Value} (h:FAM M t s w B K v n xs) (hb:Below w.heap.size w w'):FAM M t s w' B K v n xs:=⟨fun x hx=>z1h (h.row x hx) hb,h.apart,h.off⟩
theorem FAM.heap {M:Nat} {t:TypeId} {s:Nat} {w w':World} {B:Nat} {K:Nat->Prop} {v:Nat->Value} {n:Nat->Nat} {xs:Nat->List Value} (h:FAM M t s w B K v n xs) (hk:∀ k,k<w.heap.size->¬ K k->w'.heap[k]?=w.heap[k]?):FAM M t s w' B K v n xs:=⟨fun x hx=>z0J (h.row x hx) fun k e=>hk k ((h.row x hx).lt k e).2 (h.off x hx k e),h.apart,h.off⟩
theorem FAM.turn {M:Nat} {t:TypeId} {s:Nat} {w w':World} {B:Nat} {K:Nat->Prop} {v:Nat->Value} {n:Nat->Nat} {xs:Nat->List Value} (h:FAM M t s w B K v n xs) {x g m c:Nat} {ys:List Value} (hx:x<M) (hK:∀ k,K k->k<w.heap.size)
  (hown:w'.ownsRow B t s (.slice (some ⟨g,0,none⟩) m c) m ys) (hg:w.grownBy w' (v x).ownBlock) (hat:(v x).ownBlock=some g\/w.heap.size<=g):FAM M t s w' B K (UPD v x (.slice (some ⟨g,0,none⟩) m c)) (UPD n x m) (UPD xs x ys)/\∀ k,K k->w'.heap[k]?=w.heap[k]?:=by
 have hgx:∀ y,y<M->y≠x->(v y).ownBlock≠some g:=fun y hy hne e=>by
  rcases hat with h1 | h1
  ·exact h.apart x y hx hy (fun e=>hne e.symm) g h1 e
  ·have:=((h.row y hy).lt g e).2
   omega
 refine ⟨⟨fun y hy=>?_,fun y z hy hz hne k e=>?_,fun y hy k e hk=>?_⟩,fun k hk=>hg.block k (hK k hk) fun e=>h.off x hx k e.symm hk⟩
 ·by_cases e:y=x
  ·subst e
   rw [z2y,z2y,z2y];exact hown
  ·rw [z1i _ _ e,z1i _ _ e,z1i _ _ e]
   exact z0J (h.row y hy) fun k hk=>hg.block k ((h.row y hy).lt k hk).2 fun e2=>h.apart x y hx hy (fun e3=>e e3.symm) k e2.symm hk
 ·by_cases e1:y=x
  ·subst e1
   rw [z2y] at e;have e:g=k:=by simpa [Value.ownBlock] using e
   subst e;rw [z1i _ _ (fun e2=>hne e2.symm)];exact hgx z hz fun e2=>hne e2.symm
  ·rw [z1i _ _ e1] at e
   by_cases e2:z=x
   ·subst e2
    rw [z2y];intro e3;have e3:g=k:=by simpa [Value.ownBlock] using e3
    subst e3;exact hgx y hy e1 e
   ·rw [z1i _ _ e2]
    exact h.apart y z hy hz hne k e
 ·by_cases e1:y=x
  ·subst e1
   rw [z2y] at e;have e:g=k:=by simpa [Value.ownBlock] using e
   subst e;rcases hat with h1 | h1
   ·exact h.off y hy g h1 hk
   ·have:=hK g hk
    omega
  ·rw [z1i _ _ e1] at e
   exact h.off y hy k e hk
def V4 {α:Type} (p q r s:α) (x:Nat):α:=if x=0 then p else if x=1 then q else if x=2 then r else s
theorem z2M {P:Nat->Prop} (h0:P 0) (h1:P 1) (h2:P 2) (h3:P 3):∀ x,x<4->P x:=fun x hx=>by
 match x,hx with
 | 0,_=>exact h0
 | 1,_=>exact h1
 | 2,_=>exact h2
 | 3,_=>exact h3
theorem FAM.same {M:Nat} {t:TypeId} {s:Nat} {w:World} {B:Nat} {K:Nat->Prop} {v v':Nat->Value} {n n':Nat->Nat} {xs xs':Nat->List Value} (h:FAM M t s w B K v n xs) (hv:∀ x,x<M->v x=v' x) (hn:∀ x,x<M->n x=n' x) (hx:∀ x,x<M->xs x=xs' x):FAM M t s w B K v' n' xs':=
 ⟨fun x h0=>by rw [<-hv x h0,<-hn x h0,<-hx x h0];exact h.row x h0,fun x y h0 h1 hne g=>by rw [<-hv x h0,<-hv y h1];exact h.apart x y h0 h1 hne g,fun x h0 g=>by rw [<-hv x h0];exact h.off x h0 g⟩
theorem FAM.behind {t:TypeId} {s:Nat} {w:World} {B:Nat} {K:Nat->Prop} {v0 v1 v2 v3:Value} {n0 n1 n2 n3:Nat} {x0 x1 x2 x3:List Value} {p0 p1 p2 p3 p4:Nat}
  (r0:w.ownsRow B t s v0 n0 x0) (r1:w.ownsRow B t s v1 n1 x1) (r2:w.ownsRow B t s v2 n2 x2) (r3:w.ownsRow B t s v3 n3 x3)
  (s0:∀ g,v0.ownBlock=some g->p0<=g/\g<p1) (s1:∀ g,v1.ownBlock=some g->p1<=g/\g<p2) (s2:∀ g,v2.ownBlock=some g->p2<=g/\g<p3) (s3:∀ g,v3.ownBlock=some g->p3<=g/\g<p4) (hp:p1<=p2/\p2<=p3/\p3<=p4)
  (hK:∀ k,K k->p4<=k):FAM 4 t s w B K (V4 v0 v1 v2 v3) (V4 n0 n1 n2 n3) (V4 x0 x1 x2 x3):=by
 refine ⟨z2M r0 r1 r2 r3,?_,?_⟩
 ·intro x y hx hy hne g h1 h2
  have key:∀ z,z<4->(V4 v0 v1 v2 v3 z).ownBlock=some g->V4 p0 p1 p2 p3 z<=g/\g<V4 p1 p2 p3 p4 z:=z2M (s0 g) (s1 g) (s2 g) (s3 g);have k1:=key x hx h1;have k2:=key y hy h2;match x,y,hx,hy with
  | 0,0,_,_=>exact hne rfl
  | 1,1,_,_=>exact hne rfl
  | 2,2,_,_=>exact hne rfl
  | 3,3,_,_=>exact hne rfl
  | 0,1,_,_ | 0,2,_,_ | 0,3,_,_ | 1,0,_,_ | 1,2,_,_ | 1,3,_,_ | 2,0,_,_ | 2,1,_,_ | 2,3,_,_ | 3,0,_,_ | 3,1,_,_ | 3,2,_,_=>
    simp only [V4] at k1 k2;simp at k1 k2;omega
 ·have key:∀ z,z<4->∀ g,(V4 v0 v1 v2 v3 z).ownBlock=some g->g<V4 p1 p2 p3 p4 z:=z2M (fun g e=>(s0 g e).2) (fun g e=>(s1 g e).2) (fun g e=>(s2 g e).2) (fun g e=>(s3 g e).2)
  intro x hx g e hk;have h1:=key x hx g e;have h2:=hK g hk;match x,hx with
  | 0,_ | 1,_ | 2,_ | 3,_=>
    simp only [V4] at h1;simp at h1;omega
theorem FAM.over {M:Nat} {t:TypeId} {s:Nat} {w w':World} {B:Nat} {K:Nat->Prop} {v:Nat->Value} {n:Nat->Nat} {xs:Nat->List Value} (h:FAM M t s w B K v n xs) {x:Nat} {ys:List Value} (hx:x<M) (hK:∀ k,K k->k<w.heap.size)
  (hown:w'.ownsRow B t s (v x) (n x) ys) (hg:w.grownBy w' (v x).ownBlock):FAM M t s w' B K v n (UPD xs x ys)/\∀ k,K k->w'.heap[k]?=w.heap[k]?:=by
 refine ⟨⟨fun y hy=>?_,h.apart,h.off⟩,fun k hk=>hg.block k (hK k hk) fun e=>h.off x hx k e.symm hk⟩;by_cases e:y=x
 ·subst e
  rw [z2y];exact hown
 ·rw [z1i _ _ e]
  exact z0J (h.row y hy) fun k hk=>hg.block k ((h.row y hy).lt k hk).2 fun e2=>h.apart x y hx hy (fun e3=>e e3.symm) k e2.symm hk
def KOF (V:Int) (P:List Nat):Nat:=if V=0 then P.length else 0
def ZOF (V:Int) (G:Nat->List Int) (P:List Nat):List Int:=if V=0 then P.flatMap G else []
theorem zgZ (G:Nat->List Int) (P:List Nat):TFL G P P.length=P.flatMap G:=by
 have e:(List.range P.length).map (fun i=>P.getD i 0)=P:=by
  apply List.ext_getElem?;intro i;rw [List.getElem?_map];by_cases hi:i<P.length
  ·rw [List.getElem?_range hi,Option.map_some,List.getD_eq_getElem?_getD,List.getElem?_eq_getElem hi]
   rfl
  ·rw [List.getElem?_eq_none (l:=List.range P.length) (by simp;omega),List.getElem?_eq_none (l:=P) (by omega)]
   rfl
 unfold TFL;conv=>rhs;rw [<-e]
 rw [List.flatMap_map]
theorem zdR {w w':World} {G:Nat->List Int} {EN:Nat->Int} {D:Int × List Nat} {X Y:Nat} {e:Ending} (h:TMADE w G EN D X Y e w'):Below w.heap.size w w'/\∃ (X' Y':Nat) (a:Option Addr) (c:Nat),e=.returned (.tuple #[.agg #[.int .u64 (X':Int),.int .u64 (Y':Int),.slice a (KOF (WNT EN D.1 D.2) D.2) c],.int .i64 (WNT EN D.1 D.2)])/\w'.ownsRow w.heap.size 25 32 (.slice a (KOF (WNT EN D.1 D.2) D.2) c) (KOF (WNT EN D.1 D.2) D.2) (z00 (ZOF (WNT EN D.1 D.2) G D.2))/\(WNT EN D.1 D.2=0->X'=X/\Y'=Y):=by
 obtain ⟨hb,h⟩:=h;refine ⟨hb,?_⟩
 have bad:∀ V:Int,V≠0->WNT EN D.1 D.2=V->e=.returned (.tuple #[.agg #[.int .u64 0,.int .u64 0,.slice none 0 0],.int .i64 V])->∃ (X' Y':Nat) (a:Option Addr) (c:Nat),e=.returned (.tuple #[.agg #[.int .u64 (X':Int),.int .u64 (Y':Int),.slice a (KOF (WNT EN D.1 D.2) D.2) c],.int .i64 (WNT EN D.1 D.2)])/\w'.ownsRow w.heap.size 25 32 (.slice a (KOF (WNT EN D.1 D.2) D.2) c) (KOF (WNT EN D.1 D.2) D.2) (z00 (ZOF (WNT EN D.1 D.2) G D.2))/\(WNT EN D.1 D.2=0->X'=X/\Y'=Y):=by
  intro V hV hW he;rw [hW];unfold KOF ZOF;rw [if_neg hV,if_neg hV];exact ⟨0,0,none,0,he,⟨rfl,.inl ⟨rfl,rfl⟩⟩,fun h=>absurd h hV⟩
 rcases h with ⟨h0,he⟩ | ⟨h0,hz,u,he,ho⟩ | ⟨h0,j,hj,hz,hn,he⟩
 ·exact bad _ h0 (if_neg h0) he
 ·have hW:WNT EN D.1 D.2=0:=by unfold WNT;rw [if_pos h0];exact z2C hz
  rw [hW];obtain ⟨a,c,rfl,_⟩:=zbw ho;unfold KOF ZOF;rw [if_pos rfl,if_pos rfl];rw [zgZ] at ho;exact ⟨X,Y,a,c,he,ho,fun _=>⟨rfl,rfl⟩⟩
 ·have hW:WNT EN D.1 D.2=EN (D.2.getD j 0):=by
   unfold WNT;rw [if_pos h0];refine z3C (j:=j) ?_ (fun i q hi hq=>?_) hn
   ·rw [List.getD_eq_getElem?_getD,List.getElem?_eq_getElem hj]
    rfl
   ·have:=hz i hi
    rw [List.getD_eq_getElem?_getD,hq] at this;exact this
  exact bad _ hn hW he
structure ASKD (w W:World) (l:List RND) (E:Int) (P:List Nat) (V:Int) (a:Option Addr) (K c:Nat):Prop where
 err:WNT (fun p=>(RGOT l p).1) E P=V
 len:KOF V P=K
 flat:Flat W a K (ZOF V (fun p=>(RGOT l p).2) P)
 lt:∀ x,a=some x->x.block<W.heap.size
theorem ASKD.below {w W W':World} {l:List RND} {E V:Int} {P:List Nat} {a:Option Addr} {K c:Nat} (h:ASKD w W l E P V a K c) (hb:Below W.heap.size W W'):ASKD w W' l E P V a K c:=
 ⟨h.err,h.len,h.flat.below hb,fun x e=>Nat.lt_of_lt_of_le (h.lt x e) hb.size⟩
structure PMS (W:World) (B lo b1 b2:Nat) (t:TypeId) (K:Nat) (Z:List Int) (X1 Y1 X2 Y2:Nat) (a1 a2:Option Addr) (c1 c2:Nat):Prop where
 h1:Has W b1 #[.int .u64 (X1:Int),.int .u64 (Y1:Int),.slice a1 K c1] t
 h2:Has W b2 #[.int .u64 (X2:Int),.int .u64 (Y2:Int),.slice a2 K c2] t
 o1:W.ownsRow B 25 32 (.slice a1 K c1) K (z00 Z)
 o2:W.ownsRow B 25 32 (.slice a2 K c2) K (z00 Z)
 s1:∀ g,(Value.slice a1 K c1).ownBlock=some g->lo<=g/\g<b1
 s2:∀ g,(Value.slice a2 K c2).ownBlock=some g->b1<g/\g<b2
 lb:lo<=b1/\b1<b2/\b2<W.heap.size
theorem PMS.below {W W':World} {B lo b1 b2 K X1 Y1 X2 Y2 c1 c2:Nat} {t:TypeId} {Z:List Int} {a1 a2:Option Addr} (h:PMS W B lo b1 b2 t K Z X1 Y1 X2 Y2 a1 a2 c1 c2) (hb:Below W.heap.size W W'):PMS W' B lo b1 b2 t K Z X1 Y1 X2 Y2 a1 a2 c1 c2:=
 ⟨h.h1.keep hb,h.h2.keep hb,z24 h.o1 fun k e=>hb.block k (h.o1.lt k e).2,z24 h.o2 fun k e=>hb.block k (h.o2.lt k e).2,h.s1,h.s2,h.lb.1,h.lb.2.1,Nat.lt_of_lt_of_le h.lb.2.2 hb.size⟩
def zfX (B b1 b2 m3 b3 b4 k:Nat):Prop:=k<B\/k=b1\/(b2<=k/\k<m3)\/k=b3\/k=b4
structure FST (w0 W:World) (B b1 b2 m3 b3 b4:Nat) (v:Nat->Value) (n:Nat->Nat) (xs:Nat->List Value):Prop where
 fam:FAM 4 25 32 W B (zfX B b1 b2 m3 b3 b4) v n xs
 kept:∀ k,zfX B b1 b2 m3 b3 b4 k->W.heap[k]?=w0.heap[k]?
 bel:Below B w0 W
 big:b4<W.heap.size
theorem z5C {w:World} {B n c:Nat} {a:Option Addr} {L:List Nat} (h:w.ownsRow B 36 1 (.slice a n c) n (z06 L)) (hl:L.length=n):NUML w a L:=fun h0=>by
 rcases h.2 with ⟨e,h1⟩ | ⟨g,cap,cur,e,hb,hg,_⟩
 ·omega
 ·cases e
  refine ⟨g,0,rfl,(Array.getElem?_eq_some_iff.1 hg).1,fun i x hx=>?_⟩;have hi:i<L.length:=(List.getElem?_eq_some_iff.1 hx).1;rw [Nat.zero_add,h.cellAt i (by omega),z06,List.getElem?_map,hx];rfl
theorem NUML.keep {w w':World} {a:Option Addr} {L:List Nat} (h:NUML w a L) (hb:Below w.heap.size w w'):NUML w' a L:=fun h0=>by
 obtain ⟨b,o,e,hl,hc⟩:=h h0;exact ⟨b,o,e,Nat.lt_of_lt_of_le hl hb.size,fun i x hx=>(hb.cell (p:=⟨b,o+i,none⟩) hl).trans (hc i x hx)⟩
end Go.Proofs.YtlbcnaenhghieaaGreatDoor
