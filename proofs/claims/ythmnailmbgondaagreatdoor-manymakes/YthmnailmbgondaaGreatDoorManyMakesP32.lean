/- ManyMakes: part 32. -/
import Derived.Test.YthmnailmbgondaaGreatDoorManyMakesP13
import Derived.Test.YthmnailmbgondaaGreatDoorManyMakesP31
set_option maxHeartbeats 2000000
namespace Go.Proofs.YthmnailmbgondaaGreatDoor
open Go.RowKit
set_option maxRecDepth 100000
def HOW (P:Nat->Bool):Nat->Nat
 | 0=>0
 | n+1=>HOW P n+if P n then 1 else 0
theorem zaN {P:Nat->Bool}:∀ {n:Nat},(∀ p,p<n->P p=true)->HOW P n=n
 | 0,_=>rfl
 | n+1,h=>by rw [HOW,zaN fun p hp=>h p (by omega),h n (by omega)];rfl
theorem z7q {P Q:Nat->Bool}:∀ {n:Nat},(∀ p,p<n->P p=Q p)->HOW P n=HOW Q n
 | 0,_=>rfl
 | n+1,h=>by rw [HOW,HOW,z7q fun p hp=>h p (by omega),h n (by omega)]
theorem zdt (P:Nat->Bool):∀ n,HOW P n<=n
 | 0=>Nat.le_refl _
 | n+1=>by
   have:=zdt P n;rw [HOW];split <;> omega
theorem z5L {P Q:Nat->Bool} {p:Nat} (hP:P p=true) (hQ:Q p=false) (he:∀ q,q≠p->Q q=P q):∀ {n:Nat},p<n->HOW Q n+1=HOW P n
 | 0,h=>by omega
 | n + 1,h=>by
   rw [HOW,HOW];by_cases e:p=n
   ·subst e
    rw [hP,hQ,z7q (P:=Q) (Q:=P) fun q hq=>he q (by omega)];rfl
   ·have:=z5L hP hQ he (n:=n) (by omega)
    rw [he n (fun e'=>e e'.symm)];omega
structure TWIN (C:HX.z02) (log len alive:Nat) (l:List RND):Prop where
 long:l.length=len
 yes:∀ p f,p<len->HX.AT C log p=some f->l[p]?=some ⟨LST f,true,0⟩
 no:∀ p,p<len->HX.AT C log p=none->l[p]?=some ZRN
 count:alive=HOW (fun p=>(HX.AT C log p).isSome) len
theorem TWIN.got {C:HX.z02} {log len alive:Nat} {l:List RND} (h:TWIN C log len alive l) (p:Nat):HX.GOT C log len p=(RGOT l p).1/\LST (HX.GOTH C log len p)=(RGOT l p).2:=by
 unfold HX.GOT HX.GOTH RGOT;by_cases hp:p<len
 ·rw [if_pos hp,if_pos hp]
  cases hA:HX.AT C log p with
  | none=>rw [h.no p hp hA];exact ⟨rfl,rfl⟩
  | some f=>rw [h.yes p f hp hA];exact ⟨rfl,rfl⟩
 ·rw [if_neg hp,if_neg hp,List.getElem?_eq_none (by rw [h.long];omega)]
  exact ⟨rfl,rfl⟩
theorem TWIN.far {C:HX.z02} {log len alive p:Nat} {l:List RND} (h:TWIN C log len alive l) (hp:len<=p):RDRP l p=31:=by
 unfold RDRP;rw [List.getElem?_eq_none (by rw [h.long];exact hp)]
theorem TWIN.near {C:HX.z02} {log len alive p:Nat} {l:List RND} (h:TWIN C log len alive l) (hp:p<len):RDRP l p=0:=by
 unfold RDRP;cases hA:HX.AT C log p with
 | none=>rw [h.no p hp hA];rfl
 | some f=>rw [h.yes p f hp hA];rfl
theorem TWIN.dead {C:HX.z02} {log len alive p:Nat} {l:List RND} (h:TWIN C log len alive l) (hp:p<len) (hA:HX.AT C log p=none):TWIN C log len alive (l.set p ZRN):=by
 have e:l.set p ZRN=l:=by
  have:=h.no p hp hA;obtain ⟨h1,h2⟩:=List.getElem?_eq_some_iff.1 this;rw [<-h2,List.set_getElem_self]
 rw [e];exact h
theorem TWIN.drop {C C':HX.z02} {log len alive p:Nat} {l:List RND} {f:Nat->Nat} (h:TWIN C log len alive l) (hp:p<len) (hA:HX.AT C log p=some f) (hC:∀ q,HX.AT C' log q=if q=p then none else HX.AT C log q):alive - 1+1=alive/\TWIN C' log len (alive - 1) (l.set p ZRN):=by
 have hc:=z5L (P:=fun p=>(HX.AT C log p).isSome) (Q:=fun p=>(HX.AT C' log p).isSome) (p:=p) (by simp [hA]) (by simp [hC]) (fun q hq=>by simp [hC,hq]) hp;have ha:=h.count;refine ⟨by omega,⟨by rw [List.length_set];exact h.long,fun q g hq hg=>?_,fun q hq hg=>?_,by omega⟩⟩
 ·rw [hC] at hg
  by_cases e:q=p
  ·rw [if_pos e] at hg;cases hg
  ·rw [if_neg e] at hg
   rw [List.getElem?_set_ne (fun x=>e x.symm)];exact h.yes q g hq hg
 ·rw [hC] at hg
  by_cases e:q=p
  ·subst e
   rw [List.getElem?_set_self (by rw [h.long];exact hq)]
  ·rw [if_neg e] at hg
   rw [List.getElem?_set_ne (fun x=>e x.symm)];exact h.no q hq hg
def RBK (gt gs:Nat) (v:Value) (x:Nat):Prop:=x=gt\/x=gs\/v.ownBlock=some x
structure SIDES (w0 wx:World) (g:Nat) (C:HX.z02) (B2 gt gs:Nat) (D:Int) (n:Nat) (l:List RND) (a:Option Addr) (c:Nat):Prop where
 pin:wx.cell? ⟨g,4,none⟩=some (.map none)
 rt:RTREE wx B2 gt gs D n l a c
 off:∀ x,RBK gt gs (.slice a l.length c) x->x≠g/\¬ HX.FOOT wx g C x
 bel:Below w0.heap.size w0 wx
 lo:w0.heap.size<=B2
theorem RTREE.blk {w:World} {B gt gs n c x:Nat} {D:Int} {l:List RND} {a:Option Addr} (h:RTREE w B gt gs D n l a c) (hx:RBK gt gs (.slice a l.length c) x):x<w.heap.size:=by
 rcases hx with rfl | rfl | hx
 ·exact h.box.lt
 ·exact h.store.box.lt
 ·exact (h.store.own.lt x hx).2
theorem SIDES.step {w0 wx w':World} {g B2 gt gs n c:Nat} {C C':HX.z02} {D:Int} {l:List RND} {a:Option Addr} (h:SIDES w0 wx g C B2 gt gs D n l a c) (hst:HX.TSTEP wx w' g C C') (hb:Below w0.heap.size wx w'):SIDES w0 w' g C' B2 gt gs D n l a c:=by
 have one:∀ x,RBK gt gs (.slice a l.length c) x->w'.heap[x]?=wx.heap[x]?:=fun x hx=>hst.same x (h.rt.blk hx) (h.off x hx).1 (h.off x hx).2;refine ⟨hst.pin.trans h.pin,h.rt.keep (one gt (.inl rfl)) (one gs (.inr (.inl rfl))) (fun k e=>one k (.inr (.inr e))),fun x hx=>⟨(h.off x hx).1,fun hf=>?_⟩,h.bel.trans hb,h.lo⟩;rcases hst.foot x hf with h1 | h1
 ·exact (h.off x hx).2 h1
 ·have:=h.rt.blk hx
  omega
theorem SIDES.below {w0 wx w':World} {g B2 gt gs n c B log len alive N:Nat} {C:HX.z02} {D:Int} {l:List RND} {a:Option Addr} (h:SIDES w0 wx g C B2 gt gs D n l a c) (hS:HX.STORE wx B g log len alive N C) (hb:Below wx.heap.size wx w'):SIDES w0 w' g C B2 gt gs D n l a c:=
 h.step (HX.STEP.below hS hb).tree (hb.mono h.bel.size)
theorem SIDES.pins {w0 wx:World} {g B2 gt gs n c B:Nat} {C:HX.z02} {D:Int} {l:List RND} {a:Option Addr} (h:SIDES w0 wx g C B2 gt gs D n l a c):HX.PINS wx B g 0 C (fun _=>0):=
 ⟨⟨none,h.pin,fun _ _=>rfl,fun b e=>by cases e⟩⟩
theorem SIDES.rdrop {w0 wx w':World} {g B2 gt gs n c B log len alive N:Nat} {C:HX.z02} {D:Int} {l l':List RND} {a:Option Addr} (h:SIDES w0 wx g C B2 gt gs D n l a c) (hS:HX.STORE wx B g log len alive N C) (hl:l'.length=l.length) (hR:RSTORE w' B2 gs 3 l' a c) (hg:wx.grownBy w' (Value.slice a l.length c).ownBlock):HX.STORE w' B g log len alive N C/\SIDES w0 w' g C B2 gt gs D n l' a c:=by
 have one:∀ x,x<wx.heap.size->(Value.slice a l.length c).ownBlock≠some x->w'.heap[x]?=wx.heap[x]?:=fun x hx hne=>hg.block x hx (fun e=>hne e.symm);have hG:w'.heap[g]?=wx.heap[g]?:=one g hS.lt fun e=>(h.off g (.inr (.inr e))).1 rfl;obtain ⟨k1,k2,k3⟩:=hS.held hG (fun x hf=>one x (hS.foot_lt hf) fun e=>(h.off x (.inr (.inr e))).2 hf);refine ⟨k1,(k3 4).trans h.pin,⟨(one gt h.rt.box.lt h.rt.nt).trans h.rt.box,hR,h.rt.ne,by rw [hl];exact h.rt.nt,h.rt.base⟩,fun x hx=>?_,h.bel.trans ⟨hg.os,hg.tape,hg.output,hg.size,fun x hx=>one x (Nat.lt_of_lt_of_le hx h.bel.size) fun e=>?_⟩,h.lo⟩
 ·rw [hl] at hx
  exact ⟨(h.off x hx).1,fun hf=>(h.off x hx).2 (k2 x hf)⟩
 ·have:=(h.rt.store.own.lt x e).1
  have:=h.lo;omega
theorem z6m {n p:Nat} (hn:n<=2 ^ 20) (hp:p<z01 n):∃ h k,p=PLC h k/\(k+1)*2 ^ h<=n:=by
 have hb:=z2y (n:=n) (h:=21) (by omega);obtain ⟨h,k,hN,e⟩:=Node.of (p:=p) (by omega);refine ⟨h,k,e,?_⟩;rcases Nat.lt_or_ge n ((k+1)*2 ^ h) with h1 | h1
 ·have h2:=z5A h k
  have h3:z01 n<=z01 ((k+1)*2 ^ h - 1):=z3Z (by omega);omega
 ·exact h1
theorem zgl {w:World} {B g n:Nat} {d:Int} {log:Nat} {C:HX.z02} {f:Nat->Nat->Nat} {l:List RND} (hF:HX.FOREST w B g d log n C f) (hl:l.length=z01 n) (hn:∀ h k,(k+1)*2 ^ h<=n->l[PLC h k]?=some ⟨TVAL d f h k,true,0⟩):TWIN C log (z01 n) (z01 n) l:=by
 have hp:=fun p (h:p<z01 n)=>z6m hF.few h;refine ⟨hl,fun p x hx hA=>?_,fun p hx hA=>?_,(zaN fun p hx=>?_).symm⟩
 ·obtain ⟨h,k,rfl,hk⟩:=hp p hx
  rw [hF.node h k hk] at hA;cases hA;exact hn h k hk
 ·obtain ⟨h,k,rfl,hk⟩:=hp p hx
  rw [hF.node h k hk] at hA;cases hA
 ·obtain ⟨h,k,rfl,hk⟩:=hp p hx
  show (HX.AT C log (PLC h k)).isSome=true;rw [hF.node h k hk];rfl
theorem z5M:∀ x∈ZRN.hash,0<=x/\x<=255:=by decide
structure BOTHD (w wx:World) (g log len N B2 gt gs:Nat) (D:Int) (n:Nat) (a:Option Addr) (c:Nat) (l:List RND) (C:HX.z02) (alive:Nat):Prop where
 st:HX.STORE wx w.heap.size g log len alive N C
 sd:SIDES w wx g C B2 gt gs D n l a c
 tw:TWIN C log len alive l
 byte:∀ v∈l,∀ x∈v.hash,0<=x/\x<=255
theorem BOTHD.below {w wx w':World} {g log len N B2 gt gs n c alive:Nat} {D:Int} {a:Option Addr} {l:List RND} {C:HX.z02} (h:BOTHD w wx g log len N B2 gt gs D n a c l C alive) (hb:Below wx.heap.size wx w'):BOTHD w w' g log len N B2 gt gs D n a c l C alive:=
 ⟨h.st.below hb,h.sd.below h.st hb,h.tw,h.byte⟩
def zbY (w wx:World) (g log len N B2 gt gs:Nat) (D:Int) (n:Nat) (a:Option Addr) (c:Nat) (l:List RND) (p:Nat):Prop:=
 ∃ C alive,HX.STORE wx w.heap.size g log len alive N C/\SIDES w wx g C B2 gt gs D n l a c/\TWIN C log len alive (if RDRP l p=0 then l.set p ZRN else l)/\∀ v∈l,∀ x∈v.hash,0<=x/\x<=255
theorem zbZ {w wx:World} {g log len N B2 gt gs n c alive:Nat} {D:Int} {a:Option Addr} {l:List RND} {C:HX.z02} (h:BOTHD w wx g log len N B2 gt gs D n a c l C alive) (p:Nat) (hp:p<2 ^ 64) (hg:w.heap.size<=g) (hlen:len<2 ^ 40):
  Calls Tryz.prog 9 #[.pointer (some ⟨g,0,none⟩),.int .u64 (p:Int)] wx fun e w'=>e=.returned (.int .i64 (RDRP l p))/\zbY w w' g log len N B2 gt gs D n a c l p:=by
 by_cases hl:p<len
 ·have h0:=h.tw.near hl
  cases hA:HX.AT C log p with
  | none=>
    refine (HX.zcF h.st h.sd.pins p hp hl rfl hA).mono ?_;rintro e w' ⟨rfl,hb⟩;refine ⟨by rw [h0],C,alive,h.st.below hb,h.sd.below h.st hb,?_,h.byte⟩;rw [if_pos h0];exact h.tw.dead hl hA
  | some f=>
    have hc:=h.tw.count;have hle:=zdt (fun p=>(HX.AT C log p).isSome) len
    have hal:alive - 1+1=alive:=by
     have:=z5L (P:=fun p=>(HX.AT C log p).isSome) (Q:=fun q=>if q=p then false else (HX.AT C log q).isSome) (p:=p) (by simp [hA]) (by simp) (fun q hq=>by simp [hq]) hl;omega
    refine (HX.zcG h.st h.sd.pins p (alive - 1) f hp hl rfl hA hal (by omega) hg).mono ?_;rintro e w' ⟨rfl,C',s1,s2,s3,s4,s5⟩;refine ⟨by rw [h0],C',alive - 1,s1,h.sd.step s4.tree s5,?_,h.byte⟩;rw [if_pos h0];exact (h.tw.drop hl hA s2).2
 ·have h0:=h.tw.far (p:=p) (by omega)
  refine (HX.zea h.st p (by omega)).mono ?_;rintro e w' ⟨rfl,rfl⟩;refine ⟨by rw [h0],C,alive,h.st,h.sd,?_,h.byte⟩;rw [if_neg (by rw [h0];decide)];exact h.tw
theorem z9W {w wx:World} {g log len N B2 gt gs n c:Nat} {D:Int} {a:Option Addr} {l:List RND} (p:Nat) (h:zbY w wx g log len N B2 gt gs D n a c l p):
  Calls Tryz.prog 10 #[.pointer (some ⟨gs,0,none⟩),.int .u64 (p:Int)] wx fun e w'=>e=.returned (.int .i64 (RDRP l p))/\∃ l' C alive,BOTHD w w' g log len N B2 gt gs D n a c l' C alive:=by
 obtain ⟨C,alive,h1,h2,h3,h4⟩:=h;refine (zeN h2.rt.store p).mono ?_;rintro e w' ⟨rfl,k1,k2⟩;obtain ⟨m1,m2⟩:=h2.rdrop h1 (l':=if RDRP l p=0 then l.set p ZRN else l) (by split <;> simp) k1 k2;refine ⟨rfl,_,C,alive,m1,m2,h3,fun v hv=>?_⟩;split at hv
 ·rcases List.mem_or_eq_of_mem_set hv with hv | rfl
  ·exact h4 v hv
  ·exact z5M
 ·exact h4 v hv
theorem BOTHD.noded {w wx:World} {g log len N B2 gt gs n c alive:Nat} {D:Int} {a:Option Addr} {l:List RND} {C:HX.z02} (h:BOTHD w wx g log len N B2 gt gs D n a c l C alive) (P:List Nat) (hP:∀ p∈P,p<2 ^ 64):zbX wx g (fun p=>(RGOT l p).2) (fun p=>(RGOT l p).1) P:=fun W hb p hp=>by
 have hc:=HX.z9z (h.st.below hb) p (hP p hp);rw [z47,(h.tw.got p).1,(h.tw.got p).2] at hc;exact hc
theorem z7r {l:List RND} (h:∀ v∈l,∀ x∈v.hash,0<=x/\x<=255) (P:List Nat):∀ x∈P.flatMap fun p=>(RGOT l p).2,0<=x/\x<=255:=fun x hx=>by
 obtain ⟨p,_,hx⟩:=List.mem_flatMap.1 hx;unfold RGOT at hx;cases hp:l[p]? with
 | none=>rw [hp] at hx;exact z5M x hx
 | some v=>
   rw [hp] at hx;dsimp only at hx;split at hx
   ·exact h v (List.mem_of_getElem? hp) x hx
   ·exact z5M x hx
theorem z4Q (g:Nat) (w:World):Calls Tryz.prog 6 #[.pointer (some ⟨g,0,none⟩)] w fun e w'=>e=.returned (.pointer (some ⟨g,0,none⟩))/\w=w':=by
 go_enter Tryz.func6,Tryz.ntmps6;go_wp2;go_ret;exact ⟨rfl,rfl⟩
theorem zdu {w w1 w2:World} {g gt gs n c log:Nat} {d D:Int} {l:List RND} {a:Option Addr} (hH:HX.Has w1 g (HX.z6b d log) 73) (hb1:Below w.heap.size w w1) (hR:RTREE w2 w1.heap.size gt gs D n l a c) (hb2:Below w1.heap.size w1 w2):SIDES w w2 g (fun _=>none) w1.heap.size gt gs D n l a c:=by
 have h2:=hH.keep hb2;have hg:=hH.lt;refine ⟨h2.cell 4,hR,fun x hx=>⟨?_,fun hf=>?_⟩,hb1.trans (hb2.mono hb1.size),hb1.size⟩
 ·have:w1.heap.size<=x:=by
   rcases hx with rfl | rfl | hx
   ·exact hR.base
   ·exact hR.store.base
   ·exact (hR.store.own.lt x hx).1
  omega
 ·rcases hf with hf | ⟨k,gc,rs,e,_⟩
  ·rw [h2.cell 3] at hf
   cases hf
  ·cases e
theorem zgm {w wx:World} {g B2 gt gs n c log:Nat} {d D:Int} {l:List RND} {a:Option Addr} {C:HX.z02} {f:Nat->Nat->Nat} (hF:HX.FOREST wx w.heap.size g d log n C f) (hS:SIDES w wx g C B2 gt gs D n l a c) (hl:l.length=z01 n) (hn:∀ h k,(k+1)*2 ^ h<=n->l[PLC h k]?=some ⟨TVAL d f h k,true,0⟩):BOTHD w wx g log (z01 n) (z01 n) B2 gt gs D n a c l C (z01 n):=by
 refine ⟨hF.store,hS,zgl hF hl hn,fun v hv=>?_⟩;obtain ⟨p,hp⟩:=List.mem_iff_getElem?.1 hv;have hlt:=(List.getElem?_eq_some_iff.1 hp).1;obtain ⟨h,k,rfl,hk⟩:=z6m hF.few (by omega:p<z01 n);rw [hn h k hk] at hp;cases hp;exact (zaM hF.byte hk).2
@[go_sem] def MMKOPSq0:Oper:=⟨some 76,.move (.tmp 11),25,"law.go:107",#[],none⟩
@[go_sem] def MMKOPSq1:Oper:=⟨some 77,.call {callee:=.value (.func 6),args:=#[.tmp 76],argTypes:=#[25]},29,"law.go:107",#[⟨0,.data⟩],none⟩
@[go_sem] def MMKOPSq2:Oper:=⟨some 78,.move (.tmp 2),23,"law.go:107",#[],none⟩
@[go_sem] def MMKOPSq3:Oper:=⟨some 79,.move (.tmp 15),3,"law.go:107",#[],none⟩
@[go_sem] def MMKOPSq4:Oper:=⟨some 80,.indexAddr 23 (.tmp 78) (.tmp 79),0,"law.go:107",#[⟨2,.data⟩,⟨3,.data⟩],none⟩
@[go_sem] def MMKOPSq5:Oper:=⟨some 81,.load 24 (.tmp 80),24,"law.go:107",#[⟨4,.data⟩],none⟩
@[go_sem] def MMKOPSq6:Oper:=⟨some 82,.call {callee:=.value (.func 9),args:=#[.tmp 77,.tmp 81],argTypes:=#[29,24]},26,"law.go:107",#[⟨1,.data⟩,⟨5,.data⟩,⟨1,.chain⟩],none⟩
@[go_sem] def MMKOPSq7:Oper:=⟨some 83,.move (.tmp 13),31,"law.go:107",#[],none⟩
@[go_sem] def MMKOPSq8:Oper:=⟨some 84,.nilCheck (.tmp 83),0,"law.go:107",#[⟨7,.data⟩],none⟩
@[go_sem] def MMKOPSq9:Oper:=⟨some 85,.fieldAddr 39 (.tmp 84) 2,0,"law.go:107",#[⟨8,.data⟩],none⟩
@[go_sem] def MMKOPSq10:Oper:=⟨some 86,.load 37 (.tmp 85),37,"law.go:107",#[⟨9,.data⟩],none⟩
@[go_sem] def MMKOPSq11:Oper:=⟨some 87,.move (.tmp 2),23,"law.go:107",#[],none⟩
@[go_sem] def MMKOPSq12:Oper:=⟨some 88,.move (.tmp 15),3,"law.go:107",#[],none⟩
@[go_sem] def MMKOPSq13:Oper:=⟨some 89,.indexAddr 23 (.tmp 87) (.tmp 88),0,"law.go:107",#[⟨11,.data⟩,⟨12,.data⟩],none⟩
@[go_sem] def MMKOPSq14:Oper:=⟨some 90,.load 24 (.tmp 89),24,"law.go:107",#[⟨13,.data⟩],none⟩
@[go_sem] def MMKOPSq15:Oper:=⟨some 91,.call {callee:=.value (.func 10),args:=#[.tmp 86,.tmp 90],argTypes:=#[37,24]},26,"law.go:107",#[⟨10,.data⟩,⟨14,.data⟩,⟨6,.chain⟩],none⟩
@[go_sem] def MMKOPSq16:Oper:=⟨some 92,.binOp .neq 26 (.tmp 82) (.tmp 91) 26,4,"law.go:107",#[⟨6,.data⟩,⟨15,.data⟩],none⟩
def z3d:Array Oper:=#[MMKOPSq0,MMKOPSq1,MMKOPSq2,MMKOPSq3,MMKOPSq4,MMKOPSq5,MMKOPSq6,MMKOPSq7,MMKOPSq8,MMKOPSq9,MMKOPSq10,MMKOPSq11,MMKOPSq12,MMKOPSq13,MMKOPSq14,MMKOPSq15,MMKOPSq16]
theorem zf9 {Q:Exit->Act->World->Prop} {d f h j k l m p q r s u y A B C D E F G H I J K L M N O P R T U V X Y Z aa ab ac ad ae af ag ah ai aj ak al am an ao ap aq ar au av aw ax ay az aA aB aC aD aE aF aG aH aI aJ aK aL aM aN aO aP aQ aR aS aT aU aV aW aX aY aZ a0 a1 a2 a3 a4 a5 a6 a7 a8 a9 ba bb bc bd be bf bg bh bi bj bk bl bm bn bo bp bq br bs bt bu bv bw bx bz bA bB bC bD bE bF bG bH bI bJ bK bL bM bN bO bP bQ bR bS bT bU bV bW bX bY bZ b0 b2 b3 b4 b5 b6 b7 b8 b9 ca cb cc cd ce cf cg ch ci cj ck cl cm cn co cp cq cr cs ct cu:Value} (W:World) (g gt gs b o n c i x:Nat) (v:Int) (b1:(i:Int)<(n:Int)) (P0 P1 P2:World->Prop) (h0:P0 W.drew) (s0:∀ w,P0 w->(fun w:World=>w.cell? ⟨gt,2,none⟩=some (.pointer (some ⟨gs,0,none⟩))/\w.cell? ⟨b,o+i,none⟩=some (.int .u64 (x:Int))) w) (s1:∀ w,P1 w->(fun w:World=>w.cell? ⟨gt,2,none⟩=some (.pointer (some ⟨gs,0,none⟩))/\w.cell? ⟨b,o+i,none⟩=some (.int .u64 (x:Int))) w) (s2:∀ w,P2 w->(fun w:World=>w.cell? ⟨gt,2,none⟩=some (.pointer (some ⟨gs,0,none⟩))/\w.cell? ⟨b,o+i,none⟩=some (.int .u64 (x:Int))) w) (q0:∀ w,P0 w->Calls Tryz.prog 6 #[.pointer (some ⟨g,0,none⟩)] w fun e w'=>e=.returned (.pointer (some ⟨g,0,none⟩))/\P0 w') (q1:∀ w,P0 w->Calls Tryz.prog 9 #[.pointer (some ⟨g,0,none⟩),.int .u64 (x:Int)] w fun e w'=>e=.returned (.int .i64 v)/\P1 w') (q2:∀ w,P1 w->Calls Tryz.prog 10 #[.pointer (some ⟨gs,0,none⟩),.int .u64 (x:Int)] w fun e w'=>e=.returned (.int .i64 v)/\P2 w') (hQ:∀ c (a:Act) (t:Tmp) (v:Value) w,Q (.panic c) (a.put (some t) v) w->Q (.panic c) a w)
  (hfin:∀ (w:World),(P2 w)->Q .normal {tmps:=#[d,f,.slice (some ⟨b,o,none⟩) n c,h,j,k,l,m,p,q,r,.pointer (some ⟨g,0,none⟩),s,.pointer (some ⟨gt,0,none⟩),u,.int .i64 (i:Int),y,A,B,C,D,E,F,G,H,I,J,K,L,M,N,O,P,R,T,U,V,X,Y,Z,aa,ab,ac,ad,ae,af,ag,ah,ai,aj,ak,al,am,an,ao,ap,aq,ar,au,av,aw,ax,ay,az,aA,aB,aC,aD,aE,aF,aG,aH,aI,aJ,aK,aL,.pointer (some ⟨g,0,none⟩),.pointer (some ⟨g,0,none⟩),.slice (some ⟨b,o,none⟩) n c,.int .i64 (i:Int),.pointer (some ⟨b,o+i,none⟩),.int .u64 (x:Int),.int .i64 v,.pointer (some ⟨gt,0,none⟩),.pointer (some ⟨gt,0,none⟩),.pointer (some ⟨gt,2,none⟩),.pointer (some ⟨gs,0,none⟩),.slice (some ⟨b,o,none⟩) n c,.int .i64 (i:Int),.pointer (some ⟨b,o+i,none⟩),.int .u64 (x:Int),.int .i64 v,.bool false,a3,a4,a5,a6,a7,a8,a9,ba,bb,bc,bd,be,bf,bg,bh,bi,bj,bk,bl,bm,bn,bo,bp,bq,br,bs,bt,bu,bv,bw,bx,bz,bA,bB,bC,bD,bE,bF,bG,bH,bI,bJ,bK,bL,bM,bN,bO,bP,bQ,bR,bS,bT,bU,bV,bW,bX,bY,bZ,b0,b2,b3,b4,b5,b6,b7,b8,b9,ca,cb,cc,cd,ce,cf,cg,ch,ci,cj,ck,cl,cm,cn,co,cp,cq,cr,cs,ct,cu],defers:=[]} w):(Code.region 14 z3d true).wp Tryz.prog Q {tmps:=#[d,f,.slice (some ⟨b,o,none⟩) n c,h,j,k,l,m,p,q,r,.pointer (some ⟨g,0,none⟩),s,.pointer (some ⟨gt,0,none⟩),u,.int .i64 (i:Int),y,A,B,C,D,E,F,G,H,I,J,K,L,M,N,O,P,R,T,U,V,X,Y,Z,aa,ab,ac,ad,ae,af,ag,ah,ai,aj,ak,al,am,an,ao,ap,aq,ar,au,av,aw,ax,ay,az,aA,aB,aC,aD,aE,aF,aG,aH,aI,aJ,aK,aL,aM,aN,aO,aP,aQ,aR,aS,aT,aU,aV,aW,aX,aY,aZ,a0,a1,a2,a3,a4,a5,a6,a7,a8,a9,ba,bb,bc,bd,be,bf,bg,bh,bi,bj,bk,bl,bm,bn,bo,bp,bq,br,bs,bt,bu,bv,bw,bx,bz,bA,bB,bC,bD,bE,bF,bG,bH,bI,bJ,bK,bL,bM,bN,bO,bP,bQ,bR,bS,bT,bU,bV,bW,bX,bY,bZ,b0,b2,b3,b4,b5,b6,b7,b8,b9,ca,cb,cc,cd,ce,cf,cg,ch,ci,cj,ck,cl,cm,cn,co,cp,cq,cr,cs,ct,cu],defers:=[]} W:=by
 have kst1_6_15:∀ (w:World),(P2 w)->wpAnyH Tryz.prog .any z3d Q (fun w:World=>w.cell? ⟨gt,2,none⟩=some (.pointer (some ⟨gs,0,none⟩))/\w.cell? ⟨b,o+i,none⟩=some (.int .u64 (x:Int))) 0 #[tt,tt,tt,tt,tt,tt,tt,tt,tt,tt,tt,tt,tt,tt,tt,tt,tt] {tmps:=#[d,f,.slice (some ⟨b,o,none⟩) n c,h,j,k,l,m,p,q,r,.pointer (some ⟨g,0,none⟩),s,.pointer (some ⟨gt,0,none⟩),u,.int .i64 (i:Int),y,A,B,C,D,E,F,G,H,I,J,K,L,M,N,O,P,R,T,U,V,X,Y,Z,aa,ab,ac,ad,ae,af,ag,ah,ai,aj,ak,al,am,an,ao,ap,aq,ar,au,av,aw,ax,ay,az,aA,aB,aC,aD,aE,aF,aG,aH,aI,aJ,aK,aL,.pointer (some ⟨g,0,none⟩),.pointer (some ⟨g,0,none⟩),.slice (some ⟨b,o,none⟩) n c,.int .i64 (i:Int),.pointer (some ⟨b,o+i,none⟩),.int .u64 (x:Int),.int .i64 v,.pointer (some ⟨gt,0,none⟩),.pointer (some ⟨gt,0,none⟩),.pointer (some ⟨gt,2,none⟩),.pointer (some ⟨gs,0,none⟩),.slice (some ⟨b,o,none⟩) n c,.int .i64 (i:Int),.pointer (some ⟨b,o+i,none⟩),.int .u64 (x:Int),.int .i64 v,.bool false,a3,a4,a5,a6,a7,a8,a9,ba,bb,bc,bd,be,bf,bg,bh,bi,bj,bk,bl,bm,bn,bo,bp,bq,br,bs,bt,bu,bv,bw,bx,bz,bA,bB,bC,bD,bE,bF,bG,bH,bI,bJ,bK,bL,bM,bN,bO,bP,bQ,bR,bS,bT,bU,bV,bW,bX,bY,bZ,b0,b2,b3,b4,b5,b6,b7,b8,b9,ca,cb,cc,cd,ce,cf,cg,ch,ci,cj,ck,cl,cm,cn,co,cp,cq,cr,cs,ct,cu],defers:=[]} w:=fun  w hp=>by
  exact wpAnyH_done (by kernel_rfl) (hfin  w hp) _
 have ekst1_6_15:∀ (w:World),(P2 w)->wpAnyH Tryz.prog .any z3d Q (fun w:World=>w.cell? ⟨gt,2,none⟩=some (.pointer (some ⟨gs,0,none⟩))/\w.cell? ⟨b,o+i,none⟩=some (.int .u64 (x:Int))) 1 #[tt,tt,tt,tt,tt,tt,tt,tt,tt,tt,tt,tt,tt,tt,tt,tt,ff] {tmps:=#[d,f,.slice (some ⟨b,o,none⟩) n c,h,j,k,l,m,p,q,r,.pointer (some ⟨g,0,none⟩),s,.pointer (some ⟨gt,0,none⟩),u,.int .i64 (i:Int),y,A,B,C,D,E,F,G,H,I,J,K,L,M,N,O,P,R,T,U,V,X,Y,Z,aa,ab,ac,ad,ae,af,ag,ah,ai,aj,ak,al,am,an,ao,ap,aq,ar,au,av,aw,ax,ay,az,aA,aB,aC,aD,aE,aF,aG,aH,aI,aJ,aK,aL,.pointer (some ⟨g,0,none⟩),.pointer (some ⟨g,0,none⟩),.slice (some ⟨b,o,none⟩) n c,.int .i64 (i:Int),.pointer (some ⟨b,o+i,none⟩),.int .u64 (x:Int),.int .i64 v,.pointer (some ⟨gt,0,none⟩),.pointer (some ⟨gt,0,none⟩),.pointer (some ⟨gt,2,none⟩),.pointer (some ⟨gs,0,none⟩),.slice (some ⟨b,o,none⟩) n c,.int .i64 (i:Int),.pointer (some ⟨b,o+i,none⟩),.int .u64 (x:Int),.int .i64 v,a2,a3,a4,a5,a6,a7,a8,a9,ba,bb,bc,bd,be,bf,bg,bh,bi,bj,bk,bl,bm,bn,bo,bp,bq,br,bs,bt,bu,bv,bw,bx,bz,bA,bB,bC,bD,bE,bF,bG,bH,bI,bJ,bK,bL,bM,bN,bO,bP,bQ,bR,bS,bT,bU,bV,bW,bX,bY,bZ,b0,b2,b3,b4,b5,b6,b7,b8,b9,ca,cb,cc,cd,ce,cf,cg,ch,ci,cj,ck,cl,cm,cn,co,cp,cq,cr,cs,ct,cu],defers:=[]} w:=fun  w hp=>by
  have hww:(fun w:World=>w.cell? ⟨gt,2,none⟩=some (.pointer (some ⟨gs,0,none⟩))/\w.cell? ⟨b,o+i,none⟩=some (.int .u64 (x:Int))) w:=s2 _ hp;have last:=kst1_6_15  w hp;refine tkP MMKOPSq16 (.bool false) 16 hQ hww ?_;simp only [List.set];exact last
 have kst1_6:∀ (w:World),(P1 w)->wpAnyH Tryz.prog .any z3d Q (fun w:World=>w.cell? ⟨gt,2,none⟩=some (.pointer (some ⟨gs,0,none⟩))/\w.cell? ⟨b,o+i,none⟩=some (.int .u64 (x:Int))) 2 #[tt,tt,tt,tt,tt,tt,tt,tt,tt,tt,tt,tt,tt,tt,tt,ff,ff] {tmps:=#[d,f,.slice (some ⟨b,o,none⟩) n c,h,j,k,l,m,p,q,r,.pointer (some ⟨g,0,none⟩),s,.pointer (some ⟨gt,0,none⟩),u,.int .i64 (i:Int),y,A,B,C,D,E,F,G,H,I,J,K,L,M,N,O,P,R,T,U,V,X,Y,Z,aa,ab,ac,ad,ae,af,ag,ah,ai,aj,ak,al,am,an,ao,ap,aq,ar,au,av,aw,ax,ay,az,aA,aB,aC,aD,aE,aF,aG,aH,aI,aJ,aK,aL,.pointer (some ⟨g,0,none⟩),.pointer (some ⟨g,0,none⟩),.slice (some ⟨b,o,none⟩) n c,.int .i64 (i:Int),.pointer (some ⟨b,o+i,none⟩),.int .u64 (x:Int),.int .i64 v,.pointer (some ⟨gt,0,none⟩),.pointer (some ⟨gt,0,none⟩),.pointer (some ⟨gt,2,none⟩),.pointer (some ⟨gs,0,none⟩),.slice (some ⟨b,o,none⟩) n c,.int .i64 (i:Int),.pointer (some ⟨b,o+i,none⟩),.int .u64 (x:Int),a1,a2,a3,a4,a5,a6,a7,a8,a9,ba,bb,bc,bd,be,bf,bg,bh,bi,bj,bk,bl,bm,bn,bo,bp,bq,br,bs,bt,bu,bv,bw,bx,bz,bA,bB,bC,bD,bE,bF,bG,bH,bI,bJ,bK,bL,bM,bN,bO,bP,bQ,bR,bS,bT,bU,bV,bW,bX,bY,bZ,b0,b2,b3,b4,b5,b6,b7,b8,b9,ca,cb,cc,cd,ce,cf,cg,ch,ci,cj,ck,cl,cm,cn,co,cp,cq,cr,cs,ct,cu],defers:=[]} w:=fun  w hp=>by
  refine wpAnyH_ready (rs:=[15]) (by kernel_rfl) (by simp) ?_;refine AllReadyH.cons (o:=MMKOPSq15) rfl (fun KQ hKQ=>?_) ?_
  ·rw [if_pos (by rfl)]
   go_simp;refine (show Calls _ _ _ w (fun e w'=>e=.returned (.int .i64 v)/\(P2 w')) from q2 w hp).mono ?_;rintro e w' ⟨rfl,hp⟩;exact hKQ.out _ _ (s2 _ hp) (fun _=>ekst1_6_15  w' hp)
  exact AllReadyH.nil
 have kst1:∀ (w:World),(P0 w)->wpAnyH Tryz.prog .any z3d Q (fun w:World=>w.cell? ⟨gt,2,none⟩=some (.pointer (some ⟨gs,0,none⟩))/\w.cell? ⟨b,o+i,none⟩=some (.int .u64 (x:Int))) 3 #[tt,tt,tt,tt,tt,tt,ff,tt,tt,tt,tt,tt,tt,tt,tt,ff,ff] {tmps:=#[d,f,.slice (some ⟨b,o,none⟩) n c,h,j,k,l,m,p,q,r,.pointer (some ⟨g,0,none⟩),s,.pointer (some ⟨gt,0,none⟩),u,.int .i64 (i:Int),y,A,B,C,D,E,F,G,H,I,J,K,L,M,N,O,P,R,T,U,V,X,Y,Z,aa,ab,ac,ad,ae,af,ag,ah,ai,aj,ak,al,am,an,ao,ap,aq,ar,au,av,aw,ax,ay,az,aA,aB,aC,aD,aE,aF,aG,aH,aI,aJ,aK,aL,.pointer (some ⟨g,0,none⟩),.pointer (some ⟨g,0,none⟩),.slice (some ⟨b,o,none⟩) n c,.int .i64 (i:Int),.pointer (some ⟨b,o+i,none⟩),.int .u64 (x:Int),aS,.pointer (some ⟨gt,0,none⟩),.pointer (some ⟨gt,0,none⟩),.pointer (some ⟨gt,2,none⟩),.pointer (some ⟨gs,0,none⟩),.slice (some ⟨b,o,none⟩) n c,.int .i64 (i:Int),.pointer (some ⟨b,o+i,none⟩),.int .u64 (x:Int),a1,a2,a3,a4,a5,a6,a7,a8,a9,ba,bb,bc,bd,be,bf,bg,bh,bi,bj,bk,bl,bm,bn,bo,bp,bq,br,bs,bt,bu,bv,bw,bx,bz,bA,bB,bC,bD,bE,bF,bG,bH,bI,bJ,bK,bL,bM,bN,bO,bP,bQ,bR,bS,bT,bU,bV,bW,bX,bY,bZ,b0,b2,b3,b4,b5,b6,b7,b8,b9,ca,cb,cc,cd,ce,cf,cg,ch,ci,cj,ck,cl,cm,cn,co,cp,cq,cr,cs,ct,cu],defers:=[]} w:=fun  w hp=>by
  refine wpAnyH_ready (rs:=[6]) (by kernel_rfl) (by simp) ?_;refine AllReadyH.cons (o:=MMKOPSq6) rfl (fun KQ hKQ=>?_) ?_
  ·rw [if_pos (by rfl)]
   go_simp;refine (show Calls _ _ _ w (fun e w'=>e=.returned (.int .i64 v)/\(P1 w')) from q1 w hp).mono ?_;rintro e w' ⟨rfl,hp⟩;exact hKQ.out _ _ (s1 _ hp) (fun _=>kst1_6  w' hp)
  exact AllReadyH.nil
 have kst:∀ (w:World),(P0 w)->wpAnyH Tryz.prog .any z3d Q (fun w:World=>w.cell? ⟨gt,2,none⟩=some (.pointer (some ⟨gs,0,none⟩))/\w.cell? ⟨b,o+i,none⟩=some (.int .u64 (x:Int))) 4 #[tt,ff,tt,tt,tt,tt,ff,tt,tt,tt,tt,tt,tt,tt,tt,ff,ff] {tmps:=#[d,f,.slice (some ⟨b,o,none⟩) n c,h,j,k,l,m,p,q,r,.pointer (some ⟨g,0,none⟩),s,.pointer (some ⟨gt,0,none⟩),u,.int .i64 (i:Int),y,A,B,C,D,E,F,G,H,I,J,K,L,M,N,O,P,R,T,U,V,X,Y,Z,aa,ab,ac,ad,ae,af,ag,ah,ai,aj,ak,al,am,an,ao,ap,aq,ar,au,av,aw,ax,ay,az,aA,aB,aC,aD,aE,aF,aG,aH,aI,aJ,aK,aL,.pointer (some ⟨g,0,none⟩),aN,.slice (some ⟨b,o,none⟩) n c,.int .i64 (i:Int),.pointer (some ⟨b,o+i,none⟩),.int .u64 (x:Int),aS,.pointer (some ⟨gt,0,none⟩),.pointer (some ⟨gt,0,none⟩),.pointer (some ⟨gt,2,none⟩),.pointer (some ⟨gs,0,none⟩),.slice (some ⟨b,o,none⟩) n c,.int .i64 (i:Int),.pointer (some ⟨b,o+i,none⟩),.int .u64 (x:Int),a1,a2,a3,a4,a5,a6,a7,a8,a9,ba,bb,bc,bd,be,bf,bg,bh,bi,bj,bk,bl,bm,bn,bo,bp,bq,br,bs,bt,bu,bv,bw,bx,bz,bA,bB,bC,bD,bE,bF,bG,bH,bI,bJ,bK,bL,bM,bN,bO,bP,bQ,bR,bS,bT,bU,bV,bW,bX,bY,bZ,b0,b2,b3,b4,b5,b6,b7,b8,b9,ca,cb,cc,cd,ce,cf,cg,ch,ci,cj,ck,cl,cm,cn,co,cp,cq,cr,cs,ct,cu],defers:=[]} w:=fun  w hp=>by
  refine wpAnyH_ready (rs:=[1]) (by kernel_rfl) (by simp) ?_;refine AllReadyH.cons (o:=MMKOPSq1) rfl (fun KQ hKQ=>?_) ?_
  ·rw [if_pos (by rfl)]
   go_simp;refine (show Calls _ _ _ w (fun e w'=>e=.returned (.pointer (some ⟨g,0,none⟩))/\(P0 w')) from q0 w hp).mono ?_;rintro e w' ⟨rfl,hp⟩;exact hKQ.out _ _ (s0 _ hp) (fun _=>kst1  w' hp)
  exact AllReadyH.nil
 have hp:=h0;have hww:(fun w:World=>w.cell? ⟨gt,2,none⟩=some (.pointer (some ⟨gs,0,none⟩))/\w.cell? ⟨b,o+i,none⟩=some (.int .u64 (x:Int))) W.drew:=s0 _ hp;have last:=kst W.drew hp
 have z:wpAnyH Tryz.prog .any z3d Q (fun w:World=>w.cell? ⟨gt,2,none⟩=some (.pointer (some ⟨gs,0,none⟩))/\w.cell? ⟨b,o+i,none⟩=some (.int .u64 (x:Int))) 17 #[ff,ff,ff,ff,ff,ff,ff,ff,ff,ff,ff,ff,ff,ff,ff,ff,ff] {tmps:=#[d,f,.slice (some ⟨b,o,none⟩) n c,h,j,k,l,m,p,q,r,.pointer (some ⟨g,0,none⟩),s,.pointer (some ⟨gt,0,none⟩),u,.int .i64 (i:Int),y,A,B,C,D,E,F,G,H,I,J,K,L,M,N,O,P,R,T,U,V,X,Y,Z,aa,ab,ac,ad,ae,af,ag,ah,ai,aj,ak,al,am,an,ao,ap,aq,ar,au,av,aw,ax,ay,az,aA,aB,aC,aD,aE,aF,aG,aH,aI,aJ,aK,aL,aM,aN,aO,aP,aQ,aR,aS,aT,aU,aV,aW,aX,aY,aZ,a0,a1,a2,a3,a4,a5,a6,a7,a8,a9,ba,bb,bc,bd,be,bf,bg,bh,bi,bj,bk,bl,bm,bn,bo,bp,bq,br,bs,bt,bu,bv,bw,bx,bz,bA,bB,bC,bD,bE,bF,bG,bH,bI,bJ,bK,bL,bM,bN,bO,bP,bQ,bR,bS,bT,bU,bV,bW,bX,bY,bZ,b0,b2,b3,b4,b5,b6,b7,b8,b9,ca,cb,cc,cd,ce,cf,cg,ch,ci,cj,ck,cl,cm,cn,co,cp,cq,cr,cs,ct,cu],defers:=[]} W.drew:=by
  refine tkP MMKOPSq0 (.pointer (some ⟨g,0,none⟩)) 0 hQ hww ?_;simp only [List.set];refine tkP MMKOPSq2 (.slice (some ⟨b,o,none⟩) n c) 2 hQ hww ?_;simp only [List.set];refine tkP MMKOPSq3 (.int .i64 (i:Int)) 3 hQ hww ?_;simp only [List.set];refine tkH MMKOPSq4 (.pointer (some ⟨b,o+i,none⟩)) 4 hQ (Or.inl ⟨by rfl,fun w hw=>by have hx:=b1;go_simp⟩) hww ?_;simp only [List.set];refine tkH MMKOPSq5 (.int .u64 (x:Int)) 5 hQ (Or.inl ⟨by rfl,fun w hw=>by have hx:=hw.2;go_simp⟩) hww ?_;simp only [List.set];refine tkP MMKOPSq7 (.pointer (some ⟨gt,0,none⟩)) 7 hQ hww ?_;simp only [List.set];refine tkP MMKOPSq8 (.pointer (some ⟨gt,0,none⟩)) 8 hQ hww ?_;simp only [List.set];refine tkP MMKOPSq9 (.pointer (some ⟨gt,2,none⟩)) 9 hQ hww ?_;simp only [List.set];refine tkH MMKOPSq10 (.pointer (some ⟨gs,0,none⟩)) 10 hQ (Or.inl ⟨by rfl,fun w hw=>by have hx:=hw.1;go_simp⟩) hww ?_;simp only [List.set];refine tkP MMKOPSq11 (.slice (some ⟨b,o,none⟩) n c) 11 hQ hww ?_;simp only [List.set];refine tkP MMKOPSq12 (.int .i64 (i:Int)) 12 hQ hww ?_;simp only [List.set];refine tkH MMKOPSq13 (.pointer (some ⟨b,o+i,none⟩)) 13 hQ (Or.inl ⟨by rfl,fun w hw=>by have hx:=b1;go_simp⟩) hww ?_;simp only [List.set];refine tkH MMKOPSq14 (.int .u64 (x:Int)) 14 hQ (Or.inl ⟨by rfl,fun w hw=>by have hx:=hw.2;go_simp⟩) hww ?_;simp only [List.set];exact last
 exact wp_region_held_drew (S:=(fun w:World=>w.cell? ⟨gt,2,none⟩=some (.pointer (some ⟨gs,0,none⟩))/\w.cell? ⟨b,o+i,none⟩=some (.int .u64 (x:Int)))) (by kernel_rfl) hww (fun _=>z)
end Go.Proofs.YthmnailmbgondaaGreatDoor
namespace Go.Proofs.YthmnailmbgondaaGreatDoor
set_option maxRecDepth 100000
def NEED:Nat->Nat->List Nat->List Nat
 | h,k,[]=>[PLC h k]
 | 0,_,_ :: _=>[]
 | h+1,k,x :: l=>NEED h (2*k) ((x :: l).filter fun y=>decide (y<(2*k+1)*2 ^ h)) ++ NEED h (2*k+1) ((x :: l).filter fun y=>!decide (y<(2*k+1)*2 ^ h))
theorem z1O (h k:Nat):NEED h k []=[PLC h k]:=by cases h <;> rfl
theorem z4R (h k x:Nat) (l:List Nat):NEED (h+1) k (x :: l)=NEED h (2*k) ((x :: l).filter fun y=>decide (y<(2*k+1)*2 ^ h)) ++ NEED h (2*k+1) ((x :: l).filter fun y=>!decide (y<(2*k+1)*2 ^ h)):=rfl
theorem RANKS.take:∀ {L:List Nat} {t r:Nat},RANKS L t r->L.take r=L.filter fun y=>decide (y<t)
 | [],t,r,_=>by simp
 | x :: l,t,0,h=>by
   rw [List.take_zero];symm;rw [List.filter_eq_nil_iff];intro y hy;obtain ⟨i,hi⟩:=List.getElem?_of_mem hy;have:=h.hi i y (Nat.zero_le _) hi;simp;omega
 | x :: l,t,r+1,h=>by
   have hx:x<t:=h.lo 0 x (by omega) rfl;have h':RANKS l t r:=⟨by have:=h.le;simp at this;omega,fun i y hi hy=>h.lo (i+1) y (by omega) (by simpa using hy),fun i y hi hy=>h.hi (i+1) y (by omega) (by simpa using hy)⟩
   rw [List.take_succ_cons,List.filter_cons_of_pos (by simpa using hx),h'.take]
theorem RANKS.drop:∀ {L:List Nat} {t r:Nat},RANKS L t r->L.drop r=L.filter fun y=>!decide (y<t)
 | [],t,r,_=>by simp
 | x :: l,t,0,h=>by
   rw [List.drop_zero];symm;rw [List.filter_eq_self];intro y hy;obtain ⟨i,hi⟩:=List.getElem?_of_mem hy;have:=h.hi i y (Nat.zero_le _) hi;simp;omega
 | x :: l,t,r+1,h=>by
   have hx:x<t:=h.lo 0 x (by omega) rfl;have h':RANKS l t r:=⟨by have:=h.le;simp at this;omega,fun i y hi hy=>h.lo (i+1) y (by omega) (by simpa using hy),fun i y hi hy=>h.hi (i+1) y (by omega) (by simpa using hy)⟩
   rw [List.drop_succ_cons,List.filter_cons_of_neg (by simpa using hx),h'.drop]
theorem RISES.take {L:List Nat} (h:RISES L) (r:Nat):RISES (L.take r):=fun i j x y hij hx hy=>by
 rw [List.getElem?_take] at hx hy;split at hx
 ·split at hy
  ·exact h i j x y hij hx hy
  ·cases hy
 ·cases hx
theorem RISES.drop {L:List Nat} (h:RISES L) (r:Nat):RISES (L.drop r):=fun i j x y hij hx hy=>by
 rw [List.getElem?_drop] at hx hy;exact h (r+i) (r+j) x y (by omega) hx hy
theorem z7s {h k r:Nat} {L:List Nat} (hL:L≠[]) (hr:RANKS L ((2*k+1)*2 ^ h) r):NEED (h+1) k L=NEED h (2*k) (L.take r) ++ NEED h (2*k+1) (L.drop r):=by
 cases L with
 | nil=>exact absurd rfl hL
 | cons x l=>rw [z4R,hr.take,hr.drop]
def z0m:List (Nat × Nat)->List Nat->List Nat
 | [],_=>[]
 | (h,k) :: ps,L=>NEED h k (L.filter fun y=>decide (y<(k+1)*2 ^ h)) ++ z0m ps (L.filter fun y=>!decide (y<(k+1)*2 ^ h))
theorem z6n {h k r:Nat} {L:List Nat} (ps:List (Nat × Nat)) (hr:RANKS L ((k+1)*2 ^ h) r):z0m ((h,k) :: ps) L=NEED h k (L.take r) ++ z0m ps (L.drop r):=by
 rw [z0m,hr.take,hr.drop]
theorem z3z (p:Nat->Bool):∀ l:List Nat,(l.filter p).length+(l.filter fun y=>!p y).length=l.length
 | []=>rfl
 | x :: l=>by
   have:=z3z p l;cases h:p x <;> simp [List.filter,h] <;> omega
theorem z4d:∀ (h k:Nat) (L:List Nat),L≠[]->(NEED h k L).length<=L.length*h
 | _,_,[],hL=>absurd rfl hL
 | 0,_,_ :: _,_=>by simp [NEED]
 | h + 1,k,x :: l,_=>by
   rw [z4R,List.length_append];generalize hA:((x :: l).filter fun y=>decide (y<(2*k+1)*2 ^ h))=A;generalize hB:((x :: l).filter fun y=>!decide (y<(2*k+1)*2 ^ h))=B
   have hAB:A.length+B.length=(x :: l).length:=by
    rw [<-hA,<-hB];exact z3z _ _
   have h1:(NEED h (2*k) A).length<=A.length*h+(if A.length=0 then 1 else 0):=by
    cases A with
    | nil=>rw [z1O];simp
    | cons y m=>exact Nat.le_trans (z4d h (2*k) (y :: m) (by simp)) (Nat.le_add_right _ _)
   have h2:(NEED h (2*k+1) B).length<=B.length*h+(if B.length=0 then 1 else 0):=by
    cases B with
    | nil=>rw [z1O];simp
    | cons y m=>exact Nat.le_trans (z4d h (2*k+1) (y :: m) (by simp)) (Nat.le_add_right _ _)
   have h3:0<(x :: l).length:=by simp
   have h4:A.length*h+B.length*h=(x :: l).length*h:=by rw [<-Nat.add_mul,hAB]
   rw [Nat.mul_succ];generalize (NEED h (2*k) A).length=u at *
   generalize (NEED h (2*k+1) B).length=v at *
   generalize A.length*h=p at *
   generalize B.length*h=q at *
   generalize (x :: l).length*h=s at *
   generalize (x :: l).length=m at *
   split at h1 <;> split at h2 <;> omega
theorem z7t (h k:Nat) (L:List Nat):(NEED h k L).length<=L.length*h+1:=by
 cases L with
 | nil=>rw [z1O];simp
 | cons x l=>exact Nat.le_trans (z4d h k (x :: l) (by simp)) (Nat.le_add_right _ _)
end Go.Proofs.YthmnailmbgondaaGreatDoor
namespace Go.Proofs.YthmnailmbgondaaGreatDoor
open Go.RowKit
set_option maxRecDepth 100000
def SLA (a:Option Addr) (c k:Nat):Option Addr:=match a with
 | none=>none
 | some ad=>if c=k then some ad else some ⟨ad.block,ad.off+k*32,none⟩
theorem Flat.behind {w:World} {a:Option Addr} {n c:Nat} {l:List Int} (h:Flat w a n l) (k:Nat) (hk:k<=n) (hc:n<=c):Flat w (SLA a c k) (n - k) (l.drop (32*k)):=by
 refine ⟨by rw [List.length_drop,h.1];omega,fun h0=>?_,fun x hx=>h.2.2 x (List.mem_of_mem_drop hx)⟩;obtain ⟨b,o,rfl,hb,hcs⟩:=h.2.1 (by omega);have hck:¬ c=k:=by omega
 refine ⟨b,o+k*32,by simp [SLA,hck],hb,fun j hj=>?_⟩;rw [show o+k*32+j=o+(32*k+j) by omega,hcs (32*k+j) (by omega)];congr 2
 rw [List.getD_eq_getElem?_getD,List.getD_eq_getElem?_getD,List.getElem?_drop]
end Go.Proofs.YthmnailmbgondaaGreatDoor
namespace Go.Proofs.YthmnailmbgondaaGreatDoor
set_option maxRecDepth 100000
def UNR (h k:Nat) (L:List Nat):Prop:=RISES L/\∀ x∈L,k*2 ^ h<=x/\x<(k+1)*2 ^ h
theorem z8S (h k:Nat):(2*k)*2 ^ h=k*2 ^ (h+1)/\(2*k+1+1)*2 ^ h=(k+1)*2 ^ (h+1):=by
 rw [Nat.pow_succ];constructor
 ·rw [Nat.mul_comm 2 k,Nat.mul_assoc,Nat.mul_comm 2]
 ·rw [show 2*k+1+1=2*(k+1) by omega,Nat.mul_comm 2 (k+1),Nat.mul_assoc,Nat.mul_comm 2]
def HSS (n:Nat) (l:List Int):Prop:=l.length=32*n/\∀ x∈l,0<=x/\x<=255
theorem HSS.rest {n:Nat} {l:List Int} (h:HSS n l):HSS (n - 1) (l.drop 32):=⟨by rw [List.length_drop,h.1];omega,fun x hx=>h.2 x (List.mem_of_mem_drop hx)⟩
end Go.Proofs.YthmnailmbgondaaGreatDoor
namespace Go.Proofs.YthmnailmbgondaaGreatDoor
open Go.RowKit
set_option maxRecDepth 100000
def TOLD (S P:List Nat->World->Prop) (X:List PanicEntry) (acc l:List Nat) (e:Ending) (w':World):Prop:=(e=.returned (.tuple #[])/\S (acc ++ l) w')\/∃ pre p,(pre ++ [p]) <+: (acc ++ l)/\e=.panicked X/\P pre w'
structure SPLIT (w w':World) (a:Option Addr) (n c:Nat) (L:List Nat) (t r:Nat) (a':Option Addr):Prop where
 rank:RANKS L t r
 lies:NUML w a' (L.drop r)
 nil:a'=none->c - r=0
 block:∀ x,a'=some x->∃ y,a=some y/\x.block=y.block
 spot:∀ x,a'=some x->x.spot=none
 below:Below w.heap.size w w'
theorem z4e (h k:Nat) (hN:Node h k) (a:Option Addr) (n c:Nat) (L:List Nat) (hl:L.length=n) (hn:n<2 ^ 40) (hR:RISES L) (hc:n<=c) (hnil:a=none->c=0) (hsp:∀ x,a=some x->x.spot=none) (w:World) (hL:NUML w a L):
   Calls Tryz.prog 114 #[.slice a n c,.int .u64 ((PLC h k:Nat):Int)] w fun e w'=>∃ r a',e=.returned (.tuple #[.slice a r c,.slice a' (n - r) (c - r)])/\SPLIT w w' a n c L ((k+1)*2 ^ h) r a':=by
 have cu:=zev h k hN w;obtain ⟨t,ht⟩:∃ t,(k+1)*2 ^ h=t:=⟨_,rfl⟩
 rw [ht] at cu ⊢;have HA:Aside (L.length=n/\n<2 ^ 40/\RISES L/\NUML w a L/\n<=c):=⟨hl,hn,hR,hL,hc⟩
 have NI:Aside (a=none->c=0):=hnil;have SP:Aside (∀ x,a=some x->x.spot=none):=hsp;clear hl hn hR hL hc hnil hsp ht;go_enter Tryz.func114,Tryz.ntmps114;go_wp2_with fail
 refine cu.mono ?_;rintro e w1 ⟨rfl,hb1⟩;clear cu
 have cs:=z4t a n c L t HA.out.1 HA.out.2.1 HA.out.2.2.1 w1 (fun h0=>by
   obtain ⟨b,o,e,hl,hc⟩:=HA.out.2.2.2.1 h0;exact ⟨b,o,e,Nat.lt_of_lt_of_le hl hb1.size,fun i x hx=>(hb1.cell (p:=⟨b,o+i,none⟩) hl).trans (hc i x hx)⟩)
 have B1:Aside (Below w.heap.size w w1):=hb1;clear hb1;go_wp2_with fail
 refine cs.mono ?_;rintro e w2 ⟨r,f,rfl,hr,rfl⟩;clear cs;have hrn:r<=n:=by have:=hr.le;have:=HA.out.1;omega
 have y1:(r:Int)<=(c:Int):=by have:=HA.out.2.2.2.2;omega
 have y2:(r:Int)<=(n:Int):=by omega
 have y3:(0:Int)<=(r:Int):=by omega
 have RK:Aside (RANKS L t r):=hr;clear hr;cases a with
 | none=>
   have h0:=NI.out rfl;subst h0;have hr0:r=0:=by omega
   subst hr0;have hn0:n=0:=by have:=HA.out.2.2.2.2;omega
   subst hn0;have FN:Aside (∀ W,Below w.heap.size w W->SPLIT w W none 0 0 L t 0 none):=fun W hb=>⟨RK.out,fun h=>by have:=HA.out.1;simp at h;omega,fun _=>rfl,(fun x e=>by cases e),(fun x e=>by cases e),hb⟩
   clear HA NI SP RK;go_upto_region 3 with fail
   go_quiet (fail)
   go_wp2;go_ret2;exact ⟨0,none,rfl,FN.out _ (below_drewN B1.out _)⟩
 | some x=>
   obtain ⟨b,o,sp⟩:=x;have hsp:sp=none:=SP.out _ rfl;subst hsp;by_cases hcr:c=r
   ·have FN:Aside (∀ W,Below w.heap.size w W->SPLIT w W (some ⟨b,o,none⟩) n c L t r (some ⟨b,o,none⟩)):=fun W hb=>⟨RK.out,fun h=>by have:=HA.out.1;have:=HA.out.2.2.2.2;simp at h;omega,(fun e=>by cases e),(fun x e=>⟨_,rfl,by cases e;rfl⟩),(fun x e=>by cases e;rfl),hb⟩
    clear HA NI SP RK;go_upto_region 3 with fail
    go_quiet (fail)
    go_wp2;go_ret2;exact ⟨r,_,by rw [hcr,Nat.sub_self];rfl,FN.out _ (below_drewN B1.out _)⟩
   ·have FN:Aside (∀ W,Below w.heap.size w W->SPLIT w W (some ⟨b,o,none⟩) n c L t r (some ⟨b,o+r,none⟩)):=fun W hb=>by
     refine ⟨RK.out,fun h=>?_,(fun e=>by cases e),(fun x e=>⟨_,rfl,by cases e;rfl⟩),(fun x e=>by cases e;rfl),hb⟩;obtain ⟨b',o',e,hl,hc⟩:=HA.out.2.2.2.1 (by simp at h;omega);cases e;refine ⟨b,o+r,rfl,hl,fun i x hx=>?_⟩;rw [List.getElem?_drop] at hx;rw [Nat.add_assoc];exact hc (r+i) x hx
    clear HA NI SP RK;go_upto_region 3 with fail
    go_quiet (fail)
    go_wp2;go_ret2;exact ⟨r,_,rfl,FN.out _ (below_drewN B1.out _)⟩
end Go.Proofs.YthmnailmbgondaaGreatDoor
