/- ManyClashes: part 12. -/
import Derived.Test.YtobaogpomcocpaaGreatDoorManyClashesP11
set_option maxRecDepth 100000
set_option maxHeartbeats 8000000
open Go.RowKit
namespace Go.Proofs.YtobaogpomcocpaaGreatDoor
def MST(d:Int):Nat->Nat->List Nat->List Int->List Int->List (List Int × List Int)
 | _,_,[],_,_=>[]
 | 0,_,_ :: _,_,_=>[]
 | h + 1,k,x :: l,lv,nd=>
   MST d h (2*k) ((x :: l).filter fun y=>decide (y<(2*k+1)*2 ^ h)) lv nd
    ++ MST d h (2*k+1) ((x :: l).filter fun y=>!decide (y<(2*k+1)*2 ^ h)) (MUP d h (2*k) ((x :: l).filter fun y=>decide (y<(2*k+1)*2 ^ h)) lv nd).2.1 (MUP d h (2*k) ((x :: l).filter fun y=>decide (y<(2*k+1)*2 ^ h)) lv nd).2.2
    ++ [((MUP d h (2*k) ((x :: l).filter fun y=>decide (y<(2*k+1)*2 ^ h)) lv nd).1,(MUP d h (2*k+1) ((x :: l).filter fun y=>!decide (y<(2*k+1)*2 ^ h)) (MUP d h (2*k) ((x :: l).filter fun y=>decide (y<(2*k+1)*2 ^ h)) lv nd).2.1 (MUP d h (2*k) ((x :: l).filter fun y=>decide (y<(2*k+1)*2 ^ h)) lv nd).2.2).1)]
theorem XJ(d:Int)(h k:Nat)(lv nd:List Int):MST d h k [] lv nd=[]:=by cases h <;> rfl
theorem jB{d:Int}{h k r:Nat}{L:List Nat}{lv nd:List Int}(hL:L≠[])(hr:RANKS L ((2*k+1)*2 ^ h) r):
  MST d (h+1) k L lv nd=MST d h (2*k) (L.take r) lv nd ++ MST d h (2*k+1) (L.drop r) (MUP d h (2*k) (L.take r) lv nd).2.1 (MUP d h (2*k) (L.take r) lv nd).2.2 ++ [((MUP d h (2*k) (L.take r) lv nd).1,(MUP d h (2*k+1) (L.drop r) (MUP d h (2*k) (L.take r) lv nd).2.1 (MUP d h (2*k) (L.take r) lv nd).2.2).1)]:=by
 cases L with
 | nil=>exact absurd rfl hL
 | cons x l=>rw[hr.take,hr.drop];rfl
theorem qB(d:Int):∀ (h k:Nat) (L:List Nat) (lv nd lv' nd':List Int),(MST d h k L lv nd).length=(MST d h k L lv' nd').length
 | 0,k,L,lv,nd,lv',nd'=>by cases L <;> rfl
 | h+1,k,[],lv,nd,lv',nd'=>rfl
 | h+1,k,x :: l,lv,nd,lv',nd'=>by
   rw[MST,MST];simp only[List.length_append,List.length_cons,List.length_nil];rw[qB d h (2*k) _ lv nd lv' nd',qB d h (2*k+1) _ _ _ (MUP d h (2*k) ((x :: l).filter fun y=>decide (y<(2*k+1)*2 ^ h)) lv' nd').2.1 (MUP d h (2*k) ((x :: l).filter fun y=>decide (y<(2*k+1)*2 ^ h)) lv' nd').2.2]
theorem ZJ(d:Int):∀ (h k:Nat) (L:List Nat) (lv nd:List Int),UNR h k L->(MUP d h k L lv nd).2.1=lv.drop (32*L.length):=by
 intro h;induction h with
 | zero=>
   intro k L lv nd hU;cases L with
   | nil=>rfl
   | cons x l=>obtain rfl:=hU.leaf;rfl
 | succ h ih=>
   intro k L lv nd hU;by_cases hL:L=[]
   ·subst hL;rfl
   ·obtain⟨r,hr⟩:∃ r,RANKS L ((2*k+1)*2 ^ h) r:=yv hU.1 _
    have hle:=hr.le;rw[qN hL hr,ih (2*k+1) _ _ _ (hU.right hr),ih (2*k) _ _ _ (hU.left hr),List.drop_drop,List.length_take,List.length_drop];congr 1
    omega
def NOCL(d:Int)(S S':List (List Int × List Int)):Prop:=∀ p∈S.zip S',zp d p.1.1 p.1.2=zp d p.2.1 p.2.2->p.1=p.2
theorem NOCL.left{d:Int}{A B A' B':List (List Int × List Int)}(h:NOCL d (A ++ B) (A' ++ B'))(hl:A.length=A'.length):NOCL d A A':=fun p hp=>h p (by rw[List.zip_append hl];exact List.mem_append_left _ hp)
theorem NOCL.right{d:Int}{A B A' B':List (List Int × List Int)}(h:NOCL d (A ++ B) (A' ++ B'))(hl:A.length=A'.length):NOCL d B B':=fun p hp=>h p (by rw[List.zip_append hl];exact List.mem_append_right _ hp)
theorem NOCL.one{d:Int}{a b a' b':List Int}(h:NOCL d [(a,b)] [(a',b')])(he:zp d a b=zp d a' b'):a=a'/\b=b':=by
 have:=h ((a,b),(a',b')) (List.mem_singleton.2 rfl) he;exact⟨congrArg Prod.fst this,congrArg Prod.snd this⟩
theorem VN{l l':List Int}{a b:Nat}(h1:l.take a=l'.take a)(h2:(l.drop a).take b=(l'.drop a).take b):l.take (a+b)=l'.take (a+b):=by
 rw[List.take_add,List.take_add,h1,h2]
theorem gN(d:Int):∀ (h k:Nat) (L:List Nat) (lv nd lv' nd':List Int),UNR h k L->NOCL d (MST d h k L lv nd) (MST d h k L lv' nd')->(MUP d h k L lv nd).1=(MUP d h k L lv' nd').1->lv.take (32*L.length)=lv'.take (32*L.length):=by
  intro h;induction h with
  | zero=>
    intro k L lv nd lv' nd' hU _ he;cases L with
    | nil=>rfl
    | cons x l=>
      obtain rfl:=hU.leaf;exact he
  | succ h ih=>
    intro k L lv nd lv' nd' hU hN he;by_cases hL:L=[]
    · subst hL;rfl
    · obtain⟨r,hr⟩:∃ r,RANKS L ((2*k+1)*2 ^ h) r:=yv hU.1 _
      have hle:=hr.le;have uL:=hU.left hr;have uR:=hU.right hr;rw[jB hL hr,jB hL hr] at hN;have l1:=qB d h (2*k) (L.take r) lv nd lv' nd';have l2:=qB d h (2*k+1) (L.drop r) (MUP d h (2*k) (L.take r) lv nd).2.1 (MUP d h (2*k) (L.take r) lv nd).2.2 (MUP d h (2*k) (L.take r) lv' nd').2.1 (MUP d h (2*k) (L.take r) lv' nd').2.2;have nA:=hN.left (by rw[List.length_append,List.length_append,l1,l2]);have nB:=hN.right (by rw[List.length_append,List.length_append,l1,l2]);rw[qN hL hr,qN hL hr] at he;have e2:=nB.one he;have q1:=ih (2*k) (L.take r) lv nd lv' nd' uL (nA.left l1) e2.1;have q2:=ih (2*k+1) (L.drop r) _ _ _ _ uR (nA.right l1) e2.2;rw[ZJ d h (2*k) (L.take r) lv nd uL,ZJ d h (2*k) (L.take r) lv' nd' uL] at q2;have:=VN q1 q2;rwa [List.length_take,List.length_drop,show 32*min r L.length+32*(L.length - r)=32*L.length by omega] at this
def MSTS(d:Int):List (Nat × Nat)->List Nat->List Int->List Int->List (List Int × List Int)
 | [],_,_,_=>[]
 | (h,k) :: ps,L,lv,nd=>MST d h k (L.filter fun y=>decide (y<(k+1)*2 ^ h)) lv nd ++ MSTS d ps (L.filter fun y=>!decide (y<(k+1)*2 ^ h)) (MUP d h k (L.filter fun y=>decide (y<(k+1)*2 ^ h)) lv nd).2.1 (MUP d h k (L.filter fun y=>decide (y<(k+1)*2 ^ h)) lv nd).2.2
theorem jo{d:Int}{h k r:Nat}{L:List Nat}{lv nd:List Int}(ps:List (Nat × Nat))(hr:RANKS L ((k+1)*2 ^ h) r):MSTS d ((h,k) :: ps) L lv nd=MST d h k (L.take r) lv nd ++ MSTS d ps (L.drop r) (MUP d h k (L.take r) lv nd).2.1 (MUP d h k (L.take r) lv nd).2.2:=by
 rw[MSTS,hr.take,hr.drop]
theorem JQ(d:Int):∀ (ps:List (Nat × Nat)) (L:List Nat) (lv nd lv' nd':List Int),(MSTS d ps L lv nd).length=(MSTS d ps L lv' nd').length
 | [],_,_,_,_,_=>rfl
 | (h,k) :: ps,L,lv,nd,lv',nd'=>by
   rw[MSTS,MSTS,List.length_append,List.length_append,qB d h k _ lv nd lv' nd',JQ d ps _ _ _ (MUP d h k (L.filter fun y=>decide (y<(k+1)*2 ^ h)) lv' nd').2.1 (MUP d h k (L.filter fun y=>decide (y<(k+1)*2 ^ h)) lv' nd').2.2]
theorem Jt(d:Int):∀ (ps:List (Nat × Nat)) (A B:Nat) (L:List Nat) (lv nd lv' nd':List Int) (i j j':Nat),Tile A ps B->AMID A B L->RISES L->HSS i lv->HSS j nd->HSS i lv'->HSS j' nd'->L.length<=i->(zc ps L).length<=j->(zc ps L).length<=j'->
   NOCL d (MSTS d ps L lv nd) (MSTS d ps L lv' nd')->MUPS d ps L lv nd=MUPS d ps L lv' nd'->lv.take (32*L.length)=lv'.take (32*L.length)
 | [],A,B,L,lv,nd,lv',nd',i,j,j',ht,hm,hR,hi,hj,hi',hj',h1,h2,h3,hN,he=>by
   have hAB:A=B:=ht;cases L with
   | nil=>rfl
   | cons x l=>
     have:=hm x (by simp);omega
 | (h,k) :: ps,A,B,L,lv,nd,lv',nd',i,j,j',ht,hm,hR,hi,hj,hi',hj',h1,h2,h3,hN,he=>by
   obtain⟨hNd,hA,ht⟩:Node h k/\k*2 ^ h=A/\Tile ((k+1)*2 ^ h) ps B:=ht;obtain⟨r,hr⟩:=yv hR ((k+1)*2 ^ h);have hn:=y7 ps hr;have hle:=hr.le;have hU:=hm.take hR hr hA;rw[hn,List.length_append] at h2 h3;have s:=yj d h k (L.take r) lv nd i j hU hi hj (by rw[List.length_take];omega) (by omega);have s':=yj d h k (L.take r) lv' nd' i j' hU hi' hj' (by rw[List.length_take];omega) (by omega);rw[jo ps hr,jo ps hr] at hN;rw[qF ps hr,qF ps hr] at he;obtain⟨e1,e2⟩:=List.append_inj he (by rw[s.1.1,s'.1.1]);have l1:=qB d h k (L.take r) lv nd lv' nd';have q1:=gN d h k (L.take r) lv nd lv' nd' hU (hN.left l1) e1;have q2:=Jt d ps ((k+1)*2 ^ h) B (L.drop r) _ _ _ _ _ _ _ ht (hm.drop hr) (hR.drop r) s.2.1 s.2.2 s'.2.1 s'.2.2 (by rw[List.length_take,List.length_drop];omega) (by omega) (by omega) (hN.right l1) e2;rw[ZJ d h k (L.take r) lv nd hU,ZJ d h k (L.take r) lv' nd' hU] at q2;have:=VN q1 q2;rwa [List.length_take,List.length_drop,show 32*min r L.length+32*(L.length - r)=32*L.length by omega] at this
theorem LSK.hss{w0:World}{bc bs:Nat}{v:Value}{n:Nat}{l:List Int}(h:LSK w0 bc bs v n l):HSS n l:=by
 obtain⟨a,c,_,_,h,_⟩:=h;exact⟨h.1,h.2.2⟩
theorem z2l(w0:World)(bc bs:Nat)(d:Int)(hc0:bc<w0.heap.size)(hbs0:bs<w0.heap.size)(hX:∀ W,KPZ bc bs w0 W->HX.Tabled W):∀ (h k:Nat),Node h k->∀ (L:List Nat) (a:Option Addr) (n c:Nat) (lv nd:List Int) (i j:Nat) (S:List (List Int × List Int)) (w:World),L.length=n->n<2 ^ 40->UNR h k L->n<=c->(a=none->c=0)->INDK w0 bc bs a->NUML w0 a L->CLH w0 w bc bs d lv nd i j S->n<=i->(NEED h k L).length<=j->S.length+(MST d h k L lv nd).length<=90000->
    Calls Tryz.prog 80 #[.pointer (some ⟨bc,0,none⟩),.int .u64 ((PLC h k:Nat):Int),.slice a n c] w (UPH w0 w bc bs d (MUP d h k L lv nd).1 (MUP d h k L lv nd).2.1 (MUP d h k L lv nd).2.2 (i - n) (j - (NEED h k L).length) (S ++ MST d h k L lv nd)):=by
  intro h;induction h with
  | zero=>
    intro k hN L a n c lv nd i j S w hl hn hU hc hnil hbl hL hC hi hj hS;have hsl:=hC.1;cases L with
    | nil=>
      obtain rfl:n=0:=by simpa using hl.symm
      rw[yh] at hj ⊢;obtain⟨vl,vn,_,_,q⟩:=hsl;rw[XJ,List.append_nil];exact VJ w0 w bc bs S d _ lv nd i j c a hC hc0 hj (q.hss.first hj).1
    | cons x l=>
      obtain rfl:=hU.leaf;obtain rfl:n=1:=by simpa using hl.symm
      obtain⟨vl,vn,_,q,_⟩:=hsl;rw[show MST d 0 k [x] lv nd=[] from rfl,List.append_nil];exact z02 w0 w bc bs S d k hN lv nd i j 1 c a (by decide) hC hc0 hi (q.hss.first hi).1
  | succ h ih=>
    intro k hN L a n c lv nd i j S w hl hn hU hc hnil hbl hL hC hi hj hS;by_cases hLe:L=[]
    · subst hLe
      obtain rfl:n=0:=by simpa using hl.symm
      rw[yh] at hj ⊢;obtain⟨vl,vn,_,_,q⟩:=hC.1;rw[uA,XJ,List.append_nil];exact VJ w0 w bc bs S d _ lv nd i j c a hC hc0 hj (q.hss.first hj).1
    · obtain⟨r,hr⟩:=yv hU.1 ((2*k+1)*2 ^ h)
      have hN':=xR hLe hr;have hle:=hr.le;rw[hN',List.length_append] at hj;obtain⟨hNl,hNr⟩:=hN.kid;have ht:(L.take r).length=r:=by rw[List.length_take];omega
      have hd:(L.drop r).length=n - r:=by rw[List.length_drop,hl]
      obtain⟨vl,vn,_,q1,q2⟩:=hC.1;have s1:=yj d h (2*k) (L.take r) lv nd i j (hU.left hr) q1.hss q2.hss (by omega) (by omega);have s2:=yj d h (2*k+1) (L.drop r) _ _ _ _ (hU.right hr) s1.2.1 s1.2.2 (by omega) (by omega);have hp:0<L.length:=List.length_pos_iff.2 hLe
      have hL1:NUML w0 a (L.take r):=fun h0=>by
        obtain⟨b,o,e,hl,hcc⟩:=hL hp;refine⟨b,o,e,hl,fun i x hx=>hcc i x ?_⟩;rw[List.getElem?_take] at hx;split at hx
        · exact hx
        · cases hx
      have hM:=jB (d:=d) (lv:=lv) (nd:=nd) hLe hr;rw[hM,List.length_append,List.length_append,List.length_singleton] at hS
      have cu:=z03 w0 w bc bs S (S ++ MST d h (2*k) (L.take r) lv nd) (S ++ MST d h (2*k) (L.take r) lv nd ++ MST d h (2*k+1) (L.drop r) (MUP d h (2*k) (L.take r) lv nd).2.1 (MUP d h (2*k) (L.take r) lv nd).2.2) d h k hN L a n c hl hn hU.1 hc hnil hbl hL (by omega) lv nd _ _ _ _ _ _ i j _ _ _ _ hC hc0 hbs0 (by rw[List.length_append,List.length_append];omega) hX s1.1 s2.1
        (fun r' W hr' hW=>by
          obtain rfl:=Zq hr' hr;exact ih (2*k) hNl (L.take r') a r' c lv nd i j S W ht (by omega) (hU.left hr) (by omega) hnil hbl hL1 hW (by omega) (by omega) (by omega))
        (fun r' a' W hr' hLa hba hna hW=>by
          obtain rfl:=Zq hr' hr;exact ih (2*k+1) hNr (L.drop r') a' (n - r') (c - r') _ _ _ _ _ W hd (by omega) (hU.right hr) (by omega) hna hba hLa hW (by omega) (by omega) (by rw[List.length_append];omega))
      rw[qN hLe hr,hN',List.length_append,hM,<-List.append_assoc,<-List.append_assoc];rwa [show i - r - (n - r)=i - n by omega,Nat.sub_sub] at cu
theorem VO{w:World}{B s n k:Nat}{v:Value}{xs:List Value}(h:w.ownsRow B 23 s v n xs)(hk:v.ownBlock=some k):NOST w k:=fun cs fr e=>by
 rcases h.2 with ⟨e',_⟩ | ⟨g,cap,cur,e',_,hg,_⟩
 ·rw[e'] at hk
  cases hk
 ·rw[e'] at hk
  cases hk;rw[hg] at e;simp only[Option.some.injEq,Obj.cells.injEq] at e;exact absurd e.2.1 (by decide)
theorem HRS.hold{w w':World}{B bs:Nat}{d:Int}{v:Value}{S:List (List Int × List Int)}(h:HRS w B bs d v S)(hs:w.heap.size<=w'.heap.size)(hb:w'.heap[bs]?=w.heap[bs]?)(hk:∀ k,v.ownBlock=some k->w'.heap[k]?=w.heap[k]?):HRS w' B bs d v S:=
 ⟨hb.trans h.box,yx h.own hk,h.lt,Nat.le_trans h.base hs⟩
theorem HRS.mono{w:World}{B B' bs:Nat}{d:Int}{v:Value}{S:List (List Int × List Int)}(h:HRS w B bs d v S)(hB:B'<=B)(hb:bs<B'):HRS w B' bs d v S:=
 ⟨h.box,zq h.own hB,hb,Nat.le_trans hB h.base⟩
theorem kW{bc bs:Nat}{w w':World}(h:HX.Tabled w)(hb:KPZ bc bs w w')(h1:1<bs)(h2:1<bc):HX.Tabled w':=by
 have b0:=hb.block 1 (by have:=h.2.2;omega) (by omega) (by omega);have b1:=hb.block 0 (by have:=h.2.2;omega) (by omega) (by omega);exact⟨fun i hi=>(World.cell?_of_block (w:=w) (a:=⟨1,i,none⟩) b0).trans (h.1 i hi),fun i hi=>(World.cell?_of_block (w:=w) (a:=⟨0,i,none⟩) b1).trans (h.2.1 i hi),Nat.lt_of_lt_of_le h.2.2 hb.size⟩
structure HOUT (w w':World) (bs:Nat) (d:Int) (S:List (List Int × List Int)):Prop where
 hr:∃ v,HRS w' w.heap.size bs d v S
 os:w'.os=w.os
 tape:w'.tape=w.tape
 output:w'.output=w.output
 size:w.heap.size<=w'.heap.size
 block:∀ q,q<w.heap.size->q≠bs->w'.heap[q]?=w.heap[q]?
structure CLK (d:Int) (N:Nat) (L:List Nat) (lv nd:List Int) (w3 w4 wx:World) (B0 bc bs g:Nat) (n j n' c':Nat) (a':Option Addr) (Lj:List Nat) (lvj ndj:List Int) (pv:Value) (out:List Int) (B:Nat) (S:List (List Int × List Int)):Prop where
 len:Lj.length=n'
 le:n'<=n
 rise:RISES Lj
 cap:n'<=c'
 nil:a'=none->c'=0
 ind:INDK w3 bc bs a'
 lies:NUML w3 a' Lj
 clb:CLH w3 wx bc bs d lvj ndj n' (zc ((TPS N).drop j) Lj).length S
 amid:AMID B N Lj
 tile:Tile B ((TPS N).drop j) N
 all:MUPS d (TPS N) L lv nd=out ++ MUPS d ((TPS N).drop j) Lj lvj ndj
 own:wx.ownsRow w3.heap.size 23 32 pv j (za out)
 steps:MSTS d (TPS N) L lv nd=S ++ MSTS d ((TPS N).drop j) Lj lvj ndj
theorem mg(d:Int)(L:List Nat)(N:Nat)(a:Option Addr)(n c:Nat)(al:Option Addr)(cl:Nat)(an:Option Addr)(K cn:Nat)(lv nd:List Int)(bs:Nat)(w:World)(hBS:Has w bs #[.slice none 0 0] 52)(hGS:1<bs)(hoff:(∀ x,a=some x->x.block≠bs)/\(∀ x,al=some x->x.block≠bs)/\∀ x,an=some x->x.block≠bs)(hfew:(MSTS d (TPS N) L lv nd).length<=90000)(hN:N<=4611686018427387904)(hl:L.length=n)(hn:n<2 ^ 20)(hR:RISES L)(hLN:∀ x∈L,x<N)(hc:n<=c)(hnil:a=none->c=0)(hbl:∀ x,a=some x->x.block<w.heap.size/\x.spot=none)(hL:NUML w a L)
  (hcl:n<=cl)(hla:∀ x,al=some x->x.block<w.heap.size)(hFl:Flat w al n lv)(hcn:K<=cn)(hna:∀ x,an=some x->x.block<w.heap.size)(hFn:Flat w an K nd)(hK:K=(zc (TPS N) L).length)(hT:Tabled w)(hX:HX.Tabled w)(hw0:0<w.heap.size):
  Calls Tryz.prog 44 #[.int .i64 d,.slice al n cl,.agg (MBOX N a n c an K cn),.func (.func 45) #[] #[.pointer (some ⟨bs,0,none⟩)]] w fun e w'=>∃ ap cp,e=.returned (.slice ap (PC N) cp)/\w'.ownsRow w.heap.size 23 32 (.slice ap (PC N) cp) (PC N) (za (MUPS d (TPS N) L lv nd))/\HOUT w w' bs d (MSTS d (TPS N) L lv nd):=by
 have hM:(MBOX N a n c an K cn)=#[.int .u64 (N:Int),.slice a n c,.slice an K cn]:=rfl;have hHE:HVL bs=.func (.func 45) #[] #[.pointer (some ⟨bs,0,none⟩)]:=rfl;obtain⟨w1,e1⟩:∃ w1,w.alloc (.cells (MBOX N a n c an K cn) 45)=w1:=⟨_,rfl⟩
 obtain⟨w2,e2⟩:∃ w2,w1.alloc (.cells #[.int .i64 d,.slice al n cl,.slice an K cn,.func (.func 45) #[] #[.pointer (some ⟨bs,0,none⟩)]] 118)=w2:=⟨_,rfl⟩
 obtain⟨bc,hbc⟩:∃ bc,w1.heap.size=bc:=⟨_,rfl⟩
 have hb1:Below w.heap.size w w1:=by rw[<-e1];exact(Below.refl _ _).alloc (Nat.le_refl _) _
 have hb2:Below w.heap.size w w2:=by rw[<-e2];exact hb1.alloc hb1.size _
 have hB1:Has w1 w.heap.size (MBOX N a n c an K cn) 45:=by rw[<-e1];exact Has.new _ _ _
 have hC2:Has w2 bc #[.int .i64 d,.slice al n cl,.slice an K cn,HVL bs] 118:=by rw[<-e2,<-hbc];exact Has.new _ _ _
 have hB2:Has w2 w.heap.size (MBOX N a n c an K cn) 45:=by rw[<-e2];exact hB1.alloc _
 have hs1:w.heap.size<bc:=by rw[<-hbc];exact hB1.lt
 have cp:=jv N hN w2 (hT.below hw0 hb2) (by have:=hb2.size;omega);have hPC:PC N<=64:=yC 64 N (by omega);have hlen:=yR (n:=N) (by omega);have y0:w1.cell? ⟨w.heap.size,2,none⟩=some (.slice an K cn):=hB1.cell 2;have y1:w2.cell? ⟨w.heap.size,1,none⟩=some (.slice a n c):=hB2.cell 1;have y2:w2.cell? ⟨w.heap.size,0,none⟩=some (.int .u64 (N:Int)):=hB2.cell 0;have HA:Aside (n<2 ^ 20/\N<=2 ^ 62/\PC N<=64/\(TPS N).length=PC N/\w.heap.size<bc):=⟨hn,by omega,hPC,hlen,hs1⟩
 have LL:Aside (L.length=n/\RISES L/\(∀ x∈L,x<N)/\n<=c/\(a=none->c=0)/\(∀ x,a=some x->x.block<w.heap.size/\x.spot=none)/\NUML w a L):=⟨hl,hR,hLN,hc,hnil,hbl,hL⟩
 have LH:Aside (n<=cl/\(∀ x,al=some x->x.block<w.heap.size)/\Flat w al n lv/\K<=cn/\(∀ x,an=some x->x.block<w.heap.size)/\Flat w an K nd/\K=(zc (TPS N) L).length/\HX.Tabled w/\Below w.heap.size w w2/\Has w2 bc #[.int .i64 d,.slice al n cl,.slice an K cn,HVL bs] 118):=⟨hcl,hla,hFl,hcn,hna,hFn,hK,hX,hb2,hC2⟩
 have HT:Aside (Tile 0 (TPS N) N):=yE hN;have HS:Aside (bs<w.heap.size/\Has w bs #[.slice none 0 0] 52/\1<bs/\((∀ x,a=some x->x.block≠bs)/\(∀ x,al=some x->x.block≠bs)/\∀ x,an=some x->x.block≠bs)/\(MSTS d (TPS N) L lv nd).length<=90000):=⟨hBS.lt,hBS,hGS,hoff,hfew⟩
 clear hBS hGS hoff hfew;clear hl hn hR hLN hc hnil hbl hL hcl hla hFl hcn hna hFn hK hT hX hw0 hN hb1 hb2 hB1 hC2 hB2 hs1 hPC hlen hHE;rw[hM] at e1;have HBC:Aside (w1.heap.size=bc):=hbc;clear hbc;go_enter Tryz.func44,Tryz.ntmps44;rw[hM];go_upto_region 2 with (refine wpList_store_row rfl 118 (.tmp 9) (.tmp 21) rfl _ _ rfl rfl 118 _ (Has.new w1 _ _) (by kernel_rfl) rfl (by simp[Value.oneCell']) ?_;rw[World.setRow_alloc_new])
 rw[HBC.out,e2];clear e1 e2 HBC;go_wp2_with fail
 refine cp.mono ?_;rintro e w3 ⟨g,cg,rfl,hown,hb3⟩;clear cp y0 y1 y2;obtain⟨m,hm⟩:∃ m,PC N=m:=⟨_,rfl⟩
 rw[hm] at hown ⊢;have W3:Aside (Below w.heap.size w w3/\bc<w3.heap.size):=⟨LH.out.2.2.2.2.2.2.2.2.1.trans (hb3.mono LH.out.2.2.2.2.2.2.2.2.1.size),Nat.lt_of_lt_of_le LH.out.2.2.2.2.2.2.2.2.2.lt hb3.size⟩
 have R1:Aside (w3.ownsRow w2.heap.size 24 1 (.slice (some ⟨g,0,none⟩) m cg) m (ze (yW N))/\PC N=m/\g≠bc/\g<w3.heap.size):=⟨hown,hm,by have h1:=(hown.lt g rfl).1;have:=LH.out.2.2.2.2.2.2.2.2.2.lt;omega,(hown.lt g rfl).2⟩
 have W2S:Aside (w.heap.size<=w2.heap.size):=LH.out.2.2.2.2.2.2.2.2.1.size;have TX:Aside (∀ W,KPZ bc bs w3 W->HX.Tabled W):=fun W hb=>kW (LH.out.2.2.2.2.2.2.2.1.below W3.out.1) hb HS.out.2.2.1 (by have:=HS.out;have:=HA.out.2.2.2.2;omega)
 have S0:Aside (CLK d N L lv nd w3 w2 w3 0 bc bs g n 0 n c a L lv nd (.slice none 0 0) [] 0 []):=by
  obtain⟨q1,q2,q3,q4,q5,q6,q7,q8,q9,q10⟩:=LH.out;obtain⟨p1,p2,p3,p4,p5,p6,p7⟩:=LL.out;have hlt:=HA.out.2.2.2.2;refine⟨p1,Nat.le_refl _,p2,p4,p5,fun x hx=>⟨by have:=(p6 x hx).1;omega,HS.out.2.2.2.1.1 x hx,Nat.lt_of_lt_of_le (p6 x hx).1 W3.out.1.size,(p6 x hx).2⟩,fun hp=>?_,⟨⟨_,_,q10.keep hb3,⟨al,cl,rfl,q1,q3.below W3.out.1,fun x hx=>⟨by have:=q2 x hx;omega,HS.out.2.2.2.1.2.1 x hx⟩⟩,⟨an,cn,by rw[List.drop_zero,<-q7],by rw[List.drop_zero,<-q7];exact q4,by rw[List.drop_zero,<-q7];exact q6.below W3.out.1,fun x hx=>⟨by have:=q5 x hx;omega,HS.out.2.2.2.1.2.2 x hx⟩⟩⟩,⟨.slice none 0 0,HS.out.2.1.keep W3.out.1,⟨rfl,.inl ⟨rfl,rfl⟩⟩,Nat.lt_of_lt_of_le HS.out.1 W3.out.1.size,Nat.le_refl _⟩,⟨rfl,rfl,rfl,Nat.le_refl _,fun _ _ _ _=>rfl⟩⟩,fun x hx=>⟨Nat.zero_le _,p3 x hx⟩,by rw[List.drop_zero];exact HT.out,by simp,⟨rfl,.inl ⟨rfl,rfl⟩⟩,by simp⟩;obtain⟨b,o,e,hlt,hcc⟩:=p7 hp;exact⟨b,o,e,Nat.lt_of_lt_of_le hlt W3.out.1.size,fun i x hx=>(W3.out.1.cell (p:=⟨b,o+i,none⟩) hlt).trans (hcc i x hx)⟩
 clear hown hb3 hm LL LH HT;go_wp2_with fail
 go_loopg [10,11,28] m (fun q s10 s11 s28 wx=>∃ (j n' c':Nat) (a':Option Addr) (Lj:List Nat) (lvj ndj out:List Int) (B:Nat) (S:List (List Int × List Int)),s10=.slice a' n' c'/\s28=.int .i64 (j:Int)/\Aside (j+q=m/\CLK d N L lv nd w3 w2 wx 0 bc bs g n j n' c' a' Lj lvj ndj s11 out B S))
 case atStart=>exact⟨0,n,c,a,L,lv,nd,[],0,[],rfl,rfl,by omega,S0.out⟩
 case round=>
  obtain⟨j,n',c',a',Lj,lvj,ndj,out,B,S,rfl,rfl,A⟩:=hrel;clear S0;cases gk with
  | zero=>
    obtain rfl:j=m:=by have:=A.out.1;omega
    have hlt:¬ (j:Int)<(j:Int):=by omega
    have FN:Aside (∃ ap cp,u11=.slice ap (PC N) cp/\wr.ownsRow w.heap.size 23 32 (.slice ap (PC N) cp) (PC N) (za (MUPS d (TPS N) L lv nd))/\HOUT w wr bs d (MSTS d (TPS N) L lv nd)):=by
     show ∃ ap cp,u11=.slice ap (PC N) cp/\wr.ownsRow w.heap.size 23 32 (.slice ap (PC N) cp) (PC N) (za (MUPS d (TPS N) L lv nd))/\HOUT w wr bs d (MSTS d (TPS N) L lv nd);rw[R1.out.2.1];have h:=A.out.2;have e:=h.all;rw[List.drop_of_length_le (by have:=R1.out.2.1;have:=HA.out.2.2.2.1;omega),MUPS,List.append_nil] at e;have ho:=h.own;rw[<-e] at ho;obtain⟨ap,cp,rfl⟩:=Xi ho;have es:=h.steps;rw[List.drop_of_length_le (by have:=R1.out.2.1;have:=HA.out.2.2.2.1;omega),MSTS,List.append_nil] at es;rw[es];obtain⟨v,hv⟩:=h.clb.2.1;have kz:=h.clb.2.2;have w3b:=W3.out.1;have hbcw:=HA.out.2.2.2.2;exact⟨ap,cp,rfl,zq ho W3.out.1.size,⟨v,hv.mono W3.out.1.size HS.out.1⟩,kz.os.trans w3b.os,kz.tape.trans w3b.tape,kz.output.trans w3b.output,Nat.le_trans w3b.size kz.size,fun q hq h1=>(kz.block q (Nat.lt_of_lt_of_le hq w3b.size) (by omega) h1).trans (w3b.block q hq)⟩
    clear A R1 HA TX W3 HS;go_wp2_with fail
    obtain⟨ap,cp,rfl,h1,h2⟩:=FN.out;go_ret;exact⟨ap,cp,rfl,h1,h2⟩
  | succ q=>
    have hlt:(j:Int)<(m:Int):=by have:=A.out.1;omega
    have hjm:j<(TPS N).length:=by have:=A.out.1;have:=R1.out.2.1;have:=HA.out.2.2.2.1;omega
    obtain⟨⟨h,k⟩,ehk⟩:∃ s,(TPS N)[j]?=some s:=⟨_,List.getElem?_eq_getElem hjm⟩
    have hsp:=yu HA.out.2.1 (List.mem_of_getElem? ehk);have epk:=jA ehk
    have hcell:wr.cell? ⟨g,j,none⟩=some (.int .u64 ((PLC h k:Nat):Int)):=by
     have h1:=R1.out.1.cellAt j (by have:=A.out.1;omega);refine(World.cell?_of_block (w:=w3) (by exact A.out.2.clb.2.2.block g R1.out.2.2.2 R1.out.2.2.1 (by have:=(R1.out.1.lt g rfl).1;have:=W2S.out;have:=HS.out.1;omega))).trans (h1.trans ?_);rw[ze,List.getElem?_map,epk];rfl
    have ej:wrap64 ((j:Int)+1)=((j+1:Nat):Int):=by have:=A.out.1;have:=R1.out.2.1;have:=HA.out.2.2.1;unfold wrap64;omega
    have cs:=yU h k hsp.2.2 a' n' c' Lj A.out.2.len (by have:=A.out.2.le;have:=HA.out.1;omega) A.out.2.rise A.out.2.cap A.out.2.nil (fun x e=>(A.out.2.ind x e).2.2.2) wr (A.out.2.lies.kept A.out.2.clb.2.2 A.out.2.ind);have SP:Aside (Node h k/\(TPS N).drop j=(h,k) :: (TPS N).drop (j+1)):=⟨hsp.2.2,jn ehk⟩
    clear hsp ehk epk hjm;go_wp2_with fail
    refine cs.mono ?_;rintro e w5 ⟨r,a2,rfl,hs⟩;clear cs hcell;have htile:=A.out.2.tile;rw[SP.out.2] at htile;have hU:UNR h k (Lj.take r):=A.out.2.amid.take A.out.2.rise hs.rank htile.2.1;have hneed:=y7 ((TPS N).drop (j+1)) hs.rank;have hmups:=qF (d:=d) (lv:=lvj) (nd:=ndj) ((TPS N).drop (j+1)) hs.rank;rw[<-SP.out.2] at hneed hmups;have hmsts:=jo (d:=d) (lv:=lvj) (nd:=ndj) ((TPS N).drop (j+1)) hs.rank;rw[<-SP.out.2] at hmsts;have hsteps:=A.out.2.steps;rw[hmsts,<-List.append_assoc] at hsteps;have hfl:=HS.out.2.2.2.2;rw[hsteps,List.length_append,List.length_append] at hfl;have hrn:=hs.rank.le
    have hind2:INDK w3 bc bs a2:=fun x hx=>by
     obtain⟨y,e2,e3⟩:=hs.block x hx;have q:=A.out.2.ind y e2;exact⟨by rw[e3];exact q.1,by rw[e3];exact q.2.1,by rw[e3];exact q.2.2.1,hs.spot x hx⟩
    have hL2:NUML w3 a2 (Lj.drop r):=hs.lies.kback A.out.2.clb.2.2 hind2
    have hL1:NUML w3 a' (Lj.take r):=fun h0=>by
     obtain⟨b,o,e,hl,hcc⟩:=A.out.2.lies (by rw[List.length_take] at h0;omega);refine⟨b,o,e,hl,fun i x hx=>hcc i x ?_⟩;rw[List.getElem?_take] at hx;split at hx
     ·exact hx
     ·cases hx
    have hrn':r<=n':=by have:=A.out.2.len;omega
    have hnl:(zc ((TPS N).drop j) Lj).length=(NEED h k (Lj.take r)).length+(zc ((TPS N).drop (j+1)) (Lj.drop r)).length:=by rw[hneed,List.length_append]
    have hC5:CLH w3 w5 bc bs d lvj ndj n' (zc ((TPS N).drop j) Lj).length S:=A.out.2.clb.still hs.below;have hO5:w5.ownsRow w3.heap.size 23 32 u11 j (za out):=yx A.out.2.own fun k e=>hs.below.block k (A.out.2.own.lt k e).2;obtain⟨vl,vn,_,v1,v2⟩:=hC5.1;have hY:=(yj d h k (Lj.take r) lvj ndj n' _ hU v1.hss v2.hss (by rw[List.length_take];omega) (by rw[hnl];omega)).1;have cu:=z2l w3 bc bs d W3.out.2 (Nat.lt_of_lt_of_le HS.out.1 W3.out.1.size) TX.out h k SP.out.1 (Lj.take r) a' r c' lvj ndj n' _ S w5 (by rw[List.length_take];omega) (by have:=A.out.2.le;have:=HA.out.1;clear ej;omega) hU (by have:=A.out.2.cap;clear ej;omega) A.out.2.nil A.out.2.ind hL1 hC5 hrn' (by rw[hnl];clear ej;omega) (by clear ej;omega);rw[hnl,Nat.add_sub_cancel_left] at cu
    have Z5:Aside (w5.ownsRow w3.heap.size 23 32 u11 j (za out)/\(Lj.drop r).length=n' - r/\n' - r<=n/\RISES (Lj.drop r)/\n' - r<=c' - r/\(a2=none->c' - r=0)/\INDK w3 bc bs a2/\NUML w3 a2 (Lj.drop r)/\AMID ((k+1)*2 ^ h) N (Lj.drop r)/\Tile ((k+1)*2 ^ h) ((TPS N).drop (j+1)) N/\MUPS d (TPS N) L lv nd=out ++ (MUP d h k (Lj.take r) lvj ndj).1 ++ MUPS d ((TPS N).drop (j+1)) (Lj.drop r) (MUP d h k (Lj.take r) lvj ndj).2.1 (MUP d h k (Lj.take r) lvj ndj).2.2/\j+1+q=m/\j<=64):=by
     refine⟨hO5,by rw[List.length_drop,A.out.2.len],by have:=A.out.2.le;clear ej;omega,A.out.2.rise.drop r,by have:=A.out.2.cap;clear ej;omega,hs.nil,hind2,hL2,A.out.2.amid.drop hs.rank,htile.2.2,?_,by have:=A.out.1;clear ej;omega,by have:=A.out.1;have:=R1.out.2.1;have:=HA.out.2.2.1;clear ej;omega⟩;rw[A.out.2.all,hmups,List.append_assoc]
    have ZS:Aside (MSTS d (TPS N) L lv nd=S ++ MST d h k (Lj.take r) lvj ndj ++ MSTS d ((TPS N).drop (j+1)) (Lj.drop r) (MUP d h k (Lj.take r) lvj ndj).2.1 (MUP d h k (Lj.take r) lvj ndj).2.2):=hsteps;clear hs htile hU hneed hmups hmsts hsteps hfl hrn hind2 hL2 hL1 hnl hC5 hO5 v1 v2 A;generalize S ++ MST d h k (Lj.take r) lvj ndj=S2 at *
    have y32:=hY.1;generalize (MUP d h k (Lj.take r) lvj ndj).1=Y at *
    generalize (MUP d h k (Lj.take r) lvj ndj).2.1=lv2 at *
    generalize (MUP d h k (Lj.take r) lvj ndj).2.2=nd2 at *
    generalize c' - r=c2 at *
    obtain⟨n2,hn2⟩:∃ n2,n' - r=n2:=⟨_,rfl⟩
    rw[hn2] at cu Z5 ⊢;clear hn2 hrn';go_wp2_with fail
    refine cu.mono ?_;rintro e w6 ⟨rfl,h6,h7⟩;clear cu;have O6:Aside (w6.ownsRow w3.heap.size 23 32 u11 j (za out)):=yx Z5.out.1 fun k e=>h7.block k (Z5.out.1.lt k e).2 (by have:=(Z5.out.1.lt k e).1;have:=W3.out.2;clear ej;omega) (by have:=(Z5.out.1.lt k e).1;have:=W3.out.1.size;have:=HS.out.1;clear ej;omega) (VO Z5.out.1 e);have C6:Aside (CLH w3 w6 bc bs d lv2 nd2 n2 (zc ((TPS N).drop (j+1)) (Lj.drop r)).length S2/\w3.heap.size<=w6.heap.size):=⟨h6,h6.2.2.size⟩
    clear h6 h7
    go_wp2_with (first
     | (refine yM _ rfl 26 23 (.tmp 41) rfl (za Y).toArray rfl 32 _ _ Tryz.underlying26 yQ (by simp[za,y32]) rfl (by decide) (by decide) ?_)
     | (at_builtin;refine jz _ rfl (.tmp 38) (.tmp 42) rfl w3.heap.size u11 j _ rfl (O6.out.alloc _) _ 1 Y y32 rfl (Has.new _ _ _) (by have:=Z5.out;clear ej;omega) (by have:=C6.out.2;simp;clear ej;omega) ?_;intro g7 c7 w7 hown hgrow hat hg))
    have Z7:Aside (j+1+q=m/\CLK d N L lv nd w3 w2 w7 0 bc bs g n (j+1) n2 c2 a2 (Lj.drop r) lv2 nd2 (.slice (some ⟨g7,0,none⟩) (j+1) c7) (out ++ Y) ((k+1)*2 ^ h) S2):=by
     obtain⟨z1,z2,z3,z4,z5,z6,z7,z8,z9,z10,z11,z12,z13⟩:=Z5.out;have hsz:=vh hgrow;simp at hsz;have hbb:∀ q,q<w6.heap.size->u11.ownBlock≠some q->w7.heap[q]?=w6.heap[q]?:=fun q hq hne=>(hgrow.block q (by simp;omega) fun e=>hne e.symm).trans (Below.heap_alloc w6 _ q hq);refine⟨z12,z2,z3,z4,z5,z6,z7,z8,?_,z9,z10,z11,by rw[yp];exact hown,ZS.out⟩;obtain⟨⟨vl,vn,q1,q2,q3⟩,⟨v,q5⟩,q4⟩:=C6.out.1;have hlow:∀ q,q<w3.heap.size->u11.ownBlock≠some q:=fun q hq e=>by have:=(O6.out.lt q e).1;clear ej;omega
     have hal:Below w6.heap.size w6 (w6.alloc (.cells (za Y).toArray 23)):=(Below.refl _ _).alloc (Nat.le_refl _) _;refine⟨⟨vl,vn,(hbb bc q1.lt (hlow bc W3.out.2)).trans q1,q2,q3⟩,⟨v,q5.hold (by clear ej;omega) (hbb bs q5.box.lt (hlow bs q5.lt)) (fun k e=>hbb k (q5.own.lt k e).2 (fun e'=>(q5.step e).1 (VO O6.out e')))⟩,⟨hgrow.os.trans (hal.os.trans q4.os),hgrow.tape.trans (hal.tape.trans q4.tape),hgrow.output.trans (hal.output.trans q4.output),by have:=q4.size;clear ej;omega,fun q hq h1 h2=>(hbb q (Nat.lt_of_lt_of_le hq q4.size) (hlow q hq)).trans (q4.block q hq h1 h2)⟩⟩
    clear hown hgrow hat hg O6 C6 Z5 ZS hY y32 SP;go_wp2;go_roundg q
    case measure=>exact Nat.lt_succ_self _
    case rel=>exact⟨j+1,n2,c2,a2,Lj.drop r,lv2,nd2,out ++ Y,(k+1)*2 ^ h,S2,rfl,by first | rfl | (rw[ej]),Z7.out⟩
theorem z1A(d:Int):∀ (h k:Nat) (L:List Nat) (lv nd:List Int),UNR h k L->(MST d h k L lv nd).length<=L.length*h:=by
 intro h;induction h with
 | zero=>intro k L lv nd _;cases L <;> simp[MST]
 | succ h ih=>
   intro k L lv nd hU;by_cases hL:L=[]
   ·subst hL;simp[MST]
   ·obtain⟨r,hr⟩:∃ r,RANKS L ((2*k+1)*2 ^ h) r:=yv hU.1 _
    have hle:=hr.le;have h1:=ih (2*k) (L.take r) lv nd (hU.left hr);have h2:=ih (2*k+1) (L.drop r) (MUP d h (2*k) (L.take r) lv nd).2.1 (MUP d h (2*k) (L.take r) lv nd).2.2 (hU.right hr);have hp:0<L.length:=List.length_pos_iff.2 hL;rw[jB hL hr,List.length_append,List.length_append,List.length_singleton];rw[List.length_take,Nat.min_eq_left hle] at h1;rw[List.length_drop] at h2
    have e:L.length*(h+1)=r*h+(L.length - r)*h+L.length:=by
     rw[Nat.mul_succ,<-Nat.add_mul];congr 2
     omega
    omega
theorem Xj(d:Int):∀ (ps:List (Nat × Nat)) (A B:Nat) (L:List Nat) (lv nd:List Int),Tile A ps B->AMID A B L->RISES L->(∀ p∈ps,p.1<=62)->(MSTS d ps L lv nd).length<=L.length*62
 | [],_,_,_,_,_,_,_,_,_=>Nat.zero_le _
 | (h,k) :: ps,A,B,L,lv,nd,ht,hm,hR,hp=>by
   obtain⟨hNd,hA,ht⟩:Node h k/\k*2 ^ h=A/\Tile ((k+1)*2 ^ h) ps B:=ht;obtain⟨r,hr⟩:=yv hR ((k+1)*2 ^ h);have hle:=hr.le;have h1:=z1A d h k (L.take r) lv nd (hm.take hR hr hA);have h2:=Xj d ps ((k+1)*2 ^ h) B (L.drop r) (MUP d h k (L.take r) lv nd).2.1 (MUP d h k (L.take r) lv nd).2.2 ht (hm.drop hr) (hR.drop r) (fun p hp'=>hp p (List.mem_cons_of_mem _ hp'));have h3:h<=62:=hp (h,k) (List.mem_cons_self ..);rw[jo ps hr,List.length_append];rw[List.length_take,Nat.min_eq_left hle] at h1;rw[List.length_drop] at h2;have h4:r*h<=r*62:=Nat.mul_le_mul_left _ h3;omega
end Go.Proofs.YtobaogpomcocpaaGreatDoor
