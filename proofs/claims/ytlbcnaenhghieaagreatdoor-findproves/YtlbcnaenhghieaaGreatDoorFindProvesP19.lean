/- FindProves: part 19. -/
import Derived.Test.YtlbcnaenhghieaaGreatDoorFindProvesP18
set_option maxHeartbeats 2000000
namespace Go.Proofs.YtlbcnaenhghieaaGreatDoor.HX
open Go.RowKit Go.Maps
set_option maxRecDepth 100000
structure STEP0 (w w':World) (g:Nat) (C C':z01):Prop where
 foot:∀ b,FOOT w' g C' b->FOOT w g C b\/w.heap.size<=b
 same:∀ b,b<w.heap.size->b≠g->¬ FOOT w g C b->w'.heap[b]?=w.heap[b]?
 size:w.heap.size<=w'.heap.size
 pins:∀ i,4<=i->w'.cell? ⟨g,i,none⟩=w.cell? ⟨g,i,none⟩
theorem STEP0.trans {w w' w'':World} {g:Nat} {C C' C'':z01} (h:STEP0 w w' g C C') (h':STEP0 w' w'' g C' C''):STEP0 w w'' g C C'':=by
 have hs:=h.size;refine ⟨fun b hb=>?_,fun b hb hg hf=>?_,Nat.le_trans h.size h'.size,fun i hi=>(h'.pins i hi).trans (h.pins i hi)⟩
 ·rcases h'.foot b hb with h1 | h1
  ·exact h.foot b h1
  ·exact .inr (by omega)
 ·refine (h'.same b (by omega) hg (fun hf'=>?_)).trans (h.same b hb hg hf)
  rcases h.foot b hf' with h1 | h1
  ·exact hf h1
  ·omega
structure STEP (w w':World) (g:Nat) (C C':z01):Prop extends STEP0 w w' g C C' where
 full:FULL C->FULL C'
theorem STEP.trans {w w' w'':World} {g:Nat} {C C' C'':z01} (h:STEP w w' g C C') (h':STEP w' w'' g C' C''):STEP w w'' g C C'':=⟨h.toSTEP0.trans h'.toSTEP0,fun x=>h'.full (h.full x)⟩
theorem STEP.of_with {w w' w'':World} {g K gc:Nat} {C C':z01} (h:STEP0 w w' g C (WITH C K gc [])) (h':STEP w' w'' g (WITH C K gc []) C') (hF:FULLB (WITH C K gc []) K->FULL C'):STEP w w'' g C C':=⟨h.trans h'.toSTEP0,fun x=>hF (x.but K).with⟩
theorem STEP.below {w w':World} {B g log len alive N:Nat} {C:z01} (hS:STORE w B g log len alive N C) (hb:Below w.heap.size w w'):STEP w w' g C C:=by
 have hg:=hS.lt;have cell:∀ i,w'.cell? ⟨g,i,none⟩=w.cell? ⟨g,i,none⟩:=fun i=>hb.cell (by exact hg);refine ⟨⟨fun b h=>.inl ?_,fun b h _ _=>hb.block b h,hb.size,fun i _=>cell i⟩,id⟩;rcases h with h | ⟨k,gc,rs,e,h⟩
 ·left;rw [<-cell 3];exact h
 ·refine .inr ⟨k,gc,rs,e,?_⟩
  rcases h with h | ⟨v,hv,h⟩ | h
  ·exact .inl h
  ·obtain ⟨x,hx,_⟩:=(hS.chunk k gc rs e).2.1.box
   exact .inr (.inl ⟨v,by rw [<-hv];exact (hb.cell (by exact hx.lt)).symm,h⟩)
  ·exact .inr (.inr h)
theorem STORE.put_step {W W':World} {B g log len alive N K gc p:Nat} {C:z01} {rs:List ROW} {h:Nat->Nat} (hS:STORE W B g log len alive N C) (hK:C K=some (gc,rs)) (hp:p / 2 ^ log=K) (hpl:p<len) (hP:PUTS W B gc p rs h W'):
  ∃ C',STORE (W'.setCell ⟨g,2,none⟩ (.int .u64 ((alive+1:Nat):Int))) B g log len (alive+1) N C'/\(∀ p',AT C' log p'=if p'=p then some h else AT C log p')/\(TOP C p->TOP C' (p+1))/\STEP W (W'.setCell ⟨g,2,none⟩ (.int .u64 ((alive+1:Nat):Int))) g C C'/\(FULLB C K->FULL C'):=by
 obtain ⟨C',h1,h2,h3,h4,h5,h6,h7,h8⟩:=hS.put hK hp hpl hP;exact ⟨C',h1,h2,h3,⟨⟨h4,h5,h7,fun i hi=>h6 i (by omega)⟩,fun x=>h8 (x.but K)⟩,h8⟩
theorem STORE.turn {W w2:World} {B g log len alive N K gc b:Nat} {C:z01} (hS:STORE W B g log len alive N C) (hm:W.cell? ⟨g,3,none⟩=some (.map (some b))) (hblk:∀ x,x<W.heap.size->x≠b->w2.heap[x]?=W.heap[x]?) (hsz:W.heap.size<=w2.heap.size) (hgc:W.heap.size<=gc) (hbox:Has w2 gc #[.slice none 0 0] 128)
  (hM:∃ n,n<=N+1/\ChunkMap w2 b n (fun j=>if j=K then some gc else (C j).map Prod.fst)) (hCK:C K=none) (hK:K<2 ^ 64):STORE w2 B g log len alive (N+1) (WITH C K gc [])/\(∀ p',AT (WITH C K gc []) log p'=AT C log p')/\(∀ p,TOP C p->TOP (WITH C K gc []) p)/\STEP0 W w2 g C (WITH C K gc []):=by
 obtain ⟨cs,t,fr,k1,k2,k3,k4⟩:=hS.kind;obtain ⟨mv,m1,m2,m3⟩:=hS.map;rw [hm] at m1;have hmv:mv=some b:=by cases Option.some.inj m1;rfl
 subst hmv;obtain ⟨hBb,n0,_,hcm⟩:=m3 b rfl;have hbl:=hcm.lt;obtain ⟨D,⟨es,clock,hbm,_⟩,_⟩:=hcm;have hbc:∀ {b' c t' fr'},W.heap[b']?=some (.cells c t' fr')->b'≠b:=fun h2 e=>by rw [e,hbm] at h2;cases h2
 have hlt:∀ {b':Nat} {o:Obj},W.heap[b']?=some o->b'<W.heap.size:=fun h=>(Array.getElem?_eq_some_iff.1 h).1;have hgb:w2.heap[g]?=W.heap[g]?:=hblk g hS.lt (hbc k1);have cell:∀ i,w2.cell? ⟨g,i,none⟩=W.cell? ⟨g,i,none⟩:=fun i=>World.cell?_of_block (w:=W) (by exact hgb)
 have hch:∀ k gc' rk,C k=some (gc',rk)->(w2.heap[gc']?=W.heap[gc']?/\(∀ v x,W.cell? ⟨gc',0,none⟩=some v->v.ownBlock=some x->w2.heap[x]?=W.heap[x]?)/\∀ r∈rk,w2.heap[r.gh]?=W.heap[r.gh]?)/\gc'<W.heap.size:=fun k gc' rk e=>by
  obtain ⟨⟨_,z1⟩,z2,z3⟩:=(hS.chunk k gc' rk e).2.1.kinds;refine ⟨⟨hblk _ (hlt z1) (hbc z1),fun v x hv hx=>?_,fun r hr=>?_⟩,hlt z1⟩
  ·obtain ⟨_,hc⟩:=z2 v x hv hx
   exact hblk _ (hlt hc) (hbc hc)
  ·obtain ⟨_,hc⟩:=z3 r hr
   exact hblk _ (hlt hc) (hbc hc)
 have hcc:∀ k gc' rk,C k=some (gc',rk)->∀ i,w2.cell? ⟨gc',i,none⟩=W.cell? ⟨gc',i,none⟩:=fun k gc' rk e i=>World.cell?_of_block (w:=W) (by exact (hch k gc' rk e).1.1);have hgcell:w2.cell? ⟨gc,0,none⟩=some (.slice none 0 0):=hbox.cell 0;have hC0:CHUNK w2 B gc []:=⟨⟨_,hbox,World.ownsRow_nil _ _ _ _⟩,by omega,by decide,fun i j r s _ h=>(by simp at h),fun r hr=>(by cases hr),fun i j r s _ h=>(by simp at h),fun r hr=>by cases hr⟩
 refine ⟨⟨hS.small,hS.short,(cell 0).trans hS.c0,(cell 1).trans hS.c1,(cell 2).trans hS.c2,fun i hi=>?_,⟨cs,t,fr,hgb.trans k1,k2,k3,k4⟩,?_,?_,?_⟩,?_,?_,?_⟩
 ·have:=hS.live i hi
  unfold World.frozen? at this ⊢;rw [show w2.heap[g]?=W.heap[g]? from hgb];exact this
 ·refine ⟨some b,(cell 3).trans hm,(fun e=>by cases e),fun b' e=>?_⟩
  cases e;obtain ⟨n,h1,h2⟩:=hM;refine ⟨hBb,n,h1,?_⟩
  have hE:(fun k=>(WITH C K gc [] k).map Prod.fst)=fun j=>if j=K then some gc else (C j).map Prod.fst:=funext fun j=>by
   by_cases e:j=K
   ·subst e;rw [z0o,if_pos rfl];rfl
   ·rw [z0p e,if_neg e]
  rw [hE];exact h2
 ·intro k gc' rk e
  by_cases ek:k=K
  ·subst ek
   rw [z0o] at e;cases e;exact ⟨hK,hC0,fun r hr=>by cases hr⟩
  ·rw [z0p ek] at e
   obtain ⟨b1,b2,b3⟩:=hS.chunk k gc' rk e;obtain ⟨⟨d1,d2,d3⟩,_⟩:=hch k gc' rk e;exact ⟨b1,b2.at d1 d2 d3,b3⟩
 ·intro k k' gk gk' rk rk' hne e e'
  by_cases ek:k=K
  ·subst ek
   rw [z0o] at e;cases e;rw [z0p (fun h=>hne h.symm)] at e';refine ⟨by have:=(hch _ _ _ e').2;omega,fun r hr=>(by cases hr),fun v v' hv _=>.inl ?_⟩;rw [hgcell] at hv;cases Option.some.inj hv;rfl
  ·rw [z0p ek] at e
   by_cases ek':k'=K
   ·subst ek'
    rw [z0o] at e';cases e';refine ⟨by have:=(hch _ _ _ e).2;omega,fun r _ r' hr'=>(by cases hr'),fun v v' hv hv'=>?_⟩;rw [hgcell] at hv';cases Option.some.inj hv';by_cases hn:v.ownBlock=none
    ·exact .inl hn
    ·exact .inr hn
   ·rw [z0p ek'] at e'
    obtain ⟨o1,o2,o3⟩:=hS.one k k' gk gk' rk rk' hne e e';refine ⟨o1,o2,fun v v' hv hv'=>o3 v v' ?_ ?_⟩
    ·rw [<-hcc k gk rk e 0];exact hv
    ·rw [<-hcc k' gk' rk' e' 0];exact hv'
 ·intro p'
  unfold AT;by_cases ek:p' / 2 ^ log=K
  ·rw [ek,z0o,hCK]
   rfl
  ·rw [z0p ek]
 ·intro p hT k gc' rk e r hr j hj hb
  by_cases ek:k=K
  ·subst ek
   rw [z0o] at e;cases e;cases hr
  ·rw [z0p ek] at e
   exact hT _ _ _ e r hr j hj hb
 ·refine ⟨fun x hx=>?_,fun x hx hxg hf=>hblk x hx (fun e=>hf (.inl (by rw [e];exact hm))),hsz,fun i _=>cell i⟩
  rcases hx with h | ⟨k,gc',rk,e,h⟩
  ·left;left;rw [<-cell 3];exact h
  ·by_cases ek:k=K
   ·subst ek
    rw [z0o] at e;cases e;rcases h with h | ⟨v,hv,h⟩ | ⟨r,hr,_⟩
    ·exact .inr (by omega)
    ·rw [hgcell] at hv
     cases Option.some.inj hv;cases h
    ·cases hr
   ·rw [z0p ek] at e
    refine .inl (.inr ⟨k,gc',rk,e,?_⟩);rcases h with h | ⟨v,hv,h⟩ | h
    ·exact .inl h
    ·exact .inr (.inl ⟨v,by rw [<-hcc k gc' rk e 0];exact hv,h⟩)
    ·exact .inr (.inr h)
theorem STORE.mapped {W:World} {B g log len alive N:Nat} {C:z01} (hS:STORE W B g log len alive N C) (hm:W.cell? ⟨g,3,none⟩=some (.map none)) (hB:B<=W.heap.size):(∀ k,C k=none)/\STORE ((W.alloc (.map #[] 0)).setCell ⟨g,3,none⟩ (.map (some W.heap.size))) B g log len alive N C/\STEP W ((W.alloc (.map #[] 0)).setCell ⟨g,3,none⟩ (.map (some W.heap.size))) g C C:=by
 obtain ⟨cs,t,fr,k1,k2,k3,k4⟩:=hS.kind;obtain ⟨mv,m1,m2,m3⟩:=hS.map;rw [hm] at m1;have hmv:mv=none:=by cases Option.some.inj m1;rfl
 have hC:=m2 hmv;have hg:=hS.lt;have hb:Below W.heap.size W (W.alloc (.map #[] 0)):=(Below.refl _ _).alloc (Nat.le_refl _) _;have hS1:=hS.below hb;obtain ⟨w2,hw2⟩:∃ w2,(W.alloc (.map #[] 0)).setCell ⟨g,3,none⟩ (.map (some W.heap.size))=w2:=⟨_,rfl⟩
 rw [hw2];have hset:∀ b,b≠g->w2.heap[b]?=(W.alloc (.map #[] 0)).heap[b]?:=fun b hb=>by rw [<-hw2];exact Below.heap_setCell _ _ _ b (by exact hb)
 have cell:∀ i,i≠3->w2.cell? ⟨g,i,none⟩=W.cell? ⟨g,i,none⟩:=fun i hi=>by rw [<-hw2,z1N (fun e=>hi e.symm)];exact hb.cell (by exact hg)
 have c3:w2.cell? ⟨g,3,none⟩=some (.map (some W.heap.size)):=by rw [<-hw2];exact World.cell?_setCell_same _ _ _ ((hb.cell (by exact hg)).trans hm)
 refine ⟨hC,⟨hS.small,hS.short,(cell 0 (by decide)).trans hS.c0,(cell 1 (by decide)).trans hS.c1,(cell 2 (by decide)).trans hS.c2,fun i hi=>?_,?_,?_,fun k gc rs e=>(by rw [hC k] at e;cases e),fun k k' gc gc' rs rs' _ e=>by rw [hC k] at e;cases e⟩,?_⟩
 ·rw [<-hw2,World.frozen?_setCell]
  exact hS1.live i hi
 ·obtain ⟨cs',h1⟩:=z2m (i:=3) ((hb.block g hg).trans k1) (.map (some W.heap.size))
  exact ⟨cs',t,fr,by rw [<-hw2];exact h1,k2,k3,k4⟩
 ·refine ⟨_,c3,(fun e=>by cases e),fun b e=>?_⟩
  cases e;refine ⟨hB,0,Nat.zero_le _,?_⟩;have hE:(fun k=>(C k).map Prod.fst)=fun _=>none:=funext fun k=>by rw [hC k];rfl
  rw [hE];exact (ChunkMap.made W).at (hset _ (by omega))
 ·refine ⟨⟨fun b h=>?_,fun b hb' hbg _=>(hset b hbg).trans (hb.block b hb'),?_,fun i hi=>cell i (by omega)⟩,id⟩
  ·rcases h with h | ⟨k,gc,rs,e,_⟩
   ·rw [c3] at h
    have h2:=Option.some.inj h;cases h2;exact .inr (Nat.le_refl _)
   ·rw [hC k] at e;cases e
  ·rw [<-hw2]
   simp
theorem zaM {rs:List ROW} (h:∀ (i j:Nat) (r s:ROW),i<j->rs[i]?=some r->rs[j]?=some s->r.num<s.num):∀ (i:Nat) (r:ROW),rs[i]?=some r->i<=r.num
 | 0,_,_=>Nat.zero_le _
 | i+1,r,hr=>by
   have hl:=(List.getElem?_eq_some_iff.1 hr).1;have h1:rs[i]?=some rs[i]:=List.getElem?_eq_getElem (by omega);have h2:=zaM h i _ h1;have h3:=h i (i+1) _ _ (by omega) h1 hr;omega
theorem zf3 {w:World} {B g p:Nat} {rs:List ROW} (hC:CHUNK w B g rs) (h:∀ r∈rs,∀ j,j<64->r.live.testBit j=true->r.num*64+j<p) (hp:p<2 ^ 40):rs.length+1<2 ^ 40:=by
 cases hl:rs.length with
 | zero=>decide
 | succ n=>
   have hn:rs[n]?=some rs[n]:=List.getElem?_eq_getElem (by omega);have h1:=zaM hC.rise n _ hn;obtain ⟨j,hj,hb⟩:=hC.lives _ (List.mem_of_getElem? hn);have h2:=h _ (List.mem_of_getElem? hn) j hj hb;omega
theorem zaN (b:Nat) (w:World):(binOp .eql 60 (.map (some b)) (.map none)).run Tryz.prog w=.ok (.bool false) w:=by kernel_rfl
theorem zf4 (w:World):(binOp .eql 60 (.map none) (.map none)).run Tryz.prog w=.ok (.bool true) w:=by kernel_rfl
theorem z4X:∀ w,(zeroValue 113).run Tryz.prog w=.ok (.agg #[.int .u64 0]) w:=fun w=>by kernel_rfl
theorem STORE.put_self {W W':World} {B g log len alive N K gc p:Nat} {C:z01} {rs:List ROW} {h:Nat->Nat} (hS:STORE W B g log len alive N C) (hK:C K=some (gc,rs)) (hP:PUTS W B gc p rs h W'):W'.heap[g]?=W.heap[g]?:=by
 obtain ⟨rs',q1,q2,q3,q4,q5,q6,q7,q8⟩:=hP;obtain ⟨cs,t,fr,k1,k2,k3,k4⟩:=hS.kind;obtain ⟨a1,a2,a3⟩:=hS.chunk K gc rs hK;obtain ⟨⟨_,y1⟩,y2,y3⟩:=a2.kinds;exact q8 g hS.lt (z09 k1 y1 k2) (fun v hv e=>by obtain ⟨_,hc⟩:=y2 v g hv e;exact z09 k1 hc k3 rfl) (fun r hr e=>by obtain ⟨_,hc⟩:=y3 r hr;rw [e] at hc;exact z09 k1 hc k4 rfl)
def z6a (w:World) (B g log len alive N p:Nat) (C:z01) (h:Nat->Nat) (w':World):Prop:=∃ C',STORE w' B g log len (alive+1) (N+1) C'/\(∀ p',AT C' log p'=if p'=p then some h else AT C log p')/\TOP C' (p+1)/\STEP w w' g C C'/\Below B w w'
theorem STORE.more {w:World} {B g log len alive N N':Nat} {C:z01} (h:STORE w B g log len alive N C) (hN:N<=N'):STORE w B g log len alive N' C:=
 ⟨h.small,h.short,h.c0,h.c1,h.c2,h.live,h.kind,by obtain ⟨mv,a,b,c⟩:=h.map;exact ⟨mv,a,b,fun x e=>by obtain ⟨d,n,e1,e2⟩:=c x e;exact ⟨d,n,by omega,e2⟩⟩,h.chunk,h.one⟩
theorem zbN {w:World} {B g log len alive N gc b:Nat} {C:z01} {rs:List ROW} (hS:STORE w B g log len alive N C) (p:Nat) (h:Nat->Nat) (h8:∀ i,h i<256) (hp:p<len) (hT:TOP C p) (hal:alive<2 ^ 40) (hBg:B<=g) (hm:w.cell? ⟨g,3,none⟩=some (.map (some b))) (hK:C (p / 2 ^ log)=some (gc,rs)):Calls Tryz.prog 46 #[.pointer (some ⟨g,0,none⟩),.int .u64 (p:Int),.agg (UARR .u8 32 h)] w fun e w'=>
  (∃ v,e=.returned v)/\z6a w B g log len alive N p C h w':=by
 obtain ⟨w0,hw0⟩:∃ w0,w.alloc (.cells (UARR .u8 32 h) 25)=w0:=⟨_,rfl⟩
 have hb0:Below w.heap.size w w0:=by rw [<-hw0];exact (Below.refl _ _).alloc (Nat.le_refl _) _
 have h50:Has w0 w.heap.size (UARR .u8 32 h) 25:=by rw [<-hw0];exact Has.new w _ _
 have hg:=hS.lt;have hm0:w0.cell? ⟨g,3,none⟩=some (.map (some b)):=(hb0.cell (by exact hg)).trans hm;have ck:=(hS.below hb0).key p w0 (Below.refl _ _);have hz:=z4X;have hme:=zaN b;have hlen:=hS.short;have H:Aside (STORE w B g log len alive N C/\p<len/\TOP C p/\alive<2 ^ 40/\C (p / 2 ^ log)=some (gc,rs)/\len<2 ^ 40/\g<w.heap.size/\(∀ i,h i<256)/\w.cell? ⟨g,3,none⟩=some (.map (some b))/\B<=g):=⟨hS,hp,hT,hal,hK,hlen,hg,h8,hm,hBg⟩
 clear hS hp hT hal hK hlen hm h8 hBg;obtain ⟨K,hKe⟩:∃ K,p / 2 ^ log=K:=⟨_,rfl⟩
 rw [hKe] at ck H;have HK:Aside (p / 2 ^ log=K):=hKe;clear hKe;go_enter Tryz.func46,Tryz.ntmps46;go_wp2_with fail
 refine ck.mono ?_;rintro e w1 ⟨rfl,hb01⟩;clear ck;have hb1:Below w.heap.size w w1:=hb0.trans (hb01.mono hb0.size);obtain ⟨a1,a2,a3,a4,a5,a6,a7,a8,a9,a10⟩:=H.out;have h3w:w1.cell? ⟨g,3,none⟩=some (.map (some b)):=(hb1.cell (by exact a7)).trans a9;have hb2:Below w.heap.size w (w1.alloc (.cells #[.int .u64 (K:Int)] 113)):=hb1.alloc hb1.size _;have hK64:K<2 ^ 64:=(a1.chunk K gc rs a5).1;obtain ⟨mv,v,l1,l2,l3⟩:=a1.looked K hK64;have hmv:mv=.map (some b):=by have:=l1 w (Below.refl _ _);rw [a9] at this;exact (Option.some.inj this).symm
 subst hmv;have hv:=l3 gc rs a5;subst hv;have l2':=l2 _ hb2.drew;rw [a5] at l2';have h3:=l1 _ hb2;have h52:Has (w1.alloc (.cells #[.int .u64 (K:Int)] 113)).drew w.heap.size (UARR .u8 32 h) 25:=(h50.keep hb01).alloc _;have hS2:=a1.below hb2.drew;have hC2:=(hS2.chunk K gc rs a5).2.1;have hbits:=fun r hr j hj hb=>a3 K gc rs a5 r hr j hj hb;have cP:=z3q B gc p rs h (by omega) (zf3 hC2 hbits (by omega)) (TOP.next hC2 hbits) a8 _ hC2;clear l1 l2 l3 h3w hbits;go_upto_region 4 with fail
 refine zbM _ _ _ _ _ _ _ _ _ _ _ _ _ _ _ _ _ _ _ _ _ _ _ _ _ _ _ _ _ _ _ _ _ _ _ _ _ _ _ _ _ _ _ _ _ _ _ _ _ _ g w1.heap.size K (.map (some b)) (.pointer (some ⟨gc,0,none⟩)) true h3 (Has.new w1 _ _) l2' (fun _ _ _ _ _ h=>h) ?_;dsimp only;obtain ⟨W2,hW2⟩:∃ W2,(w1.alloc (.cells #[.int .u64 (K:Int)] 113)).drew=W2:=⟨_,rfl⟩
 rw [hW2] at h52 cP hS2 ⊢;go_wp2_with (refine wpList_load_row rfl 25 (.tmp 5) rfl w.heap.size rfl 25 (UARR .u8 32 h) (0,0) (.array 32 5) h52 Tryz.underlying25 rfl (z04 _) ?_)
 refine cP.mono ?_;rintro e w4 ⟨⟨v4,rfl⟩,hP⟩;clear cP;have hself:=hS2.put_self a5 hP;have z2:w4.cell? ⟨g,2,none⟩=some (.int .u64 (alive:Int)):=(World.cell?_of_block (w:=W2) (by exact hself)).trans hS2.c2
 have zf:w4.frozen? ⟨g,2,none⟩=false:=by
  have:=hS2.live 2 (by decide);unfold World.frozen? at this ⊢;rw [show w4.heap[g]?=W2.heap[g]? from hself];exact this
 have hwr:IntKind.u64.wrap ((alive:Int)+1)=((alive+1:Nat):Int):=z0U (by omega) (by omega);have FIN:Aside (STORE W2 B g log len alive N C/\PUTS W2 B gc p rs h w4/\STEP w W2 g C C/\Below w.heap.size w W2):=⟨hS2,hP,by rw [<-hW2];exact STEP.below a1 hb2.drew,by rw [<-hW2];exact hb2.drew⟩
 clear hS2 hP hself hW2 hb2;go_wp2;go_end0
 obtain ⟨f1,f2,f3,f4⟩:=FIN.out;obtain ⟨_,_,_,_,_,_,_,q7,_⟩:=id f2;obtain ⟨C',c1,c2,c3,c4, -⟩:=f1.put_step a5 HK.out a2 f2;exact ⟨⟨_,rfl⟩,C',c1.more (Nat.le_succ _),c2,c3 a3,f3.trans c4,((f4.mono (by omega)).trans q7).setCell (p:=⟨g,2,none⟩) a10 _⟩
theorem z6b (w:World):(Instr.build 128 #[]).run Tryz.prog w=.ok (.agg #[.slice none 0 0]) w:=run_build (P:=Tryz.prog) w 128 #[] _ (by kernel_rfl)
theorem zf5 {w:World} {B g log len alive N b:Nat} {C:z01} (hS:STORE w B g log len alive N C) (p:Nat) (h:Nat->Nat) (h8:∀ i,h i<256) (hp:p<len) (hT:TOP C p) (hal:alive<2 ^ 40) (hBg:B<=g) (hN:N<2 ^ 40) (hm:w.cell? ⟨g,3,none⟩=some (.map (some b))) (hK:C (p / 2 ^ log)=none):Calls Tryz.prog 46 #[.pointer (some ⟨g,0,none⟩),.int .u64 (p:Int),.agg (UARR .u8 32 h)] w fun e w'=>
  (∃ v,e=.returned v)/\z6a w B g log len alive N p C h w':=by
 obtain ⟨wb,hwb⟩:∃ wb,w.alloc (.cells (UARR .u8 32 h) 25)=wb:=⟨_,rfl⟩
 have hb0:Below w.heap.size w wb:=by rw [<-hwb];exact (Below.refl _ _).alloc (Nat.le_refl _) _
 have h5b:Has wb w.heap.size (UARR .u8 32 h) 25:=by rw [<-hwb];exact Has.new w _ _
 have hg:=hS.lt;have hm0:wb.cell? ⟨g,3,none⟩=some (.map (some b)):=(hb0.cell (by exact hg)).trans hm;have ck:=(hS.below hb0).key p wb (Below.refl _ _);have hz:=z4X;have hme:=zaN b;have H:Aside (STORE wb B g log len alive N C/\p<len/\TOP C p/\alive<2 ^ 40/\C (p / 2 ^ log)=none/\len<2 ^ 40/\g<w.heap.size/\(∀ i,h i<256)/\wb.cell? ⟨g,3,none⟩=some (.map (some b))/\B<=g/\N<2 ^ 40/\Has wb w.heap.size (UARR .u8 32 h) 25/\STEP w wb g C C/\Below B w wb):=⟨hS.below hb0,hp,hT,hal,hK,hS.short,hg,h8,hm0,hBg,hN,h5b,STEP.below hS hb0,hb0.mono (by omega)⟩
 clear hS hp hT hal hK hm h8 hBg h5b hN hb0;obtain ⟨K,hKe⟩:∃ K,p / 2 ^ log=K:=⟨_,rfl⟩
 rw [hKe] at ck H;have HK:Aside (p / 2 ^ log=K):=hKe;clear hKe;go_enter Tryz.func46,Tryz.ntmps46;go_wp2_with fail
 refine ck.mono ?_;rintro e w1 ⟨rfl,hb1⟩;clear ck;obtain ⟨a1,a2,a3,a4,a5,a6,a7,a8,a9,a10,a11,a12,a13,a14⟩:=H.out;have hb2:Below wb.heap.size wb (w1.alloc (.cells #[.int .u64 (K:Int)] 113)):=hb1.alloc hb1.size _;have h3w:w1.cell? ⟨g,3,none⟩=some (.map (some b)):=(hb1.cell (by exact a1.lt)).trans a9;have hK64:K<2 ^ 64:=by have:=HK.out;have:=Nat.div_le_self p (2 ^ log);omega
 obtain ⟨mv,v,l1,l2, -⟩:=a1.looked K hK64;have hmv:mv=.map (some b):=by have:=l1 wb (Below.refl _ _);rw [a9] at this;exact (Option.some.inj this).symm
 subst hmv;have l2':=l2 _ hb2.drew;rw [a5] at l2';have h3:=l1 _ hb2;have h52:Has (w1.alloc (.cells #[.int .u64 (K:Int)] 113)).drew w.heap.size (UARR .u8 32 h) 25:=(a12.keep hb1).alloc _;have h62:Has (w1.alloc (.cells #[.int .u64 (K:Int)] 113)).drew w1.heap.size #[.int .u64 (K:Int)] 113:=Has.new w1 _ _;have hS2:=a1.below hb2.drew;have hT2:=STEP.below a1 hb2.drew;have hB2:Below B wb (w1.alloc (.cells #[.int .u64 (K:Int)] 113)).drew:=hb2.drew.mono (by have:=a1.lt;omega);have h3d:(w1.alloc (.cells #[.int .u64 (K:Int)] 113)).drew.cell? ⟨g,3,none⟩=some (.map (some b)):=h3;clear l1 l2;go_upto_region 4 with fail
 refine zbM _ _ _ _ _ _ _ _ _ _ _ _ _ _ _ _ _ _ _ _ _ _ _ _ _ _ _ _ _ _ _ _ _ _ _ _ _ _ _ _ _ _ _ _ _ _ _ _ _ _ g w1.heap.size K (.map (some b)) v false h3 (Has.new w1 _ _) l2' (fun _ _ _ _ _ h=>h) ?_;dsimp only;obtain ⟨W2,hW2⟩:∃ W2,(w1.alloc (.cells #[.int .u64 (K:Int)] 113)).drew=W2:=⟨_,rfl⟩
 rw [hW2] at h52 h62 hS2 hT2 hB2 h3d ⊢;clear hW2 l2' h3 hb2 h3w;obtain ⟨mv',m1,m2,m3⟩:=hS2.map;rw [h3d] at m1;have hmv:mv'=some b:=by cases Option.some.inj m1;rfl
 subst hmv;obtain ⟨hBb,n0,hn0,hcm⟩:=m3 b rfl;have hbl:=hcm.lt;have hb3:Below W2.heap.size W2 (W2.alloc (.cells #[.slice none 0 0] 128)).drew:=((Below.refl _ _).alloc (Nat.le_refl _) _).drew;have hcm3:=hcm.below hb3;obtain ⟨w5,u1,u2,u3⟩:=hcm3.store (k:=K) (g:=W2.heap.size) (by omega) hK64
 have hbc:∀ {b' c t' fr'},W2.heap[b']?=some (.cells c t' fr')->b'≠b:=fun h2 e=>by
  obtain ⟨D,⟨es,clock,hbm,_⟩,_⟩:=hcm;rw [e,hbm] at h2;cases h2
 have hblk:∀ x,x<W2.heap.size->x≠b->w5.heap[x]?=W2.heap[x]?:=fun x hx hxb=>(u3.block x (by have:=hb3.size;omega) (fun e=>hxb (by cases e;rfl))).trans (hb3.block x hx);have hbox:Has w5 W2.heap.size #[.slice none 0 0] 128:=(u3.block W2.heap.size (by simp) (fun e=>by cases e;omega)).trans (Has.new W2 _ _);have hsz:W2.heap.size<=w5.heap.size:=Nat.le_trans hb3.size u3.size;obtain ⟨t1,t2,t3,t4⟩:=hS2.turn h3d hblk hsz (Nat.le_refl _) hbox ⟨n0+1,by omega,u2⟩ a5 hK64;have h55:Has w5 w.heap.size (UARR .u8 32 h) 25:=(hblk _ h52.lt (hbc h52)).trans h52;have hB5:Below B W2 w5:=(hb3.mono (by omega)).grown u3 (by have:=hb3.size;omega) (fun x e=>by cases e;exact hBb);have hC5:=(t1.chunk K W2.heap.size [] z0o).2.1;have cP:=z3q B W2.heap.size p [] h (by omega) (by decide) (fun r hr=>by cases hr) a8 _ hC5;have h33:(W2.alloc (.cells #[.slice none 0 0] 128)).cell? ⟨g,3,none⟩=some (.map (some b)):=(hb3.cell (by exact hS2.lt)).trans h3d;have h63:Has (W2.alloc (.cells #[.slice none 0 0] 128)) w1.heap.size #[.int .u64 (K:Int)] 113:=h62.alloc _;have hbch:=z6b;have G:Aside (STORE w5 B g log len alive (N+1) (WITH C K W2.heap.size [])/\(∀ p',AT (WITH C K W2.heap.size []) log p'=AT C log p')/\(∀ p,TOP C p->TOP (WITH C K W2.heap.size []) p)/\STEP0 wb w5 g C (WITH C K W2.heap.size [])/\Below B wb w5):=⟨t1,t2,t3,hT2.toSTEP0.trans t4,hB2.trans hB5⟩
 obtain ⟨gc,hgce⟩:∃ gc,W2.heap.size=gc:=⟨_,rfl⟩
 rw [hgce] at cP G u1;clear t1 t2 t3 t4 hT2 hB2 hB5 hbox hsz hblk hbc u2 u3 hcm hcm3 hbl m1 m2 m3 hS2 hb3 hC5;go_upto_region 7 with fail
 refine zfW _ _ _ _ _ _ _ _ _ _ _ _ _ _ _ _ _ _ _ _ _ _ _ _ _ _ _ _ _ _ _ _ _ _ _ _ _ _ _ _ _ _ _ _ _ _ _ _ _ g w1.heap.size K (.map (some b)) _ w5 h33 h63 u1 (fun _ _ _ _ _ h=>h) ?_;dsimp only;clear u1 h33 h63 hbch h62 h52;clear hgce;go_wp2_with (refine wpList_load_row rfl 25 (.tmp 5) rfl w.heap.size rfl 25 (UARR .u8 32 h) (0,0) (.array 32 5) h55 Tryz.underlying25 rfl (z04 _) ?_)
 refine cP.mono ?_;rintro e w6 ⟨⟨v6,rfl⟩,hP⟩;clear cP;have hself:=G.out.1.put_self z0o hP;have z2:w6.cell? ⟨g,2,none⟩=some (.int .u64 (alive:Int)):=(World.cell?_of_block (w:=w5) (by exact hself)).trans G.out.1.c2
 have zf:w6.frozen? ⟨g,2,none⟩=false:=by
  have:=G.out.1.live 2 (by decide);unfold World.frozen? at this ⊢;rw [show w6.heap[g]?=w5.heap[g]? from hself];exact this
 have hwr:IntKind.u64.wrap ((alive:Int)+1)=((alive+1:Nat):Int):=z0U (by omega) (by omega);have FIN:Aside (PUTS w5 B gc p [] h w6):=hP;clear hP hself;go_wp2;go_end0
 obtain ⟨f1,f2,f3,f4,f5⟩:=G.out;obtain ⟨_,_,_,_,_,_,_,q7,_⟩:=id FIN.out;obtain ⟨C',c1,c2,c3,c4,c5⟩:=f1.put_step z0o HK.out a2 FIN.out;exact ⟨⟨_,rfl⟩,C',c1,fun p'=>by rw [c2,f2],c3 (f3 p a3),STEP.of_with (a13.toSTEP0.trans f4) c4 c5,((a14.trans f5).trans q7).setCell (p:=⟨g,2,none⟩) a10 _⟩
theorem zbO {w:World} {B g log len alive N:Nat} {C:z01} (hS:STORE w B g log len alive N C) (p:Nat) (h:Nat->Nat) (h8:∀ i,h i<256) (hp:p<len) (hT:TOP C p) (hal:alive<2 ^ 40) (hBg:B<=g) (hN:N<2 ^ 40) (hm:w.cell? ⟨g,3,none⟩=some (.map none)):Calls Tryz.prog 46 #[.pointer (some ⟨g,0,none⟩),.int .u64 (p:Int),.agg (UARR .u8 32 h)] w fun e w'=>
  (∃ v,e=.returned v)/\z6a w B g log len alive N p C h w':=by
 obtain ⟨w0,hw0⟩:∃ w0,w.alloc (.cells (UARR .u8 32 h) 25)=w0:=⟨_,rfl⟩
 have hb0:Below w.heap.size w w0:=by rw [<-hw0];exact (Below.refl _ _).alloc (Nat.le_refl _) _
 have h50:Has w0 w.heap.size (UARR .u8 32 h) 25:=by rw [<-hw0];exact Has.new w _ _
 have hg:=hS.lt;have hm0:w0.cell? ⟨g,3,none⟩=some (.map none):=(hb0.cell (by exact hg)).trans hm;have hs0:=hb0.size;obtain ⟨hC,hSb,hstep⟩:=(hS.below hb0).mapped hm0 (by omega);have hba:Below w0.heap.size w0 (w0.alloc (.map #[] 0)):=(Below.refl _ _).alloc (Nat.le_refl _) _;have hm1:(w0.alloc (.map #[] 0)).cell? ⟨g,3,none⟩=some (.map none):=(hba.cell (by show g<w0.heap.size;omega)).trans hm0;have hf1:(w0.alloc (.map #[] 0)).frozen? ⟨g,3,none⟩=false:=((hS.below hb0).below hba).live 3 (by decide);obtain ⟨b,hbe⟩:∃ b,w0.heap.size=b:=⟨_,rfl⟩
 rw [hbe] at hSb hstep;obtain ⟨wb,hwb⟩:∃ wb,(w0.alloc (.map #[] 0)).setCell ⟨g,3,none⟩ (.map (some b))=wb:=⟨_,rfl⟩
 have hBb:Below B w wb:=by rw [<-hwb];exact ((hb0.mono (by omega)).trans (hba.mono (by omega))).setCell (p:=⟨g,3,none⟩) hBg _
 have h5b:Has wb w.heap.size (UARR .u8 32 h) 25:=by rw [<-hwb];exact (h50.alloc _).other (by show w.heap.size≠g;omega) _
 have hmb:wb.cell? ⟨g,3,none⟩=some (.map (some b)):=by rw [<-hwb];exact World.cell?_setCell_same _ _ _ hm1
 rw [hwb] at hSb hstep;have ck:=hSb.key p wb (Below.refl _ _);have hz:=z4X;have hme:=zf4;have hmk:(Instr.makeMap 60 none).run Tryz.prog w0=.ok (.map (some b)) (w0.alloc (.map #[] 0)):=by rw [<-hbe];rfl
 have H:Aside (STORE wb B g log len alive N C/\p<len/\TOP C p/\alive<2 ^ 40/\C (p / 2 ^ log)=none/\len<2 ^ 40/\g<w.heap.size/\(∀ i,h i<256)/\wb.cell? ⟨g,3,none⟩=some (.map (some b))/\B<=g/\N<2 ^ 40/\Has wb w.heap.size (UARR .u8 32 h) 25/\STEP w wb g C C/\Below B w wb):=⟨hSb,hp,hT,hal,hC _,hS.short,hg,h8,hmb,hBg,hN,h5b,(STEP.below hS hb0).trans hstep,hBb⟩
 clear hS hp hT hal hm h8 hBg h5b hN hb0 hSb hstep hC h50 hBb hba hs0;obtain ⟨K,hKe⟩:∃ K,p / 2 ^ log=K:=⟨_,rfl⟩
 rw [hKe] at ck H;have HK:Aside (p / 2 ^ log=K):=hKe;clear hKe;go_enter Tryz.func46,Tryz.ntmps46;go_wp2_with fail
 refine ck.mono ?_;rintro e w1 ⟨rfl,hb1⟩;clear ck;obtain ⟨a1,a2,a3,a4,a5,a6,a7,a8,a9,a10,a11,a12,a13,a14⟩:=H.out;have hb2:Below wb.heap.size wb (w1.alloc (.cells #[.int .u64 (K:Int)] 113)):=hb1.alloc hb1.size _;have h3w:w1.cell? ⟨g,3,none⟩=some (.map (some b)):=(hb1.cell (by exact a1.lt)).trans a9;have hK64:K<2 ^ 64:=by have:=HK.out;have:=Nat.div_le_self p (2 ^ log);omega
 obtain ⟨mv,v,l1,l2, -⟩:=a1.looked K hK64;have hmv:mv=.map (some b):=by have:=l1 wb (Below.refl _ _);rw [a9] at this;exact (Option.some.inj this).symm
 subst hmv;have l2':=l2 _ hb2.drew;rw [a5] at l2';have h3:=l1 _ hb2;have h52:Has (w1.alloc (.cells #[.int .u64 (K:Int)] 113)).drew w.heap.size (UARR .u8 32 h) 25:=(a12.keep hb1).alloc _;have h62:Has (w1.alloc (.cells #[.int .u64 (K:Int)] 113)).drew w1.heap.size #[.int .u64 (K:Int)] 113:=Has.new w1 _ _;have hS2:=a1.below hb2.drew;have hT2:=STEP.below a1 hb2.drew;have hB2:Below B wb (w1.alloc (.cells #[.int .u64 (K:Int)] 113)).drew:=hb2.drew.mono (by have:=a1.lt;omega);have h3d:(w1.alloc (.cells #[.int .u64 (K:Int)] 113)).drew.cell? ⟨g,3,none⟩=some (.map (some b)):=h3;clear l1 l2;go_upto_region 4 with fail
 refine zbM _ _ _ _ _ _ _ _ _ _ _ _ _ _ _ _ _ _ _ _ _ _ _ _ _ _ _ _ _ _ _ _ _ _ _ _ _ _ _ _ _ _ _ _ _ _ _ _ _ _ g w1.heap.size K (.map (some b)) v false h3 (Has.new w1 _ _) l2' (fun _ _ _ _ _ h=>h) ?_;dsimp only;obtain ⟨W2,hW2⟩:∃ W2,(w1.alloc (.cells #[.int .u64 (K:Int)] 113)).drew=W2:=⟨_,rfl⟩
 rw [hW2] at h52 h62 hS2 hT2 hB2 h3d ⊢;clear hW2 l2' h3 hb2 h3w;obtain ⟨mv',m1,m2,m3⟩:=hS2.map;rw [h3d] at m1;have hmv:mv'=some b:=by cases Option.some.inj m1;rfl
 subst hmv;obtain ⟨hBb,n0,hn0,hcm⟩:=m3 b rfl;have hbl:=hcm.lt;have hb3:Below W2.heap.size W2 (W2.alloc (.cells #[.slice none 0 0] 128)).drew:=((Below.refl _ _).alloc (Nat.le_refl _) _).drew;have hcm3:=hcm.below hb3;obtain ⟨w5,u1,u2,u3⟩:=hcm3.store (k:=K) (g:=W2.heap.size) (by omega) hK64
 have hbc:∀ {b' c t' fr'},W2.heap[b']?=some (.cells c t' fr')->b'≠b:=fun h2 e=>by
  obtain ⟨D,⟨es,clock,hbm,_⟩,_⟩:=hcm;rw [e,hbm] at h2;cases h2
 have hblk:∀ x,x<W2.heap.size->x≠b->w5.heap[x]?=W2.heap[x]?:=fun x hx hxb=>(u3.block x (by have:=hb3.size;omega) (fun e=>hxb (by cases e;rfl))).trans (hb3.block x hx);have hbox:Has w5 W2.heap.size #[.slice none 0 0] 128:=(u3.block W2.heap.size (by simp) (fun e=>by cases e;omega)).trans (Has.new W2 _ _);have hsz:W2.heap.size<=w5.heap.size:=Nat.le_trans hb3.size u3.size;obtain ⟨t1,t2,t3,t4⟩:=hS2.turn h3d hblk hsz (Nat.le_refl _) hbox ⟨n0+1,by omega,u2⟩ a5 hK64;have h55:Has w5 w.heap.size (UARR .u8 32 h) 25:=(hblk _ h52.lt (hbc h52)).trans h52;have hB5:Below B W2 w5:=(hb3.mono (by omega)).grown u3 (by have:=hb3.size;omega) (fun x e=>by cases e;exact hBb);have hC5:=(t1.chunk K W2.heap.size [] z0o).2.1;have cP:=z3q B W2.heap.size p [] h (by omega) (by decide) (fun r hr=>by cases hr) a8 _ hC5;have h33:(W2.alloc (.cells #[.slice none 0 0] 128)).cell? ⟨g,3,none⟩=some (.map (some b)):=(hb3.cell (by exact hS2.lt)).trans h3d;have h63:Has (W2.alloc (.cells #[.slice none 0 0] 128)) w1.heap.size #[.int .u64 (K:Int)] 113:=h62.alloc _;have hbch:=z6b;have G:Aside (STORE w5 B g log len alive (N+1) (WITH C K W2.heap.size [])/\(∀ p',AT (WITH C K W2.heap.size []) log p'=AT C log p')/\(∀ p,TOP C p->TOP (WITH C K W2.heap.size []) p)/\STEP0 wb w5 g C (WITH C K W2.heap.size [])/\Below B wb w5):=⟨t1,t2,t3,hT2.toSTEP0.trans t4,hB2.trans hB5⟩
 obtain ⟨gc,hgce⟩:∃ gc,W2.heap.size=gc:=⟨_,rfl⟩
 rw [hgce] at cP G u1;clear t1 t2 t3 t4 hT2 hB2 hB5 hbox hsz hblk hbc u2 u3 hcm hcm3 hbl m1 m2 m3 hS2 hb3 hC5;go_upto_region 7 with fail
 refine zfW _ _ _ _ _ _ _ _ _ _ _ _ _ _ _ _ _ _ _ _ _ _ _ _ _ _ _ _ _ _ _ _ _ _ _ _ _ _ _ _ _ _ _ _ _ _ _ _ _ g w1.heap.size K (.map (some b)) _ w5 h33 h63 u1 (fun _ _ _ _ _ h=>h) ?_;dsimp only;clear u1 h33 h63 hbch h62 h52;clear hgce;go_wp2_with (refine wpList_load_row rfl 25 (.tmp 5) rfl w.heap.size rfl 25 (UARR .u8 32 h) (0,0) (.array 32 5) h55 Tryz.underlying25 rfl (z04 _) ?_)
 refine cP.mono ?_;rintro e w6 ⟨⟨v6,rfl⟩,hP⟩;clear cP;have hself:=G.out.1.put_self z0o hP;have z2:w6.cell? ⟨g,2,none⟩=some (.int .u64 (alive:Int)):=(World.cell?_of_block (w:=w5) (by exact hself)).trans G.out.1.c2
 have zf:w6.frozen? ⟨g,2,none⟩=false:=by
  have:=G.out.1.live 2 (by decide);unfold World.frozen? at this ⊢;rw [show w6.heap[g]?=w5.heap[g]? from hself];exact this
 have hwr:IntKind.u64.wrap ((alive:Int)+1)=((alive+1:Nat):Int):=z0U (by omega) (by omega);have FIN:Aside (PUTS w5 B gc p [] h w6):=hP;clear hP hself;go_wp2;go_end0
 obtain ⟨f1,f2,f3,f4,f5⟩:=G.out;obtain ⟨_,_,_,_,_,_,_,q7,_⟩:=id FIN.out;obtain ⟨C',c1,c2,c3,c4,c5⟩:=f1.put_step z0o HK.out a2 FIN.out;exact ⟨⟨_,rfl⟩,C',c1,fun p'=>by rw [c2,f2],c3 (f3 p a3),STEP.of_with (a13.toSTEP0.trans f4) c4 c5,((a14.trans f5).trans q7).setCell (p:=⟨g,2,none⟩) a10 _⟩
theorem z9L {w:World} {B g log len alive N:Nat} {C:z01} (hS:STORE w B g log len alive N C) (p:Nat) (h:Nat->Nat) (h8:∀ i,h i<256) (hp:p<len) (hT:TOP C p) (hal:alive<2 ^ 40) (hBg:B<=g) (hN:N<2 ^ 40):Calls Tryz.prog 46 #[.pointer (some ⟨g,0,none⟩),.int .u64 (p:Int),.agg (UARR .u8 32 h)] w fun e w'=>
   (∃ v,e=.returned v)/\z6a w B g log len alive N p C h w':=by
 obtain ⟨mv,m1,_⟩:=hS.map;cases mv with
 | none=>exact zbO hS p h h8 hp hT hal hBg hN m1
 | some b=>
   cases hK:C (p / 2 ^ log) with
   | none=>exact zf5 hS p h h8 hp hT hal hBg hN m1 hK
   | some c=>exact zbN (gc:=c.1) (rs:=c.2) hS p h h8 hp hT hal hBg m1 hK
theorem STORE.longer {w:World} {B g log len alive N:Nat} {C:z01} (hS:STORE w B g log len alive N C) (hl:len+1<2 ^ 40):STORE (w.setCell ⟨g,1,none⟩ (.int .u64 ((len+1:Nat):Int))) B g log (len+1) alive N C/\STEP w (w.setCell ⟨g,1,none⟩ (.int .u64 ((len+1:Nat):Int))) g C C:=by
 obtain ⟨cs,t,fr,k1,k2,k3,k4⟩:=hS.kind;obtain ⟨w2,hw2⟩:∃ w2,w.setCell ⟨g,1,none⟩ (.int .u64 ((len+1:Nat):Int))=w2:=⟨_,rfl⟩
 rw [hw2];have hset:∀ b,b≠g->w2.heap[b]?=w.heap[b]?:=fun b hb=>by rw [<-hw2];exact Below.heap_setCell _ _ _ b (by exact hb)
 have cell:∀ i,i≠1->w2.cell? ⟨g,i,none⟩=w.cell? ⟨g,i,none⟩:=fun i hi=>by rw [<-hw2,z1N (fun e=>hi e.symm)]
 have hch:∀ k gc rk,C k=some (gc,rk)->gc≠g/\(∀ v x,w.cell? ⟨gc,0,none⟩=some v->v.ownBlock=some x->x≠g)/\∀ r∈rk,r.gh≠g:=fun k gc rk e=>by
  obtain ⟨⟨_,z1⟩,z2,z3⟩:=(hS.chunk k gc rk e).2.1.kinds;refine ⟨fun e=>z09 k1 z1 k2 e.symm,fun v x hv hx=>?_,fun r hr=>?_⟩
  ·obtain ⟨_,hc⟩:=z2 v x hv hx
   exact fun e=>z09 k1 hc k3 e.symm
  ·obtain ⟨_,hc⟩:=z3 r hr
   exact fun e=>z09 k1 hc k4 e.symm
 have hcc:∀ k gc rk,C k=some (gc,rk)->w2.cell? ⟨gc,0,none⟩=w.cell? ⟨gc,0,none⟩:=fun k gc rk e=>World.cell?_of_block (w:=w) (by exact hset gc (hch k gc rk e).1);refine ⟨⟨hS.small,hl,(cell 0 (by decide)).trans hS.c0,?_,(cell 2 (by decide)).trans hS.c2,fun i hi=>?_,?_,?_,?_,?_⟩,?_⟩
 ·rw [<-hw2]
  exact World.cell?_setCell_same _ _ _ hS.c1
 ·rw [<-hw2,World.frozen?_setCell]
  exact hS.live i hi
 ·obtain ⟨cs',h1⟩:=z2m (i:=1) k1 (.int .u64 ((len+1:Nat):Int))
  exact ⟨cs',t,fr,by rw [<-hw2];exact h1,k2,k3,k4⟩
 ·obtain ⟨mv,m1,m2,m3⟩:=hS.map
  refine ⟨mv,(cell 3 (by decide)).trans m1,m2,fun b e=>?_⟩;obtain ⟨c1,n,c2,c3⟩:=m3 b e;refine ⟨c1,n,c2,c3.at (hset b (fun e=>?_))⟩;obtain ⟨D,⟨es,clock,h1,_⟩,_⟩:=c3;rw [e,k1] at h1;cases h1
 ·intro k gc rk e
  obtain ⟨b1,b2,b3⟩:=hS.chunk k gc rk e;obtain ⟨d1,d2,d3⟩:=hch k gc rk e;exact ⟨b1,b2.at (hset _ d1) (fun v x hv hx=>hset _ (d2 v x hv hx)) (fun r hr=>hset _ (d3 r hr)),fun r hr j hj hb=>by have:=b3 r hr j hj hb;exact ⟨this.1,by omega⟩⟩
 ·intro k k' gc gc' rs rs' hne e e'
  obtain ⟨o1,o2,o3⟩:=hS.one k k' gc gc' rs rs' hne e e';exact ⟨o1,o2,fun v v' hv hv'=>o3 v v' (by rw [<-hcc k gc rs e];exact hv) (by rw [<-hcc k' gc' rs' e'];exact hv')⟩
 ·refine ⟨⟨fun b h=>.inl ?_,fun b _ hbg _=>hset b hbg,by rw [<-hw2];simp,fun i hi=>cell i (by omega)⟩,id⟩
  rcases h with h | ⟨k,gc,rs,e,h⟩
  ·left;rw [<-cell 3 (by decide)];exact h
  ·refine .inr ⟨k,gc,rs,e,?_⟩
   rcases h with h | ⟨v,hv,h⟩ | h
   ·exact .inl h
   ·exact .inr (.inl ⟨v,by rw [<-hcc k gc rs e];exact hv,h⟩)
   ·exact .inr (.inr h)
theorem STORE.top {w:World} {B g log len alive N:Nat} {C:z01} (hS:STORE w B g log len alive N C):TOP C len:=fun k gc rs e r hr j hj hb=>((hS.chunk k gc rs e).2.2 r hr j hj hb).2
def z3y (w:World) (B g log len alive N:Nat) (C:z01) (h:Nat->Nat) (w':World):Prop:=∃ C',STORE w' B g log (len+1) (alive+1) (N+1) C'/\(∀ p',AT C' log p'=if p'=len then some h else AT C log p')/\STEP w w' g C C'/\Below B w w'
theorem zaO {w:World} {B g log len alive N:Nat} {C:z01} (hS:STORE w B g log len alive N C) (h:Nat->Nat) (h8:∀ i,h i<256) (hl:len+1<2 ^ 40) (hal:alive<2 ^ 40) (hBg:B<=g) (hN:N<2 ^ 40):Calls Tryz.prog 21 #[.pointer (some ⟨g,0,none⟩),.agg (UARR .u8 32 h)] w fun e w'=>
  e=.returned (.int .u64 (len:Int))/\z3y w B g log len alive N C h w':=by
 obtain ⟨w0,hw0⟩:∃ w0,w.alloc (.cells (UARR .u8 32 h) 25)=w0:=⟨_,rfl⟩
 have hb0:Below w.heap.size w w0:=by rw [<-hw0];exact (Below.refl _ _).alloc (Nat.le_refl _) _
 have h50:Has w0 w.heap.size (UARR .u8 32 h) 25:=by rw [<-hw0];exact Has.new w _ _
 have hg:=hS.lt;have hS0:=hS.below hb0;have hc1:=hS0.c1;have hf1:=hS0.live 1 (by decide);obtain ⟨hSl,hst⟩:=hS0.longer hl;have hwr:IntKind.u64.wrap ((len:Int)+1)=((len+1:Nat):Int):=z0U (by omega) (by omega);obtain ⟨wl,hwl⟩:∃ wl,w0.setCell ⟨g,1,none⟩ (.int .u64 ((len+1:Nat):Int))=wl:=⟨_,rfl⟩
 have h5l:Has wl w.heap.size (UARR .u8 32 h) 25:=by rw [<-hwl];exact h50.other (by show w.heap.size≠g;omega) _
 have hBl:Below B w wl:=by rw [<-hwl];exact (hb0.mono (by omega)).setCell (p:=⟨g,1,none⟩) hBg _
 rw [hwl] at hSl hst;have cp:=z9L hSl len h h8 (Nat.lt_succ_self _) hS.top hal hBg hN;have H:Aside (STEP w wl g C C/\Below B w wl):=⟨(STEP.below hS hb0).trans hst,hBl⟩
 obtain ⟨L1,hL1⟩:∃ L1,len+1=L1:=⟨_,rfl⟩
 have HL:Aside (len+1=L1):=hL1;rw [hL1] at hwr hwl cp;clear hL1 hS hS0 hSl hst hBl h8 hal hBg hN hb0;go_enter Tryz.func21,Tryz.ntmps21;go_wp2_with (refine wpList_load_row rfl 25 (.tmp 3) rfl w.heap.size rfl 25 (UARR .u8 32 h) (0,0) (.array 32 5) h5l Tryz.underlying25 rfl (z04 _) ?_)
 refine cp.mono ?_;rintro e w2 ⟨⟨v,rfl⟩,hP⟩;have F:Aside (z6a wl B g log L1 alive N len C h w2):=hP;clear cp hP;go_wp2;go_ret;refine ⟨rfl,?_⟩;obtain ⟨C',c1,c2,c3,c4,c5⟩:=F.out;unfold z3y;rw [HL.out];exact ⟨C',c1,c2,H.out.1.trans c4,H.out.2.trans c5⟩
end Go.Proofs.YtlbcnaenhghieaaGreatDoor.HX
