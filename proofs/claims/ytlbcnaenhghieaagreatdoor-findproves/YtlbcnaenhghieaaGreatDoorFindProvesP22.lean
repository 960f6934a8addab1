/- FindProves: part 22. -/
import Derived.Test.YtlbcnaenhghieaaGreatDoorFindProvesP21
set_option maxHeartbeats 4000000
namespace Go.Proofs.YtlbcnaenhghieaaGreatDoor.HX
open Go.RowKit Go.Maps
set_option maxRecDepth 100000
theorem zf9 {X:Nat} (h:X≠0):∃ j,X.testBit j=true:=by
 by_cases e:∃ j,X.testBit j=true
 ·exact e
 ·exfalso
  apply h;apply Nat.eq_of_testBit_eq;intro j;rw [Nat.zero_testBit];cases hb:X.testBit j
  ·rfl
  ·exact absurd ⟨j,hb⟩ e
theorem CHUNK.fewer {w w':World} {B g i k n1:Nat} {rs rs':List ROW} {r:ROW} {v:Value} (hC:CHUNK w B g rs) (hr:rs[i]?=some r) (hk:k<64) (hb:r.live.testBit k=true) (h:FEWER rs rs' i ⟨r.num,CLR r.live k,r.gh,r.ch,r.hs.eraseIdx (RK r.live k)⟩)
  (b1:Has w' g #[v] 128) (b2:w'.ownsRow B 139 3 v rs'.length (RC rs')) (hn1:(r.hs.eraseIdx (RK r.live k)).length=n1)
  (b3:w'.ownsRow B 25 32 (.slice (some ⟨r.gh,0,none⟩) n1 r.ch) n1 (HL (r.hs.eraseIdx (RK r.live k)))) (b4:∀ j s,j≠i->rs[j]?=some s->w'.heap[s.gh]?=w.heap[s.gh]?):CHUNK w' B g rs':=by
 have hrm:=List.mem_of_getElem? hr;obtain ⟨r1,r2,r3,r4,r5⟩:=hC.row r hrm;have hF:=h;obtain ⟨φ,m,f1,f2,f3,f4⟩:=h;refine ⟨⟨v,b1,b2⟩,hC.far,Nat.lt_of_le_of_lt f4 hC.few,hF.rise hr rfl hC.rise,fun s hs=>?_,fun a b x y hab hx hy=>?_,fun s hs=>?_⟩
 ·rcases hF.back hs with ⟨j,hj,hjs⟩ | ⟨rfl,_⟩
  ·obtain ⟨c1,c2,c3,c4,c5⟩:=hC.row s (List.mem_of_getElem? hjs)
   exact ⟨c1,c2,c3,c4,z35 c5 fun b hb=>by cases hb;exact b4 j s hj hjs⟩
  ·refine ⟨r1,zdo r2,?_,fun x hx=>r4 x (List.mem_of_mem_eraseIdx hx),?_⟩
   ·show (r.hs.eraseIdx (RK r.live k)).length=POP (CLR r.live k)
    have h1:=zgy r2 hk hb;have h2:=z7L hk hb;rw [List.length_eraseIdx,if_pos (by omega)];omega
   ·show w'.ownsRow B 25 32 (.slice (some ⟨r.gh,0,none⟩) (r.hs.eraseIdx (RK r.live k)).length r.ch) (r.hs.eraseIdx (RK r.live k)).length (HL (r.hs.eraseIdx (RK r.live k)))
    rw [hn1];exact b3
 ·have key:∀ j s,rs'[j]?=some s->∃ s0,rs[φ j]?=some s0/\s0.gh=s.gh:=fun j s hs=>by
   rcases f1 j s hs with ⟨_,h1⟩ | ⟨h1,h2,_⟩
   ·exact ⟨s,h1,rfl⟩
   ·exact ⟨r,by rw [h1];exact hr,by rw [h2]⟩
  obtain ⟨x0,hx0,ex⟩:=key a x hx;obtain ⟨y0,hy0,ey⟩:=key b y hy;rw [<-ex,<-ey];refine hC.apart _ _ _ _ (fun e=>?_) hx0 hy0;rcases Nat.lt_or_gt_of_ne hab with h1 | h1
  ·have:=m _ _ h1;omega
  ·have:=m _ _ h1;omega
 ·rcases hF.back hs with ⟨j,hj,hjs⟩ | ⟨rfl,h0⟩
  ·exact hC.lives s (List.mem_of_getElem? hjs)
  ·obtain ⟨j,hj⟩:=zf9 h0
   refine ⟨j,?_,hj⟩;rcases Nat.lt_or_ge j 64 with h1 | h1
   ·exact h1
   ·have:=Nat.testBit_lt_two_pow (x:=CLR r.live k) (i:=j) (Nat.lt_of_lt_of_le (zdo r2) (Nat.pow_le_pow_right (by decide) h1))
    rw [this] at hj;cases hj
def zbS (w:World) (B g p:Nat) (rs:List ROW) (w':World):Prop:=
 ∃ rs',CHUNK w' B g rs'/\(∀ p',LOOK rs' p'=if p'=p then none else LOOK rs p')/\
  (∀ r∈rs',∃ r0∈rs,r0.num=r.num/\r0.gh=r.gh/\∀ j,j<64->r.live.testBit j=true->r0.live.testBit j=true)/\
  (∀ v v',w.cell? ⟨g,0,none⟩=some v->w'.cell? ⟨g,0,none⟩=some v'->v'.ownBlock=v.ownBlock)/\
  w.heap.size<=w'.heap.size/\Below B w w'/\
  ∀ b,b<w.heap.size->b≠g->(∀ v,w.cell? ⟨g,0,none⟩=some v->v.ownBlock≠some b)->(∀ r∈rs,r.gh≠b)->w'.heap[b]?=w.heap[b]?
theorem zdu {rs:List ROW} {p:Nat} {h:Nat->Nat} (hL:LOOK rs p=some h):∃ (i:Nat) (r:ROW),rs[i]?=some r/\r.num=p / 64/\r.live.testBit (p % 64)=true:=by
 unfold LOOK at hL;cases hf:rs.find? fun r=>r.num == p / 64 with
 | none=>rw [hf] at hL;cases hL
 | some r=>
   rw [hf] at hL;obtain ⟨i,hi⟩:=List.getElem?_of_mem (List.mem_of_find?_eq_some hf);refine ⟨i,r,hi,by simpa using List.find?_some hf,?_⟩;cases hb:r.live.testBit (p % 64) with
   | true=>rfl
   | false=>simp [hb] at hL
theorem z8C (B g p:Nat) (rs:List ROW) (h:Nat->Nat) (hp:p<2 ^ 64) (w:World) (hC:CHUNK w B g rs) (hL:LOOK rs p=some h):Calls Tryz.prog 54 #[.pointer (some ⟨g,0,none⟩),.int .u64 (p:Int)] w fun e w'=>(∃ v,e=.returned v)/\zbS w B g p rs w':=by
 obtain ⟨i,r,hr,hn,hb⟩:=zdu hL;obtain ⟨k,hk⟩:∃ k,p % 64=k:=⟨_,rfl⟩
 rw [hk] at hb;have hk64:k<64:=by rw [<-hk];exact Nat.mod_lt _ (by decide)
 obtain ⟨a,cap,hbx,hlie,hfrm,ho⟩:=hC.lies;have hil:=(List.getElem?_eq_some_iff.1 hr).1;obtain ⟨gr,rfl,hBr,hgr⟩:=hfrm (by omega);have hrm:=List.mem_of_getElem? hr;obtain ⟨r1,r2,r3,r4,r5⟩:=hC.row r hrm;have hrk:=z7L hk64 hb;rw [<-r3] at hrk;have h64:r.hs.length<=1000:=by rw [r3,z34];have:=zbL r.live 64;omega
 have hcell:=hbx.cell 0;have hgh:=(r5.lt r.gh rfl).2
 have hg_gr:g≠gr:=fun e=>by
  obtain ⟨c,hc,_⟩:=z0B ho (b:=gr) rfl;rw [<-e,show w.heap[g]?=_ from hbx] at hc;cases hc
 have hg_gh:g≠r.gh:=fun e=>by
  obtain ⟨c,hc,_⟩:=z0B r5 (b:=r.gh) rfl;rw [<-e,show w.heap[g]?=_ from hbx] at hc;cases hc
 have hgh_gr:r.gh≠gr:=fun e=>z2I ho r5 (by rw [<-e];rfl);refine (zf7 B g gr i rs.length cap p k r.live (CLR r.live k) r.hs.length (r.hs.length - 1) (RK r.live k) (RK r.live k+1) r.gh r.ch (RC rs) (HL r.hs) w hbx ho hil (z2z rs i 1 r hr (by decide)) (z2z rs i 2 r hr (by decide)) r5 rfl rfl rfl hrk h64 r2 hk hp hC.far (zgz r2 hk64) zhu zht ⟨hgh_gr,hg_gr,hg_gh⟩ (z3k hC hr hn w (Below.refl _ _))).mono ?_;rintro e w' ⟨he,hcase,t2,t3,t4,t5⟩;refine ⟨he,?_⟩;obtain ⟨r',hr'⟩:∃ r':ROW,r'=⟨r.num,CLR r.live k,r.gh,r.ch,r.hs.eraseIdx (RK r.live k)⟩:=⟨_,rfl⟩
 have hlen:(r.hs.eraseIdx (RK r.live k)).length=r.hs.length - 1:=by rw [List.length_eraseIdx,if_pos hrk]
 have hxs:((RC rs).set (i*3+2) (.slice (some ⟨r.gh,0,none⟩) (r.hs.length - 1) r.ch)).set (i*3+1) (.int .u64 ((CLR r.live k:Nat):Int))=RC (rs.set i r'):=by
  rw [zds rs i r r' hr (by rw [hr']),hr'];show _=((RC rs).set (i*3+2) (.slice (some ⟨r.gh,0,none⟩) (r.hs.eraseIdx (RK r.live k)).length r.ch)).set (i*3+1) (.int .u64 ((CLR r.live k:Nat):Int));rw [hlen]
 rw [hxs] at hcase;rw [zhr] at t2
 have hfr:∀ j s,j≠i->rs[j]?=some s->w'.heap[s.gh]?=w.heap[s.gh]?:=fun j s hj hjs=>by
  have h5:=(hC.row s (List.mem_of_getElem? hjs)).2.2.2.2;refine t5 s.gh (h5.lt s.gh rfl).2 (fun e=>?_) (fun e=>z2I ho h5 (by rw [<-e];rfl)) (hC.apart j i s r hj hjs hr);obtain ⟨c,hc,_⟩:=z0B h5 (b:=s.gh) rfl;rw [e,show w.heap[g]?=_ from hbx] at hc;cases hc
 have main:∃ rs' n,FEWER rs rs' i r'/\Has w' g #[.slice (some ⟨gr,0,none⟩) n cap] 128/\n=rs'.length/\w'.ownsRow B 139 3 (.slice (some ⟨gr,0,none⟩) n cap) n (RC rs'):=by
  rcases hcase with ⟨h0,c1,c2⟩ | ⟨h0,c1,c2⟩
  ·exact ⟨rs.set i r',_,zdt hil (by rw [hr'];exact h0),c1,by simp,c2⟩
  ·rw [zhs,List.eraseIdx_set_eq] at c2
   exact ⟨rs.eraseIdx i,_,z9O hil (by rw [hr'];exact h0),c1,by rw [List.length_eraseIdx,if_pos hil],c2⟩
 obtain ⟨rs',n,hF,c1,hnn,c2⟩:=main;subst hnn;have hF':=hF;rw [hr'] at hF';refine ⟨rs',hC.fewer hr hk64 hb hF' c1 c2 hlen t2 hfr,zbR hr hn hk r2 hb hC.rise hF',fun s hs=>?_,fun v v' e1 e2=>?_,t3,t4,fun b h1 h2 h3 h4=>t5 b h1 h2 (fun e=>h3 _ hcell (by rw [e];rfl)) (fun e=>h4 r hrm e.symm)⟩
 ·rcases hF'.back hs with ⟨j,_,hjs⟩ | ⟨rfl,_⟩
  ·exact ⟨s,List.mem_of_getElem? hjs,rfl,rfl,fun _ _ h=>h⟩
  ·refine ⟨r,hrm,rfl,rfl,fun j _ hj=>?_⟩
   have hj':(CLR r.live k).testBit j=true:=hj;rw [z2T r2 hk64] at hj';cases hx:r.live.testBit j
   ·rw [hx] at hj';cases hj'
   ·rfl
 ·rw [hcell] at e1
  rw [c1.cell 0] at e2;have e1:=Option.some.inj e1;have e2:=Option.some.inj e2;rw [<-e1,<-e2];rfl
theorem STORE.take {W W':World} {B g log len alive N K gc p:Nat} (a:Nat) {C:z01} {rs:List ROW} (hS:STORE W B g log len alive N C) (hK:C K=some (gc,rs)) (hp:p / 2 ^ log=K) (hpl:p<len) (hP:zbS W B gc p rs W'):
  ∃ rs',STORE (W'.setCell ⟨g,2,none⟩ (.int .u64 ((a:Nat):Int))) B g log len a N (WITH C K gc rs')/\(∀ p',AT (WITH C K gc rs') log p'=if p'=p then none else AT C log p')/\
   (∀ b,FOOT (W'.setCell ⟨g,2,none⟩ (.int .u64 ((a:Nat):Int))) g (WITH C K gc rs') b->FOOT W g C b\/W.heap.size<=b)/\(∀ b,b<W.heap.size->b≠g->¬ FOOT W g C b->(W'.setCell ⟨g,2,none⟩ (.int .u64 ((a:Nat):Int))).heap[b]?=W.heap[b]?)/\
   (∀ i,i≠2->(W'.setCell ⟨g,2,none⟩ (.int .u64 ((a:Nat):Int))).cell? ⟨g,i,none⟩=W.cell? ⟨g,i,none⟩)/\W.heap.size<=(W'.setCell ⟨g,2,none⟩ (.int .u64 ((a:Nat):Int))).heap.size:=by
 obtain ⟨rs',q1,q2,q0,q9,q6,q7,q8⟩:=hP
 have q3:∀ r∈rs',∀ j,j<64->r.live.testBit j=true->r.num*64+j=p\/∃ r0∈rs,r0.num=r.num/\r0.live.testBit j=true:=fun r hr j hj hb=>by
  obtain ⟨r0,h1,h2,_,h4⟩:=q0 r hr;exact .inr ⟨r0,h1,h2,h4 j hj hb⟩
 have q4:∀ r∈rs',(∃ r0∈rs,r0.gh=r.gh)\/W.heap.size<=r.gh:=fun r hr=>by
  obtain ⟨r0,h1,_,h3,_⟩:=q0 r hr;exact .inl ⟨r0,h1,h3⟩
 have q5:∀ v v',W.cell? ⟨gc,0,none⟩=some v->W'.cell? ⟨gc,0,none⟩=some v'->v'.ownBlock=v.ownBlock\/∃ b,v'.ownBlock=some b/\W.heap.size<=b:=fun v v' h1 h2=>.inl (q9 v v' h1 h2);obtain ⟨cs,t,fr,k1,k2,k3,k4⟩:=hS.kind;obtain ⟨a1,a2,a3⟩:=hS.chunk K gc rs hK;obtain ⟨⟨_,y1⟩,y2,y3⟩:=a2.kinds;have hgl:=hS.lt;have hg:W'.heap[g]?=W.heap[g]?:=q8 g hgl (z09 k1 y1 k2) (fun v hv e=>by obtain ⟨_,hc⟩:=y2 v g hv e;exact z09 k1 hc k3 rfl) (fun r hr e=>by obtain ⟨_,hc⟩:=y3 r hr;rw [e] at hc;exact z09 k1 hc k4 rfl);have hcell:∀ i,W'.cell? ⟨g,i,none⟩=W.cell? ⟨g,i,none⟩:=fun i=>World.cell?_of_block (w:=W) (by exact hg);obtain ⟨w5,hw5⟩:∃ w5,W'.setCell ⟨g,2,none⟩ (.int .u64 ((a:Nat):Int))=w5:=⟨_,rfl⟩
 rw [hw5];have hset:∀ b,b≠g->w5.heap[b]?=W'.heap[b]?:=fun b hb=>by rw [<-hw5];exact Below.heap_setCell _ _ _ b (by exact hb)
 have hc5:∀ i,i≠2->w5.cell? ⟨g,i,none⟩=W.cell? ⟨g,i,none⟩:=fun i hi=>by rw [<-hw5,z1N (fun e=>hi e.symm)];exact hcell i
 have hs5:w5.heap.size=W'.heap.size:=by rw [<-hw5];simp
 obtain ⟨mv,m1,m2,m3⟩:=hS.map;have keep:∀ b c t' fr',W.heap[b]?=some (.cells c t' fr')->b≠g->b≠gc->(∀ v,W.cell? ⟨gc,0,none⟩=some v->v.ownBlock≠some b)->(∀ r∈rs,r.gh≠b)->w5.heap[b]?=W.heap[b]?:=fun b c t' fr' hb e1 e2 e3 e4=>(hset b e1).trans (q8 b (Array.getElem?_eq_some_iff.1 hb).1 e2 e3 e4)
 have hother:∀ k gc' rk,k≠K->C k=some (gc',rk)->w5.heap[gc']?=W.heap[gc']?/\(∀ v b,W.cell? ⟨gc',0,none⟩=some v->v.ownBlock=some b->w5.heap[b]?=W.heap[b]?)/\∀ r∈rk,w5.heap[r.gh]?=W.heap[r.gh]?:=fun k gc' rk hk e=>by
  obtain ⟨b1,b2,b3⟩:=hS.chunk k gc' rk e;obtain ⟨⟨_,z1⟩,z2,z3⟩:=b2.kinds;obtain ⟨o1,o2,o3⟩:=hS.one k K gc' gc rk rs hk e hK;refine ⟨keep gc' _ _ _ z1 (fun e=>z09 k1 z1 k2 e.symm) o1 (fun v hv e=>by obtain ⟨_,hc⟩:=y2 v _ hv e;exact z09 z1 hc (by decide) rfl) (fun r hr e=>by obtain ⟨_,hc⟩:=y3 r hr;rw [e] at hc;exact z09 z1 hc (by decide) rfl),fun v b hv hb=>?_,fun r hr=>?_⟩
  ·obtain ⟨_,hcb⟩:=z2 v b hv hb
   refine keep b _ _ _ hcb (fun e=>z09 k1 hcb k3 e.symm) (z09 hcb y1 (by decide)) (fun v' hv' e=>?_) (fun r hr e=>by obtain ⟨_,hc⟩:=y3 r hr;rw [e] at hc;exact z09 hcb hc (by decide) rfl);rcases o3 v v' hv hv' with h | h
   ·rw [hb] at h;cases h
   ·exact h (hb.trans e.symm)
  ·obtain ⟨_,hcr⟩:=z3 r hr
   exact keep r.gh _ _ _ hcr (fun e=>z09 k1 hcr k4 e.symm) (z09 hcr y1 (by decide)) (fun v hv e=>by obtain ⟨_,hc⟩:=y2 v _ hv e;exact z09 hcr hc (by decide) rfl) (fun r' hr' e=>o2 r hr r' hr' e.symm)
 have hocell:∀ k gc' rk,k≠K->C k=some (gc',rk)->∀ i,w5.cell? ⟨gc',i,none⟩=W.cell? ⟨gc',i,none⟩:=fun k gc' rk hk e i=>World.cell?_of_block (w:=W) (by exact (hother k gc' rk hk e).1);obtain ⟨⟨_,x1⟩,x2,x3⟩:=q1.kinds;have k1':W'.heap[g]?=some (.cells cs t fr):=hg.trans k1;have hgcg:gc≠g:=fun e=>z09 k1' x1 k2 e.symm;have hgcell:w5.cell? ⟨gc,0,none⟩=W'.cell? ⟨gc,0,none⟩:=World.cell?_of_block (w:=W') (by exact hset gc hgcg);have q1':CHUNK w5 B gc rs':=q1.at (hset gc hgcg) (fun v b hv hb=>by obtain ⟨_,hc⟩:=x2 v b hv hb;exact hset b (fun e=>z09 k1' hc k3 e.symm)) (fun r hr=>by obtain ⟨_,hc⟩:=x3 r hr;exact hset r.gh (fun e=>z09 k1' hc k4 e.symm))
 obtain ⟨v0,hv0,ho0⟩:=a2.box;have hv0c:W.cell? ⟨gc,0,none⟩=some v0:=hv0.cell 0
 have hone:∀ k' gc' rk,k'≠K->C k'=some (gc',rk)->gc≠gc'/\(∀ r∈rs',∀ r'∈rk,r.gh≠r'.gh)/\∀ v v',w5.cell? ⟨gc,0,none⟩=some v->w5.cell? ⟨gc',0,none⟩=some v'->v.ownBlock=none\/v.ownBlock≠v'.ownBlock:=fun k' gc' rk hk e=>by
  obtain ⟨o1,o2,o3⟩:=hS.one K k' gc gc' rs rk (fun h=>hk h.symm) hK e;obtain ⟨_,z2,z3⟩:=(hS.chunk k' gc' rk e).2.1.kinds;refine ⟨o1,fun r hr r' hr'=>?_,fun v v' hv hv'=>?_⟩
  ·rcases q4 r hr with ⟨r0,h1,h2⟩ | h1
   ·rw [<-h2];exact o2 r0 h1 r' hr'
   ·obtain ⟨_,hc⟩:=z3 r' hr'
    have:=(Array.getElem?_eq_some_iff.1 hc).1;omega
  ·rw [hgcell] at hv
   rw [hocell k' gc' rk hk e 0] at hv';rcases q5 v0 v hv0c hv with h1 | ⟨b,h1,h2⟩
   ·rw [h1];exact o3 v0 v' hv0c hv'
   ·refine .inr (fun h=>?_)
    rw [h1] at h;obtain ⟨_,hc⟩:=z2 v' b hv' h.symm;have:=(Array.getElem?_eq_some_iff.1 hc).1;omega
 refine ⟨rs',⟨hS.small,hS.short,(hc5 0 (by decide)).trans hS.c0,(hc5 1 (by decide)).trans hS.c1,?_,fun i hi=>?_,?_,?_,?_,?_⟩,?_,?_,?_,hc5,by rw [hs5];exact q6⟩
 ·rw [<-hw5]
  exact World.cell?_setCell_same _ _ _ (by rw [hcell 2];exact hS.c2)
 ·rw [<-hw5,World.frozen?_setCell]
  have:=hS.live i hi;unfold World.frozen? at this ⊢;rw [show W'.heap[g]?=W.heap[g]? from hg];exact this
 ·obtain ⟨cs',h1⟩:=z2m (i:=2) k1' (.int .u64 ((a:Nat):Int))
  exact ⟨cs',t,fr,by rw [<-hw5];exact h1,k2,k3,k4⟩
 ·refine ⟨mv,(hc5 3 (by decide)).trans m1,fun e k=>?_,fun b e=>?_⟩
  ·have:=m2 e K
   rw [hK] at this;cases this
  ·obtain ⟨c1,n,c2,c3⟩:=m3 b e
   refine ⟨c1,n,c2,?_⟩
   have hM:(fun k=>(WITH C K gc rs' k).map Prod.fst)=fun k=>(C k).map Prod.fst:=funext fun k=>by
    by_cases e:k=K
    ·subst e;rw [z0o,hK];rfl
    ·rw [z0p e]
   rw [hM];refine c3.at ?_;obtain ⟨D,⟨es,clock,h1,_⟩,_⟩:=c3;have hbc:∀ {b' c t' fr'},W.heap[b']?=some (.cells c t' fr')->b≠b':=fun h2 e=>by rw [<-e,h1] at h2;cases h2
   refine (hset b (hbc k1)).trans (q8 b (Array.getElem?_eq_some_iff.1 h1).1 (hbc y1) (fun v hv e=>?_) (fun r hr e=>?_))
   ·obtain ⟨_,hc⟩:=y2 v b hv e
    exact hbc hc rfl
   ·obtain ⟨_,hc⟩:=y3 r hr
    exact hbc hc e.symm
 ·intro k gc' rk e
  by_cases ek:k=K
  ·subst ek
   rw [z0o] at e;cases e;refine ⟨a1,q1',fun r hr j hj hb=>?_⟩;rcases q3 r hr j hj hb with h1 | ⟨r0,h1,h2,h3⟩
   ·rw [h1];exact ⟨hp,hpl⟩
   ·rw [<-h2];exact a3 r0 h1 j hj h3
  ·rw [z0p ek] at e
   obtain ⟨b1,b2,b3⟩:=hS.chunk k gc' rk e;obtain ⟨d1,d2,d3⟩:=hother k gc' rk ek e;exact ⟨b1,b2.at d1 d2 d3,b3⟩
 ·intro k k' gk gk' rk rk' hne e e'
  by_cases ek:k=K
  ·subst ek
   rw [z0o] at e;cases e;rw [z0p (fun h=>hne h.symm)] at e';exact hone k' gk' rk' (fun h=>hne h.symm) e'
  ·rw [z0p ek] at e
   by_cases ek':k'=K
   ·subst ek'
    rw [z0o] at e';cases e';obtain ⟨o1,o2,o3⟩:=hone k gk rk ek e;refine ⟨fun h=>o1 h.symm,fun r hr r' hr' h=>o2 r' hr' r hr h.symm,fun v v' hv hv'=>?_⟩;rcases o3 v' v hv' hv with h | h
    ·by_cases hn:v.ownBlock=none
     ·exact .inl hn
     ·exact .inr (fun e=>hn (e.trans h))
    ·exact .inr (fun e=>h e.symm)
   ·rw [z0p ek'] at e'
    obtain ⟨o1,o2,o3⟩:=hS.one k k' gk gk' rk rk' hne e e';refine ⟨o1,o2,fun v v' hv hv'=>o3 v v' ?_ ?_⟩
    ·rw [<-hocell k gk rk ek e 0];exact hv
    ·rw [<-hocell k' gk' rk' ek' e' 0];exact hv'
 ·intro p'
  unfold AT;by_cases ek:p' / 2 ^ log=K
  ·rw [ek,z0o,hK]
   exact q2 p'
  ·rw [z0p ek,if_neg (fun e=>ek (by rw [e];exact hp))]
 ·intro b hb
  rcases hb with h1 | ⟨k,gc',rk,e,h1⟩
  ·left;left
   rw [<-hc5 3 (by decide)];exact h1
  ·by_cases ek:k=K
   ·subst ek
    rw [z0o] at e;cases e;rcases h1 with h1 | ⟨v,hv,h1⟩ | ⟨r,hr,h1⟩
    ·exact .inl (.inr ⟨_,_,_,hK,.inl h1⟩)
    ·rw [hgcell] at hv
     rcases q5 v0 v hv0c hv with h2 | ⟨b',h2,h3⟩
     ·exact .inl (.inr ⟨_,_,_,hK,.inr (.inl ⟨v0,hv0c,by rw [<-h2];exact h1⟩)⟩)
     ·rw [h1] at h2
      cases h2;exact .inr h3
    ·rcases q4 r hr with ⟨r0,h2,h3⟩ | h2
     ·exact .inl (.inr ⟨_,_,_,hK,.inr (.inr ⟨r0,h2,by rw [h3];exact h1⟩)⟩)
     ·rw [h1] at h2
      exact .inr h2
   ·rw [z0p ek] at e
    rcases h1 with h1 | ⟨v,hv,h1⟩ | h1
    ·exact .inl (.inr ⟨_,_,_,e,.inl h1⟩)
    ·rw [hocell k gc' rk ek e 0] at hv
     exact .inl (.inr ⟨_,_,_,e,.inr (.inl ⟨v,hv,h1⟩)⟩)
    ·exact .inl (.inr ⟨_,_,_,e,.inr (.inr h1)⟩)
 ·intro b hb hbg hf
  exact (hset b hbg).trans (q8 b hb (fun e=>hf (.inr ⟨_,_,_,hK,.inl e⟩)) (fun v hv e=>hf (.inr ⟨_,_,_,hK,.inr (.inl ⟨v,hv,e⟩)⟩)) (fun r hr e=>hf (.inr ⟨_,_,_,hK,.inr (.inr ⟨r,hr,e⟩)⟩)))
theorem ChunkMap.drop {w:World} {b n k:Nat} {M:Nat->Option Nat} (h:ChunkMap w b n M) (hk:k<2 ^ 64) (ty:TypeId):∃ w',(Builtin.delete_ #[60,113] ty #[.map (some b),KEY k]).run Tryz.prog w=.ok (.tuple #[]) w'/\ChunkMap w' b n (fun j=>if j=k then none else M j)/\w.mapTurned w' b:=by
 obtain ⟨D,h1,h2⟩:=h;obtain ⟨w',r1,r2,r3⟩:=h1.drop lawKey Tryz.underlying60 (z1P hk) ty;refine ⟨w',r1,⟨_,r2,fun j hj=>?_⟩,r3⟩;dsimp only;by_cases e:j=k
 ·subst e
  rw [if_pos rfl];exact ⟨by rw [Maps.has_del_same];rfl,fun g' hg'=>by cases hg'⟩
 ·have hne:KK j≠KK k:=fun h=>e (z8w hj hk h)
  rw [if_neg e,Maps.has_del_other hne,Maps.atKey_del_other hne];exact h2 j hj
def z2o (C:z01) (K:Nat):z01:=fun j=>if j=K then none else C j
theorem z40 {C:z01} {K:Nat}:z2o C K K=none:=if_pos rfl
theorem z41 {C:z01} {K j:Nat} (h:j≠K):z2o C K j=C j:=if_neg h
theorem z1L {C:z01} {K j:Nat} {x:Nat × List ROW} (h:z2o C K j=some x):j≠K/\C j=some x:=by
 by_cases e:j=K
 ·subst e;rw [z40] at h;cases h
 ·rw [z41 e] at h;exact ⟨e,h⟩
theorem STORE.drop {W w2:World} {B g log len alive N K gc b:Nat} {C:z01} (hS:STORE W B g log len alive N C) (hK:C K=some (gc,[])) (hm:W.cell? ⟨g,3,none⟩=some (.map (some b))) (hblk:∀ x,x<W.heap.size->x≠b->w2.heap[x]?=W.heap[x]?) (hsz:W.heap.size<=w2.heap.size)
  (hM:∃ n,n<=N/\ChunkMap w2 b n (fun j=>if j=K then none else (C j).map Prod.fst)):STORE w2 B g log len alive N (z2o C K)/\(∀ p',AT (z2o C K) log p'=AT C log p')/\STEP0 W w2 g C (z2o C K):=by
 obtain ⟨cs,t,fr,k1,k2,k3,k4⟩:=hS.kind;obtain ⟨mv,m1,m2,m3⟩:=hS.map;rw [hm] at m1;have hmv:mv=some b:=by cases Option.some.inj m1;rfl
 subst hmv;obtain ⟨hBb,n0,_,hcm⟩:=m3 b rfl;have hbl:=hcm.lt;obtain ⟨D,⟨es,clock,hbm,_⟩,_⟩:=hcm;have hbc:∀ {b' c t' fr'},W.heap[b']?=some (.cells c t' fr')->b'≠b:=fun h2 e=>by rw [e,hbm] at h2;cases h2
 have hlt:∀ {b':Nat} {o:Obj},W.heap[b']?=some o->b'<W.heap.size:=fun h=>(Array.getElem?_eq_some_iff.1 h).1;have hgb:w2.heap[g]?=W.heap[g]?:=hblk g hS.lt (hbc k1);have cell:∀ i,w2.cell? ⟨g,i,none⟩=W.cell? ⟨g,i,none⟩:=fun i=>World.cell?_of_block (w:=W) (by exact hgb)
 have hch:∀ k gc' rk,C k=some (gc',rk)->(w2.heap[gc']?=W.heap[gc']?/\(∀ v x,W.cell? ⟨gc',0,none⟩=some v->v.ownBlock=some x->w2.heap[x]?=W.heap[x]?)/\∀ r∈rk,w2.heap[r.gh]?=W.heap[r.gh]?)/\gc'<W.heap.size:=fun k gc' rk e=>by
  obtain ⟨⟨_,z1⟩,z2,z3⟩:=(hS.chunk k gc' rk e).2.1.kinds;refine ⟨⟨hblk _ (hlt z1) (hbc z1),fun v x hv hx=>?_,fun r hr=>?_⟩,hlt z1⟩
  ·obtain ⟨_,hc⟩:=z2 v x hv hx
   exact hblk _ (hlt hc) (hbc hc)
  ·obtain ⟨_,hc⟩:=z3 r hr
   exact hblk _ (hlt hc) (hbc hc)
 have hcc:∀ k gc' rk,C k=some (gc',rk)->∀ i,w2.cell? ⟨gc',i,none⟩=W.cell? ⟨gc',i,none⟩:=fun k gc' rk e i=>World.cell?_of_block (w:=W) (by exact (hch k gc' rk e).1.1);refine ⟨⟨hS.small,hS.short,(cell 0).trans hS.c0,(cell 1).trans hS.c1,(cell 2).trans hS.c2,fun i hi=>?_,⟨cs,t,fr,hgb.trans k1,k2,k3,k4⟩,?_,?_,?_⟩,?_,?_⟩
 ·have:=hS.live i hi
  unfold World.frozen? at this ⊢;rw [show w2.heap[g]?=W.heap[g]? from hgb];exact this
 ·refine ⟨some b,(cell 3).trans hm,(fun e=>by cases e),fun b' e=>?_⟩
  cases e;obtain ⟨n,h1,h2⟩:=hM;refine ⟨hBb,n,h1,?_⟩
  have hE:(fun k=>(z2o C K k).map Prod.fst)=fun j=>if j=K then none else (C j).map Prod.fst:=funext fun j=>by
   by_cases e:j=K
   ·subst e;rw [z40,if_pos rfl];rfl
   ·rw [z41 e,if_neg e]
  rw [hE];exact h2
 ·intro k gc' rk e
  obtain ⟨_,e⟩:=z1L e;obtain ⟨b1,b2,b3⟩:=hS.chunk k gc' rk e;obtain ⟨⟨d1,d2,d3⟩,_⟩:=hch k gc' rk e;exact ⟨b1,b2.at d1 d2 d3,b3⟩
 ·intro k k' gk gk' rk rk' hne e e'
  obtain ⟨_,e⟩:=z1L e;obtain ⟨_,e'⟩:=z1L e';obtain ⟨o1,o2,o3⟩:=hS.one k k' gk gk' rk rk' hne e e';refine ⟨o1,o2,fun v v' hv hv'=>o3 v v' ?_ ?_⟩
  ·rw [<-hcc k gk rk e 0];exact hv
  ·rw [<-hcc k' gk' rk' e' 0];exact hv'
 ·intro p'
  unfold AT;by_cases ek:p' / 2 ^ log=K
  ·rw [ek,z40,hK]
   rfl
  ·rw [z41 ek]
 ·refine ⟨fun x hx=>.inl ?_,fun x hx hxg hf=>hblk x hx (fun e=>hf (.inl (by rw [e];exact hm))),hsz,fun i _=>cell i⟩
  rcases hx with h | ⟨k,gc',rk,e,h⟩
  ·left;rw [<-cell 3];exact h
  ·obtain ⟨_,e⟩:=z1L e
   refine .inr ⟨k,gc',rk,e,?_⟩;rcases h with h | ⟨v,hv,h⟩ | h
   ·exact .inl h
   ·exact .inr (.inl ⟨v,by rw [<-hcc k gc' rk e 0];exact hv,h⟩)
   ·exact .inr (.inr h)
theorem zfa (g:Nat) (a:Option Addr) (n cap:Nat) (w:World) (h:w.cell? ⟨g,0,none⟩=some (.slice a n cap)):Calls Tryz.prog 55 #[.pointer (some ⟨g,0,none⟩)] w fun e w'=>e=.returned (.bool (decide (n=0)))/\w=w':=by
 have hd:((n:Int) == 0)=decide (n=0):=by
  by_cases e:n=0
  ·simp [e]
  ·simp [e]
 go_enter Tryz.func55,Tryz.ntmps55;go_wp2;go_ret;exact ⟨rfl,rfl⟩
def z8D (w:World) (B g log len alive N p:Nat) (C:z01) (w':World):Prop:=∃ C',STORE w' B g log len alive N C'/\(∀ p',AT C' log p'=if p'=p then none else AT C log p')/\STEP w w' g C C'/\Below B w w'
theorem STORE.take_self {W W':World} {B g log len alive N K gc p:Nat} {C:z01} {rs:List ROW} (hS:STORE W B g log len alive N C) (hK:C K=some (gc,rs)) (hP:zbS W B gc p rs W'):W'.heap[g]?=W.heap[g]?:=by
 obtain ⟨rs',q1,q2,q3,q5,q6,q7,q8⟩:=hP;obtain ⟨cs,t,fr,k1,k2,k3,k4⟩:=hS.kind;obtain ⟨a1,a2,a3⟩:=hS.chunk K gc rs hK;obtain ⟨⟨_,y1⟩,y2,y3⟩:=a2.kinds;exact q8 g hS.lt (z09 k1 y1 k2) (fun v hv e=>by obtain ⟨_,hc⟩:=y2 v g hv e;exact z09 k1 hc k3 rfl) (fun r hr e=>by obtain ⟨_,hc⟩:=y3 r hr;rw [e] at hc;exact z09 k1 hc k4 rfl)
theorem zfb {w:World} {B g log len alive N:Nat} {C:z01} (hS:STORE w B g log len alive N C) (p al:Nat) (h:Nat->Nat) (hp:p<len) (hA:AT C log p=some h) (hal:al+1=alive) (hsm:alive<2 ^ 40) (hBg:B<=g):Calls Tryz.prog 27 #[.pointer (some ⟨g,0,none⟩),.int .u64 (p:Int)] w fun e w'=>
  (∃ v,e=.returned v)/\z8D w B g log len al N p C w':=by
 obtain ⟨K,hKe⟩:∃ K,p / 2 ^ log=K:=⟨_,rfl⟩
 obtain ⟨gc,rs,hK,hL⟩:∃ gc rs,C K=some (gc,rs)/\LOOK rs p=some h:=by
  unfold AT at hA;rw [hKe] at hA;cases hc:C K with
  | none=>rw [hc] at hA;cases hA
  | some x=>rw [hc] at hA;exact ⟨x.1,x.2,rfl,hA⟩
 obtain ⟨mv,m1,m2,m3⟩:=hS.map
 obtain ⟨b,rfl⟩:∃ b,mv=some b:=by
  cases mv with
  | none=>rw [m2 rfl K] at hK;cases hK
  | some b=>exact ⟨b,rfl⟩
 have hg:=hS.lt;have ck:=hS.key p w (Below.refl _ _);have hz:=z4X;have hlen:=hS.short;have H:Aside (STORE w B g log len alive N C/\p<len/\al+1=alive/\alive<2 ^ 40/\C K=some (gc,rs)/\LOOK rs p=some h/\len<2 ^ 40/\g<w.heap.size/\w.cell? ⟨g,3,none⟩=some (.map (some b))/\B<=g):=⟨hS,hp,hal,hsm,hK,hL,hlen,hg,m1,hBg⟩
 have HK:Aside (p / 2 ^ log=K):=hKe;rw [hKe] at ck;clear hS hp hal hsm hK hL hlen hBg hKe m1 m2 m3 hA;go_enter Tryz.func27,Tryz.ntmps27;go_wp2_with fail
 refine ck.mono ?_;rintro e w1 ⟨rfl,hb1⟩;clear ck;obtain ⟨a1,a2,a3,a4,a5,a6,a7,a8,a9,a10⟩:=H.out;have hb2:Below w.heap.size w (w1.alloc (.cells #[.int .u64 (K:Int)] 113)):=hb1.alloc hb1.size _;have hK64:K<2 ^ 64:=(a1.chunk K gc rs a5).1;have h3:(w1.alloc (.cells #[.int .u64 (K:Int)] 113)).cell? ⟨g,3,none⟩=some (.map (some b)):=(hb2.cell (by exact a8)).trans a9;have hS2:=a1.below hb2.drew
 have hlook:(Instr.lookup 60 (.map (some b)) (KEY K) false).run Tryz.prog (w1.alloc (.cells #[.int .u64 (K:Int)] 113)).drew=.ok (.pointer (some ⟨gc,0,none⟩)) (w1.alloc (.cells #[.int .u64 (K:Int)] 113)).drew:=by
  obtain ⟨mv,m1,m2,m3⟩:=hS2.map;have h3':(w1.alloc (.cells #[.int .u64 (K:Int)] 113)).drew.cell? ⟨g,3,none⟩=some (.map (some b)):=h3;rw [h3'] at m1;have hmv:mv=some b:=by cases Option.some.inj m1;rfl
  obtain ⟨_,n,_,hcm⟩:=m3 b hmv;exact hcm.get hK64 (by rw [a5];rfl)
 have hC2:=(hS2.chunk K gc rs a5).2.1;have cT:=z8C B gc p rs h (by omega) _ hC2 a6;have h42:Has (w1.alloc (.cells #[.int .u64 (K:Int)] 113)).drew w1.heap.size #[.int .u64 (K:Int)] 113:=Has.new w1 _ _;have hT2:=STEP.below a1 hb2.drew;clear a2 a3 a4 a6 a7 a9 a10;go_upto_region 1 with fail
 refine zhp _ _ _ _ _ _ _ _ _ _ _ _ _ _ _ _ _ _ _ _ _ _ _ _ _ _ _ _ _ _ _ g w1.heap.size K (.map (some b)) (.pointer (some ⟨gc,0,none⟩)) h3 (Has.new w1 _ _) hlook (fun _ _ _ _ _ h=>h) ?_;obtain ⟨W2,hW2⟩:∃ W2,(w1.alloc (.cells #[.int .u64 (K:Int)] 113)).drew=W2:=⟨_,rfl⟩
 rw [hW2] at h42 hS2 hC2 hT2 cT ⊢;have hB2:Below w.heap.size w W2:=by rw [<-hW2];exact hb2.drew
 clear hW2 hlook h3 hb2;go_wp2_with fail
 refine cT.mono ?_;rintro e w3 ⟨⟨v3,rfl⟩,hP⟩;clear cT;obtain ⟨a1,a2,a3,a4,a5,a6,a7,a8,a9,a10⟩:=H.out;have hself:=hS2.take_self a5 hP;have z2:w3.cell? ⟨g,2,none⟩=some (.int .u64 (alive:Int)):=(World.cell?_of_block (w:=W2) (by exact hself)).trans hS2.c2
 have zf:w3.frozen? ⟨g,2,none⟩=false:=by
  have:=hS2.live 2 (by decide);unfold World.frozen? at this ⊢;rw [show w3.heap[g]?=W2.heap[g]? from hself];exact this
 have hwr:IntKind.u64.wrap ((alive:Int) - 1)=(al:Int):=z0U (by omega) (by omega)
 have h43:Has w3 w1.heap.size #[.int .u64 (K:Int)] 113:=by
  obtain ⟨rs',q1,q2,q3,q5,q6,q7,q8⟩:=hP;obtain ⟨⟨_,y1⟩,y2,y3⟩:=hC2.kinds;exact (q8 _ h42.lt (z09 h42 y1 (by decide)) (fun v hv e=>by obtain ⟨_,hc⟩:=y2 v _ hv e;exact z09 h42 hc (by decide) rfl) (fun r hr e=>by obtain ⟨_,hc⟩:=y3 r hr;rw [e] at hc;exact z09 h42 hc (by decide) rfl)).trans h42
 have hBP:Below B W2 w3:=by obtain ⟨rs',q1,q2,q3,q5,q6,q7,q8⟩:=hP;exact q7
 obtain ⟨rs',s1,s2,s3,s4,s5,s6⟩:=hS2.take al a5 HK.out a2 hP;have hst:STEP0 W2 (w3.setCell ⟨g,2,none⟩ (.int .u64 (al:Int))) g C (WITH C K gc rs'):=⟨s3,s4,s6,fun i hi=>s5 i (by omega)⟩
 obtain ⟨w4,hw4⟩:∃ w4,w3.setCell ⟨g,2,none⟩ (.int .u64 (al:Int))=w4:=⟨_,rfl⟩
 have h44:Has w4 w1.heap.size #[.int .u64 (K:Int)] 113:=by rw [<-hw4];exact h43.other (by show w1.heap.size≠g;have:=hb1.size;omega) _
 have hB4:Below B w w4:=by rw [<-hw4];exact ((hB2.mono (by omega)).trans hBP).setCell (p:=⟨g,2,none⟩) a10 _
 rw [hw4] at s1 hst s5;have hC4:=(s1.chunk K gc rs' z0o).2.1;obtain ⟨a,cap,hbx, -, -, -⟩:=hC4.lies;have cE:=zfa gc a rs'.length cap w4 (hbx.cell 0);have hmap4:w4.cell? ⟨g,3,none⟩=some (.map (some b)):=(s5 3 (by decide)).trans ((hB2.cell (by exact a8)).trans a9);have HF:Aside (STORE w4 B g log len al N (WITH C K gc rs')/\(∀ p',AT (WITH C K gc rs') log p'=if p'=p then none else AT C log p')/\STEP0 w w4 g C (WITH C K gc rs')/\Below B w w4/\K<2 ^ 64/\B<=g/\g<w.heap.size):=⟨s1,s2,hT2.toSTEP0.trans hst,hB4,hK64,a10,a8⟩
 clear a1 a2 a3 a4 a5 a6 a7 a9 a10 hS2 hC2 hT2 hB2 hself hBP s1 s2 s3 s4 s5 s6 hst hC4 hbx hB4 h42 h43 hP hb1 hg a8;by_cases hn:rs'.length=0
 ·have hd:decide (rs'.length=0)=true:=decide_eq_true hn
  rw [hd] at cE;have hnil:rs'=[]:=List.eq_nil_of_length_eq_zero hn;subst hnil;obtain ⟨f1,f2,f3,f4,f5,f6,f7⟩:=HF.out;obtain ⟨mv,m1,m2,m3⟩:=f1.map;rw [hmap4] at m1;have hmv:mv=some b:=by cases Option.some.inj m1;rfl
  subst hmv;obtain ⟨hBb,n,hnN,hcm⟩:=m3 b rfl;have hbl:=hcm.lt;obtain ⟨w5,u1,u2,u3⟩:=(show ChunkMap w4.drew b n _ from hcm).drop f5 0;have hgr:=u3.grown;have hdr:=f1.drop (w2:=w5) z0o hmap4 (fun x hx hxb=>(hgr.block x hx (fun e=>hxb (by cases e;rfl)))) hgr.size ⟨n,hnN,u2⟩;obtain ⟨g1,g2,g3⟩:=hdr;have hB5:Below B w w5:=f4.drew.grown hgr (by have:=f4.size;show B<=w4.heap.size;omega) (fun x e=>by cases e;exact hBb);have E:Aside (z8D w B g log len al N p C w5):=⟨_,g1,fun p'=>(g2 p').trans (f2 p'),⟨f3.trans g3,fun x k gc' rs' e=>by obtain ⟨hk,e⟩:=z1L e;rw [z0p hk] at e;exact x k gc' rs' e⟩,hB5⟩
  clear f1 f2 f3 f4 f5 f6 f7 m2 m3 hcm u2 u3 hgr g1 g2 g3 hB5 hn hd hBb hbl;go_wp2_with (refine cE.mono ?_;rintro e w' ⟨rfl,rfl⟩)
  go_upto_region 5 with fail
  refine zhq _ _ _ _ _ _ _ _ _ _ _ _ _ _ _ _ _ _ _ _ _ _ _ _ _ _ _ _ _ _ _ g w1.heap.size K b w5 hmap4 h44 u1 (fun _ _ _ _ _ h=>h) ?_;go_wp2;go_end0
  exact ⟨⟨_,rfl⟩,E.out⟩
 ·have hd:decide (rs'.length=0)=false:=decide_eq_false hn
  rw [hd] at cE;have hne:rs'≠[]:=fun e=>hn (by rw [e];rfl);clear hn hd;go_wp2_with (refine cE.mono ?_;rintro e w' ⟨rfl,rfl⟩)
  go_end0
  obtain ⟨f1,f2,f3,f4, -⟩:=HF.out;exact ⟨⟨_,rfl⟩,_,f1,f2,⟨f3,fun x=>(x.but _).full hne⟩,f4⟩
theorem zfc {w:World} {B g log len alive N:Nat} {C:z01} (hS:STORE w B g log len alive N C) (p:Nat) (hp:len<=p):Calls Tryz.prog 10 #[.pointer (some ⟨g,0,none⟩),.int .u64 (p:Int)] w fun e w'=>e=.returned (.int .i64 31)/\w=w':=by
 have hc1:=hS.c1;have hge:(len:Int)<=(p:Int):=by omega
 clear hS;go_enter Tryz.func10,Tryz.ntmps10;go_wp2;go_ret;exact ⟨rfl,rfl⟩
def zgA (w:World) (B g log len alive N n p:Nat) (C:z01) (P:Nat->Nat) (w':World):Prop:=∃ C',STORE w' B g log len alive N C'/\(∀ p',AT C' log p'=if p'=p then none else AT C log p')/\PINS w' B g n C' P/\STEP w w' g C C'/\Below B w w'
theorem zdv {w:World} {B g log len alive N n:Nat} {C:z01} {P:Nat->Nat} (hS:STORE w B g log len alive N C) (hP:PINS w B g n C P) (p:Nat) (hp:p<2 ^ 64) (hl:p<len) (h0:P p=0) (hA:AT C log p=none):Calls Tryz.prog 10 #[.pointer (some ⟨g,0,none⟩),.int .u64 (p:Int)] w fun e w'=>e=.returned (.int .i64 0)/\Below w.heap.size w w':=by
 have hc1:=hS.c1;have hge:¬ (len:Int)<=(p:Int):=by omega
 obtain ⟨mv,l1,l2⟩:=hP.look p hp;rw [h0] at l2;have cL:=zaG hS p hp;rw [hA] at cL;clear hS hP;go_enter Tryz.func10,Tryz.ntmps10;go_wp2_with (refine cL.mono ?_;rintro e w' ⟨rfl,hb⟩)
 go_ret;exact ⟨rfl,hb⟩
theorem zdw {w:World} {B g log len alive N n:Nat} {C:z01} {P:Nat->Nat} (hS:STORE w B g log len alive N C) (hP:PINS w B g n C P) (p al:Nat) (h:Nat->Nat) (hp:p<2 ^ 64) (hl:p<len) (h0:P p=0) (hA:AT C log p=some h) (hal:al+1=alive) (hsm:alive<2 ^ 40) (hBg:B<=g):Calls Tryz.prog 10 #[.pointer (some ⟨g,0,none⟩),.int .u64 (p:Int)] w fun e w'=>e=.returned (.int .i64 0)/\zgA w B g log len al N n p C P w':=by
 have hc1:=hS.c1;have hge:¬ (len:Int)<=(p:Int):=by omega
 obtain ⟨mv,l1,l2⟩:=hP.look p hp;rw [h0] at l2;have cL:=zaG hS p hp;rw [hA] at cL;have H:Aside (STORE w B g log len alive N C/\PINS w B g n C P/\p<len/\AT C log p=some h/\al+1=alive/\alive<2 ^ 40/\B<=g/\g<w.heap.size):=⟨hS,hP,hl,hA,hal,hsm,hBg,hS.lt⟩
 clear hS hP hl hA hal hsm hBg;go_enter Tryz.func10,Tryz.ntmps10;go_wp2_with (refine cL.mono ?_;rintro e w1 ⟨rfl,hb⟩;clear cL)
 obtain ⟨a1,a2,a3,a4,a5,a6,a7,a8⟩:=H.out;have cT:=zfb (a1.below hb) p al h a3 a4 a5 a6 a7;have HB:Aside (Below w.heap.size w w1):=hb;clear a1 a2 a3 a4 a5 a6 a7 a8 hb;refine cT.mono ?_;rintro e w2 ⟨⟨v,rfl⟩,hT⟩;have HT:Aside (z8D w1 B g log len al N p C w2):=hT;clear hT cT;go_wp2;go_ret;obtain ⟨a1,a2,a3,a4,a5,a6,a7,a8⟩:=H.out;obtain ⟨C',c1,c2,c3,c4⟩:=HT.out;have hst:=(STEP.below a1 HB.out).trans c3;obtain ⟨cs,t,fr,k1,_⟩:=a1.kind;exact ⟨rfl,C',c1,c2,a2.step hst ⟨cs,t,fr,k1⟩,hst,(HB.out.mono (by omega)).trans c4⟩
end Go.Proofs.YtlbcnaenhghieaaGreatDoor.HX
