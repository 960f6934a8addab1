/- Texts of SpanMakes, one behind the other: StoreTaken, StoreTakeCall, StoreDrop, PosPlain. -/
import Derived.Test.YtnmalbngdhjhjaaGreatDoorSpanMakesP14
namespace Go.Proofs.YtnmalbngdhjhjaaGreatDoor.HX
open Go.RowKit Go.Maps
set_option maxRecDepth 100000
theorem STORE.take {W W':World} {B g log len alive N K gc p:Nat} (a:Nat) {C:z02} {rs:List ROW} (hS:STORE W B g log len alive N C) (hK:C K=some (gc,rs)) (hp:p / 2 ^ log=K) (hpl:p<len) (hP:zb5 W B gc p rs W'):
    ∃ rs',STORE (W'.setCell ⟨g,2,none⟩ (.int .u64 ((a:Nat):Int))) B g log len a N (WITH C K gc rs')∧(∀ p',AT (WITH C K gc rs') log p'=if p'=p then none else AT C log p')∧
      (∀ b,FOOT (W'.setCell ⟨g,2,none⟩ (.int .u64 ((a:Nat):Int))) g (WITH C K gc rs') b→FOOT W g C b∨W.heap.size≤b)∧(∀ b,b<W.heap.size→b≠g→¬ FOOT W g C b→(W'.setCell ⟨g,2,none⟩ (.int .u64 ((a:Nat):Int))).heap[b]?=W.heap[b]?)∧
      (∀ i,i≠2→(W'.setCell ⟨g,2,none⟩ (.int .u64 ((a:Nat):Int))).cell? ⟨g,i,none⟩=W.cell? ⟨g,i,none⟩)∧W.heap.size≤(W'.setCell ⟨g,2,none⟩ (.int .u64 ((a:Nat):Int))).heap.size:=by
  obtain ⟨rs',q1,q2,q0,q9,q6,q7,q8⟩:=hP
  have q3:∀ r∈rs',∀ j,j<64→r.live.testBit j=true→r.num*64+j=p∨∃ r0∈rs,r0.num=r.num∧r0.live.testBit j=true:=fun r hr j hj hb=>by
    obtain ⟨r0,h1,h2,_,h4⟩:=q0 r hr
    exact .inr ⟨r0,h1,h2,h4 j hj hb⟩
  have q4:∀ r∈rs',(∃ r0∈rs,r0.gh=r.gh)∨W.heap.size≤r.gh:=fun r hr=>by
    obtain ⟨r0,h1,_,h3,_⟩:=q0 r hr
    exact .inl ⟨r0,h1,h3⟩
  have q5:∀ v v',W.cell? ⟨gc,0,none⟩=some v→W'.cell? ⟨gc,0,none⟩=some v'→v'.ownBlock=v.ownBlock∨∃ b,v'.ownBlock=some b∧W.heap.size≤b:=fun v v' h1 h2=>.inl (q9 v v' h1 h2)
  obtain ⟨cs,t,fr,k1,k2,k3,k4⟩:=hS.kind
  obtain ⟨a1,a2,a3⟩:=hS.chunk K gc rs hK
  obtain ⟨⟨_,y1⟩,y2,y3⟩:=a2.kinds
  have hgl:=hS.lt
  have hg:W'.heap[g]?=W.heap[g]?:=q8 g hgl (z08 k1 y1 k2) (fun v hv e=>by obtain ⟨_,hc⟩:=y2 v g hv e;exact z08 k1 hc k3 rfl) (fun r hr e=>by obtain ⟨_,hc⟩:=y3 r hr;rw [e] at hc;exact z08 k1 hc k4 rfl)
  have hcell:∀ i,W'.cell? ⟨g,i,none⟩=W.cell? ⟨g,i,none⟩:=fun i=>World.cell?_of_block (w:=W) (by exact hg)
  obtain ⟨w5,hw5⟩:∃ w5,W'.setCell ⟨g,2,none⟩ (.int .u64 ((a:Nat):Int))=w5:=⟨_,rfl⟩
  rw [hw5]
  have hset:∀ b,b≠g→w5.heap[b]?=W'.heap[b]?:=fun b hb=>by rw [← hw5];exact Below.heap_setCell _ _ _ b (by exact hb)
  have hc5:∀ i,i≠2→w5.cell? ⟨g,i,none⟩=W.cell? ⟨g,i,none⟩:=fun i hi=>by rw [← hw5,z1H (fun e=>hi e.symm)];exact hcell i
  have hs5:w5.heap.size=W'.heap.size:=by rw [← hw5];simp
  obtain ⟨mv,m1,m2,m3⟩:=hS.map
  have keep:∀ b c t' fr',W.heap[b]?=some (.cells c t' fr')→b≠g→b≠gc→(∀ v,W.cell? ⟨gc,0,none⟩=some v→v.ownBlock≠some b)→(∀ r∈rs,r.gh≠b)→w5.heap[b]?=W.heap[b]?:=fun b c t' fr' hb e1 e2 e3 e4=>(hset b e1).trans (q8 b (Array.getElem?_eq_some_iff.1 hb).1 e2 e3 e4)
  have hother:∀ k gc' rk,k≠K→C k=some (gc',rk)→w5.heap[gc']?=W.heap[gc']?∧(∀ v b,W.cell? ⟨gc',0,none⟩=some v→v.ownBlock=some b→w5.heap[b]?=W.heap[b]?)∧∀ r∈rk,w5.heap[r.gh]?=W.heap[r.gh]?:=fun k gc' rk hk e=>by
    obtain ⟨b1,b2,b3⟩:=hS.chunk k gc' rk e
    obtain ⟨⟨_,z1⟩,z2,z3⟩:=b2.kinds
    obtain ⟨o1,o2,o3⟩:=hS.one k K gc' gc rk rs hk e hK
    refine ⟨keep gc' _ _ _ z1 (fun e=>z08 k1 z1 k2 e.symm) o1 (fun v hv e=>by obtain ⟨_,hc⟩:=y2 v _ hv e;exact z08 z1 hc (by decide) rfl) (fun r hr e=>by obtain ⟨_,hc⟩:=y3 r hr;rw [e] at hc;exact z08 z1 hc (by decide) rfl),fun v b hv hb=>?_,fun r hr=>?_⟩
    · obtain ⟨_,hcb⟩:=z2 v b hv hb
      refine keep b _ _ _ hcb (fun e=>z08 k1 hcb k3 e.symm) (z08 hcb y1 (by decide)) (fun v' hv' e=>?_) (fun r hr e=>by obtain ⟨_,hc⟩:=y3 r hr;rw [e] at hc;exact z08 hcb hc (by decide) rfl)
      rcases o3 v v' hv hv' with h | h
      · rw [hb] at h;cases h
      · exact h (hb.trans e.symm)
    · obtain ⟨_,hcr⟩:=z3 r hr
      exact keep r.gh _ _ _ hcr (fun e=>z08 k1 hcr k4 e.symm) (z08 hcr y1 (by decide)) (fun v hv e=>by obtain ⟨_,hc⟩:=y2 v _ hv e;exact z08 hcr hc (by decide) rfl) (fun r' hr' e=>o2 r hr r' hr' e.symm)
  have hocell:∀ k gc' rk,k≠K→C k=some (gc',rk)→∀ i,w5.cell? ⟨gc',i,none⟩=W.cell? ⟨gc',i,none⟩:=fun k gc' rk hk e i=>World.cell?_of_block (w:=W) (by exact (hother k gc' rk hk e).1)
  obtain ⟨⟨_,x1⟩,x2,x3⟩:=q1.kinds
  have k1':W'.heap[g]?=some (.cells cs t fr):=hg.trans k1
  have hgcg:gc≠g:=fun e=>z08 k1' x1 k2 e.symm
  have hgcell:w5.cell? ⟨gc,0,none⟩=W'.cell? ⟨gc,0,none⟩:=World.cell?_of_block (w:=W') (by exact hset gc hgcg)
  have q1':CHUNK w5 B gc rs':=q1.at (hset gc hgcg) (fun v b hv hb=>by obtain ⟨_,hc⟩:=x2 v b hv hb;exact hset b (fun e=>z08 k1' hc k3 e.symm)) (fun r hr=>by obtain ⟨_,hc⟩:=x3 r hr;exact hset r.gh (fun e=>z08 k1' hc k4 e.symm))
  obtain ⟨v0,hv0,ho0⟩:=a2.box
  have hv0c:W.cell? ⟨gc,0,none⟩=some v0:=hv0.cell 0
  have hone:∀ k' gc' rk,k'≠K→C k'=some (gc',rk)→gc≠gc'∧(∀ r∈rs',∀ r'∈rk,r.gh≠r'.gh)∧∀ v v',w5.cell? ⟨gc,0,none⟩=some v→w5.cell? ⟨gc',0,none⟩=some v'→v.ownBlock=none∨v.ownBlock≠v'.ownBlock:=fun k' gc' rk hk e=>by
    obtain ⟨o1,o2,o3⟩:=hS.one K k' gc gc' rs rk (fun h=>hk h.symm) hK e
    obtain ⟨_,z2,z3⟩:=(hS.chunk k' gc' rk e).2.1.kinds
    refine ⟨o1,fun r hr r' hr'=>?_,fun v v' hv hv'=>?_⟩
    · rcases q4 r hr with ⟨r0,h1,h2⟩ | h1
      · rw [← h2];exact o2 r0 h1 r' hr'
      · obtain ⟨_,hc⟩:=z3 r' hr'
        have:=(Array.getElem?_eq_some_iff.1 hc).1
        omega
    · rw [hgcell] at hv
      rw [hocell k' gc' rk hk e 0] at hv'
      rcases q5 v0 v hv0c hv with h1 | ⟨b,h1,h2⟩
      · rw [h1];exact o3 v0 v' hv0c hv'
      · refine .inr (fun h=>?_)
        rw [h1] at h
        obtain ⟨_,hc⟩:=z2 v' b hv' h.symm
        have:=(Array.getElem?_eq_some_iff.1 hc).1
        omega
  refine ⟨rs',⟨hS.small,hS.short,(hc5 0 (by decide)).trans hS.c0,(hc5 1 (by decide)).trans hS.c1,?_,fun i hi=>?_,?_,?_,?_,?_⟩,?_,?_,?_,hc5,by rw [hs5];exact q6⟩
  · rw [← hw5]
    exact World.cell?_setCell_same _ _ _ (by rw [hcell 2];exact hS.c2)
  · rw [← hw5,World.frozen?_setCell]
    have:=hS.live i hi
    unfold World.frozen? at this ⊢
    rw [show W'.heap[g]?=W.heap[g]? from hg]
    exact this
  · obtain ⟨cs',h1⟩:=z2e (i:=2) k1' (.int .u64 ((a:Nat):Int))
    exact ⟨cs',t,fr,by rw [← hw5];exact h1,k2,k3,k4⟩
  · refine ⟨mv,(hc5 3 (by decide)).trans m1,fun e k=>?_,fun b e=>?_⟩
    · have:=m2 e K
      rw [hK] at this
      cases this
    · obtain ⟨c1,n,c2,c3⟩:=m3 b e
      refine ⟨c1,n,c2,?_⟩
      have hM:(fun k=>(WITH C K gc rs' k).map Prod.fst)=fun k=>(C k).map Prod.fst:=funext fun k=>by
        by_cases e:k=K
        · subst e;rw [z0n,hK];rfl
        · rw [z0o e]
      rw [hM]
      refine c3.at ?_
      obtain ⟨D,⟨es,clock,h1,_⟩,_⟩:=c3
      have hbc:∀ {b' c t' fr'},W.heap[b']?=some (.cells c t' fr')→b≠b':=fun h2 e=>by rw [← e,h1] at h2;cases h2
      refine (hset b (hbc k1)).trans (q8 b (Array.getElem?_eq_some_iff.1 h1).1 (hbc y1) (fun v hv e=>?_) (fun r hr e=>?_))
      · obtain ⟨_,hc⟩:=y2 v b hv e
        exact hbc hc rfl
      · obtain ⟨_,hc⟩:=y3 r hr
        exact hbc hc e.symm
  · intro k gc' rk e
    by_cases ek:k=K
    · subst ek
      rw [z0n] at e
      cases e
      refine ⟨a1,q1',fun r hr j hj hb=>?_⟩
      rcases q3 r hr j hj hb with h1 | ⟨r0,h1,h2,h3⟩
      · rw [h1];exact ⟨hp,hpl⟩
      · rw [← h2];exact a3 r0 h1 j hj h3
    · rw [z0o ek] at e
      obtain ⟨b1,b2,b3⟩:=hS.chunk k gc' rk e
      obtain ⟨d1,d2,d3⟩:=hother k gc' rk ek e
      exact ⟨b1,b2.at d1 d2 d3,b3⟩
  · intro k k' gk gk' rk rk' hne e e'
    by_cases ek:k=K
    · subst ek
      rw [z0n] at e
      cases e
      rw [z0o (fun h=>hne h.symm)] at e'
      exact hone k' gk' rk' (fun h=>hne h.symm) e'
    · rw [z0o ek] at e
      by_cases ek':k'=K
      · subst ek'
        rw [z0n] at e'
        cases e'
        obtain ⟨o1,o2,o3⟩:=hone k gk rk ek e
        refine ⟨fun h=>o1 h.symm,fun r hr r' hr' h=>o2 r' hr' r hr h.symm,fun v v' hv hv'=>?_⟩
        rcases o3 v' v hv' hv with h | h
        · by_cases hn:v.ownBlock=none
          · exact .inl hn
          · exact .inr (fun e=>hn (e.trans h))
        · exact .inr (fun e=>h e.symm)
      · rw [z0o ek'] at e'
        obtain ⟨o1,o2,o3⟩:=hS.one k k' gk gk' rk rk' hne e e'
        refine ⟨o1,o2,fun v v' hv hv'=>o3 v v' ?_ ?_⟩
        · rw [← hocell k gk rk ek e 0];exact hv
        · rw [← hocell k' gk' rk' ek' e' 0];exact hv'
  · intro p'
    unfold AT
    by_cases ek:p' / 2 ^ log=K
    · rw [ek,z0n,hK]
      exact q2 p'
    · rw [z0o ek,if_neg (fun e=>ek (by rw [e];exact hp))]
  · intro b hb
    rcases hb with h1 | ⟨k,gc',rk,e,h1⟩
    · left;left
      rw [← hc5 3 (by decide)]
      exact h1
    · by_cases ek:k=K
      · subst ek
        rw [z0n] at e
        cases e
        rcases h1 with h1 | ⟨v,hv,h1⟩ | ⟨r,hr,h1⟩
        · exact .inl (.inr ⟨_,_,_,hK,.inl h1⟩)
        · rw [hgcell] at hv
          rcases q5 v0 v hv0c hv with h2 | ⟨b',h2,h3⟩
          · exact .inl (.inr ⟨_,_,_,hK,.inr (.inl ⟨v0,hv0c,by rw [← h2];exact h1⟩)⟩)
          · rw [h1] at h2
            cases h2
            exact .inr h3
        · rcases q4 r hr with ⟨r0,h2,h3⟩ | h2
          · exact .inl (.inr ⟨_,_,_,hK,.inr (.inr ⟨r0,h2,by rw [h3];exact h1⟩)⟩)
          · rw [h1] at h2
            exact .inr h2
      · rw [z0o ek] at e
        rcases h1 with h1 | ⟨v,hv,h1⟩ | h1
        · exact .inl (.inr ⟨_,_,_,e,.inl h1⟩)
        · rw [hocell k gc' rk ek e 0] at hv
          exact .inl (.inr ⟨_,_,_,e,.inr (.inl ⟨v,hv,h1⟩)⟩)
        · exact .inl (.inr ⟨_,_,_,e,.inr (.inr h1)⟩)
  · intro b hb hbg hf
    exact (hset b hbg).trans (q8 b hb (fun e=>hf (.inr ⟨_,_,_,hK,.inl e⟩)) (fun v hv e=>hf (.inr ⟨_,_,_,hK,.inr (.inl ⟨v,hv,e⟩)⟩)) (fun r hr e=>hf (.inr ⟨_,_,_,hK,.inr (.inr ⟨r,hr,e⟩)⟩)))
theorem ChunkMap.drop {w:World} {b n k:Nat} {M:Nat→Option Nat} (h:ChunkMap w b n M) (hk:k<2 ^ 64) (ty:TypeId):∃ w',(Builtin.delete_ #[81,151] ty #[.map (some b),KEY k]).run Tryz.prog w=.ok (.tuple #[]) w'∧ChunkMap w' b n (fun j=>if j=k then none else M j)∧w.mapTurned w' b:=by
  obtain ⟨D,h1,h2⟩:=h
  obtain ⟨w',r1,r2,r3⟩:=h1.drop lawKey Tryz.underlying81 (z1I hk) ty
  refine ⟨w',r1,⟨_,r2,fun j hj=>?_⟩,r3⟩
  dsimp only
  by_cases e:j=k
  · subst e
    rw [if_pos rfl]
    exact ⟨by rw [Maps.has_del_same];rfl,fun g' hg'=>by cases hg'⟩
  · have hne:KK j≠KK k:=fun h=>e (z7S hj hk h)
    rw [if_neg e,Maps.has_del_other hne,Maps.atKey_del_other hne]
    exact h2 j hj
def z2g (C:z02) (K:Nat):z02:=fun j=>if j=K then none else C j
theorem z3Q {C:z02} {K:Nat}:z2g C K K=none:=if_pos rfl
theorem z3R {C:z02} {K j:Nat} (h:j≠K):z2g C K j=C j:=if_neg h
theorem z1D {C:z02} {K j:Nat} {x:Nat × List ROW} (h:z2g C K j=some x):j≠K∧C j=some x:=by
  by_cases e:j=K
  · subst e;rw [z3Q] at h;cases h
  · rw [z3R e] at h;exact ⟨e,h⟩
theorem STORE.drop {W w2:World} {B g log len alive N K gc b:Nat} {C:z02} (hS:STORE W B g log len alive N C) (hK:C K=some (gc,[])) (hm:W.cell? ⟨g,3,none⟩=some (.map (some b))) (hblk:∀ x,x<W.heap.size→x≠b→w2.heap[x]?=W.heap[x]?) (hsz:W.heap.size≤w2.heap.size)
    (hM:∃ n,n≤N∧ChunkMap w2 b n (fun j=>if j=K then none else (C j).map Prod.fst)):STORE w2 B g log len alive N (z2g C K)∧(∀ p',AT (z2g C K) log p'=AT C log p')∧STEP0 W w2 g C (z2g C K):=by
  obtain ⟨cs,t,fr,k1,k2,k3,k4⟩:=hS.kind
  obtain ⟨mv,m1,m2,m3⟩:=hS.map
  rw [hm] at m1
  have hmv:mv=some b:=by cases Option.some.inj m1;rfl
  subst hmv
  obtain ⟨hBb,n0,_,hcm⟩:=m3 b rfl
  have hbl:=hcm.lt
  obtain ⟨D,⟨es,clock,hbm,_⟩,_⟩:=hcm
  have hbc:∀ {b' c t' fr'},W.heap[b']?=some (.cells c t' fr')→b'≠b:=fun h2 e=>by rw [e,hbm] at h2;cases h2
  have hlt:∀ {b':Nat} {o:Obj},W.heap[b']?=some o→b'<W.heap.size:=fun h=>(Array.getElem?_eq_some_iff.1 h).1
  have hgb:w2.heap[g]?=W.heap[g]?:=hblk g hS.lt (hbc k1)
  have cell:∀ i,w2.cell? ⟨g,i,none⟩=W.cell? ⟨g,i,none⟩:=fun i=>World.cell?_of_block (w:=W) (by exact hgb)
  have hch:∀ k gc' rk,C k=some (gc',rk)→(w2.heap[gc']?=W.heap[gc']?∧(∀ v x,W.cell? ⟨gc',0,none⟩=some v→v.ownBlock=some x→w2.heap[x]?=W.heap[x]?)∧∀ r∈rk,w2.heap[r.gh]?=W.heap[r.gh]?)∧gc'<W.heap.size:=fun k gc' rk e=>by
    obtain ⟨⟨_,z1⟩,z2,z3⟩:=(hS.chunk k gc' rk e).2.1.kinds
    refine ⟨⟨hblk _ (hlt z1) (hbc z1),fun v x hv hx=>?_,fun r hr=>?_⟩,hlt z1⟩
    · obtain ⟨_,hc⟩:=z2 v x hv hx
      exact hblk _ (hlt hc) (hbc hc)
    · obtain ⟨_,hc⟩:=z3 r hr
      exact hblk _ (hlt hc) (hbc hc)
  have hcc:∀ k gc' rk,C k=some (gc',rk)→∀ i,w2.cell? ⟨gc',i,none⟩=W.cell? ⟨gc',i,none⟩:=fun k gc' rk e i=>World.cell?_of_block (w:=W) (by exact (hch k gc' rk e).1.1)
  refine ⟨⟨hS.small,hS.short,(cell 0).trans hS.c0,(cell 1).trans hS.c1,(cell 2).trans hS.c2,fun i hi=>?_,⟨cs,t,fr,hgb.trans k1,k2,k3,k4⟩,?_,?_,?_⟩,?_,?_⟩
  · have:=hS.live i hi
    unfold World.frozen? at this ⊢
    rw [show w2.heap[g]?=W.heap[g]? from hgb]
    exact this
  · refine ⟨some b,(cell 3).trans hm,(fun e=>by cases e),fun b' e=>?_⟩
    cases e
    obtain ⟨n,h1,h2⟩:=hM
    refine ⟨hBb,n,h1,?_⟩
    have hE:(fun k=>(z2g C K k).map Prod.fst)=fun j=>if j=K then none else (C j).map Prod.fst:=funext fun j=>by
      by_cases e:j=K
      · subst e;rw [z3Q,if_pos rfl];rfl
      · rw [z3R e,if_neg e]
    rw [hE]
    exact h2
  · intro k gc' rk e
    obtain ⟨_,e⟩:=z1D e
    obtain ⟨b1,b2,b3⟩:=hS.chunk k gc' rk e
    obtain ⟨⟨d1,d2,d3⟩,_⟩:=hch k gc' rk e
    exact ⟨b1,b2.at d1 d2 d3,b3⟩
  · intro k k' gk gk' rk rk' hne e e'
    obtain ⟨_,e⟩:=z1D e
    obtain ⟨_,e'⟩:=z1D e'
    obtain ⟨o1,o2,o3⟩:=hS.one k k' gk gk' rk rk' hne e e'
    refine ⟨o1,o2,fun v v' hv hv'=>o3 v v' ?_ ?_⟩
    · rw [← hcc k gk rk e 0];exact hv
    · rw [← hcc k' gk' rk' e' 0];exact hv'
  · intro p'
    unfold AT
    by_cases ek:p' / 2 ^ log=K
    · rw [ek,z3Q,hK]
      rfl
    · rw [z3R ek]
  · refine ⟨fun x hx=>.inl ?_,fun x hx hxg hf=>hblk x hx (fun e=>hf (.inl (by rw [e];exact hm))),hsz,fun i _=>cell i⟩
    rcases hx with h | ⟨k,gc',rk,e,h⟩
    · left;rw [← cell 3];exact h
    · obtain ⟨_,e⟩:=z1D e
      refine .inr ⟨k,gc',rk,e,?_⟩
      rcases h with h | ⟨v,hv,h⟩ | h
      · exact .inl h
      · exact .inr (.inl ⟨v,by rw [← hcc k gc' rk e 0];exact hv,h⟩)
      · exact .inr (.inr h)
end Go.Proofs.YtnmalbngdhjhjaaGreatDoor.HX

namespace Go.Proofs.YtnmalbngdhjhjaaGreatDoor.HX
open Go.RowKit Go.Maps
set_option maxRecDepth 100000
theorem zdR (g:Nat) (a:Option Addr) (n cap:Nat) (w:World) (h:w.cell? ⟨g,0,none⟩=some (.slice a n cap)):Calls Tryz.prog 103 #[.pointer (some ⟨g,0,none⟩)] w fun e w'=>e=.returned (.bool (decide (n=0)))∧w=w':=by
  have hd:((n:Int) == 0)=decide (n=0):=by
    by_cases e:n=0
    · simp [e]
    · simp [e]
  go_enter Tryz.func103,Tryz.ntmps103
  go_wp2
  go_ret
  exact ⟨rfl,rfl⟩
def z7Z (w:World) (B g log len alive N p:Nat) (C:z02) (w':World):Prop:=∃ C',STORE w' B g log len alive N C'∧(∀ p',AT C' log p'=if p'=p then none else AT C log p')∧STEP w w' g C C'∧Below B w w'
theorem STORE.take_self {W W':World} {B g log len alive N K gc p:Nat} {C:z02} {rs:List ROW} (hS:STORE W B g log len alive N C) (hK:C K=some (gc,rs)) (hP:zb5 W B gc p rs W'):W'.heap[g]?=W.heap[g]?:=by
  obtain ⟨rs',q1,q2,q3,q5,q6,q7,q8⟩:=hP
  obtain ⟨cs,t,fr,k1,k2,k3,k4⟩:=hS.kind
  obtain ⟨a1,a2,a3⟩:=hS.chunk K gc rs hK
  obtain ⟨⟨_,y1⟩,y2,y3⟩:=a2.kinds
  exact q8 g hS.lt (z08 k1 y1 k2) (fun v hv e=>by obtain ⟨_,hc⟩:=y2 v g hv e;exact z08 k1 hc k3 rfl) (fun r hr e=>by obtain ⟨_,hc⟩:=y3 r hr;rw [e] at hc;exact z08 k1 hc k4 rfl)
set_option maxHeartbeats 4000000 in
theorem z5n {w:World} {B g log len alive N:Nat} {C:z02} (hS:STORE w B g log len alive N C) (p al:Nat) (h:Nat→Nat) (hp:p<len) (hA:AT C log p=some h) (hal:al+1=alive) (hsm:alive<2 ^ 40) (hBg:B≤g):Calls Tryz.prog 56 #[.pointer (some ⟨g,0,none⟩),.int .u64 (p:Int)] w fun e w'=>
    (∃ v,e=.returned v)∧z7Z w B g log len al N p C w':=by
  obtain ⟨K,hKe⟩:∃ K,p / 2 ^ log=K:=⟨_,rfl⟩
  obtain ⟨gc,rs,hK,hL⟩:∃ gc rs,C K=some (gc,rs)∧LOOK rs p=some h:=by
    unfold AT at hA
    rw [hKe] at hA
    cases hc:C K with
    | none=>rw [hc] at hA;cases hA
    | some x=>rw [hc] at hA;exact ⟨x.1,x.2,rfl,hA⟩
  obtain ⟨mv,m1,m2,m3⟩:=hS.map
  obtain ⟨b,rfl⟩:∃ b,mv=some b:=by
    cases mv with
    | none=>rw [m2 rfl K] at hK;cases hK
    | some b=>exact ⟨b,rfl⟩
  have hg:=hS.lt
  have ck:=hS.key p w (Below.refl _ _)
  have hz:=z4Q
  have hlen:=hS.short
  have H:Aside (STORE w B g log len alive N C∧p<len∧al+1=alive∧alive<2 ^ 40∧C K=some (gc,rs)∧LOOK rs p=some h∧len<2 ^ 40∧g<w.heap.size∧w.cell? ⟨g,3,none⟩=some (.map (some b))∧B≤g):=⟨hS,hp,hal,hsm,hK,hL,hlen,hg,m1,hBg⟩
  have HK:Aside (p / 2 ^ log=K):=hKe
  rw [hKe] at ck
  clear hS hp hal hsm hK hL hlen hBg hKe m1 m2 m3 hA
  go_enter Tryz.func56,Tryz.ntmps56
  go_wp2_with fail
  refine ck.mono ?_
  rintro e w1 ⟨rfl,hb1⟩
  clear ck
  obtain ⟨a1,a2,a3,a4,a5,a6,a7,a8,a9,a10⟩:=H.out
  have hb2:Below w.heap.size w (w1.alloc (.cells #[.int .u64 (K:Int)] 151)):=hb1.alloc hb1.size _
  have hK64:K<2 ^ 64:=(a1.chunk K gc rs a5).1
  have h3:(w1.alloc (.cells #[.int .u64 (K:Int)] 151)).cell? ⟨g,3,none⟩=some (.map (some b)):=(hb2.cell (by exact a8)).trans a9
  have hS2:=a1.below hb2.drew
  have hlook:(Instr.lookup 81 (.map (some b)) (KEY K) false).run Tryz.prog (w1.alloc (.cells #[.int .u64 (K:Int)] 151)).drew=.ok (.pointer (some ⟨gc,0,none⟩)) (w1.alloc (.cells #[.int .u64 (K:Int)] 151)).drew:=by
    obtain ⟨mv,m1,m2,m3⟩:=hS2.map
    have h3':(w1.alloc (.cells #[.int .u64 (K:Int)] 151)).drew.cell? ⟨g,3,none⟩=some (.map (some b)):=h3
    rw [h3'] at m1
    have hmv:mv=some b:=by cases Option.some.inj m1;rfl
    obtain ⟨_,n,_,hcm⟩:=m3 b hmv
    exact hcm.get hK64 (by rw [a5];rfl)
  have hC2:=(hS2.chunk K gc rs a5).2.1
  have cT:=z7Y B gc p rs h (by omega) _ hC2 a6
  have h42:Has (w1.alloc (.cells #[.int .u64 (K:Int)] 151)).drew w1.heap.size #[.int .u64 (K:Int)] 151:=Has.new w1 _ _
  have hT2:=STEP.below a1 hb2.drew
  clear a2 a3 a4 a6 a7 a9 a10
  go_upto_region 1 with fail
  refine zgq _ _ _ _ _ _ _ _ _ _ _ _ _ _ _ _ _ _ _ _ _ _ _ _ _ _ _ _ _ _ _ g w1.heap.size K (.map (some b)) (.pointer (some ⟨gc,0,none⟩)) h3 (Has.new w1 _ _) hlook (fun _ _ _ _ _ h=>h) ?_
  obtain ⟨W2,hW2⟩:∃ W2,(w1.alloc (.cells #[.int .u64 (K:Int)] 151)).drew=W2:=⟨_,rfl⟩
  rw [hW2] at h42 hS2 hC2 hT2 cT ⊢
  have hB2:Below w.heap.size w W2:=by rw [← hW2];exact hb2.drew
  clear hW2 hlook h3 hb2
  go_wp2_with fail
  refine cT.mono ?_
  rintro e w3 ⟨⟨v3,rfl⟩,hP⟩
  clear cT
  obtain ⟨a1,a2,a3,a4,a5,a6,a7,a8,a9,a10⟩:=H.out
  have hself:=hS2.take_self a5 hP
  have z2:w3.cell? ⟨g,2,none⟩=some (.int .u64 (alive:Int)):=(World.cell?_of_block (w:=W2) (by exact hself)).trans hS2.c2
  have zf:w3.frozen? ⟨g,2,none⟩=false:=by
    have:=hS2.live 2 (by decide)
    unfold World.frozen? at this ⊢
    rw [show w3.heap[g]?=W2.heap[g]? from hself]
    exact this
  have hwr:IntKind.u64.wrap ((alive:Int) - 1)=(al:Int):=z0P (by omega) (by omega)
  have h43:Has w3 w1.heap.size #[.int .u64 (K:Int)] 151:=by
    obtain ⟨rs',q1,q2,q3,q5,q6,q7,q8⟩:=hP
    obtain ⟨⟨_,y1⟩,y2,y3⟩:=hC2.kinds
    exact (q8 _ h42.lt (z08 h42 y1 (by decide)) (fun v hv e=>by obtain ⟨_,hc⟩:=y2 v _ hv e;exact z08 h42 hc (by decide) rfl) (fun r hr e=>by obtain ⟨_,hc⟩:=y3 r hr;rw [e] at hc;exact z08 h42 hc (by decide) rfl)).trans h42
  have hBP:Below B W2 w3:=by obtain ⟨rs',q1,q2,q3,q5,q6,q7,q8⟩:=hP;exact q7
  obtain ⟨rs',s1,s2,s3,s4,s5,s6⟩:=hS2.take al a5 HK.out a2 hP
  have hst:STEP0 W2 (w3.setCell ⟨g,2,none⟩ (.int .u64 (al:Int))) g C (WITH C K gc rs'):=⟨s3,s4,s6,fun i hi=>s5 i (by omega)⟩
  obtain ⟨w4,hw4⟩:∃ w4,w3.setCell ⟨g,2,none⟩ (.int .u64 (al:Int))=w4:=⟨_,rfl⟩
  have h44:Has w4 w1.heap.size #[.int .u64 (K:Int)] 151:=by rw [← hw4];exact h43.other (by show w1.heap.size≠g;have:=hb1.size;omega) _
  have hB4:Below B w w4:=by rw [← hw4];exact ((hB2.mono (by omega)).trans hBP).setCell (p:=⟨g,2,none⟩) a10 _
  rw [hw4] at s1 hst s5
  have hC4:=(s1.chunk K gc rs' z0n).2.1
  obtain ⟨a,cap,hbx, -, -, -⟩:=hC4.lies
  have cE:=zdR gc a rs'.length cap w4 (hbx.cell 0)
  have hmap4:w4.cell? ⟨g,3,none⟩=some (.map (some b)):=(s5 3 (by decide)).trans ((hB2.cell (by exact a8)).trans a9)
  have HF:Aside (STORE w4 B g log len al N (WITH C K gc rs')∧(∀ p',AT (WITH C K gc rs') log p'=if p'=p then none else AT C log p')∧STEP0 w w4 g C (WITH C K gc rs')∧Below B w w4∧K<2 ^ 64∧B≤g∧g<w.heap.size):=⟨s1,s2,hT2.toSTEP0.trans hst,hB4,hK64,a10,a8⟩
  clear a1 a2 a3 a4 a5 a6 a7 a9 a10 hS2 hC2 hT2 hB2 hself hBP s1 s2 s3 s4 s5 s6 hst hC4 hbx hB4 h42 h43 hP hb1 hg a8
  by_cases hn:rs'.length=0
  · have hd:decide (rs'.length=0)=true:=decide_eq_true hn
    rw [hd] at cE
    have hnil:rs'=[]:=List.eq_nil_of_length_eq_zero hn
    subst hnil
    obtain ⟨f1,f2,f3,f4,f5,f6,f7⟩:=HF.out
    obtain ⟨mv,m1,m2,m3⟩:=f1.map
    rw [hmap4] at m1
    have hmv:mv=some b:=by cases Option.some.inj m1;rfl
    subst hmv
    obtain ⟨hBb,n,hnN,hcm⟩:=m3 b rfl
    have hbl:=hcm.lt
    obtain ⟨w5,u1,u2,u3⟩:=(show ChunkMap w4.drew b n _ from hcm).drop f5 0
    have hgr:=u3.grown
    have hdr:=f1.drop (w2:=w5) z0n hmap4 (fun x hx hxb=>(hgr.block x hx (fun e=>hxb (by cases e;rfl)))) hgr.size ⟨n,hnN,u2⟩
    obtain ⟨g1,g2,g3⟩:=hdr
    have hB5:Below B w w5:=f4.drew.grown hgr (by have:=f4.size;show B≤w4.heap.size;omega) (fun x e=>by cases e;exact hBb)
    have E:Aside (z7Z w B g log len al N p C w5):=⟨_,g1,fun p'=>(g2 p').trans (f2 p'),⟨f3.trans g3,fun x k gc' rs' e=>by obtain ⟨hk,e⟩:=z1D e;rw [z0o hk] at e;exact x k gc' rs' e⟩,hB5⟩
    clear f1 f2 f3 f4 f5 f6 f7 m2 m3 hcm u2 u3 hgr g1 g2 g3 hB5 hn hd hBb hbl
    go_wp2_with (refine cE.mono ?_;rintro e w' ⟨rfl,rfl⟩)
    go_upto_region 5 with fail
    refine zgr _ _ _ _ _ _ _ _ _ _ _ _ _ _ _ _ _ _ _ _ _ _ _ _ _ _ _ _ _ _ _ g w1.heap.size K b w5 hmap4 h44 u1 (fun _ _ _ _ _ h=>h) ?_
    go_wp2
    go_end0
    exact ⟨⟨_,rfl⟩,E.out⟩
  · have hd:decide (rs'.length=0)=false:=decide_eq_false hn
    rw [hd] at cE
    have hne:rs'≠[]:=fun e=>hn (by rw [e];rfl)
    clear hn hd
    go_wp2_with (refine cE.mono ?_;rintro e w' ⟨rfl,rfl⟩)
    go_end0
    obtain ⟨f1,f2,f3,f4, -⟩:=HF.out
    exact ⟨⟨_,rfl⟩,_,f1,f2,⟨f3,fun x=>(x.but _).full hne⟩,f4⟩
end Go.Proofs.YtnmalbngdhjhjaaGreatDoor.HX

namespace Go.Proofs.YtnmalbngdhjhjaaGreatDoor.HX
open Go.RowKit Go.Maps
set_option maxRecDepth 100000
theorem zdS {w:World} {B g log len alive N:Nat} {C:z02} (hS:STORE w B g log len alive N C) (p:Nat) (hp:len≤p):Calls Tryz.prog 11 #[.pointer (some ⟨g,0,none⟩),.int .u64 (p:Int)] w fun e w'=>e=.returned (.int .i64 31)∧w=w':=by
  have hc1:=hS.c1
  have hge:(len:Int)≤(p:Int):=by omega
  clear hS
  go_enter Tryz.func11,Tryz.ntmps11
  go_wp2
  go_ret
  exact ⟨rfl,rfl⟩
def zfm (w:World) (B g log len alive N n p:Nat) (C:z02) (P:Nat→Nat) (w':World):Prop:=∃ C',STORE w' B g log len alive N C'∧(∀ p',AT C' log p'=if p'=p then none else AT C log p')∧PINS w' B g n C' P∧STEP w w' g C C'∧Below B w w'
set_option maxHeartbeats 1000000 in
theorem zcj {w:World} {B g log len alive N n:Nat} {C:z02} {P:Nat→Nat} (hS:STORE w B g log len alive N C) (hP:PINS w B g n C P) (p:Nat) (hp:p<2 ^ 64) (hl:p<len) (h0:P p=0) (hA:AT C log p=none):Calls Tryz.prog 11 #[.pointer (some ⟨g,0,none⟩),.int .u64 (p:Int)] w fun e w'=>e=.returned (.int .i64 0)∧Below w.heap.size w w':=by
  have hc1:=hS.c1
  have hge:¬ (len:Int)≤(p:Int):=by omega
  obtain ⟨mv,l1,l2⟩:=hP.look p hp
  rw [h0] at l2
  have cL:=za2 hS p hp
  rw [hA] at cL
  clear hS hP
  go_enter Tryz.func11,Tryz.ntmps11
  go_wp2_with (refine cL.mono ?_;rintro e w' ⟨rfl,hb⟩)
  go_ret
  exact ⟨rfl,hb⟩
set_option maxHeartbeats 1000000 in
theorem zck {w:World} {B g log len alive N n:Nat} {C:z02} {P:Nat→Nat} (hS:STORE w B g log len alive N C) (hP:PINS w B g n C P) (p al:Nat) (h:Nat→Nat) (hp:p<2 ^ 64) (hl:p<len) (h0:P p=0) (hA:AT C log p=some h) (hal:al+1=alive) (hsm:alive<2 ^ 40) (hBg:B≤g):Calls Tryz.prog 11 #[.pointer (some ⟨g,0,none⟩),.int .u64 (p:Int)] w fun e w'=>e=.returned (.int .i64 0)∧zfm w B g log len al N n p C P w':=by
  have hc1:=hS.c1
  have hge:¬ (len:Int)≤(p:Int):=by omega
  obtain ⟨mv,l1,l2⟩:=hP.look p hp
  rw [h0] at l2
  have cL:=za2 hS p hp
  rw [hA] at cL
  have H:Aside (STORE w B g log len alive N C∧PINS w B g n C P∧p<len∧AT C log p=some h∧al+1=alive∧alive<2 ^ 40∧B≤g∧g<w.heap.size):=⟨hS,hP,hl,hA,hal,hsm,hBg,hS.lt⟩
  clear hS hP hl hA hal hsm hBg
  go_enter Tryz.func11,Tryz.ntmps11
  go_wp2_with (refine cL.mono ?_;rintro e w1 ⟨rfl,hb⟩;clear cL)
  obtain ⟨a1,a2,a3,a4,a5,a6,a7,a8⟩:=H.out
  have cT:=z5n (a1.below hb) p al h a3 a4 a5 a6 a7
  have HB:Aside (Below w.heap.size w w1):=hb
  clear a1 a2 a3 a4 a5 a6 a7 a8 hb
  refine cT.mono ?_
  rintro e w2 ⟨⟨v,rfl⟩,hT⟩
  have HT:Aside (z7Z w1 B g log len al N p C w2):=hT
  clear hT cT
  go_wp2
  go_ret
  obtain ⟨a1,a2,a3,a4,a5,a6,a7,a8⟩:=H.out
  obtain ⟨C',c1,c2,c3,c4⟩:=HT.out
  have hst:=(STEP.below a1 HB.out).trans c3
  obtain ⟨cs,t,fr,k1,_⟩:=a1.kind
  exact ⟨rfl,C',c1,c2,a2.step hst ⟨cs,t,fr,k1⟩,hst,(HB.out.mono (by omega)).trans c4⟩
end Go.Proofs.YtnmalbngdhjhjaaGreatDoor.HX

namespace Go.Proofs.YtnmalbngdhjhjaaGreatDoor
def PCF:Nat→Nat→Nat
  | 0,_=>0
  | f+1,n=>n % 2+PCF f (n / 2)
def PC (n:Nat):Nat:=PCF n n
theorem z2X:∀ f,PCF f 0=0
  | 0=>rfl
  | f+1=>by
    show 0 % 2+PCF f (0 / 2)=0
    rw [show 0 / 2=0 from rfl,z2X f]
theorem z5o:∀ f g n,n≤f→n≤g→PCF f n=PCF g n
  | 0,g,n,h,_=>by
    have h0:n=0:=by omega
    subst h0
    rw [z2X,z2X]
  | f+1,0,n,_,h=>by
    have h0:n=0:=by omega
    subst h0
    rw [z2X,z2X]
  | f+1,g+1,n,h1,h2=>by
    show n % 2+PCF f (n / 2)=n % 2+PCF g (n / 2)
    rw [z5o f g (n / 2) (by omega) (by omega)]
theorem z0Z:PC 0=0:=rfl
theorem z0C (n:Nat):PC n=n % 2+PC (n / 2):=by
  show PCF n n=n % 2+PCF (n / 2) (n / 2)
  rw [z5o n (n+1) n (Nat.le_refl n) (Nat.le_succ n)]
  show n % 2+PCF n (n / 2)=n % 2+PCF (n / 2) (n / 2)
  rw [z5o n (n / 2) (n / 2) (by omega) (Nat.le_refl _)]
theorem z4S (m:Nat):PC (2*m)=PC m:=by
  rw [z0C,show 2*m % 2=0 by omega,show 2*m / 2=m by omega,Nat.zero_add]
theorem z3w (m:Nat):PC (2*m+1)=PC m+1:=by
  rw [z0C,show (2*m+1) % 2=1 by omega,show (2*m+1) / 2=m by omega,Nat.add_comm]
theorem zcl:PC 1=1:=by rw [show (1:Nat)=2*0+1 from rfl,z3w,z0Z]
theorem zf7 (n:Nat):PC n≤n:=by
  induction n using Nat.strongRecOn with
  | _ n ih=>
    by_cases h:n=0
    · subst h
      rw [z0Z]
      omega
    · have:=ih (n / 2) (by omega)
      rw [z0C]
      omega
theorem z4v (h:Nat):∀ k r,r<2 ^ h→PC (k*2 ^ h+r)=PC k+PC r:=by
  induction h with
  | zero=>
    intro k r hr
    have:r=0:=by simpa using hr
    subst this
    rw [z0Z]
    simp
  | succ h ih=>
    intro k r hr
    rw [Nat.pow_succ] at hr
    have e:k*2 ^ (h+1)+r=2*(k*2 ^ h+r / 2)+r % 2:=by
      rw [Nat.pow_succ,← Nat.mul_assoc]
      omega
    have hr2:r / 2<2 ^ h:=by omega
    rcases Nat.mod_two_eq_zero_or_one r with h0 | h0
    · rw [e,h0,Nat.add_zero,z4S,ih _ _ hr2,z0C r,h0]
      omega
    · rw [e,h0,z3w,ih _ _ hr2,z0C r,h0]
      omega
theorem z2h (h k:Nat):PC (k*2 ^ h)=PC k:=by
  have:=z4v h k 0 (Nat.two_pow_pos h)
  rw [z0Z] at this
  exact this
theorem zgw (h:Nat):PC (2 ^ h)=1:=by
  have:=z2h h 1
  rw [Nat.one_mul,zcl] at this
  exact this
theorem z6w:∀ h,PC (2 ^ h - 1)=h
  | 0=>z0Z
  | h+1=>by
    have hp:=Nat.two_pow_pos h
    rw [show 2 ^ (h+1) - 1=2*(2 ^ h - 1)+1 by rw [Nat.pow_succ];omega,z3w,z6w h]
theorem zac (n:Nat):PC (n+1)≤PC n+1:=by
  induction n using Nat.strongRecOn with
  | _ n ih=>
    rcases Nat.mod_two_eq_zero_or_one n with h | h
    · rw [z0C (n+1),z0C n,show (n+1) / 2=n / 2 by omega]
      omega
    · have:=ih (n / 2) (by omega)
      rw [z0C (n+1),z0C n,show (n+1) / 2=n / 2+1 by omega]
      omega
theorem z3f (h:Nat):∀ n,n<2 ^ h→PC n≤h:=by
  induction h with
  | zero=>
    intro n hn
    have:n=0:=by simpa using hn
    subst this
    rw [z0Z]
    omega
  | succ h ih=>
    intro n hn
    rw [Nat.pow_succ] at hn
    have:=ih (n / 2) (by omega)
    rw [z0C]
    omega
theorem zad:∀ k X,X<2 ^ k→DSUM 1 k X=PC X
  | 0,X,h=>by
    have:X=0:=by simpa using h
    subst this
    rw [z0Z]
    rfl
  | k+1,X,h=>by
    rw [Nat.pow_succ] at h
    rw [z0C,← zad k (X / 2) (by omega)]
    simp [DSUM]
theorem zcm {X:Nat} (h:X<2 ^ 64):POP X=PC X:=zad 64 X h
def z01 (n:Nat):Nat:=2*n - PC n
theorem z0A (n:Nat):z01 n+PC n=2*n:=by
  have:=zf7 n
  unfold z01
  omega
theorem z3S (n:Nat):z01 n=n+z01 (n / 2):=by
  have h1:=z0A n
  have h2:=z0A (n / 2)
  rw [z0C] at h1
  omega
theorem z26:z01 0=0:=by unfold z01;rw [z0Z]
theorem zdT {n m:Nat} (h:n<m):z01 n<z01 m:=by
  induction m with
  | zero=>omega
  | succ m ih=>
    have h1:=z0A m
    have h2:=z0A (m+1)
    have h3:=zac m
    rcases Nat.lt_or_ge n m with h4 | h4
    · have:=ih h4
      omega
    · obtain rfl:n=m:=by omega
      omega
theorem z3T {n m:Nat} (h:n≤m):z01 n≤z01 m:=by
  rcases Nat.lt_or_ge n m with h1 | h1
  · exact Nat.le_of_lt (zdT h1)
  · obtain rfl:n=m:=by omega
    exact Nat.le_refl _
theorem zdU (n:Nat):n≤z01 n:=by
  rw [z3S]
  omega
theorem z2m {n h:Nat} (hn:n<2 ^ h):z01 n<2 ^ (h+1):=by
  have:=z0A n
  rw [Nat.pow_succ]
  omega
def TREE (h:Nat):Nat:=2 ^ (h+1) - 1
def PLC (h k:Nat):Nat:=z01 (k*2 ^ h)+(2 ^ (h+1) - 2)
theorem z1M (h:Nat):2≤2 ^ (h+1):=by
  have:=Nat.two_pow_pos h
  rw [Nat.pow_succ]
  omega
theorem z1E (h k:Nat):PLC h k+2+PC k=2 ^ (h+1)*(k+1):=by
  have h1:=z0A (k*2 ^ h)
  have h2:=z1M h
  rw [z2h] at h1
  unfold PLC
  rw [Nat.mul_add,Nat.mul_one,show 2 ^ (h+1)*k=2*(k*2 ^ h) by rw [Nat.pow_succ,Nat.mul_comm (2 ^ h) 2,Nat.mul_assoc,Nat.mul_comm k]]
  omega
theorem z80 (k:Nat):PLC 0 k=z01 k:=by
  unfold PLC
  simp
theorem z6x (h k:Nat):1≤(k+1)*2 ^ h:=Nat.mul_pos (by omega) (Nat.two_pow_pos h)
theorem z5p (h k:Nat):z01 ((k+1)*2 ^ h - 1)+h=PLC h k:=by
  have hp:=Nat.two_pow_pos h
  have e:(k+1)*2 ^ h - 1=k*2 ^ h+(2 ^ h - 1):=by
    rw [Nat.add_mul,Nat.one_mul]
    omega
  have h1:=z0A (k*2 ^ h+(2 ^ h - 1))
  rw [z4v h k _ (by omega),z6w] at h1
  have h2:=z1E h k
  rw [e]
  rw [Nat.mul_add,Nat.mul_one,show 2 ^ (h+1)*k=2*(k*2 ^ h) by rw [Nat.pow_succ,Nat.mul_comm (2 ^ h) 2,Nat.mul_assoc,Nat.mul_comm k],Nat.pow_succ] at h2
  omega
theorem z9d (h m:Nat):PLC (h+1) m=PLC h (2*m)+2 ^ (h+1):=by
  have h1:=z1E (h+1) m
  have h2:=z1E h (2*m)
  rw [z4S] at h2
  have e:2 ^ (h+1+1)*(m+1)=2 ^ (h+1)*(2*m+1)+2 ^ (h+1):=by
    rw [Nat.pow_succ 2 (h+1)]
    generalize 2 ^ (h+1)=x
    rw [Nat.mul_assoc,← Nat.mul_succ]
    congr 1
  omega
theorem z2Y (h m:Nat):PLC (h+1) m=PLC h (2*m+1)+1:=by
  have h1:=z1E (h+1) m
  have h2:=z1E h (2*m+1)
  rw [z3w] at h2
  have e:2 ^ (h+1+1)*(m+1)=2 ^ (h+1)*(2*m+1+1):=by
    rw [Nat.pow_succ 2 (h+1)]
    generalize 2 ^ (h+1)=x
    rw [Nat.mul_assoc]
    congr 1
  omega
theorem z4T (h m:Nat):PLC h (2*m+1)=PLC h (2*m)+TREE h:=by
  have h1:=z9d h m
  have h2:=z2Y h m
  have h3:=z1M h
  unfold TREE
  omega
theorem z81 {h H k:Nat} (hh:h≤H) (hk:k<2 ^ (H - h)):PLC h (2 ^ (H - h)+k)=TREE H+PLC h k:=by
  have h1:=z1E h (2 ^ (H - h)+k)
  have h2:=z1E h k
  have h3:=z4v (H - h) 1 k hk
  rw [Nat.one_mul,zcl] at h3
  have e:2 ^ (h+1)*(2 ^ (H - h)+k+1)=2 ^ (H+1)+2 ^ (h+1)*(k+1):=by
    rw [Nat.add_assoc,Nat.mul_add,← Nat.pow_add,show h+1+(H - h)=H+1 by omega]
  have h4:=z1M H
  unfold TREE
  omega
theorem z82 {h H k:Nat} (hh:h≤H) (hk:k<2 ^ (H - h)):PLC h k+2≤2 ^ (H+1):=by
  have h1:=z1E h k
  have e:2 ^ (h+1)*(k+1)≤2 ^ (h+1)*2 ^ (H - h):=Nat.mul_le_mul_left _ hk
  rw [← Nat.pow_add,show h+1+(H - h)=H+1 by omega] at e
  omega
theorem zfn (H:Nat):∀ h k h' k',h≤H→k<2 ^ (H - h)→h'≤H→k'<2 ^ (H - h')→PLC h k=PLC h' k'→h=h'∧k=k':=by
  induction H with
  | zero=>
    intro h k h' k' a b c d _
    obtain rfl:h=0:=by omega
    obtain rfl:h'=0:=by omega
    simp at b d
    omega
  | succ H ih=>
    have top:∀ h k,h≤H+1→k<2 ^ (H+1 - h)→(h=H+1∧k=0∧PLC h k+2=2 ^ (H+2))∨(h≤H∧k<2 ^ (H - h)∧PLC h k+2≤2 ^ (H+1))∨(h≤H∧∃ q,k=2 ^ (H - h)+q∧q<2 ^ (H - h)∧PLC h k=TREE H+PLC h q∧PLC h q+2≤2 ^ (H+1)):=by
      intro h k a b
      rcases Nat.lt_or_ge H h with h1 | h1
      · obtain rfl:h=H+1:=by omega
        have hk:k=0:=by simpa using b
        subst hk
        have:=z1E (H+1) 0
        rw [z0Z] at this
        exact .inl ⟨rfl,rfl,by simpa using this⟩
      · rcases Nat.lt_or_ge k (2 ^ (H - h)) with h2 | h2
        · exact .inr (.inl ⟨h1,h2,z82 h1 h2⟩)
        · have hq:k - 2 ^ (H - h)<2 ^ (H - h):=by
            rw [show H+1 - h=H - h+1 by omega,Nat.pow_succ] at b
            omega
          refine .inr (.inr ⟨h1,k - 2 ^ (H - h),by omega,hq,?_,z82 h1 hq⟩)
          have:=z81 h1 hq
          rw [show 2 ^ (H - h)+(k - 2 ^ (H - h))=k by omega] at this
          exact this
    have hp:=z1M H
    have hpp:2 ^ (H+2)=2*2 ^ (H+1):=by rw [Nat.pow_succ 2 (H+1),Nat.mul_comm]
    intro h k h' k' a b c d e
    unfold TREE at top
    rcases top h k a b with ⟨r1,r2,r3⟩ | ⟨r1,r2,r3⟩ | ⟨r1,q,r2,r3,r4,r5⟩ <;> rcases top h' k' c d with ⟨s1,s2,s3⟩ | ⟨s1,s2,s3⟩ | ⟨s1,q',s2,s3,s4,s5⟩
    · omega
    · omega
    · omega
    · omega
    · exact ih h k h' k' r1 r2 s1 s2 e
    · omega
    · omega
    · omega
    · obtain ⟨rfl,rfl⟩:=ih h q h' q' r1 r3 s1 s3 (by omega)
      exact ⟨rfl,by omega⟩
theorem zfo (H:Nat):∀ p,p+2≤2 ^ (H+1)→∃ h k,h≤H∧k<2 ^ (H - h)∧p=PLC h k:=by
  induction H with
  | zero=>
    intro p hp
    have:p=0:=by simpa using hp
    subst this
    exact ⟨0,0,by omega,by simp,by rw [z80,z26]⟩
  | succ H ih=>
    intro p hp
    have hpp:2 ^ (H+2)=2*2 ^ (H+1):=by rw [Nat.pow_succ 2 (H+1),Nat.mul_comm]
    have h2:=z1M H
    by_cases h1:p+2=2 ^ (H+2)
    · refine ⟨H+1,0,Nat.le_refl _,by simp,?_⟩
      have:=z1E (H+1) 0
      rw [z0Z] at this
      simp only [Nat.zero_add,Nat.mul_one,Nat.add_zero] at this
      omega
    · by_cases h3:p+2≤2 ^ (H+1)
      · obtain ⟨h,k,a,b,c⟩:=ih p h3
        exact ⟨h,k,by omega,Nat.lt_of_lt_of_le b (Nat.pow_le_pow_right (by decide) (by omega)),c⟩
      · obtain ⟨h,k,a,b,c⟩:=ih (p - TREE H) (by unfold TREE;rw [show H+1+1=H+2 from rfl] at hp;omega)
        refine ⟨h,2 ^ (H - h)+k,by omega,?_,?_⟩
        · rw [show H+1 - h=H - h+1 by omega,Nat.pow_succ]
          omega
        · rw [z81 a b,← c]
          unfold TREE
          omega
def Node (h k:Nat):Prop:=h≤62∧k<2 ^ (62 - h)
theorem Node.one {h k h' k':Nat} (a:Node h k) (b:Node h' k') (e:PLC h k=PLC h' k'):h=h'∧k=k':=zfn 62 h k h' k' a.1 a.2 b.1 b.2 e
theorem Node.lt {h k:Nat} (a:Node h k):PLC h k<9223372036854775807:=by
  have:=z82 a.1 a.2
  omega
theorem Node.of {p:Nat} (hp:p<9223372036854775807):∃ h k,Node h k∧p=PLC h k:=by
  obtain ⟨h,k,a,b,c⟩:=zfo 62 p (by omega)
  exact ⟨h,k,⟨a,b⟩,c⟩
theorem Node.index_lt {h k:Nat} (a:Node h k):k<2 ^ 62:=Nat.lt_of_lt_of_le a.2 (Nat.pow_le_pow_right (by decide) (by omega))
theorem Node.span {h k:Nat} (a:Node h k):(k+1)*2 ^ h≤2 ^ 62:=by
  have:(k+1)*2 ^ h≤2 ^ (62 - h)*2 ^ h:=Nat.mul_le_mul_right _ a.2
  rw [← Nat.pow_add,Nat.sub_add_cancel a.1] at this
  exact this
theorem zb6:z01 4611686018427387904=9223372036854775807:=by
  have h:=z0A (2 ^ 62)
  rw [zgw] at h
  have e:(4611686018427387904:Nat)=2 ^ 62:=by decide
  rw [e]
  omega
end Go.Proofs.YtnmalbngdhjhjaaGreatDoor
