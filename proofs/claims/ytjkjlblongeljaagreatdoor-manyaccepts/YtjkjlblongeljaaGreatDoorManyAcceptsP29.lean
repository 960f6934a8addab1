/- Texts of ManyAccepts, one behind the other: StoreSputFirst, StorePush, StoreSame, StoreTree, MmrCalls, MmrTree, StoreHashList, MmrPeaks. -/
import Derived.Great.BuildSlice
import Derived.Test.YtjkjlblongeljaaGreatDoorManyAcceptsP28
namespace Go.Proofs.YtjkjlblongeljaaGreatDoor.HX
open Go.RowKit Go.Maps
set_option maxRecDepth 100000
set_option maxHeartbeats 2000000 in
theorem zb0 {w:World} {B g log len alive N:Nat} {C:z05} (hS:STORE w B g log len alive N C) (p:Nat) (h:Nat→Nat) (h8:∀ i,h i<256) (hp:p<len) (hT:TOP C p) (hal:alive<2 ^ 40) (hBg:B≤g) (hN:N<2 ^ 40) (hm:w.cell? ⟨g,3,none⟩=some (.map none)):Calls Tryz.prog 65 #[.pointer (some ⟨g,0,none⟩),.int .u64 (p:Int),.agg (UARR .u8 32 h)] w fun e w'=>
    (∃ v,e=.returned v)∧z5P w B g log len alive N p C h w':=by
  obtain ⟨w0,hw0⟩:∃ w0,w.alloc (.cells (UARR .u8 32 h) 35)=w0:=⟨_,rfl⟩
  have hb0:Below w.heap.size w w0:=by rw [← hw0];exact (Below.refl _ _).alloc (Nat.le_refl _) _
  have h50:Has w0 w.heap.size (UARR .u8 32 h) 35:=by rw [← hw0];exact Has.new w _ _
  have hg:=hS.lt
  have hm0:w0.cell? ⟨g,3,none⟩=some (.map none):=(hb0.cell (by exact hg)).trans hm
  have hs0:=hb0.size
  obtain ⟨hC,hSb,hstep⟩:=(hS.below hb0).mapped hm0 (by omega)
  have hba:Below w0.heap.size w0 (w0.alloc (.map #[] 0)):=(Below.refl _ _).alloc (Nat.le_refl _) _
  have hm1:(w0.alloc (.map #[] 0)).cell? ⟨g,3,none⟩=some (.map none):=(hba.cell (by show g<w0.heap.size;omega)).trans hm0
  have hf1:(w0.alloc (.map #[] 0)).frozen? ⟨g,3,none⟩=false:=((hS.below hb0).below hba).live 3 (by decide)
  obtain ⟨b,hbe⟩:∃ b,w0.heap.size=b:=⟨_,rfl⟩
  rw [hbe] at hSb hstep
  obtain ⟨wb,hwb⟩:∃ wb,(w0.alloc (.map #[] 0)).setCell ⟨g,3,none⟩ (.map (some b))=wb:=⟨_,rfl⟩
  have hBb:Below B w wb:=by rw [← hwb];exact ((hb0.mono (by omega)).trans (hba.mono (by omega))).setCell (p:=⟨g,3,none⟩) hBg _
  have h5b:Has wb w.heap.size (UARR .u8 32 h) 35:=by rw [← hwb];exact (h50.alloc _).other (by show w.heap.size≠g;omega) _
  have hmb:wb.cell? ⟨g,3,none⟩=some (.map (some b)):=by rw [← hwb];exact World.cell?_setCell_same _ _ _ hm1
  rw [hwb] at hSb hstep
  have ck:=hSb.key p wb (Below.refl _ _)
  have hz:=z6l
  have hme:=ze4
  have hmk:(Instr.makeMap 67 none).run Tryz.prog w0=.ok (.map (some b)) (w0.alloc (.map #[] 0)):=by rw [← hbe];rfl
  have H:Aside (STORE wb B g log len alive N C∧p<len∧TOP C p∧alive<2 ^ 40∧C (p / 2 ^ log)=none∧len<2 ^ 40∧g<w.heap.size∧(∀ i,h i<256)∧wb.cell? ⟨g,3,none⟩=some (.map (some b))∧B≤g∧N<2 ^ 40∧Has wb w.heap.size (UARR .u8 32 h) 35∧STEP w wb g C C∧Below B w wb):=⟨hSb,hp,hT,hal,hC _,hS.short,hg,h8,hmb,hBg,hN,h5b,(STEP.below hS hb0).trans hstep,hBb⟩
  clear hS hp hT hal hm h8 hBg h5b hN hb0 hSb hstep hC h50 hBb hba hs0
  obtain ⟨K,hKe⟩:∃ K,p / 2 ^ log=K:=⟨_,rfl⟩
  rw [hKe] at ck H
  have HK:Aside (p / 2 ^ log=K):=hKe
  clear hKe
  go_enter Tryz.func65,Tryz.ntmps65
  go_wp2_with fail
  refine ck.mono ?_
  rintro e w1 ⟨rfl,hb1⟩
  clear ck
  obtain ⟨a1,a2,a3,a4,a5,a6,a7,a8,a9,a10,a11,a12,a13,a14⟩:=H.out
  have hb2:Below wb.heap.size wb (w1.alloc (.cells #[.int .u64 (K:Int)] 123)):=hb1.alloc hb1.size _
  have h3w:w1.cell? ⟨g,3,none⟩=some (.map (some b)):=(hb1.cell (by exact a1.lt)).trans a9
  have hK64:K<2 ^ 64:=by have:=HK.out;have:=Nat.div_le_self p (2 ^ log);omega
  obtain ⟨mv,v,l1,l2, -⟩:=a1.looked K hK64
  have hmv:mv=.map (some b):=by have:=l1 wb (Below.refl _ _);rw [a9] at this;exact (Option.some.inj this).symm
  subst hmv
  have l2':=l2 _ hb2.drew
  rw [a5] at l2'
  have h3:=l1 _ hb2
  have h52:Has (w1.alloc (.cells #[.int .u64 (K:Int)] 123)).drew w.heap.size (UARR .u8 32 h) 35:=(a12.keep hb1).alloc _
  have h62:Has (w1.alloc (.cells #[.int .u64 (K:Int)] 123)).drew w1.heap.size #[.int .u64 (K:Int)] 123:=Has.new w1 _ _
  have hS2:=a1.below hb2.drew
  have hT2:=STEP.below a1 hb2.drew
  have hB2:Below B wb (w1.alloc (.cells #[.int .u64 (K:Int)] 123)).drew:=hb2.drew.mono (by have:=a1.lt;omega)
  have h3d:(w1.alloc (.cells #[.int .u64 (K:Int)] 123)).drew.cell? ⟨g,3,none⟩=some (.map (some b)):=h3
  clear l1 l2
  go_upto_region 4 with fail
  refine zaY _ _ _ _ _ _ _ _ _ _ _ _ _ _ _ _ _ _ _ _ _ _ _ _ _ _ _ _ _ _ _ _ _ _ _ _ _ _ _ _ _ _ _ _ _ _ _ _ _ _ g w1.heap.size K (.map (some b)) v false h3 (Has.new w1 _ _) l2' (fun _ _ _ _ _ h=>h) ?_
  dsimp only
  obtain ⟨W2,hW2⟩:∃ W2,(w1.alloc (.cells #[.int .u64 (K:Int)] 123)).drew=W2:=⟨_,rfl⟩
  rw [hW2] at h52 h62 hS2 hT2 hB2 h3d ⊢
  clear hW2 l2' h3 hb2 h3w
  obtain ⟨mv',m1,m2,m3⟩:=hS2.map
  rw [h3d] at m1
  have hmv:mv'=some b:=by cases Option.some.inj m1;rfl
  subst hmv
  obtain ⟨hBb,n0,hn0,hcm⟩:=m3 b rfl
  have hbl:=hcm.lt
  have hb3:Below W2.heap.size W2 (W2.alloc (.cells #[.slice none 0 0] 152)).drew:=((Below.refl _ _).alloc (Nat.le_refl _) _).drew
  have hcm3:=hcm.below hb3
  obtain ⟨w5,u1,u2,u3⟩:=hcm3.store (k:=K) (g:=W2.heap.size) (by omega) hK64
  have hbc:∀ {b' c t' fr'},W2.heap[b']?=some (.cells c t' fr')→b'≠b:=fun h2 e=>by
    obtain ⟨D,⟨es,clock,hbm,_⟩,_⟩:=hcm
    rw [e,hbm] at h2;cases h2
  have hblk:∀ x,x<W2.heap.size→x≠b→w5.heap[x]?=W2.heap[x]?:=fun x hx hxb=>(u3.block x (by have:=hb3.size;omega) (fun e=>hxb (by cases e;rfl))).trans (hb3.block x hx)
  have hbox:Has w5 W2.heap.size #[.slice none 0 0] 152:=(u3.block W2.heap.size (by simp) (fun e=>by cases e;omega)).trans (Has.new W2 _ _)
  have hsz:W2.heap.size≤w5.heap.size:=Nat.le_trans hb3.size u3.size
  obtain ⟨t1,t2,t3,t4⟩:=hS2.turn h3d hblk hsz (Nat.le_refl _) hbox ⟨n0+1,by omega,u2⟩ a5 hK64
  have h55:Has w5 w.heap.size (UARR .u8 32 h) 35:=(hblk _ h52.lt (hbc h52)).trans h52
  have hB5:Below B W2 w5:=(hb3.mono (by omega)).grown u3 (by have:=hb3.size;omega) (fun x e=>by cases e;exact hBb)
  have hC5:=(t1.chunk K W2.heap.size [] z0s).2.1
  have cP:=z3p B W2.heap.size p [] h (by omega) (by decide) (fun r hr=>by cases hr) a8 _ hC5
  have h33:(W2.alloc (.cells #[.slice none 0 0] 152)).cell? ⟨g,3,none⟩=some (.map (some b)):=(hb3.cell (by exact hS2.lt)).trans h3d
  have h63:Has (W2.alloc (.cells #[.slice none 0 0] 152)) w1.heap.size #[.int .u64 (K:Int)] 123:=h62.alloc _
  have hbch:=z5Q
  have G:Aside (STORE w5 B g log len alive (N+1) (WITH C K W2.heap.size [])∧(∀ p',AT (WITH C K W2.heap.size []) log p'=AT C log p')∧(∀ p,TOP C p→TOP (WITH C K W2.heap.size []) p)∧STEP0 wb w5 g C (WITH C K W2.heap.size [])∧Below B wb w5):=⟨t1,t2,t3,hT2.toSTEP0.trans t4,hB2.trans hB5⟩
  obtain ⟨gc,hgce⟩:∃ gc,W2.heap.size=gc:=⟨_,rfl⟩
  rw [hgce] at cP G u1
  clear t1 t2 t3 t4 hT2 hB2 hB5 hbox hsz hblk hbc u2 u3 hcm hcm3 hbl m1 m2 m3 hS2 hb3 hC5
  go_upto_region 7 with fail
  refine zer _ _ _ _ _ _ _ _ _ _ _ _ _ _ _ _ _ _ _ _ _ _ _ _ _ _ _ _ _ _ _ _ _ _ _ _ _ _ _ _ _ _ _ _ _ _ _ _ _ g w1.heap.size K (.map (some b)) _ w5 h33 h63 u1 (fun _ _ _ _ _ h=>h) ?_
  dsimp only
  clear u1 h33 h63 hbch h62 h52
  clear hgce
  go_wp2_with (refine wpList_load_row rfl 35 (.tmp 5) rfl w.heap.size rfl 35 (UARR .u8 32 h) (0,0) (.array 32 5) h55 Tryz.underlying35 rfl (z03 _) ?_)
  refine cP.mono ?_
  rintro e w6 ⟨⟨v6,rfl⟩,hP⟩
  clear cP
  have hself:=G.out.1.put_self z0s hP
  have z2:w6.cell? ⟨g,2,none⟩=some (.int .u64 (alive:Int)):=(World.cell?_of_block (w:=w5) (by exact hself)).trans G.out.1.c2
  have zf:w6.frozen? ⟨g,2,none⟩=false:=by
    have:=G.out.1.live 2 (by decide)
    unfold World.frozen? at this ⊢
    rw [show w6.heap[g]?=w5.heap[g]? from hself]
    exact this
  have hwr:IntKind.u64.wrap ((alive:Int)+1)=((alive+1:Nat):Int):=z0W (by omega) (by omega)
  have FIN:Aside (PUTS w5 B gc p [] h w6):=hP
  clear hP hself
  go_wp2
  go_end0
  obtain ⟨f1,f2,f3,f4,f5⟩:=G.out
  obtain ⟨_,_,_,_,_,_,_,q7,_⟩:=id FIN.out
  obtain ⟨C',c1,c2,c3,c4,c5⟩:=f1.put_step z0s HK.out a2 FIN.out
  exact ⟨⟨_,rfl⟩,C',c1,fun p'=>by rw [c2,f2],c3 (f3 p a3),STEP.of_with (a13.toSTEP0.trans f4) c4 c5,((a14.trans f5).trans q7).setCell (p:=⟨g,2,none⟩) a10 _⟩
theorem z90 {w:World} {B g log len alive N:Nat} {C:z05} (hS:STORE w B g log len alive N C) (p:Nat) (h:Nat→Nat) (h8:∀ i,h i<256) (hp:p<len) (hT:TOP C p) (hal:alive<2 ^ 40) (hBg:B≤g) (hN:N<2 ^ 40):Calls Tryz.prog 65 #[.pointer (some ⟨g,0,none⟩),.int .u64 (p:Int),.agg (UARR .u8 32 h)] w fun e w'=>
    (∃ v,e=.returned v)∧z5P w B g log len alive N p C h w':=by
  obtain ⟨mv,m1,_⟩:=hS.map
  cases mv with
  | none=>exact zb0 hS p h h8 hp hT hal hBg hN m1
  | some b=>
    cases hK:C (p / 2 ^ log) with
    | none=>exact ze5 hS p h h8 hp hT hal hBg hN m1 hK
    | some c=>exact zaZ (gc:=c.1) (rs:=c.2) hS p h h8 hp hT hal hBg m1 hK
end Go.Proofs.YtjkjlblongeljaaGreatDoor.HX

namespace Go.Proofs.YtjkjlblongeljaaGreatDoor.HX
open Go.RowKit Go.Maps
set_option maxRecDepth 100000
theorem STORE.longer {w:World} {B g log len alive N:Nat} {C:z05} (hS:STORE w B g log len alive N C) (hl:len+1<2 ^ 40):STORE (w.setCell ⟨g,1,none⟩ (.int .u64 ((len+1:Nat):Int))) B g log (len+1) alive N C∧STEP w (w.setCell ⟨g,1,none⟩ (.int .u64 ((len+1:Nat):Int))) g C C:=by
  obtain ⟨cs,t,fr,k1,k2,k3,k4⟩:=hS.kind
  obtain ⟨w2,hw2⟩:∃ w2,w.setCell ⟨g,1,none⟩ (.int .u64 ((len+1:Nat):Int))=w2:=⟨_,rfl⟩
  rw [hw2]
  have hset:∀ b,b≠g→w2.heap[b]?=w.heap[b]?:=fun b hb=>by rw [← hw2];exact Below.heap_setCell _ _ _ b (by exact hb)
  have cell:∀ i,i≠1→w2.cell? ⟨g,i,none⟩=w.cell? ⟨g,i,none⟩:=fun i hi=>by rw [← hw2,z2l (fun e=>hi e.symm)]
  have hch:∀ k gc rk,C k=some (gc,rk)→gc≠g∧(∀ v x,w.cell? ⟨gc,0,none⟩=some v→v.ownBlock=some x→x≠g)∧∀ r∈rk,r.gh≠g:=fun k gc rk e=>by
    obtain ⟨⟨_,z1⟩,z2,z3⟩:=(hS.chunk k gc rk e).2.1.kinds
    refine ⟨fun e=>z0g k1 z1 k2 e.symm,fun v x hv hx=>?_,fun r hr=>?_⟩
    · obtain ⟨_,hc⟩:=z2 v x hv hx
      exact fun e=>z0g k1 hc k3 e.symm
    · obtain ⟨_,hc⟩:=z3 r hr
      exact fun e=>z0g k1 hc k4 e.symm
  have hcc:∀ k gc rk,C k=some (gc,rk)→w2.cell? ⟨gc,0,none⟩=w.cell? ⟨gc,0,none⟩:=fun k gc rk e=>World.cell?_of_block (w:=w) (by exact hset gc (hch k gc rk e).1)
  refine ⟨⟨hS.small,hl,(cell 0 (by decide)).trans hS.c0,?_,(cell 2 (by decide)).trans hS.c2,fun i hi=>?_,?_,?_,?_,?_⟩,?_⟩
  · rw [← hw2]
    exact World.cell?_setCell_same _ _ _ hS.c1
  · rw [← hw2,World.frozen?_setCell]
    exact hS.live i hi
  · obtain ⟨cs',h1⟩:=z3X (i:=1) k1 (.int .u64 ((len+1:Nat):Int))
    exact ⟨cs',t,fr,by rw [← hw2];exact h1,k2,k3,k4⟩
  · obtain ⟨mv,m1,m2,m3⟩:=hS.map
    refine ⟨mv,(cell 3 (by decide)).trans m1,m2,fun b e=>?_⟩
    obtain ⟨c1,n,c2,c3⟩:=m3 b e
    refine ⟨c1,n,c2,c3.at (hset b (fun e=>?_))⟩
    obtain ⟨D,⟨es,clock,h1,_⟩,_⟩:=c3
    rw [e,k1] at h1
    cases h1
  · intro k gc rk e
    obtain ⟨b1,b2,b3⟩:=hS.chunk k gc rk e
    obtain ⟨d1,d2,d3⟩:=hch k gc rk e
    exact ⟨b1,b2.at (hset _ d1) (fun v x hv hx=>hset _ (d2 v x hv hx)) (fun r hr=>hset _ (d3 r hr)),fun r hr j hj hb=>by have:=b3 r hr j hj hb;exact ⟨this.1,by omega⟩⟩
  · intro k k' gc gc' rs rs' hne e e'
    obtain ⟨o1,o2,o3⟩:=hS.one k k' gc gc' rs rs' hne e e'
    exact ⟨o1,o2,fun v v' hv hv'=>o3 v v' (by rw [← hcc k gc rs e];exact hv) (by rw [← hcc k' gc' rs' e'];exact hv')⟩
  · refine ⟨⟨fun b h=>.inl ?_,fun b _ hbg _=>hset b hbg,by rw [← hw2];simp,fun i hi=>cell i (by omega)⟩,id⟩
    rcases h with h | ⟨k,gc,rs,e,h⟩
    · left;rw [← cell 3 (by decide)];exact h
    · refine .inr ⟨k,gc,rs,e,?_⟩
      rcases h with h | ⟨v,hv,h⟩ | h
      · exact .inl h
      · exact .inr (.inl ⟨v,by rw [← hcc k gc rs e];exact hv,h⟩)
      · exact .inr (.inr h)
theorem STORE.top {w:World} {B g log len alive N:Nat} {C:z05} (hS:STORE w B g log len alive N C):TOP C len:=fun k gc rs e r hr j hj hb=>((hS.chunk k gc rs e).2.2 r hr j hj hb).2
def z3w (w:World) (B g log len alive N:Nat) (C:z05) (h:Nat→Nat) (w':World):Prop:=∃ C',STORE w' B g log (len+1) (alive+1) (N+1) C'∧(∀ p',AT C' log p'=if p'=len then some h else AT C log p')∧STEP w w' g C C'∧Below B w w'
set_option maxHeartbeats 2000000 in
theorem z9W {w:World} {B g log len alive N:Nat} {C:z05} (hS:STORE w B g log len alive N C) (h:Nat→Nat) (h8:∀ i,h i<256) (hl:len+1<2 ^ 40) (hal:alive<2 ^ 40) (hBg:B≤g) (hN:N<2 ^ 40):Calls Tryz.prog 29 #[.pointer (some ⟨g,0,none⟩),.agg (UARR .u8 32 h)] w fun e w'=>
    e=.returned (.int .u64 (len:Int))∧z3w w B g log len alive N C h w':=by
  obtain ⟨w0,hw0⟩:∃ w0,w.alloc (.cells (UARR .u8 32 h) 35)=w0:=⟨_,rfl⟩
  have hb0:Below w.heap.size w w0:=by rw [← hw0];exact (Below.refl _ _).alloc (Nat.le_refl _) _
  have h50:Has w0 w.heap.size (UARR .u8 32 h) 35:=by rw [← hw0];exact Has.new w _ _
  have hg:=hS.lt
  have hS0:=hS.below hb0
  have hc1:=hS0.c1
  have hf1:=hS0.live 1 (by decide)
  obtain ⟨hSl,hst⟩:=hS0.longer hl
  have hwr:IntKind.u64.wrap ((len:Int)+1)=((len+1:Nat):Int):=z0W (by omega) (by omega)
  obtain ⟨wl,hwl⟩:∃ wl,w0.setCell ⟨g,1,none⟩ (.int .u64 ((len+1:Nat):Int))=wl:=⟨_,rfl⟩
  have h5l:Has wl w.heap.size (UARR .u8 32 h) 35:=by rw [← hwl];exact h50.other (by show w.heap.size≠g;omega) _
  have hBl:Below B w wl:=by rw [← hwl];exact (hb0.mono (by omega)).setCell (p:=⟨g,1,none⟩) hBg _
  rw [hwl] at hSl hst
  have cp:=z90 hSl len h h8 (Nat.lt_succ_self _) hS.top hal hBg hN
  have H:Aside (STEP w wl g C C∧Below B w wl):=⟨(STEP.below hS hb0).trans hst,hBl⟩
  obtain ⟨L1,hL1⟩:∃ L1,len+1=L1:=⟨_,rfl⟩
  have HL:Aside (len+1=L1):=hL1
  rw [hL1] at hwr hwl cp
  clear hL1 hS hS0 hSl hst hBl h8 hal hBg hN hb0
  go_enter Tryz.func29,Tryz.ntmps29
  go_wp2_with (refine wpList_load_row rfl 35 (.tmp 3) rfl w.heap.size rfl 35 (UARR .u8 32 h) (0,0) (.array 32 5) h5l Tryz.underlying35 rfl (z03 _) ?_)
  refine cp.mono ?_
  rintro e w2 ⟨⟨v,rfl⟩,hP⟩
  have F:Aside (z5P wl B g log L1 alive N len C h w2):=hP
  clear cp hP
  go_wp2
  go_ret
  refine ⟨rfl,?_⟩
  obtain ⟨C',c1,c2,c3,c4,c5⟩:=F.out
  unfold z3w
  rw [HL.out]
  exact ⟨C',c1,c2,H.out.1.trans c4,H.out.2.trans c5⟩
end Go.Proofs.YtjkjlblongeljaaGreatDoor.HX

namespace Go.Proofs.YtjkjlblongeljaaGreatDoor.HX
open Go.RowKit
set_option maxRecDepth 100000
theorem STORE.same {w w':World} {B g log len alive N b:Nat} {C:z05} (hS:STORE w B g log len alive N C) (hblk:∀ x,x<w.heap.size→x≠b→w'.heap[x]?=w.heap[x]?) (hb:¬ FOOT w g C b) (hbg:g≠b):STORE w' B g log len alive N C∧(∀ x,FOOT w' g C x→FOOT w g C x)∧∀ i,w'.cell? ⟨g,i,none⟩=w.cell? ⟨g,i,none⟩:=by
  have hg:w'.heap[g]?=w.heap[g]?:=hblk g hS.lt hbg
  have cell:∀ i,w'.cell? ⟨g,i,none⟩=w.cell? ⟨g,i,none⟩:=fun i=>World.cell?_of_block (w:=w) (by exact hg)
  have hlt:∀ {b':Nat} {o:Obj},w.heap[b']?=some o→b'<w.heap.size:=fun h=>(Array.getElem?_eq_some_iff.1 h).1
  have hch:∀ k gc rk,C k=some (gc,rk)→w'.heap[gc]?=w.heap[gc]?∧(∀ v x,w.cell? ⟨gc,0,none⟩=some v→v.ownBlock=some x→w'.heap[x]?=w.heap[x]?)∧∀ r∈rk,w'.heap[r.gh]?=w.heap[r.gh]?:=fun k gc rk e=>by
    obtain ⟨⟨_,z1⟩,z2,z3⟩:=(hS.chunk k gc rk e).2.1.kinds
    refine ⟨hblk _ (hlt z1) (fun h=>hb (.inr ⟨k,gc,rk,e,.inl h.symm⟩)),fun v x hv hx=>?_,fun r hr=>?_⟩
    · obtain ⟨_,hc⟩:=z2 v x hv hx
      exact hblk _ (hlt hc) (fun h=>hb (.inr ⟨k,gc,rk,e,.inr (.inl ⟨v,hv,by rw [← h];exact hx⟩)⟩))
    · obtain ⟨_,hc⟩:=z3 r hr
      exact hblk _ (hlt hc) (fun h=>hb (.inr ⟨k,gc,rk,e,.inr (.inr ⟨r,hr,h⟩)⟩))
  have hcc:∀ k gc rk,C k=some (gc,rk)→w'.cell? ⟨gc,0,none⟩=w.cell? ⟨gc,0,none⟩:=fun k gc rk e=>World.cell?_of_block (w:=w) (by exact (hch k gc rk e).1)
  refine ⟨⟨hS.small,hS.short,(cell 0).trans hS.c0,(cell 1).trans hS.c1,(cell 2).trans hS.c2,fun i hi=>?_,?_,?_,?_,?_⟩,fun x h=>?_,cell⟩
  · have:=hS.live i hi
    unfold World.frozen? at this ⊢
    rw [show w'.heap[g]?=w.heap[g]? from hg]
    exact this
  · obtain ⟨cs,t,fr,k1,k2⟩:=hS.kind
    exact ⟨cs,t,fr,hg.trans k1,k2⟩
  · obtain ⟨mv,m1,m2,m3⟩:=hS.map
    refine ⟨mv,(cell 3).trans m1,m2,fun x e=>?_⟩
    obtain ⟨c1,n,c2,c3⟩:=m3 x e
    refine ⟨c1,n,c2,c3.at (hblk x c3.lt (fun h=>hb (.inl (by rw [m1,e,h]))))⟩
  · intro k gc rk e
    obtain ⟨b1,b2,b3⟩:=hS.chunk k gc rk e
    obtain ⟨d1,d2,d3⟩:=hch k gc rk e
    exact ⟨b1,b2.at d1 d2 d3,b3⟩
  · intro k k' gc gc' rs rs' hne e e'
    obtain ⟨o1,o2,o3⟩:=hS.one k k' gc gc' rs rs' hne e e'
    exact ⟨o1,o2,fun v v' hv hv'=>o3 v v' (by rw [← hcc k gc rs e];exact hv) (by rw [← hcc k' gc' rs' e'];exact hv')⟩
  · rcases h with h | ⟨k,gc,rs,e,h⟩
    · left;rw [← cell 3];exact h
    · refine .inr ⟨k,gc,rs,e,?_⟩
      rcases h with h | ⟨v,hv,h⟩ | h
      · exact .inl h
      · exact .inr (.inl ⟨v,by rw [← hcc k gc rs e];exact hv,h⟩)
      · exact .inr (.inr h)
end Go.Proofs.YtjkjlblongeljaaGreatDoor.HX

namespace Go.Proofs.YtjkjlblongeljaaGreatDoor.HX
open Go.RowKit
set_option maxRecDepth 100000
theorem STORE.foot_lt {w:World} {B g log len alive N b:Nat} {C:z05} (hS:STORE w B g log len alive N C) (hb:FOOT w g C b):b<w.heap.size:=by
  rcases hb with e | ⟨k,gc,rs,e,h⟩
  · obtain ⟨mv,m1,m2,m3⟩:=hS.map
    rw [e] at m1
    have hm:mv=some b:=by cases Option.some.inj m1;rfl
    obtain ⟨_,n,_,hc⟩:=m3 b hm
    exact hc.lt
  · obtain ⟨⟨_,z1⟩,z2,z3⟩:=(hS.chunk k gc rs e).2.1.kinds
    rcases h with rfl | ⟨v,hv,h⟩ | ⟨r,hr,rfl⟩
    · exact (Array.getElem?_eq_some_iff.1 z1).1
    · obtain ⟨_,hc⟩:=z2 v b hv h
      exact (Array.getElem?_eq_some_iff.1 hc).1
    · obtain ⟨_,hc⟩:=z3 r hr
      exact (Array.getElem?_eq_some_iff.1 hc).1
theorem STORE.foot_below {w w':World} {B g log len alive N b:Nat} {C:z05} (hS:STORE w B g log len alive N C) (hb:Below w.heap.size w w') (hf:FOOT w' g C b):FOOT w g C b:=by
  have hg:=hS.lt
  have cell:∀ i,w'.cell? ⟨g,i,none⟩=w.cell? ⟨g,i,none⟩:=fun i=>hb.cell (by exact hg)
  rcases hf with h | ⟨k,gc,rs,e,h⟩
  · left;rw [← cell 3];exact h
  · refine .inr ⟨k,gc,rs,e,?_⟩
    rcases h with h | ⟨v,hv,h⟩ | h
    · exact .inl h
    · obtain ⟨x,hx,_⟩:=(hS.chunk k gc rs e).2.1.box
      exact .inr (.inl ⟨v,by rw [← hv];exact (hb.cell (by exact hx.lt)).symm,h⟩)
    · exact .inr (.inr h)
structure TSTEP (w w':World) (g:Nat) (C C':z05):Prop where
  foot:∀ b,FOOT w' g C' b→FOOT w g C b∨w.heap.size≤b
  same:∀ b,b<w.heap.size→b≠g→¬ FOOT w g C b→w'.heap[b]?=w.heap[b]?
  size:w.heap.size≤w'.heap.size
theorem STEP.tree {w w':World} {g:Nat} {C C':z05} (h:STEP w w' g C C'):TSTEP w w' g C C':=⟨h.foot,h.same,h.size⟩
theorem TSTEP.trans {w w' w'':World} {g:Nat} {C C' C'':z05} (h:TSTEP w w' g C C') (h':TSTEP w' w'' g C' C''):TSTEP w w'' g C C'':=by
  have hs:=h.size
  refine ⟨fun b hb=>?_,fun b hb hg hf=>?_,Nat.le_trans h.size h'.size⟩
  · rcases h'.foot b hb with h1 | h1
    · exact h.foot b h1
    · exact .inr (by omega)
  · refine (h'.same b (by omega) hg (fun hf'=>?_)).trans (h.same b hb hg hf)
    rcases h.foot b hf' with h1 | h1
    · exact hf h1
    · omega
theorem STORE.side {w:World} {B g log len alive N:Nat} {C:z05} (hS:STORE w B g log len alive N C) (i0:Nat) (hi0:5≤i0) (u:Value):STORE (w.setCell ⟨g,i0,none⟩ u) B g log len alive N C∧TSTEP w (w.setCell ⟨g,i0,none⟩ u) g C C:=by
  obtain ⟨cs,t,fr,k1,k2,k3,k4⟩:=hS.kind
  obtain ⟨w2,hw2⟩:∃ w2,w.setCell ⟨g,i0,none⟩ u=w2:=⟨_,rfl⟩
  rw [hw2]
  have hset:∀ b,b≠g→w2.heap[b]?=w.heap[b]?:=fun b hb=>by rw [← hw2];exact Below.heap_setCell _ _ _ b (by exact hb)
  have cell:∀ i,i≠i0→w2.cell? ⟨g,i,none⟩=w.cell? ⟨g,i,none⟩:=fun i hi=>by rw [← hw2,z2l (fun e=>hi e.symm)]
  have hch:∀ k gc rk,C k=some (gc,rk)→gc≠g∧(∀ v x,w.cell? ⟨gc,0,none⟩=some v→v.ownBlock=some x→x≠g)∧∀ r∈rk,r.gh≠g:=fun k gc rk e=>by
    obtain ⟨⟨_,z1⟩,z2,z3⟩:=(hS.chunk k gc rk e).2.1.kinds
    refine ⟨fun e=>z0g k1 z1 k2 e.symm,fun v x hv hx=>?_,fun r hr=>?_⟩
    · obtain ⟨_,hc⟩:=z2 v x hv hx
      exact fun e=>z0g k1 hc k3 e.symm
    · obtain ⟨_,hc⟩:=z3 r hr
      exact fun e=>z0g k1 hc k4 e.symm
  have hcc:∀ k gc rk,C k=some (gc,rk)→w2.cell? ⟨gc,0,none⟩=w.cell? ⟨gc,0,none⟩:=fun k gc rk e=>World.cell?_of_block (w:=w) (by exact hset gc (hch k gc rk e).1)
  refine ⟨⟨hS.small,hS.short,(cell 0 (by omega)).trans hS.c0,?_,(cell 2 (by omega)).trans hS.c2,fun i hi=>?_,?_,?_,?_,?_⟩,?_⟩
  · exact (cell 1 (by omega)).trans hS.c1
  · rw [← hw2,World.frozen?_setCell]
    exact hS.live i hi
  · obtain ⟨cs',h1⟩:=z3X (i:=i0) k1 u
    exact ⟨cs',t,fr,by rw [← hw2];exact h1,k2,k3,k4⟩
  · obtain ⟨mv,m1,m2,m3⟩:=hS.map
    refine ⟨mv,(cell 3 (by omega)).trans m1,m2,fun b e=>?_⟩
    obtain ⟨c1,n,c2,c3⟩:=m3 b e
    refine ⟨c1,n,c2,c3.at (hset b (fun e=>?_))⟩
    obtain ⟨D,⟨es,clock,h1,_⟩,_⟩:=c3
    rw [e,k1] at h1
    cases h1
  · intro k gc rk e
    obtain ⟨b1,b2,b3⟩:=hS.chunk k gc rk e
    obtain ⟨d1,d2,d3⟩:=hch k gc rk e
    exact ⟨b1,b2.at (hset _ d1) (fun v x hv hx=>hset _ (d2 v x hv hx)) (fun r hr=>hset _ (d3 r hr)),b3⟩
  · intro k k' gc gc' rs rs' hne e e'
    obtain ⟨o1,o2,o3⟩:=hS.one k k' gc gc' rs rs' hne e e'
    exact ⟨o1,o2,fun v v' hv hv'=>o3 v v' (by rw [← hcc k gc rs e];exact hv) (by rw [← hcc k' gc' rs' e'];exact hv')⟩
  · refine ⟨fun b h=>.inl ?_,fun b _ hbg _=>hset b hbg,by rw [← hw2];simp⟩
    rcases h with h | ⟨k,gc,rs,e,h⟩
    · left;rw [← cell 3 (by omega)];exact h
    · refine .inr ⟨k,gc,rs,e,?_⟩
      rcases h with h | ⟨v,hv,h⟩ | h
      · exact .inl h
      · exact .inr (.inl ⟨v,by rw [← hcc k gc rs e];exact hv,h⟩)
      · exact .inr (.inr h)
end Go.Proofs.YtjkjlblongeljaaGreatDoor.HX

namespace Go.Proofs.YtjkjlblongeljaaGreatDoor.HX
open Go.RowKit
set_option maxRecDepth 100000
theorem z2h {fn:Func} {p:Tmp} {ty:TypeId} (h:fn.results=#[.cell p ty]) (tmps:Array Value) (w:World) (g:Nat) (t:TypeId) (cs:Array Value) (fr:Nat × Nat) (k:Nat) (el:TypeId)
    (hp:tmps.getD p undef=.pointer (some ⟨g,0,none⟩)) (hg:w.heap[g]?=some (.cells cs t fr))
    (hu:Tryz.prog.underlying ty=some (.array k el)) (hi:(Tryz.prog.info? ty).map (·.size)=some cs.size):
    (results fn tmps).run Tryz.prog w=.ok (.agg cs) w:=by
  have hp':tmps[p]?.getD undef=.pointer (some ⟨g,0,none⟩):=by simpa using hp
  simp [results,h,hp',asAddr,run_loadVar_row w g t ty cs fr (.array k el) hg hu rfl hi]
set_option maxHeartbeats 1000000 in
theorem zf9 {w:World} {B g log len alive N:Nat} {C:z05} (hS:STORE w B g log len alive N C) (j k:Nat) (hN:Node j k) (hj:j<62) (hs:PLC j (SIB k)<len) (L:Nat→Nat) (hL:AT C log (PLC j (SIB k))=some L):
    Calls Tryz.prog 32 #[.pointer (some ⟨g,0,none⟩),.int .u64 ((PLC j k:Nat):Int)] w fun e w'=>e=.returned (.agg (UARR .u8 32 L))∧Below w.heap.size w w':=by
  have hz:=z0X
  obtain ⟨w0,hw0⟩:∃ w0,w.alloc (.cells (UARR .u8 32 fun _=>0) 35)=w0:=⟨_,rfl⟩
  have hb0:Below w.heap.size w w0:=by rw [← hw0];exact (Below.refl _ _).alloc (Nat.le_refl _) _
  have h40:Has w0 w.heap.size (UARR .u8 32 fun _=>0) 35:=by rw [← hw0];exact Has.new w _ _
  have cs:=zan j k hN hj w0
  have hp64:PLC j (SIB k)<2 ^ 64:=by have:=hS.short;omega
  have cg:=fun (W:World) (hb:Below w0.heap.size w0 W)=>zce ((hS.below hb0).below hb) (PLC j (SIB k)) hp64
  have e1:GOTH C log len (PLC j (SIB k))=L:=by unfold GOTH;rw [if_pos hs,hL];rfl
  have e2:GOT C log len (PLC j (SIB k))=0:=by unfold GOT;rw [if_pos hs,hL];rfl
  rw [e1,e2] at cg
  clear hS hN hj hs hL e1 e2 hp64
  generalize PLC j (SIB k)=q at *
  generalize PLC j k=p at *
  go_enter Tryz.func32,Tryz.ntmps32
  go_wp2_with fail
  refine cs.mono ?_
  rintro e w1 ⟨rfl,hb1⟩
  clear cs
  go_wp2_with fail
  refine (cg w1 hb1).mono ?_
  rintro e w2 ⟨rfl,hb2⟩
  clear cg
  have hst:=run_storeCells_new (P:=Tryz.prog) w2 35 (UARR .u8 32 fun _=>0) (UARR .u8 32 L) (z03 _) (by rw [z01,z01]) (z0f _ _ _)
  have hsu:=z01 .u8 32 L
  obtain ⟨w3,hw3⟩:∃ w3,w2.alloc (.cells (UARR .u8 32 L) 35)=w3:=⟨_,rfl⟩
  have hb12:Below w0.heap.size w0 w2:=hb1.trans (hb2.mono hb1.size)
  have hb3:Below w0.heap.size w0 w3:=by rw [← hw3];exact hb12.alloc hb12.size _
  have hF3:Has w3 w2.heap.size (UARR .u8 32 L) 35:=by rw [← hw3];exact Has.new w2 _ _
  have h43:=h40.keep hb3
  have hb3':Below w.heap.size w w3:=hb0.trans (hb3.mono hb0.size)
  have hst2:=z0j h43 L
  go_wp2_with (first
    | (refine wpList_load_row rfl 35 (.tmp 7) rfl w2.heap.size rfl 35 (UARR .u8 32 L) (0,0) _ hF3 Tryz.underlying35 rfl (z03 _) ?_)
    | fail)
  refine bodyPost_ret (v:=.agg (UARR .u8 32 L)) ?_ rfl ⟨rfl,z06 hb3' (Nat.le_refl _) _⟩
  exact z2h rfl _ _ w.heap.size 35 _ (0,0) _ _ rfl (h43.row _) Tryz.underlying35 (z03 _)
set_option maxHeartbeats 1000000 in
theorem z4Z {w:World} {B g log len alive N:Nat} {C:z05} (hS:STORE w B g log len alive N C) (p:Nat) (hp:p<2 ^ 64):
    Calls Tryz.prog 124 #[.pointer (some ⟨g,0,none⟩),.int .u64 (p:Int)] w fun e w'=>e=.returned (.tuple #[.agg (UARR .u8 32 (GOTH C log len p)),.int .i64 (GOT C log len p)])∧Below w.heap.size w w':=by
  have hz:=z0X
  obtain ⟨w0,hw0⟩:∃ w0,w.alloc (.cells (UARR .u8 32 fun _=>0) 35)=w0:=⟨_,rfl⟩
  have hb0:Below w.heap.size w w0:=by rw [← hw0];exact (Below.refl _ _).alloc (Nat.le_refl _) _
  have h40:Has w0 w.heap.size (UARR .u8 32 fun _=>0) 35:=by rw [← hw0];exact Has.new w _ _
  have cg:=zce (hS.below hb0) p hp
  clear hS
  generalize GOTH C log len p=L at *
  generalize GOT C log len p=E at *
  go_enter Tryz.func124,Tryz.ntmps124
  go_wp2_with fail
  refine cg.mono ?_
  rintro e w1 ⟨rfl,hb1⟩
  clear cg
  have h41:=h40.keep hb1
  have hst2:=z0j h41 L
  have hb1':Below w.heap.size w w1:=hb0.trans (hb1.mono hb0.size)
  have hsu:=z01 .u8 32 L
  go_wp2
  refine bodyPost_ret (v:=.tuple #[.agg (UARR .u8 32 L),.int .i64 E]) ?_ rfl ⟨rfl,z06 hb1' (Nat.le_refl _) _⟩
  exact z0q rfl _ _ w.heap.size 35 _ (0,0) _ _ rfl (h41.row _) _ rfl Tryz.underlying35 (z03 _)
end Go.Proofs.YtjkjlblongeljaaGreatDoor.HX

namespace Go.Proofs.YtjkjlblongeljaaGreatDoor.HX
open Go.RowKit
set_option maxRecDepth 100000
structure FOREST (w:World) (B g:Nat) (d:Int) (log n:Nat) (C:z05) (f:Nat→Nat→Nat):Prop where
  store:STORE w B g log (z04 n) (z04 n) (z04 n) C
  width:w.cell? ⟨g,5,none⟩=some (.int .i64 d)
  size:w.cell? ⟨g,6,none⟩=some (.int .u64 (n:Int))
  free:w.frozen? ⟨g,6,none⟩=false
  node:∀ h k,(k+1)*2 ^ h≤n→AT C log (PLC h k)=some (VAL d f h k)
  byte:∀ k,k<n→∀ i,f k i<256
  few:n≤2 ^ 20
  base:B≤g
def zch (d:Int) (log:Nat):Array Value:=#[.int .i64 (log:Int),.int .u64 0,.int .u64 0,.map none,.map none,.int .i64 d,.int .u64 0]
theorem FOREST.new {w:World} {B g:Nat} {d:Int} {log:Nat} (h:Has w g (zch d log) 72) (hl:log≤16) (hB:B≤g) (f:Nat→Nat→Nat):FOREST w B g d log 0 (fun _=>none) f:=by
  refine ⟨⟨hl,by decide,h.cell 0,h.cell 1,h.cell 2,fun i _=>h.frozen i,⟨_,_,_,h,by decide,by decide,by decide⟩,⟨none,h.cell 3,fun _ _=>rfl,fun b e=>by cases e⟩,fun k gc rs e=>(by cases e),fun k k' gc gc' rs rs' _ e=>by cases e⟩,h.cell 5,h.cell 6,h.frozen 6,fun h k hk=>?_,fun k hk=>by omega,by decide,hB⟩
  have:=z9l h k
  omega
theorem FOREST.below {w w':World} {B g:Nat} {d:Int} {log n:Nat} {C:z05} {f:Nat→Nat→Nat} (h:FOREST w B g d log n C f) (hb:Below w.heap.size w w'):FOREST w' B g d log n C f:=by
  have hg:=h.store.lt
  refine ⟨h.store.below hb,(hb.cell (p:=⟨g,5,none⟩) hg).trans h.width,(hb.cell (p:=⟨g,6,none⟩) hg).trans h.size,?_,h.node,h.byte,h.few,h.base⟩
  exact (World.frozen?_of_block (w:=w) (by exact hb.block g hg)).trans h.free
set_option maxHeartbeats 1000000 in
theorem zb1 (d:Int) (log:Nat) (h:log≤16) (w:World):Calls Tryz.prog 5 #[.int .i64 d,.int .i64 (log:Int)] w fun e w'=>
    ∃ g,e=.returned (.tuple #[.pointer (some ⟨g,0,none⟩),.int .i64 0])∧w.heap.size≤g∧Has w' g (zch d log) 72∧Below w.heap.size w w':=by
  have cn:=z8V log h w
  obtain ⟨w1,hw1⟩:∃ w1,w.alloc (.cells (zaR log) 70)=w1:=⟨_,rfl⟩
  rw [hw1] at cn
  have hH:Has w1 w.heap.size (zaR log) 70:=by rw [← hw1];exact Has.new w _ _
  have hb:Below w.heap.size w w1:=by rw [← hw1];exact (Below.refl _ _).alloc (Nat.le_refl _) _
  clear hw1
  go_enter Tryz.func5,Tryz.ntmps5
  go_wp2_with fail
  refine cn.mono ?_
  rintro e w2 ⟨rfl,rfl⟩
  clear cn
  have x0:=hH.cell 0
  have x1:=hH.cell 1
  have x2:=hH.cell 2
  have x3:=hH.cell 3
  have x4:=hH.cell 4
  go_wp2_with fail
  go_ret2
  exact ⟨_,rfl,hb.size,Has.new _ _ _,hb.alloc hb.size _⟩
end Go.Proofs.YtjkjlblongeljaaGreatDoor.HX

namespace Go.Proofs.YtjkjlblongeljaaGreatDoor.HX
open Go.RowKit
set_option maxRecDepth 100000
theorem zb2 {ops:Array Oper} {rest:List Oper} {o:Oper} {a:Act} {Q:Exit→Act→World→Prop} (w:World) (hg:o.guard=none) (x:Operand) (ho:o.op=.buildSlice 22 1 #[(0,x)]) (f:Nat→Nat) (hx:a.eval x=.agg (UARR .u8 32 f))
    (h:wpList Tryz.prog ops Q rest (a.put o.dst (.slice (some ⟨w.heap.size,0,none⟩) 1 1)) (w.alloc (.cells (UARR .u8 32 f) 35))):wpList Tryz.prog ops Q (o :: rest) a w:=by
  obtain ⟨i,hie,hz',hs1,_⟩:=info_parts z2H
  refine wpList_buildSlice hg 22 35 1 _ ho (UARR .u8 32 f) i _ Tryz.underlying22 hie hz' (by rw [hs1];omega) (by rw [hs1];omega) ?_ h
  have:=Great.fill_whole (s:=32) (by decide) [.agg (UARR .u8 32 f)] ((Array.range (1*i.size)).map ((Value.agg (UARR .u8 32 fun _=>0)).cells[· % (Value.agg (UARR .u8 32 fun _=>0)).cells.size]!)) (fun v hv=>by simp at hv;subst hv;exact z01 _ _ _) (by simp [hs1])
  simp [Value.cells] at this
  rw [hs1]
  simp [hx]
  rw [hs1] at this
  exact this
theorem zci {ops:Array Oper} {rest:List Oper} {o:Oper} {a:Act} {Q:Exit→Act→World→Prop} (w:World) (hgd:o.guard=none) (s x:Operand)
    (ho:o.op=.call {callee:=.builtin .append,args:=#[s,x],argTypes:=#[22,22]}) (base:Nat) (v:Value) (n:Nat) (xs:List Value) (hs:a.eval s=v) (hown:w.ownsRow base 35 32 v n xs)
    (b c:Nat) (f:Nat→Nat) (hx:a.eval x=.slice (some ⟨b,0,none⟩) 1 c) (hb:Has w b (UARR .u8 32 f) 35) (hn:n≤100000) (hbase:base≤w.heap.size)
    (h:∀ g cap w',w'.ownsRow base 35 32 (.slice (some ⟨g,0,none⟩) (n+1) cap) (n+1) (xs ++ z02 .u8 32 f)→w.grownBy w' v.ownBlock→(v.ownBlock=some g∨g=w.heap.size)→g<w'.heap.size→wpList Tryz.prog ops Q rest (a.put o.dst (.slice (some ⟨g,0,none⟩) (n+1) cap)) w'):wpList Tryz.prog ops Q (o :: rest) a w:=by
  obtain ⟨i,hi,hz,hs1,hby⟩:=info_parts z2H
  exact wpList_append_lies w hgd s x 22 ho base 35 i _ 32 32 Tryz.underlying22 hi hz hs1 hby (by simp [Value.cells,z01]) (by decide) v n xs hs hown ⟨b,0,none⟩ 1 c (z02 .u8 32 f) hx (by rw [z0a]) (fun j u hj=>by rw [Addr.add_mid,hb.cell,Nat.zero_add,z0M,List.getElem?_toArray];exact hj) (z6C _ _ _) (by decide) (by simp only [maxLen];omega) (by omega) hbase w.heap.size rfl h
theorem ze6 (hs:List (Nat→Nat)) (h:Nat→Nat):HL (hs ++ [h])=HL hs ++ z02 .u8 32 h:=by simp [HL]
end Go.Proofs.YtjkjlblongeljaaGreatDoor.HX

namespace Go.Proofs.YtjkjlblongeljaaGreatDoor.HX
open Go.RowKit
set_option maxRecDepth 100000
def PKV (d:Int) (f:Nat→Nat→Nat) (m:Nat):List (Nat→Nat):=(HS 0 m).map fun h=>VAL d f h (2*(m / 2 ^ (h+1)))
theorem z3Y (d:Int) (f:Nat→Nat→Nat) {m:Nat} (hm:m<2 ^ 64):(PKV d f m).length=PC m:=by
  rw [PKV,List.length_map,z3b hm 0 (by decide),Nat.pow_zero,Nat.div_one]
theorem z6U {m h:Nat} (hb:m / 2 ^ h % 2=1):(2*(m / 2 ^ (h+1))+1)*2 ^ h≤m:=by
  have e:m / 2 ^ h=2*(m / 2 ^ (h+1))+1:=by rw [z1o];omega
  rw [← e]
  exact Nat.div_mul_le_self m (2 ^ h)
theorem FOREST.peak {w:World} {B g:Nat} {d:Int} {log n:Nat} {C:z05} {f:Nat→Nat→Nat} (hF:FOREST w B g d log n C f) {m i h:Nat} (hm:m≤n) (hi:(HS 0 m)[i]?=some h):
    PKP m h<2 ^ 40∧GOTH C log (z04 n) (PKP m h)=VAL d f h (2*(m / 2 ^ (h+1)))∧GOT C log (z04 n) (PKP m h)=0∧(z1Q m)[i]?=some (PKP m h)∧(PKV d f m)[i]?=some (VAL d f h (2*(m / 2 ^ (h+1)))):=by
  have hb:=(z4b 0 h (by decide) (List.mem_of_getElem? hi)).2.2
  have hs:=Nat.le_trans (z6U hb) hm
  have hlt:PKP m h<z04 n:=z3i hs
  have hat:AT C log (PKP m h)=some (VAL d f h (2*(m / 2 ^ (h+1)))):=hF.node h _ hs
  have:=hF.store.short
  refine ⟨by omega,?_,?_,?_,?_⟩
  · unfold GOTH
    rw [if_pos hlt,hat]
    rfl
  · unfold GOT
    rw [if_pos hlt,hat]
    rfl
  · rw [z1Q,List.getElem?_map,hi]
    rfl
  · rw [PKV,List.getElem?_map,hi]
    rfl
set_option maxHeartbeats 2000000 in
theorem z84 {w:World} {B g:Nat} {d:Int} {log n:Nat} {C:z05} {f:Nat→Nat→Nat} (hF:FOREST w B g d log n C f) (m:Nat) (hm:m≤n) (hT:Go.Proofs.YtjkjlblongeljaaGreatDoor.Tabled w):
    Calls Tryz.prog 96 #[.pointer (some ⟨g,0,none⟩),.int .u64 (m:Int)] w fun e w'=>∃ v,e=.returned (.tuple #[v,.int .i64 0])∧w'.ownsRow w.heap.size 35 32 v (PC m) (HL (PKV d f m))∧Below w.heap.size w w':=by
  have hn20:=hF.few
  have cp:=z2R m (by omega) w hT (by have:=hF.store.lt;omega)
  have hz:=z0X
  have A:Aside (FOREST w B g d log n C f∧m≤n∧m≤2 ^ 20):=⟨hF,hm,by omega⟩
  clear hF hm hT hn20
  go_enter Tryz.func96,Tryz.ntmps96
  go_wp2_with fail
  refine cp.mono ?_
  rintro e w1 ⟨gp,cap,rfl,hrow,hb1⟩
  clear cp
  have hlen:=z3Y d f (m:=m) (by have:=A.out.2.2;omega)
  have hpc:PC m≤64:=z1x 64 m (by have:=A.out.2.2;omega)
  have hgp:=(hrow.lt gp rfl)
  have A2:Aside (w1.ownsRow w.heap.size 24 1 (.slice (some ⟨gp,0,none⟩) (PC m) cap) (PC m) (Go.Proofs.YtjkjlblongeljaaGreatDoor.UCELLS (z1Q m))∧Below w.heap.size w w1∧(PKV d f m).length=PC m∧PC m≤64∧w.heap.size≤gp∧gp<w1.heap.size):=⟨hrow,hb1,hlen,hpc,hgp.1,hgp.2⟩
  clear hrow hb1 hlen hpc hgp
  obtain ⟨M,hM⟩:∃ M,PC m=M:=⟨_,rfl⟩
  rw [hM] at A2 ⊢
  go_wp2_with fail
  go_loopg [6,14] M (fun r s6 s14 wx=>∃ i:Nat,s14=.int .i64 (i:Int)∧Aside (i+r=M∧wx.ownsRow w1.heap.size 35 32 s6 i (HL ((PKV d f m).take i))∧Below w1.heap.size w1 wx))
  case atStart=>exact ⟨0,rfl,by omega,⟨rfl,.inl ⟨rfl,rfl⟩⟩,Below.refl _ _⟩
  case round=>
    obtain ⟨i,rfl,R⟩:=hrel
    cases gk with
    | zero=>
      obtain rfl:i=M:=by have:=R.out.1;omega
      have hlt:¬ (i:Int)<(i:Int):=by omega
      have F:Aside (wr.ownsRow w.heap.size 35 32 u6 i (HL (PKV d f m))∧Below w.heap.size w wr):=by
        obtain ⟨-,h1,h2⟩:=R.out
        rw [List.take_of_length_le (by rw [A2.out.2.2.1];omega)] at h1
        exact ⟨z0i h1 A2.out.2.1.size,A2.out.2.1.trans (h2.mono A2.out.2.1.size)⟩
      clear R A A2 hz
      go_wp2_with fail
      go_ret2
      exact ⟨_,rfl,F.out⟩
    | succ r=>
      have hiM:i<M:=by have:=R.out.1;omega
      have hlt:(i:Int)<(M:Int):=by omega
      have hi0:¬ (i:Int)<0:=by omega
      obtain ⟨hh,hhe⟩:∃ hh,(HS 0 m)[i]?=some hh:=⟨_,List.getElem?_eq_getElem (by have h1:=A2.out.2.2.1;rw [PKV,List.length_map] at h1;omega)⟩
      have hbw:Below w.heap.size w wr:=A2.out.2.1.trans (R.out.2.2.mono A2.out.2.1.size)
      obtain ⟨p1,p2,p3,p4,p5⟩:=A.out.1.peak A.out.2.1 hhe
      have hc:wr.cell? ⟨gp,i,none⟩=some (.int .u64 ((PKP m hh:Nat):Int)):=(R.out.2.2.cell (p:=⟨gp,i,none⟩) A2.out.2.2.2.2.2).trans (by rw [A2.out.1.cellAt i (by omega),Go.Proofs.YtjkjlblongeljaaGreatDoor.UCELLS,List.getElem?_map,p4];rfl)
      have cg:=z4Z (A.out.1.below hbw).store (PKP m hh) (by omega)
      rw [p2,p3] at cg
      have ht:(PKV d f m).take (i+1)=(PKV d f m).take i ++ [VAL d f hh (2*(m / 2 ^ (hh+1)))]:=by rw [List.take_add_one,p5];rfl
      generalize VAL d f hh (2*(m / 2 ^ (hh+1)))=V at *
      generalize PKP m hh=pp at *
      have ei:wrap64 ((i:Int)+1)=((i+1:Nat):Int):=by have:=A2.out.2.2.2.1;unfold wrap64;omega
      have R2:Aside (i+1+r=M∧wr.ownsRow w1.heap.size 35 32 u6 i (HL ((PKV d f m).take i))∧Below w1.heap.size w1 wr∧(PKV d f m).take (i+1)=(PKV d f m).take i ++ [V]∧i≤64):=⟨by have:=R.out.1;clear ei;omega,R.out.2.1,R.out.2.2,ht,by have:=A2.out.2.2.2.1;clear ei;omega⟩
      clear R hhe p1 p2 p3 p4 p5 hbw ht hiM
      go_wp2_with fail
      refine cg.mono ?_
      rintro e w2 ⟨rfl,hb2⟩
      clear cg
      have hst:=run_storeCells_new (P:=Tryz.prog) w2 35 (UARR .u8 32 fun _=>0) (UARR .u8 32 V) (z03 _) (by rw [z01,z01]) (z0f _ _ _)
      have hsu:=z01 .u8 32 V
      obtain ⟨w3,hw3⟩:∃ w3,w2.alloc (.cells (UARR .u8 32 V) 35)=w3:=⟨_,rfl⟩
      have hF3:Has w3 w2.heap.size (UARR .u8 32 V) 35:=by rw [← hw3];exact Has.new w2 _ _
      have hb3:Below wr.heap.size wr w3:=by rw [← hw3];exact hb2.alloc hb2.size _
      have R3:Aside ((w3.alloc (.cells (UARR .u8 32 V) 35)).ownsRow w1.heap.size 35 32 u6 i (HL ((PKV d f m).take i))∧Below w1.heap.size w1 (w3.alloc (.cells (UARR .u8 32 V) 35))∧w1.heap.size≤(w3.alloc (.cells (UARR .u8 32 V) 35)).heap.size∧Has (w3.alloc (.cells (UARR .u8 32 V) 35)) w3.heap.size (UARR .u8 32 V) 35):=by
        have h1:Below wr.heap.size wr (w3.alloc (.cells (UARR .u8 32 V) 35)):=hb3.alloc hb3.size _
        exact ⟨z35 R2.out.2.1 h1,R2.out.2.2.1.trans (h1.mono R2.out.2.2.1.size),Nat.le_trans R2.out.2.2.1.size h1.size,Has.new _ _ _⟩
      clear hb2 hb3
      go_wp2_with (first
        | (refine wpList_load_row rfl 35 (.tmp 9) rfl w2.heap.size rfl 35 (UARR .u8 32 V) (0,0) _ hF3 Tryz.underlying35 rfl (z03 _) ?_)
        | (refine zb2 w3 rfl (.tmp 28) rfl V rfl ?_)
        | (at_builtin;refine zci _ rfl (.tmp 27) (.tmp 29) rfl w1.heap.size u6 i (HL ((PKV d f m).take i)) rfl R3.out.1 w3.heap.size 1 V rfl R3.out.2.2.2 (by have:=R2.out.2.2.2.2;omega) R3.out.2.2.1 ?_;intro g6 c6 w6 hown6 hgrow6 hat6 hlt6))
      go_roundg r
      case measure=>exact Nat.lt_succ_self _
      case rel=>
        refine ⟨i+1,by first | rfl | (rw [ei]),R2.out.1,?_,R3.out.2.1.grown hgrow6 R3.out.2.2.1 (fun k e=>(R3.out.1.lt k e).1)⟩
        rw [R2.out.2.2.2.1,ze6]
        exact hown6
end Go.Proofs.YtjkjlblongeljaaGreatDoor.HX
