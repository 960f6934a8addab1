/- Texts of SpanMakes, one behind the other: StoreSputFirst, StorePush, StorePinMap, StorePinsOf, StoreSame, StorePinOps, StorePin, StoreDeletePlain. -/
import Derived.Deep.RegionLaw
import Derived.Test.YtnmalbngdhjhjaaGreatDoorSpanMakesP11
namespace Go.Proofs.YtnmalbngdhjhjaaGreatDoor.HX
open Go.RowKit Go.Maps
set_option maxRecDepth 100000
set_option maxHeartbeats 2000000 in
theorem zb1 {w:World} {B g log len alive N:Nat} {C:z02} (hS:STORE w B g log len alive N C) (p:Nat) (h:Nat→Nat) (h8:∀ i,h i<256) (hp:p<len) (hT:TOP C p) (hal:alive<2 ^ 40) (hBg:B≤g) (hN:N<2 ^ 40) (hm:w.cell? ⟨g,3,none⟩=some (.map none)):Calls Tryz.prog 96 #[.pointer (some ⟨g,0,none⟩),.int .u64 (p:Int),.agg (UARR .u8 32 h)] w fun e w'=>
    (∃ v,e=.returned v)∧z5Y w B g log len alive N p C h w':=by
  obtain ⟨w0,hw0⟩:∃ w0,w.alloc (.cells (UARR .u8 32 h) 35)=w0:=⟨_,rfl⟩
  have hb0:Below w.heap.size w w0:=by rw [← hw0];exact (Below.refl _ _).alloc (Nat.le_refl _) _
  have h50:Has w0 w.heap.size (UARR .u8 32 h) 35:=by rw [← hw0];exact Has.new w _ _
  have hg:=hS.lt
  have hm0:w0.cell? ⟨g,3,none⟩=some (.map none):=(hb0.cell (by exact hg)).trans hm
  have hs0:=hb0.size
  obtain ⟨hC,hSb,hstep⟩:=(hS.below hb0).mapped hm0 (by omega)
  have hba:Below w0.heap.size w0 (w0.alloc (.map #[] 0)):=(Below.refl _ _).alloc (Nat.le_refl _) _
  have hm1:(w0.alloc (.map #[] 0)).cell? ⟨g,3,none⟩=some (.map none):=(hba.cell (by show g<w0.heap.size;omega)).trans hm0
  have hf1:(w0.alloc (.map #[] 0)).frozen? ⟨g,3,none⟩=false:=((hS.below hb0).below hba).live 3 (by decide)
  obtain ⟨b,hbe⟩:∃ b,w0.heap.size=b:=⟨_,rfl⟩
  rw [hbe] at hSb hstep
  obtain ⟨wb,hwb⟩:∃ wb,(w0.alloc (.map #[] 0)).setCell ⟨g,3,none⟩ (.map (some b))=wb:=⟨_,rfl⟩
  have hBb:Below B w wb:=by rw [← hwb];exact ((hb0.mono (by omega)).trans (hba.mono (by omega))).setCell (p:=⟨g,3,none⟩) hBg _
  have h5b:Has wb w.heap.size (UARR .u8 32 h) 35:=by rw [← hwb];exact (h50.alloc _).other (by show w.heap.size≠g;omega) _
  have hmb:wb.cell? ⟨g,3,none⟩=some (.map (some b)):=by rw [← hwb];exact World.cell?_setCell_same _ _ _ hm1
  rw [hwb] at hSb hstep
  have ck:=hSb.key p wb (Below.refl _ _)
  have hz:=z4Q
  have hme:=zdL
  have hmk:(Instr.makeMap 81 none).run Tryz.prog w0=.ok (.map (some b)) (w0.alloc (.map #[] 0)):=by rw [← hbe];rfl
  have H:Aside (STORE wb B g log len alive N C∧p<len∧TOP C p∧alive<2 ^ 40∧C (p / 2 ^ log)=none∧len<2 ^ 40∧g<w.heap.size∧(∀ i,h i<256)∧wb.cell? ⟨g,3,none⟩=some (.map (some b))∧B≤g∧N<2 ^ 40∧Has wb w.heap.size (UARR .u8 32 h) 35∧STEP w wb g C C∧Below B w wb):=⟨hSb,hp,hT,hal,hC _,hS.short,hg,h8,hmb,hBg,hN,h5b,(STEP.below hS hb0).trans hstep,hBb⟩
  clear hS hp hT hal hm h8 hBg h5b hN hb0 hSb hstep hC h50 hBb hba hs0
  obtain ⟨K,hKe⟩:∃ K,p / 2 ^ log=K:=⟨_,rfl⟩
  rw [hKe] at ck H
  have HK:Aside (p / 2 ^ log=K):=hKe
  clear hKe
  go_enter Tryz.func96,Tryz.ntmps96
  go_wp2_with fail
  refine ck.mono ?_
  rintro e w1 ⟨rfl,hb1⟩
  clear ck
  obtain ⟨a1,a2,a3,a4,a5,a6,a7,a8,a9,a10,a11,a12,a13,a14⟩:=H.out
  have hb2:Below wb.heap.size wb (w1.alloc (.cells #[.int .u64 (K:Int)] 151)):=hb1.alloc hb1.size _
  have h3w:w1.cell? ⟨g,3,none⟩=some (.map (some b)):=(hb1.cell (by exact a1.lt)).trans a9
  have hK64:K<2 ^ 64:=by have:=HK.out;have:=Nat.div_le_self p (2 ^ log);omega
  obtain ⟨mv,v,l1,l2, -⟩:=a1.looked K hK64
  have hmv:mv=.map (some b):=by have:=l1 wb (Below.refl _ _);rw [a9] at this;exact (Option.some.inj this).symm
  subst hmv
  have l2':=l2 _ hb2.drew
  rw [a5] at l2'
  have h3:=l1 _ hb2
  have h52:Has (w1.alloc (.cells #[.int .u64 (K:Int)] 151)).drew w.heap.size (UARR .u8 32 h) 35:=(a12.keep hb1).alloc _
  have h62:Has (w1.alloc (.cells #[.int .u64 (K:Int)] 151)).drew w1.heap.size #[.int .u64 (K:Int)] 151:=Has.new w1 _ _
  have hS2:=a1.below hb2.drew
  have hT2:=STEP.below a1 hb2.drew
  have hB2:Below B wb (w1.alloc (.cells #[.int .u64 (K:Int)] 151)).drew:=hb2.drew.mono (by have:=a1.lt;omega)
  have h3d:(w1.alloc (.cells #[.int .u64 (K:Int)] 151)).drew.cell? ⟨g,3,none⟩=some (.map (some b)):=h3
  clear l1 l2
  go_upto_region 4 with fail
  refine zaZ _ _ _ _ _ _ _ _ _ _ _ _ _ _ _ _ _ _ _ _ _ _ _ _ _ _ _ _ _ _ _ _ _ _ _ _ _ _ _ _ _ _ _ _ _ _ _ _ _ _ g w1.heap.size K (.map (some b)) v false h3 (Has.new w1 _ _) l2' (fun _ _ _ _ _ h=>h) ?_
  dsimp only
  obtain ⟨W2,hW2⟩:∃ W2,(w1.alloc (.cells #[.int .u64 (K:Int)] 151)).drew=W2:=⟨_,rfl⟩
  rw [hW2] at h52 h62 hS2 hT2 hB2 h3d ⊢
  clear hW2 l2' h3 hb2 h3w
  obtain ⟨mv',m1,m2,m3⟩:=hS2.map
  rw [h3d] at m1
  have hmv:mv'=some b:=by cases Option.some.inj m1;rfl
  subst hmv
  obtain ⟨hBb,n0,hn0,hcm⟩:=m3 b rfl
  have hbl:=hcm.lt
  have hb3:Below W2.heap.size W2 (W2.alloc (.cells #[.slice none 0 0] 207)).drew:=((Below.refl _ _).alloc (Nat.le_refl _) _).drew
  have hcm3:=hcm.below hb3
  obtain ⟨w5,u1,u2,u3⟩:=hcm3.store (k:=K) (g:=W2.heap.size) (by omega) hK64
  have hbc:∀ {b' c t' fr'},W2.heap[b']?=some (.cells c t' fr')→b'≠b:=fun h2 e=>by
    obtain ⟨D,⟨es,clock,hbm,_⟩,_⟩:=hcm
    rw [e,hbm] at h2;cases h2
  have hblk:∀ x,x<W2.heap.size→x≠b→w5.heap[x]?=W2.heap[x]?:=fun x hx hxb=>(u3.block x (by have:=hb3.size;omega) (fun e=>hxb (by cases e;rfl))).trans (hb3.block x hx)
  have hbox:Has w5 W2.heap.size #[.slice none 0 0] 207:=(u3.block W2.heap.size (by simp) (fun e=>by cases e;omega)).trans (Has.new W2 _ _)
  have hsz:W2.heap.size≤w5.heap.size:=Nat.le_trans hb3.size u3.size
  obtain ⟨t1,t2,t3,t4⟩:=hS2.turn h3d hblk hsz (Nat.le_refl _) hbox ⟨n0+1,by omega,u2⟩ a5 hK64
  have h55:Has w5 w.heap.size (UARR .u8 32 h) 35:=(hblk _ h52.lt (hbc h52)).trans h52
  have hB5:Below B W2 w5:=(hb3.mono (by omega)).grown u3 (by have:=hb3.size;omega) (fun x e=>by cases e;exact hBb)
  have hC5:=(t1.chunk K W2.heap.size [] z0n).2.1
  have cP:=z3n B W2.heap.size p [] h (by omega) (by decide) (fun r hr=>by cases hr) a8 _ hC5
  have h33:(W2.alloc (.cells #[.slice none 0 0] 207)).cell? ⟨g,3,none⟩=some (.map (some b)):=(hb3.cell (by exact hS2.lt)).trans h3d
  have h63:Has (W2.alloc (.cells #[.slice none 0 0] 207)) w1.heap.size #[.int .u64 (K:Int)] 151:=h62.alloc _
  have hbch:=z5Z
  have G:Aside (STORE w5 B g log len alive (N+1) (WITH C K W2.heap.size [])∧(∀ p',AT (WITH C K W2.heap.size []) log p'=AT C log p')∧(∀ p,TOP C p→TOP (WITH C K W2.heap.size []) p)∧STEP0 wb w5 g C (WITH C K W2.heap.size [])∧Below B wb w5):=⟨t1,t2,t3,hT2.toSTEP0.trans t4,hB2.trans hB5⟩
  obtain ⟨gc,hgce⟩:∃ gc,W2.heap.size=gc:=⟨_,rfl⟩
  rw [hgce] at cP G u1
  clear t1 t2 t3 t4 hT2 hB2 hB5 hbox hsz hblk hbc u2 u3 hcm hcm3 hbl m1 m2 m3 hS2 hb3 hC5
  go_upto_region 7 with fail
  refine zf6 _ _ _ _ _ _ _ _ _ _ _ _ _ _ _ _ _ _ _ _ _ _ _ _ _ _ _ _ _ _ _ _ _ _ _ _ _ _ _ _ _ _ _ _ _ _ _ _ _ g w1.heap.size K (.map (some b)) _ w5 h33 h63 u1 (fun _ _ _ _ _ h=>h) ?_
  dsimp only
  clear u1 h33 h63 hbch h62 h52
  clear hgce
  go_wp2_with (refine wpList_load_row rfl 35 (.tmp 5) rfl w.heap.size rfl 35 (UARR .u8 32 h) (0,0) (.array 32 5) h55 Tryz.underlying35 rfl (z04 _) ?_)
  refine cP.mono ?_
  rintro e w6 ⟨⟨v6,rfl⟩,hP⟩
  clear cP
  have hself:=G.out.1.put_self z0n hP
  have z2:w6.cell? ⟨g,2,none⟩=some (.int .u64 (alive:Int)):=(World.cell?_of_block (w:=w5) (by exact hself)).trans G.out.1.c2
  have zf:w6.frozen? ⟨g,2,none⟩=false:=by
    have:=G.out.1.live 2 (by decide)
    unfold World.frozen? at this ⊢
    rw [show w6.heap[g]?=w5.heap[g]? from hself]
    exact this
  have hwr:IntKind.u64.wrap ((alive:Int)+1)=((alive+1:Nat):Int):=z0P (by omega) (by omega)
  have FIN:Aside (PUTS w5 B gc p [] h w6):=hP
  clear hP hself
  go_wp2
  go_end0
  obtain ⟨f1,f2,f3,f4,f5⟩:=G.out
  obtain ⟨_,_,_,_,_,_,_,q7,_⟩:=id FIN.out
  obtain ⟨C',c1,c2,c3,c4,c5⟩:=f1.put_step z0n HK.out a2 FIN.out
  exact ⟨⟨_,rfl⟩,C',c1,fun p'=>by rw [c2,f2],c3 (f3 p a3),STEP.of_with (a13.toSTEP0.trans f4) c4 c5,((a14.trans f5).trans q7).setCell (p:=⟨g,2,none⟩) a10 _⟩
theorem z99 {w:World} {B g log len alive N:Nat} {C:z02} (hS:STORE w B g log len alive N C) (p:Nat) (h:Nat→Nat) (h8:∀ i,h i<256) (hp:p<len) (hT:TOP C p) (hal:alive<2 ^ 40) (hBg:B≤g) (hN:N<2 ^ 40):Calls Tryz.prog 96 #[.pointer (some ⟨g,0,none⟩),.int .u64 (p:Int),.agg (UARR .u8 32 h)] w fun e w'=>
    (∃ v,e=.returned v)∧z5Y w B g log len alive N p C h w':=by
  obtain ⟨mv,m1,_⟩:=hS.map
  cases mv with
  | none=>exact zb1 hS p h h8 hp hT hal hBg hN m1
  | some b=>
    cases hK:C (p / 2 ^ log) with
    | none=>exact zdM hS p h h8 hp hT hal hBg hN m1 hK
    | some c=>exact zb0 (gc:=c.1) (rs:=c.2) hS p h h8 hp hT hal hBg m1 hK
end Go.Proofs.YtnmalbngdhjhjaaGreatDoor.HX

namespace Go.Proofs.YtnmalbngdhjhjaaGreatDoor.HX
open Go.RowKit Go.Maps
set_option maxRecDepth 100000
theorem STORE.longer {w:World} {B g log len alive N:Nat} {C:z02} (hS:STORE w B g log len alive N C) (hl:len+1<2 ^ 40):STORE (w.setCell ⟨g,1,none⟩ (.int .u64 ((len+1:Nat):Int))) B g log (len+1) alive N C∧STEP w (w.setCell ⟨g,1,none⟩ (.int .u64 ((len+1:Nat):Int))) g C C:=by
  obtain ⟨cs,t,fr,k1,k2,k3,k4⟩:=hS.kind
  obtain ⟨w2,hw2⟩:∃ w2,w.setCell ⟨g,1,none⟩ (.int .u64 ((len+1:Nat):Int))=w2:=⟨_,rfl⟩
  rw [hw2]
  have hset:∀ b,b≠g→w2.heap[b]?=w.heap[b]?:=fun b hb=>by rw [← hw2];exact Below.heap_setCell _ _ _ b (by exact hb)
  have cell:∀ i,i≠1→w2.cell? ⟨g,i,none⟩=w.cell? ⟨g,i,none⟩:=fun i hi=>by rw [← hw2,z1H (fun e=>hi e.symm)]
  have hch:∀ k gc rk,C k=some (gc,rk)→gc≠g∧(∀ v x,w.cell? ⟨gc,0,none⟩=some v→v.ownBlock=some x→x≠g)∧∀ r∈rk,r.gh≠g:=fun k gc rk e=>by
    obtain ⟨⟨_,z1⟩,z2,z3⟩:=(hS.chunk k gc rk e).2.1.kinds
    refine ⟨fun e=>z08 k1 z1 k2 e.symm,fun v x hv hx=>?_,fun r hr=>?_⟩
    · obtain ⟨_,hc⟩:=z2 v x hv hx
      exact fun e=>z08 k1 hc k3 e.symm
    · obtain ⟨_,hc⟩:=z3 r hr
      exact fun e=>z08 k1 hc k4 e.symm
  have hcc:∀ k gc rk,C k=some (gc,rk)→w2.cell? ⟨gc,0,none⟩=w.cell? ⟨gc,0,none⟩:=fun k gc rk e=>World.cell?_of_block (w:=w) (by exact hset gc (hch k gc rk e).1)
  refine ⟨⟨hS.small,hl,(cell 0 (by decide)).trans hS.c0,?_,(cell 2 (by decide)).trans hS.c2,fun i hi=>?_,?_,?_,?_,?_⟩,?_⟩
  · rw [← hw2]
    exact World.cell?_setCell_same _ _ _ hS.c1
  · rw [← hw2,World.frozen?_setCell]
    exact hS.live i hi
  · obtain ⟨cs',h1⟩:=z2e (i:=1) k1 (.int .u64 ((len+1:Nat):Int))
    exact ⟨cs',t,fr,by rw [← hw2];exact h1,k2,k3,k4⟩
  · obtain ⟨mv,m1,m2,m3⟩:=hS.map
    refine ⟨mv,(cell 3 (by decide)).trans m1,m2,fun b e=>?_⟩
    obtain ⟨c1,n,c2,c3⟩:=m3 b e
    refine ⟨c1,n,c2,c3.at (hset b (fun e=>?_))⟩
    obtain ⟨D,⟨es,clock,h1,_⟩,_⟩:=c3
    rw [e,k1] at h1
    cases h1
  · intro k gc rk e
    obtain ⟨b1,b2,b3⟩:=hS.chunk k gc rk e
    obtain ⟨d1,d2,d3⟩:=hch k gc rk e
    exact ⟨b1,b2.at (hset _ d1) (fun v x hv hx=>hset _ (d2 v x hv hx)) (fun r hr=>hset _ (d3 r hr)),fun r hr j hj hb=>by have:=b3 r hr j hj hb;exact ⟨this.1,by omega⟩⟩
  · intro k k' gc gc' rs rs' hne e e'
    obtain ⟨o1,o2,o3⟩:=hS.one k k' gc gc' rs rs' hne e e'
    exact ⟨o1,o2,fun v v' hv hv'=>o3 v v' (by rw [← hcc k gc rs e];exact hv) (by rw [← hcc k' gc' rs' e'];exact hv')⟩
  · refine ⟨⟨fun b h=>.inl ?_,fun b _ hbg _=>hset b hbg,by rw [← hw2];simp,fun i hi=>cell i (by omega)⟩,id⟩
    rcases h with h | ⟨k,gc,rs,e,h⟩
    · left;rw [← cell 3 (by decide)];exact h
    · refine .inr ⟨k,gc,rs,e,?_⟩
      rcases h with h | ⟨v,hv,h⟩ | h
      · exact .inl h
      · exact .inr (.inl ⟨v,by rw [← hcc k gc rs e];exact hv,h⟩)
      · exact .inr (.inr h)
theorem STORE.top {w:World} {B g log len alive N:Nat} {C:z02} (hS:STORE w B g log len alive N C):TOP C len:=fun k gc rs e r hr j hj hb=>((hS.chunk k gc rs e).2.2 r hr j hj hb).2
def z3u (w:World) (B g log len alive N:Nat) (C:z02) (h:Nat→Nat) (w':World):Prop:=∃ C',STORE w' B g log (len+1) (alive+1) (N+1) C'∧(∀ p',AT C' log p'=if p'=len then some h else AT C log p')∧STEP w w' g C C'∧Below B w w'
set_option maxHeartbeats 2000000 in
theorem zaa {w:World} {B g log len alive N:Nat} {C:z02} (hS:STORE w B g log len alive N C) (h:Nat→Nat) (h8:∀ i,h i<256) (hl:len+1<2 ^ 40) (hal:alive<2 ^ 40) (hBg:B≤g) (hN:N<2 ^ 40):Calls Tryz.prog 51 #[.pointer (some ⟨g,0,none⟩),.agg (UARR .u8 32 h)] w fun e w'=>
    e=.returned (.int .u64 (len:Int))∧z3u w B g log len alive N C h w':=by
  obtain ⟨w0,hw0⟩:∃ w0,w.alloc (.cells (UARR .u8 32 h) 35)=w0:=⟨_,rfl⟩
  have hb0:Below w.heap.size w w0:=by rw [← hw0];exact (Below.refl _ _).alloc (Nat.le_refl _) _
  have h50:Has w0 w.heap.size (UARR .u8 32 h) 35:=by rw [← hw0];exact Has.new w _ _
  have hg:=hS.lt
  have hS0:=hS.below hb0
  have hc1:=hS0.c1
  have hf1:=hS0.live 1 (by decide)
  obtain ⟨hSl,hst⟩:=hS0.longer hl
  have hwr:IntKind.u64.wrap ((len:Int)+1)=((len+1:Nat):Int):=z0P (by omega) (by omega)
  obtain ⟨wl,hwl⟩:∃ wl,w0.setCell ⟨g,1,none⟩ (.int .u64 ((len+1:Nat):Int))=wl:=⟨_,rfl⟩
  have h5l:Has wl w.heap.size (UARR .u8 32 h) 35:=by rw [← hwl];exact h50.other (by show w.heap.size≠g;omega) _
  have hBl:Below B w wl:=by rw [← hwl];exact (hb0.mono (by omega)).setCell (p:=⟨g,1,none⟩) hBg _
  rw [hwl] at hSl hst
  have cp:=z99 hSl len h h8 (Nat.lt_succ_self _) hS.top hal hBg hN
  have H:Aside (STEP w wl g C C∧Below B w wl):=⟨(STEP.below hS hb0).trans hst,hBl⟩
  obtain ⟨L1,hL1⟩:∃ L1,len+1=L1:=⟨_,rfl⟩
  have HL:Aside (len+1=L1):=hL1
  rw [hL1] at hwr hwl cp
  clear hL1 hS hS0 hSl hst hBl h8 hal hBg hN hb0
  go_enter Tryz.func51,Tryz.ntmps51
  go_wp2_with (refine wpList_load_row rfl 35 (.tmp 3) rfl w.heap.size rfl 35 (UARR .u8 32 h) (0,0) (.array 32 5) h5l Tryz.underlying35 rfl (z04 _) ?_)
  refine cp.mono ?_
  rintro e w2 ⟨⟨v,rfl⟩,hP⟩
  have F:Aside (z5Y wl B g log L1 alive N len C h w2):=hP
  clear cp hP
  go_wp2
  go_ret
  refine ⟨rfl,?_⟩
  obtain ⟨C',c1,c2,c3,c4,c5⟩:=F.out
  unfold z3u
  rw [HL.out]
  exact ⟨C',c1,c2,H.out.1.trans c4,H.out.2.trans c5⟩
end Go.Proofs.YtnmalbngdhjhjaaGreatDoor.HX

namespace Go.Proofs.YtnmalbngdhjhjaaGreatDoor.HX
open Go.RowKit Go.Maps
set_option maxRecDepth 100000
theorem lawPin:Keyed Tryz.prog 24:=int_keyed Tryz.underlying24
abbrev PK (p:Nat):Lit:=.int .u64 (p:Int)
theorem zhc {p:Nat} (hp:p<2 ^ 64):(PK p).wf=true:=WalkArith.wf_u64 (by omega)
theorem z4R {p:Nat} (hp:p<2 ^ 64):keyOf Tryz.prog 24 (.int .u64 (p:Int))=some (PK p):=keyOf_int_mk Tryz.underlying24 (zhc hp)
theorem zfj (w:World):(zeroValue 3).run Tryz.prog w=.ok (.int .i64 0) w:=by kernel_rfl
abbrev ID (n:Nat):DataW Unit:=.lit (.int .i64 (n:Int))
def PinMap (w:World) (b n:Nat) (P:Nat→Nat):Prop:=∃ D:DataW Unit,w.ownsMap Tryz.prog 24 (plainElem Tryz.prog 3) b n D∧∀ p,p<2 ^ 64→(Maps.has D (PK p)=true↔P p≠0)∧D.atKey (PK p) (ID 0)=ID (P p)
theorem PinMap.made (w:World):PinMap (w.alloc (.map #[] 0)) w.heap.size 0 (fun _=>0):=⟨_,World.ownsMap_made w _ _ _,fun p _=>⟨by simp [Maps.has],Maps.atKey_of_not_has (D:=DataW.map []) (k:=PK p) (by simp [Maps.has]) _⟩⟩
theorem PinMap.lt {w:World} {b n:Nat} {P:Nat→Nat} (h:PinMap w b n P):b<w.heap.size:=let ⟨_,h1,_⟩:=h;h1.lt
theorem PinMap.at {w w':World} {b n:Nat} {P:Nat→Nat} (h:PinMap w b n P) (hb:w'.heap[b]?=w.heap[b]?):PinMap w' b n P:=by
  obtain ⟨D,⟨es,clock,h1,r⟩,h2⟩:=h
  exact ⟨D,⟨es,clock,hb.trans h1,r⟩,h2⟩
theorem PinMap.look {w:World} {b n p:Nat} {P:Nat→Nat} (h:PinMap w b n P) (hp:p<2 ^ 64):(Instr.lookup 82 (.map (some b)) (.int .u64 (p:Int)) false).run Tryz.prog w=.ok (.int .i64 ((P p:Nat):Int)) w:=by
  obtain ⟨D,h1,h2⟩:=h
  obtain ⟨c,r1,r2,_⟩:=h1.lookup_int lawPin Tryz.underlying82 Tryz.underlying3 (zfj w) (z4R hp)
  have:=(h2 p hp).2
  rw [show (ID 0:DataW Unit)=.lit (.int .i64 0) from rfl,r2] at this
  simp at this
  rw [r1,this]
theorem z9a {p:Nat} (hp:p<2 ^ 64) (w:World):(Instr.lookup 82 (.map none) (.int .u64 (p:Int)) false).run Tryz.prog w=.ok (.int .i64 0) w:=by
  have hc:=lawPin.check w true (z4R hp)
  rcases lawPin.find w (z4R hp) [] (fun e he=>by cases he) with ⟨hf,_⟩ | ⟨j,e,_,he,_⟩
  · simp [Instr.lookup,run_underlying Tryz.underlying82,hc,hf]
  · simp at he
theorem PinMap.store {w:World} {b n p v:Nat} {P:Nat→Nat} (h:PinMap w b n P) (hn:n<2 ^ 40) (hp:p<2 ^ 64) (hv:v<2 ^ 62) (hv0:v≠0):∃ w',(Instr.mapUpdate 82 (.map (some b)) (.int .u64 (p:Int)) (.int .i64 (v:Int))).run Tryz.prog w=.ok () w'∧PinMap w' b (n+1) (fun j=>if j=p then v else P j)∧w.grownBy w' (some b):=by
  obtain ⟨D,h1,h2⟩:=h
  obtain ⟨w',r1,r2,r3⟩:=h1.update lawPin Tryz.underlying82 (by unfold maxLen;omega) (z4R hp) (plainElem_int Tryz.underlying3 (WalkArith.wf_i64 (n:=(v:Int)) (by omega)))
  refine ⟨w',r1,⟨_,r2,fun j hj=>?_⟩,r3⟩
  dsimp only
  have hkey:WideAt.IsKeyLit (PK p):=lawPin.key (z4R hp)
  by_cases e:j=p
  · subst e
    rw [if_pos rfl]
    exact ⟨⟨fun _=>hv0,fun _=>Maps.has_put_same h1.isMap hkey _⟩,by rw [Maps.atKey_put_same h1.isMap hkey]⟩
  · have hne:PK j≠PK p:=fun h=>e (by simp at h;omega)
    rw [if_neg e,Maps.has_put_other hne,Maps.atKey_put_other hne]
    exact h2 j hj
theorem PinMap.drop {w:World} {b n p:Nat} {P:Nat→Nat} (h:PinMap w b n P) (hp:p<2 ^ 64) (ty:TypeId):∃ w',(Builtin.delete_ #[82,24] ty #[.map (some b),.int .u64 (p:Int)]).run Tryz.prog w=.ok (.tuple #[]) w'∧PinMap w' b n (fun j=>if j=p then 0 else P j)∧w.mapTurned w' b:=by
  obtain ⟨D,h1,h2⟩:=h
  obtain ⟨w',r1,r2,r3⟩:=h1.drop lawPin Tryz.underlying82 (z4R hp) ty
  refine ⟨w',r1,⟨_,r2,fun j hj=>?_⟩,r3⟩
  dsimp only
  by_cases e:j=p
  · subst e
    rw [if_pos rfl]
    exact ⟨by rw [Maps.has_del_same];simp,by rw [Maps.atKey_del_same]⟩
  · have hne:PK j≠PK p:=fun h=>e (by simp at h;omega)
    rw [if_neg e,Maps.has_del_other hne,Maps.atKey_del_other hne]
    exact h2 j hj
end Go.Proofs.YtnmalbngdhjhjaaGreatDoor.HX

namespace Go.Proofs.YtnmalbngdhjhjaaGreatDoor.HX
open Go.RowKit Go.Maps
set_option maxRecDepth 100000
structure PINS (w:World) (B g n:Nat) (C:z02) (P:Nat→Nat):Prop where
  map:∃ mv,w.cell? ⟨g,4,none⟩=some (.map mv)∧(mv=none→∀ p,P p=0)∧∀ b,mv=some b→B≤b∧¬ FOOT w g C b∧∃ m,m≤n∧PinMap w b m P
theorem PINS.step {w w':World} {B g n:Nat} {C C':z02} {P:Nat→Nat} (h:PINS w B g n C P) (hs:STEP w w' g C C') (hg:∃ cs t fr,w.heap[g]?=some (.cells cs t fr)):PINS w' B g n C' P:=by
  obtain ⟨mv,h1,h2,h3⟩:=h.map
  refine ⟨⟨mv,(hs.pins 4 (by decide)).trans h1,h2,fun b e=>?_⟩⟩
  obtain ⟨c1,c2,m,c3,c4⟩:=h3 b e
  have hbg:b≠g:=fun e=>by
    obtain ⟨cs,t,fr,hk⟩:=hg
    obtain ⟨D,⟨es,clock,hb,_⟩,_⟩:=c4
    rw [e,hk] at hb
    cases hb
  refine ⟨c1,fun hf=>?_,m,c3,c4.at (hs.same b c4.lt hbg c2)⟩
  rcases hs.foot b hf with h | h
  · exact c2 h
  · have:=c4.lt
    omega
theorem PINS.look {w:World} {B g n:Nat} {C:z02} {P:Nat→Nat} (h:PINS w B g n C P) (p:Nat) (hp:p<2 ^ 64):∃ mv,w.cell? ⟨g,4,none⟩=some mv∧(Instr.lookup 82 mv (.int .u64 (p:Int)) false).run Tryz.prog w=.ok (.int .i64 ((P p:Nat):Int)) w:=by
  obtain ⟨mv,h1,h2,h3⟩:=h.map
  cases mv with
  | none=>exact ⟨_,h1,by rw [h2 rfl p];exact z9a hp w⟩
  | some b=>
    obtain ⟨_,_,m,_,c4⟩:=h3 b rfl
    exact ⟨_,h1,c4.look hp⟩
end Go.Proofs.YtnmalbngdhjhjaaGreatDoor.HX

namespace Go.Proofs.YtnmalbngdhjhjaaGreatDoor.HX
open Go.RowKit
set_option maxRecDepth 100000
theorem STORE.same {w w':World} {B g log len alive N b:Nat} {C:z02} (hS:STORE w B g log len alive N C) (hblk:∀ x,x<w.heap.size→x≠b→w'.heap[x]?=w.heap[x]?) (hb:¬ FOOT w g C b) (hbg:g≠b):STORE w' B g log len alive N C∧(∀ x,FOOT w' g C x→FOOT w g C x)∧∀ i,w'.cell? ⟨g,i,none⟩=w.cell? ⟨g,i,none⟩:=by
  have hg:w'.heap[g]?=w.heap[g]?:=hblk g hS.lt hbg
  have cell:∀ i,w'.cell? ⟨g,i,none⟩=w.cell? ⟨g,i,none⟩:=fun i=>World.cell?_of_block (w:=w) (by exact hg)
  have hlt:∀ {b':Nat} {o:Obj},w.heap[b']?=some o→b'<w.heap.size:=fun h=>(Array.getElem?_eq_some_iff.1 h).1
  have hch:∀ k gc rk,C k=some (gc,rk)→w'.heap[gc]?=w.heap[gc]?∧(∀ v x,w.cell? ⟨gc,0,none⟩=some v→v.ownBlock=some x→w'.heap[x]?=w.heap[x]?)∧∀ r∈rk,w'.heap[r.gh]?=w.heap[r.gh]?:=fun k gc rk e=>by
    obtain ⟨⟨_,z1⟩,z2,z3⟩:=(hS.chunk k gc rk e).2.1.kinds
    refine ⟨hblk _ (hlt z1) (fun h=>hb (.inr ⟨k,gc,rk,e,.inl h.symm⟩)),fun v x hv hx=>?_,fun r hr=>?_⟩
    · obtain ⟨_,hc⟩:=z2 v x hv hx
      exact hblk _ (hlt hc) (fun h=>hb (.inr ⟨k,gc,rk,e,.inr (.inl ⟨v,hv,by rw [← h];exact hx⟩)⟩))
    · obtain ⟨_,hc⟩:=z3 r hr
      exact hblk _ (hlt hc) (fun h=>hb (.inr ⟨k,gc,rk,e,.inr (.inr ⟨r,hr,h⟩)⟩))
  have hcc:∀ k gc rk,C k=some (gc,rk)→w'.cell? ⟨gc,0,none⟩=w.cell? ⟨gc,0,none⟩:=fun k gc rk e=>World.cell?_of_block (w:=w) (by exact (hch k gc rk e).1)
  refine ⟨⟨hS.small,hS.short,(cell 0).trans hS.c0,(cell 1).trans hS.c1,(cell 2).trans hS.c2,fun i hi=>?_,?_,?_,?_,?_⟩,fun x h=>?_,cell⟩
  · have:=hS.live i hi
    unfold World.frozen? at this ⊢
    rw [show w'.heap[g]?=w.heap[g]? from hg]
    exact this
  · obtain ⟨cs,t,fr,k1,k2⟩:=hS.kind
    exact ⟨cs,t,fr,hg.trans k1,k2⟩
  · obtain ⟨mv,m1,m2,m3⟩:=hS.map
    refine ⟨mv,(cell 3).trans m1,m2,fun x e=>?_⟩
    obtain ⟨c1,n,c2,c3⟩:=m3 x e
    refine ⟨c1,n,c2,c3.at (hblk x c3.lt (fun h=>hb (.inl (by rw [m1,e,h]))))⟩
  · intro k gc rk e
    obtain ⟨b1,b2,b3⟩:=hS.chunk k gc rk e
    obtain ⟨d1,d2,d3⟩:=hch k gc rk e
    exact ⟨b1,b2.at d1 d2 d3,b3⟩
  · intro k k' gc gc' rs rs' hne e e'
    obtain ⟨o1,o2,o3⟩:=hS.one k k' gc gc' rs rs' hne e e'
    exact ⟨o1,o2,fun v v' hv hv'=>o3 v v' (by rw [← hcc k gc rs e];exact hv) (by rw [← hcc k' gc' rs' e'];exact hv')⟩
  · rcases h with h | ⟨k,gc,rs,e,h⟩
    · left;rw [← cell 3];exact h
    · refine .inr ⟨k,gc,rs,e,?_⟩
      rcases h with h | ⟨v,hv,h⟩ | h
      · exact .inl h
      · exact .inr (.inl ⟨v,by rw [← hcc k gc rs e];exact hv,h⟩)
      · exact .inr (.inr h)
end Go.Proofs.YtnmalbngdhjhjaaGreatDoor.HX

namespace Go.Proofs.YtnmalbngdhjhjaaGreatDoor.HX
open Go.RowKit Go.Maps
set_option maxRecDepth 100000
theorem PINS.turn {w w':World} {B g log len alive N n m b:Nat} {C:z02} {P':Nat→Nat} (hS:STORE w B g log len alive N C) (h4:w.cell? ⟨g,4,none⟩=some (.map (some b))) (hB:B≤b) (hBw:B≤w.heap.size) (hf:¬ FOOT w g C b) (hg:g≠b) (gw:w.grownBy w' (some b)) (hm:m≤n) (hP:PinMap w' b m P'):STORE w' B g log len alive N C∧PINS w' B g n C P'∧Below B w w':=by
  have hblk:∀ x,x<w.heap.size→x≠b→w'.heap[x]?=w.heap[x]?:=fun x hx hxb=>gw.block x hx (fun e=>hxb (by cases e;rfl))
  obtain ⟨s1,s2,s3⟩:=hS.same hblk hf hg
  refine ⟨s1,⟨⟨some b,(s3 4).trans h4,(fun e=>by cases e),fun x e=>?_⟩⟩,(Below.refl B w).grown gw hBw (fun x e=>by cases e;exact hB)⟩
  cases e
  exact ⟨hB,fun h=>hf (s2 b h),m,hm,hP⟩
theorem PINS.more {w:World} {B g n n':Nat} {C:z02} {P:Nat→Nat} (h:PINS w B g n C P) (hn:n≤n'):PINS w B g n' C P:=by
  obtain ⟨mv,a,b,c⟩:=h.map
  exact ⟨⟨mv,a,b,fun x e=>by obtain ⟨d1,d2,m,d3,d4⟩:=c x e;exact ⟨d1,d2,m,by omega,d4⟩⟩⟩
end Go.Proofs.YtnmalbngdhjhjaaGreatDoor.HX

namespace Go.Proofs.YtnmalbngdhjhjaaGreatDoor.HX
open Go.RowKit Go.Maps
set_option maxRecDepth 100000
theorem STORE.pinned {w:World} {B g log len alive N:Nat} {C:z02} (hS:STORE w B g log len alive N C) (mv:Option Nat):STORE (w.setCell ⟨g,4,none⟩ (.map mv)) B g log len alive N C∧(∀ x,FOOT (w.setCell ⟨g,4,none⟩ (.map mv)) g C x→FOOT w g C x):=by
  obtain ⟨cs,t,fr,k1,k2,k3,k4⟩:=hS.kind
  obtain ⟨w2,hw2⟩:∃ w2,w.setCell ⟨g,4,none⟩ (.map mv)=w2:=⟨_,rfl⟩
  rw [hw2]
  have hset:∀ b,b≠g→w2.heap[b]?=w.heap[b]?:=fun b hb=>by rw [← hw2];exact Below.heap_setCell _ _ _ b (by exact hb)
  have cell:∀ i,i≠4→w2.cell? ⟨g,i,none⟩=w.cell? ⟨g,i,none⟩:=fun i hi=>by rw [← hw2,z1H (fun e=>hi e.symm)]
  have hch:∀ k gc rk,C k=some (gc,rk)→gc≠g∧(∀ v x,w.cell? ⟨gc,0,none⟩=some v→v.ownBlock=some x→x≠g)∧∀ r∈rk,r.gh≠g:=fun k gc rk e=>by
    obtain ⟨⟨_,z1⟩,z2,z3⟩:=(hS.chunk k gc rk e).2.1.kinds
    refine ⟨fun e=>z08 k1 z1 k2 e.symm,fun v x hv hx=>?_,fun r hr=>?_⟩
    · obtain ⟨_,hc⟩:=z2 v x hv hx
      exact fun e=>z08 k1 hc k3 e.symm
    · obtain ⟨_,hc⟩:=z3 r hr
      exact fun e=>z08 k1 hc k4 e.symm
  have hcc:∀ k gc rk,C k=some (gc,rk)→w2.cell? ⟨gc,0,none⟩=w.cell? ⟨gc,0,none⟩:=fun k gc rk e=>World.cell?_of_block (w:=w) (by exact hset gc (hch k gc rk e).1)
  refine ⟨⟨hS.small,hS.short,(cell 0 (by decide)).trans hS.c0,(cell 1 (by decide)).trans hS.c1,(cell 2 (by decide)).trans hS.c2,fun i hi=>?_,?_,?_,?_,?_⟩,?_⟩
  · rw [← hw2,World.frozen?_setCell]
    exact hS.live i hi
  · obtain ⟨cs',h1⟩:=z2e (i:=4) k1 (.map mv)
    exact ⟨cs',t,fr,by rw [← hw2];exact h1,k2,k3,k4⟩
  · obtain ⟨mw,m1,m2,m3⟩:=hS.map
    refine ⟨mw,(cell 3 (by decide)).trans m1,m2,fun b e=>?_⟩
    obtain ⟨c1,n,c2,c3⟩:=m3 b e
    refine ⟨c1,n,c2,c3.at (hset b (fun e=>?_))⟩
    obtain ⟨D,⟨es,clock,h1,_⟩,_⟩:=c3
    rw [e,k1] at h1
    cases h1
  · intro k gc rk e
    obtain ⟨b1,b2,b3⟩:=hS.chunk k gc rk e
    obtain ⟨d1,d2,d3⟩:=hch k gc rk e
    exact ⟨b1,b2.at (hset _ d1) (fun v x hv hx=>hset _ (d2 v x hv hx)) (fun r hr=>hset _ (d3 r hr)),b3⟩
  · intro k k' gc gc' rs rs' hne e e'
    obtain ⟨o1,o2,o3⟩:=hS.one k k' gc gc' rs rs' hne e e'
    exact ⟨o1,o2,fun v v' hv hv'=>o3 v v' (by rw [← hcc k gc rs e];exact hv) (by rw [← hcc k' gc' rs' e'];exact hv')⟩
  · intro b h
    rcases h with h | ⟨k,gc,rs,e,h⟩
    · left;rw [← cell 3 (by decide)];exact h
    · refine .inr ⟨k,gc,rs,e,?_⟩
      rcases h with h | ⟨v,hv,h⟩ | h
      · exact .inl h
      · exact .inr (.inl ⟨v,by rw [← hcc k gc rs e];exact hv,h⟩)
      · exact .inr (.inr h)
theorem PINS.below {w w':World} {B g log len alive N n:Nat} {C:z02} {P:Nat→Nat} (h:PINS w B g n C P) (hS:STORE w B g log len alive N C) (hb:Below w.heap.size w w'):PINS w' B g n C P:=by
  obtain ⟨cs,t,fr,k1,_⟩:=hS.kind
  exact h.step (STEP.below hS hb) ⟨cs,t,fr,k1⟩
theorem PINS.mapped {w:World} {B g log len alive N n:Nat} {C:z02} {P:Nat→Nat} (hP:PINS w B g n C P) (hS:STORE w B g log len alive N C) (hm:w.cell? ⟨g,4,none⟩=some (.map none)) (hB:B≤w.heap.size) (hBg:B≤g) {w2:World} (hw2:(w.alloc (.map #[] 0)).setCell ⟨g,4,none⟩ (.map (some w.heap.size))=w2):
    STORE w2 B g log len alive N C∧PINS w2 B g n C P∧w2.cell? ⟨g,4,none⟩=some (.map (some w.heap.size))∧Below B w w2:=by
  obtain ⟨mv,m1,m2,m3⟩:=hP.map
  rw [hm] at m1
  have hmv:mv=none:=by cases Option.some.inj m1;rfl
  have hP0:P=fun _=>0:=funext (m2 hmv)
  have hg:=hS.lt
  have hb:Below w.heap.size w (w.alloc (.map #[] 0)):=(Below.refl _ _).alloc (Nat.le_refl _) _
  have hS1:=hS.below hb
  obtain ⟨s1,s2⟩:=hS1.pinned (some w.heap.size)
  have c4:((w.alloc (.map #[] 0)).setCell ⟨g,4,none⟩ (.map (some w.heap.size))).cell? ⟨g,4,none⟩=some (.map (some w.heap.size)):=World.cell?_setCell_same _ _ _ ((hb.cell (by exact hg)).trans hm)
  have hf:¬ FOOT (w.alloc (.map #[] 0)) g C w.heap.size:=fun h=>by
    rcases h with h | ⟨k,gc,rs,e,h⟩
    · rw [hb.cell (by exact hg)] at h
      obtain ⟨mw,n1,_,n3⟩:=hS.map
      rw [n1] at h
      have h2:=Option.some.inj h
      cases h2
      obtain ⟨_,_,_,c3⟩:=n3 _ rfl
      have:=c3.lt
      omega
    · obtain ⟨⟨_,z1⟩,z2,z3⟩:=(hS.chunk k gc rs e).2.1.kinds
      have hlt:∀ {b':Nat} {o:Obj},w.heap[b']?=some o→b'<w.heap.size:=fun h=>(Array.getElem?_eq_some_iff.1 h).1
      rcases h with h | ⟨v,hv,h⟩ | ⟨r,hr,h⟩
      · have:=hlt z1;omega
      · rw [hb.cell (by exact hlt z1)] at hv
        obtain ⟨_,hc⟩:=z2 v _ hv h
        have:=hlt hc
        omega
      · obtain ⟨_,hc⟩:=z3 r hr
        have:=hlt hc
        omega
  rw [hw2] at s1 s2 c4
  refine ⟨s1,⟨⟨_,c4,(fun e=>by cases e),fun b e=>?_⟩⟩,c4,by rw [← hw2];exact (hb.mono hB).setCell (p:=⟨g,4,none⟩) hBg _⟩
  cases e
  refine ⟨hB,fun h=>hf (s2 _ h),0,Nat.zero_le _,?_⟩
  rw [hP0]
  refine (PinMap.made w).at ?_
  rw [← hw2]
  exact Below.heap_setCell _ _ _ _ (by show w.heap.size≠g;omega)
theorem PINS.add {w:World} {B g log len alive N n b:Nat} {C:z02} {P:Nat→Nat} (hP:PINS w B g n C P) (hS:STORE w B g log len alive N C) (h4:w.cell? ⟨g,4,none⟩=some (.map (some b))) (p u:Nat) (hp:p<2 ^ 64) (hn:n<2 ^ 40) (hu:P p+1=u) (hv:u<2 ^ 40):∃ w',(Instr.lookup 82 (.map (some b)) (.int .u64 (p:Int)) false).run Tryz.prog w=.ok (.int .i64 ((P p:Nat):Int)) w∧(Instr.mapUpdate 82 (.map (some b)) (.int .u64 (p:Int)) (.int .i64 (u:Int))).run Tryz.prog w=.ok () w'∧STORE w' B g log len alive N C∧PINS w' B g (n+1) C (fun j=>if j=p then u else P j)∧(B≤w.heap.size→Below B w w'):=by
  obtain ⟨mb,m1,m2,m3⟩:=hP.map
  rw [h4] at m1
  have hmb:mb=some b:=by cases Option.some.inj m1;rfl
  subst hmb
  obtain ⟨b1,b2,m,b3,b4⟩:=m3 b rfl
  have hbl:=b4.lt
  have hgb:g≠b:=fun e=>by
    obtain ⟨cs,t,fr,hk,_⟩:=hS.kind
    obtain ⟨D,⟨es,clock,hb,_⟩,_⟩:=b4
    rw [← e,hk] at hb
    cases hb
  obtain ⟨w',r1,r2,r3⟩:=b4.store (v:=u) (by omega) hp (by omega) (by omega)
  obtain ⟨s1,s2,s3⟩:=PINS.turn hS h4 b1 (by omega) b2 hgb r3 (Nat.succ_le_succ b3) r2
  exact ⟨w',b4.look hp,r1,s1,s2,fun _=>s3⟩
end Go.Proofs.YtnmalbngdhjhjaaGreatDoor.HX

namespace Go.Proofs.YtnmalbngdhjhjaaGreatDoor.HX
open Go.RowKit Go.Maps
set_option maxRecDepth 100000
theorem z3O {g:Nat} {t:TypeId} {fr:Nat × Nat}:∀ (vs:List Value) (o:Nat) (w:World) (cur:Array Value),w.heap[g]?=some (.cells cur t fr)→∃ cur',(w.setCells g o vs).heap[g]?=some (.cells cur' t fr)∧cur'.size=cur.size∧∀ j,j<cur.size→cur'[j]?=if o≤j∧j<o+vs.length then vs[j - o]? else cur[j]?
  | [],o,w,cur,h=>⟨cur,h,rfl,fun j _=>by rw [if_neg (by simp)]⟩
  | v :: vs,o,w,cur,h=>by
    have h1:(w.setCell ⟨g,o,none⟩ v).heap[g]?=some (.cells (cur.setIfInBounds o v) t fr):=by simp [World.setCell,Array.getElem?_modify,h]
    obtain ⟨cur',a,b,c⟩:=z3O vs (o+1) _ _ h1
    refine ⟨cur',a,by rw [b];simp,fun j hj=>?_⟩
    rw [c j (by simpa using hj)]
    by_cases e1:o=j
    · subst e1
      rw [if_neg (by omega),if_pos (by simp),Nat.sub_self,Array.getElem?_setIfInBounds_self_of_lt hj]
      rfl
    · rw [Array.getElem?_setIfInBounds_ne e1]
      by_cases e2:o+1≤j∧j<o+1+vs.length
      · rw [if_pos e2,if_pos (by simp;omega),show j - o=(j - (o+1))+1 by omega,List.getElem?_cons_succ]
      · rw [if_neg e2,if_neg (by simp;omega)]
theorem zdN {cur cur1 cur2:Array Value} {xs zs:List Value} {a s c:Nat} (hx:cur.toList.take (c+s)=xs) (hac:a≤c) (hsz:c+s≤cur.size) (z1:cur1.size=cur.size) (z2:cur2.size=cur1.size)
    (h1:∀ j,j<cur.size→cur1[j]?=if a≤j∧j<a+(xs.drop (a+s)).length then (xs.drop (a+s))[j - a]? else cur[j]?) (h2:∀ j,j<cur1.size→cur2[j]?=if c≤j∧j<c+zs.length then zs[j - c]? else cur1[j]?):cur2.toList.take c=xs.take a ++ xs.drop (a+s):=by
  have hl:xs.length=c+s:=by rw [← hx];simp;omega
  have hd:(xs.drop (a+s)).length=c - a:=by simp;omega
  have hxj:∀ j,j<c+s→xs[j]?=cur[j]?:=fun j hj=>by rw [← hx,List.getElem?_take,if_pos hj,Array.getElem?_toList]
  apply List.ext_getElem?
  intro j
  by_cases hj:j<c
  · rw [List.getElem?_take,if_pos hj,Array.getElem?_toList,h2 j (by omega),if_neg (by omega),h1 j (by omega),hd]
    by_cases e:j<a
    · rw [if_neg (by omega),List.getElem?_append_left (by simp;omega),List.getElem?_take,if_pos e,hxj j (by omega)]
    · rw [if_pos (by omega),List.getElem?_append_right (by simp;omega)]
      congr 1
      simp
      omega
  · rw [List.getElem?_eq_none (by simp;omega),List.getElem?_eq_none (by simp;omega)]
theorem z50 {w:World} {B g n cap i s c:Nat} {t:TypeId} {xs zs:List Value} (h:w.ownsRow B t s (.slice (some ⟨g,0,none⟩) n cap) n xs) (hi:i<n) (hc:(n - 1)*s=c):
    ((w.setCells g (i*s) (xs.drop (i*s+s))).setCells g c zs).ownsRow B t s (.slice (some ⟨g,0,none⟩) (n - 1) cap) (n - 1) (xs.take (i*s) ++ xs.drop (i*s+s)):=by
  obtain ⟨hl,h | ⟨g',cap',cur,e,hB,hg,hn,hm,hz,hx⟩⟩:=h
  · obtain ⟨h,_⟩:=h;cases h
  · cases e
    have hcs:n*s=c+s:=by rw [← hc,← Nat.succ_mul];congr 1;omega
    have hac:i*s≤c:=by rw [← hc];exact Nat.mul_le_mul_right _ (by omega)
    have hcap:c+s≤cap*s:=by rw [← hcs];exact Nat.mul_le_mul_right _ hn
    obtain ⟨cur1,a1,a2,a3⟩:=z3O (xs.drop (i*s+s)) (i*s) w cur hg
    obtain ⟨cur2,b1,b2,b3⟩:=z3O zs c _ cur1 a1
    have hD:=zdN (zs:=zs) (by rw [← hcs];exact hx) hac (by rw [hz];exact hcap) a2 b2 a3 b3
    refine ⟨?_,.inr ⟨g,cap,cur2,rfl,hB,b1,by omega,hm,by rw [b2,a2,hz],?_⟩⟩
    · rw [hc]
      simp
      omega
    · rw [hc]
      exact hD
theorem z3P {w:World} {B g n cap s:Nat} {t:TypeId} {xs:List Value} (h:w.ownsRow B t s (.slice (some ⟨g,0,none⟩) n cap) n xs):(∀ j,j<cap*s→(w.cell? ⟨g,j,none⟩).isSome=true∧w.frozen? ⟨g,j,none⟩=false)∧(∀ j u,xs[j]?=some u→w.cell? ⟨g,j,none⟩=some u)∧n≤cap∧cap≤maxLen∧g<w.heap.size∧B≤g:=by
  obtain ⟨hl,h | ⟨g',cap',cur,e,hB,hg,hn,hm,hz,hx⟩⟩:=h
  · obtain ⟨h,_⟩:=h;cases h
  · cases e
    have hc:∀ j,w.cell? ⟨g,j,none⟩=cur[j]?:=fun j=>cell_of_row w g j cur t _ hg
    refine ⟨fun j hj=>⟨by rw [hc,Array.getElem?_eq_getElem (by omega)];rfl,by simp [World.frozen?,hg]⟩,fun j u hu=>?_,hn,hm,(Array.getElem?_eq_some_iff.1 hg).1,hB⟩
    rw [hc,← hu,← hx,List.getElem?_take,Array.getElem?_toList]
    have:j<n*s:=by
      have:=(List.getElem?_eq_some_iff.1 hu).1
      omega
    rw [if_pos this]
theorem z24 (g:Nat):∀ (vs:List Value) (o:Nat) (w:World) (x:Nat),x≠g→(w.setCells g o vs).heap[x]?=w.heap[x]?
  | [],_,_,_,_=>rfl
  | v :: vs,o,w,x,h=>(z24 g vs (o+1) _ x h).trans (Below.heap_setCell _ _ _ x (by exact h))
theorem z70 {P:Program} (w:World) (t e ty:TypeId) (z:Value) (zs:List Value) (ht:P.underlying t=some (.slice e)) (hv:∀ w,(zeroValue e).run P w=.ok z w) (hz:(Builtin.zeroCells z.cells 1).toList=zs) (h1:∀ v∈zs,v.oneCell'=true) (b o c:Nat)
    (hc:∀ j,j<zs.length→(w.cell? ⟨b,o+j,none⟩).isSome=true) (hf:∀ j,j<zs.length→w.frozen? ⟨b,o+j,none⟩=false):
    (Builtin.clear_ #[t] ty #[.slice (some ⟨b,o,none⟩) 1 c]).run P w=.ok (.tuple #[]) (w.setCells b o zs):=by
  have hst:=run_storeCells_cells (P:=P) b o zs 0 w (by simpa using hc) (by simpa using hf) h1
  simp only [Nat.add_zero] at hst
  simp [Builtin.clear_,run_underlying ht,hv,hz,hst]
end Go.Proofs.YtnmalbngdhjhjaaGreatDoor.HX
