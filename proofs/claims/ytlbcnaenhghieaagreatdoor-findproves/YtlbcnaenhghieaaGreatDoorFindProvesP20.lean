/- FindProves: part 20. -/
import Derived.Deep.RegionLaw
import Derived.Test.YtlbcnaenhghieaaGreatDoorFindProvesP19
set_option maxHeartbeats 2000000
namespace Go.Proofs.YtlbcnaenhghieaaGreatDoor.HX
open Go.RowKit Go.Maps
set_option maxRecDepth 100000
theorem lawPin:Keyed Tryz.prog 36:=int_keyed Tryz.underlying36
abbrev PK (p:Nat):Lit:=.int .u64 (p:Int)
theorem zi0 {p:Nat} (hp:p<2 ^ 64):(PK p).wf=true:=WalkArith.wf_u64 (by omega)
theorem z4Y {p:Nat} (hp:p<2 ^ 64):keyOf Tryz.prog 36 (.int .u64 (p:Int))=some (PK p):=keyOf_int_mk Tryz.underlying36 (zi0 hp)
theorem zgx (w:World):(zeroValue 3).run Tryz.prog w=.ok (.int .i64 0) w:=by kernel_rfl
abbrev ID (n:Nat):DataW Unit:=.lit (.int .i64 (n:Int))
def PinMap (w:World) (b n:Nat) (P:Nat->Nat):Prop:=∃ D:DataW Unit,w.ownsMap Tryz.prog 36 (plainElem Tryz.prog 3) b n D/\∀ p,p<2 ^ 64->(Maps.has D (PK p)=true↔P p≠0)/\D.atKey (PK p) (ID 0)=ID (P p)
theorem PinMap.made (w:World):PinMap (w.alloc (.map #[] 0)) w.heap.size 0 (fun _=>0):=⟨_,World.ownsMap_made w _ _ _,fun p _=>⟨by simp [Maps.has],Maps.atKey_of_not_has (D:=DataW.map []) (k:=PK p) (by simp [Maps.has]) _⟩⟩
theorem PinMap.lt {w:World} {b n:Nat} {P:Nat->Nat} (h:PinMap w b n P):b<w.heap.size:=let ⟨_,h1,_⟩:=h;h1.lt
theorem PinMap.at {w w':World} {b n:Nat} {P:Nat->Nat} (h:PinMap w b n P) (hb:w'.heap[b]?=w.heap[b]?):PinMap w' b n P:=by
 obtain ⟨D,⟨es,clock,h1,r⟩,h2⟩:=h;exact ⟨D,⟨es,clock,hb.trans h1,r⟩,h2⟩
theorem PinMap.look {w:World} {b n p:Nat} {P:Nat->Nat} (h:PinMap w b n P) (hp:p<2 ^ 64):(Instr.lookup 61 (.map (some b)) (.int .u64 (p:Int)) false).run Tryz.prog w=.ok (.int .i64 ((P p:Nat):Int)) w:=by
 obtain ⟨D,h1,h2⟩:=h;obtain ⟨c,r1,r2,_⟩:=h1.lookup_int lawPin Tryz.underlying61 Tryz.underlying3 (zgx w) (z4Y hp);have:=(h2 p hp).2;rw [show (ID 0:DataW Unit)=.lit (.int .i64 0) from rfl,r2] at this;simp at this;rw [r1,this]
theorem z9M {p:Nat} (hp:p<2 ^ 64) (w:World):(Instr.lookup 61 (.map none) (.int .u64 (p:Int)) false).run Tryz.prog w=.ok (.int .i64 0) w:=by
 have hc:=lawPin.check w true (z4Y hp);rcases lawPin.find w (z4Y hp) [] (fun e he=>by cases he) with ⟨hf,_⟩ | ⟨j,e,_,he,_⟩
 ·simp [Instr.lookup,run_underlying Tryz.underlying61,hc,hf]
 ·simp at he
theorem PinMap.store {w:World} {b n p v:Nat} {P:Nat->Nat} (h:PinMap w b n P) (hn:n<2 ^ 40) (hp:p<2 ^ 64) (hv:v<2 ^ 62) (hv0:v≠0):∃ w',(Instr.mapUpdate 61 (.map (some b)) (.int .u64 (p:Int)) (.int .i64 (v:Int))).run Tryz.prog w=.ok () w'/\PinMap w' b (n+1) (fun j=>if j=p then v else P j)/\w.grownBy w' (some b):=by
 obtain ⟨D,h1,h2⟩:=h;obtain ⟨w',r1,r2,r3⟩:=h1.update lawPin Tryz.underlying61 (by unfold maxLen;omega) (z4Y hp) (plainElem_int Tryz.underlying3 (WalkArith.wf_i64 (n:=(v:Int)) (by omega)));refine ⟨w',r1,⟨_,r2,fun j hj=>?_⟩,r3⟩;dsimp only;have hkey:WideAt.IsKeyLit (PK p):=lawPin.key (z4Y hp);by_cases e:j=p
 ·subst e
  rw [if_pos rfl];exact ⟨⟨fun _=>hv0,fun _=>Maps.has_put_same h1.isMap hkey _⟩,by rw [Maps.atKey_put_same h1.isMap hkey]⟩
 ·have hne:PK j≠PK p:=fun h=>e (by simp at h;omega)
  rw [if_neg e,Maps.has_put_other hne,Maps.atKey_put_other hne];exact h2 j hj
theorem PinMap.drop {w:World} {b n p:Nat} {P:Nat->Nat} (h:PinMap w b n P) (hp:p<2 ^ 64) (ty:TypeId):∃ w',(Builtin.delete_ #[61,36] ty #[.map (some b),.int .u64 (p:Int)]).run Tryz.prog w=.ok (.tuple #[]) w'/\PinMap w' b n (fun j=>if j=p then 0 else P j)/\w.mapTurned w' b:=by
 obtain ⟨D,h1,h2⟩:=h;obtain ⟨w',r1,r2,r3⟩:=h1.drop lawPin Tryz.underlying61 (z4Y hp) ty;refine ⟨w',r1,⟨_,r2,fun j hj=>?_⟩,r3⟩;dsimp only;by_cases e:j=p
 ·subst e
  rw [if_pos rfl];exact ⟨by rw [Maps.has_del_same];simp,by rw [Maps.atKey_del_same]⟩
 ·have hne:PK j≠PK p:=fun h=>e (by simp at h;omega)
  rw [if_neg e,Maps.has_del_other hne,Maps.atKey_del_other hne];exact h2 j hj
structure PINS (w:World) (B g n:Nat) (C:z01) (P:Nat->Nat):Prop where
 map:∃ mv,w.cell? ⟨g,4,none⟩=some (.map mv)/\(mv=none->∀ p,P p=0)/\∀ b,mv=some b->B<=b/\¬ FOOT w g C b/\∃ m,m<=n/\PinMap w b m P
theorem PINS.step {w w':World} {B g n:Nat} {C C':z01} {P:Nat->Nat} (h:PINS w B g n C P) (hs:STEP w w' g C C') (hg:∃ cs t fr,w.heap[g]?=some (.cells cs t fr)):PINS w' B g n C' P:=by
 obtain ⟨mv,h1,h2,h3⟩:=h.map;refine ⟨⟨mv,(hs.pins 4 (by decide)).trans h1,h2,fun b e=>?_⟩⟩;obtain ⟨c1,c2,m,c3,c4⟩:=h3 b e
 have hbg:b≠g:=fun e=>by
  obtain ⟨cs,t,fr,hk⟩:=hg;obtain ⟨D,⟨es,clock,hb,_⟩,_⟩:=c4;rw [e,hk] at hb;cases hb
 refine ⟨c1,fun hf=>?_,m,c3,c4.at (hs.same b c4.lt hbg c2)⟩;rcases hs.foot b hf with h | h
 ·exact c2 h
 ·have:=c4.lt
  omega
theorem PINS.look {w:World} {B g n:Nat} {C:z01} {P:Nat->Nat} (h:PINS w B g n C P) (p:Nat) (hp:p<2 ^ 64):∃ mv,w.cell? ⟨g,4,none⟩=some mv/\(Instr.lookup 61 mv (.int .u64 (p:Int)) false).run Tryz.prog w=.ok (.int .i64 ((P p:Nat):Int)) w:=by
 obtain ⟨mv,h1,h2,h3⟩:=h.map;cases mv with
 | none=>exact ⟨_,h1,by rw [h2 rfl p];exact z9M hp w⟩
 | some b=>
   obtain ⟨_,_,m,_,c4⟩:=h3 b rfl;exact ⟨_,h1,c4.look hp⟩
end Go.Proofs.YtlbcnaenhghieaaGreatDoor.HX
namespace Go.Proofs.YtlbcnaenhghieaaGreatDoor.HX
open Go.RowKit
set_option maxRecDepth 100000
theorem STORE.same {w w':World} {B g log len alive N b:Nat} {C:z01} (hS:STORE w B g log len alive N C) (hblk:∀ x,x<w.heap.size->x≠b->w'.heap[x]?=w.heap[x]?) (hb:¬ FOOT w g C b) (hbg:g≠b):STORE w' B g log len alive N C/\(∀ x,FOOT w' g C x->FOOT w g C x)/\∀ i,w'.cell? ⟨g,i,none⟩=w.cell? ⟨g,i,none⟩:=by
 have hg:w'.heap[g]?=w.heap[g]?:=hblk g hS.lt hbg;have cell:∀ i,w'.cell? ⟨g,i,none⟩=w.cell? ⟨g,i,none⟩:=fun i=>World.cell?_of_block (w:=w) (by exact hg);have hlt:∀ {b':Nat} {o:Obj},w.heap[b']?=some o->b'<w.heap.size:=fun h=>(Array.getElem?_eq_some_iff.1 h).1
 have hch:∀ k gc rk,C k=some (gc,rk)->w'.heap[gc]?=w.heap[gc]?/\(∀ v x,w.cell? ⟨gc,0,none⟩=some v->v.ownBlock=some x->w'.heap[x]?=w.heap[x]?)/\∀ r∈rk,w'.heap[r.gh]?=w.heap[r.gh]?:=fun k gc rk e=>by
  obtain ⟨⟨_,z1⟩,z2,z3⟩:=(hS.chunk k gc rk e).2.1.kinds;refine ⟨hblk _ (hlt z1) (fun h=>hb (.inr ⟨k,gc,rk,e,.inl h.symm⟩)),fun v x hv hx=>?_,fun r hr=>?_⟩
  ·obtain ⟨_,hc⟩:=z2 v x hv hx
   exact hblk _ (hlt hc) (fun h=>hb (.inr ⟨k,gc,rk,e,.inr (.inl ⟨v,hv,by rw [<-h];exact hx⟩)⟩))
  ·obtain ⟨_,hc⟩:=z3 r hr
   exact hblk _ (hlt hc) (fun h=>hb (.inr ⟨k,gc,rk,e,.inr (.inr ⟨r,hr,h⟩)⟩))
 have hcc:∀ k gc rk,C k=some (gc,rk)->w'.cell? ⟨gc,0,none⟩=w.cell? ⟨gc,0,none⟩:=fun k gc rk e=>World.cell?_of_block (w:=w) (by exact (hch k gc rk e).1);refine ⟨⟨hS.small,hS.short,(cell 0).trans hS.c0,(cell 1).trans hS.c1,(cell 2).trans hS.c2,fun i hi=>?_,?_,?_,?_,?_⟩,fun x h=>?_,cell⟩
 ·have:=hS.live i hi
  unfold World.frozen? at this ⊢;rw [show w'.heap[g]?=w.heap[g]? from hg];exact this
 ·obtain ⟨cs,t,fr,k1,k2⟩:=hS.kind
  exact ⟨cs,t,fr,hg.trans k1,k2⟩
 ·obtain ⟨mv,m1,m2,m3⟩:=hS.map
  refine ⟨mv,(cell 3).trans m1,m2,fun x e=>?_⟩;obtain ⟨c1,n,c2,c3⟩:=m3 x e;refine ⟨c1,n,c2,c3.at (hblk x c3.lt (fun h=>hb (.inl (by rw [m1,e,h]))))⟩
 ·intro k gc rk e
  obtain ⟨b1,b2,b3⟩:=hS.chunk k gc rk e;obtain ⟨d1,d2,d3⟩:=hch k gc rk e;exact ⟨b1,b2.at d1 d2 d3,b3⟩
 ·intro k k' gc gc' rs rs' hne e e'
  obtain ⟨o1,o2,o3⟩:=hS.one k k' gc gc' rs rs' hne e e';exact ⟨o1,o2,fun v v' hv hv'=>o3 v v' (by rw [<-hcc k gc rs e];exact hv) (by rw [<-hcc k' gc' rs' e'];exact hv')⟩
 ·rcases h with h | ⟨k,gc,rs,e,h⟩
  ·left;rw [<-cell 3];exact h
  ·refine .inr ⟨k,gc,rs,e,?_⟩
   rcases h with h | ⟨v,hv,h⟩ | h
   ·exact .inl h
   ·exact .inr (.inl ⟨v,by rw [<-hcc k gc rs e];exact hv,h⟩)
   ·exact .inr (.inr h)
end Go.Proofs.YtlbcnaenhghieaaGreatDoor.HX
namespace Go.Proofs.YtlbcnaenhghieaaGreatDoor.HX
open Go.RowKit Go.Maps
set_option maxRecDepth 100000
theorem PINS.turn {w w':World} {B g log len alive N n m b:Nat} {C:z01} {P':Nat->Nat} (hS:STORE w B g log len alive N C) (h4:w.cell? ⟨g,4,none⟩=some (.map (some b))) (hB:B<=b) (hBw:B<=w.heap.size) (hf:¬ FOOT w g C b) (hg:g≠b) (gw:w.grownBy w' (some b)) (hm:m<=n) (hP:PinMap w' b m P'):STORE w' B g log len alive N C/\PINS w' B g n C P'/\Below B w w':=by
 have hblk:∀ x,x<w.heap.size->x≠b->w'.heap[x]?=w.heap[x]?:=fun x hx hxb=>gw.block x hx (fun e=>hxb (by cases e;rfl));obtain ⟨s1,s2,s3⟩:=hS.same hblk hf hg;refine ⟨s1,⟨⟨some b,(s3 4).trans h4,(fun e=>by cases e),fun x e=>?_⟩⟩,(Below.refl B w).grown gw hBw (fun x e=>by cases e;exact hB)⟩;cases e;exact ⟨hB,fun h=>hf (s2 b h),m,hm,hP⟩
theorem PINS.more {w:World} {B g n n':Nat} {C:z01} {P:Nat->Nat} (h:PINS w B g n C P) (hn:n<=n'):PINS w B g n' C P:=by
 obtain ⟨mv,a,b,c⟩:=h.map;exact ⟨⟨mv,a,b,fun x e=>by obtain ⟨d1,d2,m,d3,d4⟩:=c x e;exact ⟨d1,d2,m,by omega,d4⟩⟩⟩
theorem STORE.pinned {w:World} {B g log len alive N:Nat} {C:z01} (hS:STORE w B g log len alive N C) (mv:Option Nat):STORE (w.setCell ⟨g,4,none⟩ (.map mv)) B g log len alive N C/\(∀ x,FOOT (w.setCell ⟨g,4,none⟩ (.map mv)) g C x->FOOT w g C x):=by
 obtain ⟨cs,t,fr,k1,k2,k3,k4⟩:=hS.kind;obtain ⟨w2,hw2⟩:∃ w2,w.setCell ⟨g,4,none⟩ (.map mv)=w2:=⟨_,rfl⟩
 rw [hw2];have hset:∀ b,b≠g->w2.heap[b]?=w.heap[b]?:=fun b hb=>by rw [<-hw2];exact Below.heap_setCell _ _ _ b (by exact hb)
 have cell:∀ i,i≠4->w2.cell? ⟨g,i,none⟩=w.cell? ⟨g,i,none⟩:=fun i hi=>by rw [<-hw2,z1N (fun e=>hi e.symm)]
 have hch:∀ k gc rk,C k=some (gc,rk)->gc≠g/\(∀ v x,w.cell? ⟨gc,0,none⟩=some v->v.ownBlock=some x->x≠g)/\∀ r∈rk,r.gh≠g:=fun k gc rk e=>by
  obtain ⟨⟨_,z1⟩,z2,z3⟩:=(hS.chunk k gc rk e).2.1.kinds;refine ⟨fun e=>z09 k1 z1 k2 e.symm,fun v x hv hx=>?_,fun r hr=>?_⟩
  ·obtain ⟨_,hc⟩:=z2 v x hv hx
   exact fun e=>z09 k1 hc k3 e.symm
  ·obtain ⟨_,hc⟩:=z3 r hr
   exact fun e=>z09 k1 hc k4 e.symm
 have hcc:∀ k gc rk,C k=some (gc,rk)->w2.cell? ⟨gc,0,none⟩=w.cell? ⟨gc,0,none⟩:=fun k gc rk e=>World.cell?_of_block (w:=w) (by exact hset gc (hch k gc rk e).1);refine ⟨⟨hS.small,hS.short,(cell 0 (by decide)).trans hS.c0,(cell 1 (by decide)).trans hS.c1,(cell 2 (by decide)).trans hS.c2,fun i hi=>?_,?_,?_,?_,?_⟩,?_⟩
 ·rw [<-hw2,World.frozen?_setCell]
  exact hS.live i hi
 ·obtain ⟨cs',h1⟩:=z2m (i:=4) k1 (.map mv)
  exact ⟨cs',t,fr,by rw [<-hw2];exact h1,k2,k3,k4⟩
 ·obtain ⟨mw,m1,m2,m3⟩:=hS.map
  refine ⟨mw,(cell 3 (by decide)).trans m1,m2,fun b e=>?_⟩;obtain ⟨c1,n,c2,c3⟩:=m3 b e;refine ⟨c1,n,c2,c3.at (hset b (fun e=>?_))⟩;obtain ⟨D,⟨es,clock,h1,_⟩,_⟩:=c3;rw [e,k1] at h1;cases h1
 ·intro k gc rk e
  obtain ⟨b1,b2,b3⟩:=hS.chunk k gc rk e;obtain ⟨d1,d2,d3⟩:=hch k gc rk e;exact ⟨b1,b2.at (hset _ d1) (fun v x hv hx=>hset _ (d2 v x hv hx)) (fun r hr=>hset _ (d3 r hr)),b3⟩
 ·intro k k' gc gc' rs rs' hne e e'
  obtain ⟨o1,o2,o3⟩:=hS.one k k' gc gc' rs rs' hne e e';exact ⟨o1,o2,fun v v' hv hv'=>o3 v v' (by rw [<-hcc k gc rs e];exact hv) (by rw [<-hcc k' gc' rs' e'];exact hv')⟩
 ·intro b h
  rcases h with h | ⟨k,gc,rs,e,h⟩
  ·left;rw [<-cell 3 (by decide)];exact h
  ·refine .inr ⟨k,gc,rs,e,?_⟩
   rcases h with h | ⟨v,hv,h⟩ | h
   ·exact .inl h
   ·exact .inr (.inl ⟨v,by rw [<-hcc k gc rs e];exact hv,h⟩)
   ·exact .inr (.inr h)
theorem PINS.below {w w':World} {B g log len alive N n:Nat} {C:z01} {P:Nat->Nat} (h:PINS w B g n C P) (hS:STORE w B g log len alive N C) (hb:Below w.heap.size w w'):PINS w' B g n C P:=by
 obtain ⟨cs,t,fr,k1,_⟩:=hS.kind;exact h.step (STEP.below hS hb) ⟨cs,t,fr,k1⟩
theorem PINS.mapped {w:World} {B g log len alive N n:Nat} {C:z01} {P:Nat->Nat} (hP:PINS w B g n C P) (hS:STORE w B g log len alive N C) (hm:w.cell? ⟨g,4,none⟩=some (.map none)) (hB:B<=w.heap.size) (hBg:B<=g) {w2:World} (hw2:(w.alloc (.map #[] 0)).setCell ⟨g,4,none⟩ (.map (some w.heap.size))=w2):
  STORE w2 B g log len alive N C/\PINS w2 B g n C P/\w2.cell? ⟨g,4,none⟩=some (.map (some w.heap.size))/\Below B w w2:=by
 obtain ⟨mv,m1,m2,m3⟩:=hP.map;rw [hm] at m1;have hmv:mv=none:=by cases Option.some.inj m1;rfl
 have hP0:P=fun _=>0:=funext (m2 hmv);have hg:=hS.lt;have hb:Below w.heap.size w (w.alloc (.map #[] 0)):=(Below.refl _ _).alloc (Nat.le_refl _) _;have hS1:=hS.below hb;obtain ⟨s1,s2⟩:=hS1.pinned (some w.heap.size);have c4:((w.alloc (.map #[] 0)).setCell ⟨g,4,none⟩ (.map (some w.heap.size))).cell? ⟨g,4,none⟩=some (.map (some w.heap.size)):=World.cell?_setCell_same _ _ _ ((hb.cell (by exact hg)).trans hm)
 have hf:¬ FOOT (w.alloc (.map #[] 0)) g C w.heap.size:=fun h=>by
  rcases h with h | ⟨k,gc,rs,e,h⟩
  ·rw [hb.cell (by exact hg)] at h
   obtain ⟨mw,n1,_,n3⟩:=hS.map;rw [n1] at h;have h2:=Option.some.inj h;cases h2;obtain ⟨_,_,_,c3⟩:=n3 _ rfl;have:=c3.lt;omega
  ·obtain ⟨⟨_,z1⟩,z2,z3⟩:=(hS.chunk k gc rs e).2.1.kinds
   have hlt:∀ {b':Nat} {o:Obj},w.heap[b']?=some o->b'<w.heap.size:=fun h=>(Array.getElem?_eq_some_iff.1 h).1;rcases h with h | ⟨v,hv,h⟩ | ⟨r,hr,h⟩
   ·have:=hlt z1;omega
   ·rw [hb.cell (by exact hlt z1)] at hv
    obtain ⟨_,hc⟩:=z2 v _ hv h;have:=hlt hc;omega
   ·obtain ⟨_,hc⟩:=z3 r hr
    have:=hlt hc;omega
 rw [hw2] at s1 s2 c4;refine ⟨s1,⟨⟨_,c4,(fun e=>by cases e),fun b e=>?_⟩⟩,c4,by rw [<-hw2];exact (hb.mono hB).setCell (p:=⟨g,4,none⟩) hBg _⟩;cases e;refine ⟨hB,fun h=>hf (s2 _ h),0,Nat.zero_le _,?_⟩;rw [hP0];refine (PinMap.made w).at ?_;rw [<-hw2];exact Below.heap_setCell _ _ _ _ (by show w.heap.size≠g;omega)
theorem PINS.add {w:World} {B g log len alive N n b:Nat} {C:z01} {P:Nat->Nat} (hP:PINS w B g n C P) (hS:STORE w B g log len alive N C) (h4:w.cell? ⟨g,4,none⟩=some (.map (some b))) (p u:Nat) (hp:p<2 ^ 64) (hn:n<2 ^ 40) (hu:P p+1=u) (hv:u<2 ^ 40):∃ w',(Instr.lookup 61 (.map (some b)) (.int .u64 (p:Int)) false).run Tryz.prog w=.ok (.int .i64 ((P p:Nat):Int)) w/\(Instr.mapUpdate 61 (.map (some b)) (.int .u64 (p:Int)) (.int .i64 (u:Int))).run Tryz.prog w=.ok () w'/\STORE w' B g log len alive N C/\PINS w' B g (n+1) C (fun j=>if j=p then u else P j)/\(B<=w.heap.size->Below B w w'):=by
 obtain ⟨mb,m1,m2,m3⟩:=hP.map;rw [h4] at m1;have hmb:mb=some b:=by cases Option.some.inj m1;rfl
 subst hmb;obtain ⟨b1,b2,m,b3,b4⟩:=m3 b rfl;have hbl:=b4.lt
 have hgb:g≠b:=fun e=>by
  obtain ⟨cs,t,fr,hk,_⟩:=hS.kind;obtain ⟨D,⟨es,clock,hb,_⟩,_⟩:=b4;rw [<-e,hk] at hb;cases hb
 obtain ⟨w',r1,r2,r3⟩:=b4.store (v:=u) (by omega) hp (by omega) (by omega);obtain ⟨s1,s2,s3⟩:=PINS.turn hS h4 b1 (by omega) b2 hgb r3 (Nat.succ_le_succ b3) r2;exact ⟨w',b4.look hp,r1,s1,s2,fun _=>s3⟩
theorem z3Y {g:Nat} {t:TypeId} {fr:Nat × Nat}:∀ (vs:List Value) (o:Nat) (w:World) (cur:Array Value),w.heap[g]?=some (.cells cur t fr)->∃ cur',(w.setCells g o vs).heap[g]?=some (.cells cur' t fr)/\cur'.size=cur.size/\∀ j,j<cur.size->cur'[j]?=if o<=j/\j<o+vs.length then vs[j - o]? else cur[j]?
 | [],o,w,cur,h=>⟨cur,h,rfl,fun j _=>by rw [if_neg (by simp)]⟩
 | v :: vs,o,w,cur,h=>by
   have h1:(w.setCell ⟨g,o,none⟩ v).heap[g]?=some (.cells (cur.setIfInBounds o v) t fr):=by simp [World.setCell,Array.getElem?_modify,h]
   obtain ⟨cur',a,b,c⟩:=z3Y vs (o+1) _ _ h1;refine ⟨cur',a,by rw [b];simp,fun j hj=>?_⟩;rw [c j (by simpa using hj)];by_cases e1:o=j
   ·subst e1
    rw [if_neg (by omega),if_pos (by simp),Nat.sub_self,Array.getElem?_setIfInBounds_self_of_lt hj];rfl
   ·rw [Array.getElem?_setIfInBounds_ne e1]
    by_cases e2:o+1<=j/\j<o+1+vs.length
    ·rw [if_pos e2,if_pos (by simp;omega),show j - o=(j - (o+1))+1 by omega,List.getElem?_cons_succ]
    ·rw [if_neg e2,if_neg (by simp;omega)]
theorem zf6 {cur cur1 cur2:Array Value} {xs zs:List Value} {a s c:Nat} (hx:cur.toList.take (c+s)=xs) (hac:a<=c) (hsz:c+s<=cur.size) (z1:cur1.size=cur.size) (z2:cur2.size=cur1.size)
  (h1:∀ j,j<cur.size->cur1[j]?=if a<=j/\j<a+(xs.drop (a+s)).length then (xs.drop (a+s))[j - a]? else cur[j]?) (h2:∀ j,j<cur1.size->cur2[j]?=if c<=j/\j<c+zs.length then zs[j - c]? else cur1[j]?):cur2.toList.take c=xs.take a ++ xs.drop (a+s):=by
 have hl:xs.length=c+s:=by rw [<-hx];simp;omega
 have hd:(xs.drop (a+s)).length=c - a:=by simp;omega
 have hxj:∀ j,j<c+s->xs[j]?=cur[j]?:=fun j hj=>by rw [<-hx,List.getElem?_take,if_pos hj,Array.getElem?_toList]
 apply List.ext_getElem?;intro j;by_cases hj:j<c
 ·rw [List.getElem?_take,if_pos hj,Array.getElem?_toList,h2 j (by omega),if_neg (by omega),h1 j (by omega),hd]
  by_cases e:j<a
  ·rw [if_neg (by omega),List.getElem?_append_left (by simp;omega),List.getElem?_take,if_pos e,hxj j (by omega)]
  ·rw [if_pos (by omega),List.getElem?_append_right (by simp;omega)]
   congr 1
   simp;omega
 ·rw [List.getElem?_eq_none (by simp;omega),List.getElem?_eq_none (by simp;omega)]
theorem z5b {w:World} {B g n cap i s c:Nat} {t:TypeId} {xs zs:List Value} (h:w.ownsRow B t s (.slice (some ⟨g,0,none⟩) n cap) n xs) (hi:i<n) (hc:(n - 1)*s=c):
  ((w.setCells g (i*s) (xs.drop (i*s+s))).setCells g c zs).ownsRow B t s (.slice (some ⟨g,0,none⟩) (n - 1) cap) (n - 1) (xs.take (i*s) ++ xs.drop (i*s+s)):=by
 obtain ⟨hl,h | ⟨g',cap',cur,e,hB,hg,hn,hm,hz,hx⟩⟩:=h
 ·obtain ⟨h,_⟩:=h;cases h
 ·cases e
  have hcs:n*s=c+s:=by rw [<-hc,<-Nat.succ_mul];congr 1;omega
  have hac:i*s<=c:=by rw [<-hc];exact Nat.mul_le_mul_right _ (by omega)
  have hcap:c+s<=cap*s:=by rw [<-hcs];exact Nat.mul_le_mul_right _ hn
  obtain ⟨cur1,a1,a2,a3⟩:=z3Y (xs.drop (i*s+s)) (i*s) w cur hg;obtain ⟨cur2,b1,b2,b3⟩:=z3Y zs c _ cur1 a1;have hD:=zf6 (zs:=zs) (by rw [<-hcs];exact hx) hac (by rw [hz];exact hcap) a2 b2 a3 b3;refine ⟨?_,.inr ⟨g,cap,cur2,rfl,hB,b1,by omega,hm,by rw [b2,a2,hz],?_⟩⟩
  ·rw [hc]
   simp;omega
  ·rw [hc]
   exact hD
theorem z3Z {w:World} {B g n cap s:Nat} {t:TypeId} {xs:List Value} (h:w.ownsRow B t s (.slice (some ⟨g,0,none⟩) n cap) n xs):(∀ j,j<cap*s->(w.cell? ⟨g,j,none⟩).isSome=true/\w.frozen? ⟨g,j,none⟩=false)/\(∀ j u,xs[j]?=some u->w.cell? ⟨g,j,none⟩=some u)/\n<=cap/\cap<=maxLen/\g<w.heap.size/\B<=g:=by
 obtain ⟨hl,h | ⟨g',cap',cur,e,hB,hg,hn,hm,hz,hx⟩⟩:=h
 ·obtain ⟨h,_⟩:=h;cases h
 ·cases e
  have hc:∀ j,w.cell? ⟨g,j,none⟩=cur[j]?:=fun j=>cell_of_row w g j cur t _ hg;refine ⟨fun j hj=>⟨by rw [hc,Array.getElem?_eq_getElem (by omega)];rfl,by simp [World.frozen?,hg]⟩,fun j u hu=>?_,hn,hm,(Array.getElem?_eq_some_iff.1 hg).1,hB⟩;rw [hc,<-hu,<-hx,List.getElem?_take,Array.getElem?_toList]
  have:j<n*s:=by
   have:=(List.getElem?_eq_some_iff.1 hu).1;omega
  rw [if_pos this]
theorem z2b (g:Nat):∀ (vs:List Value) (o:Nat) (w:World) (x:Nat),x≠g->(w.setCells g o vs).heap[x]?=w.heap[x]?
 | [],_,_,_,_=>rfl
 | v :: vs,o,w,x,h=>(z2b g vs (o+1) _ x h).trans (Below.heap_setCell _ _ _ x (by exact h))
theorem z7o {P:Program} (w:World) (t e ty:TypeId) (z:Value) (zs:List Value) (ht:P.underlying t=some (.slice e)) (hv:∀ w,(zeroValue e).run P w=.ok z w) (hz:(Builtin.zeroCells z.cells 1).toList=zs) (h1:∀ v∈zs,v.oneCell'=true) (b o c:Nat)
  (hc:∀ j,j<zs.length->(w.cell? ⟨b,o+j,none⟩).isSome=true) (hf:∀ j,j<zs.length->w.frozen? ⟨b,o+j,none⟩=false):
  (Builtin.clear_ #[t] ty #[.slice (some ⟨b,o,none⟩) 1 c]).run P w=.ok (.tuple #[]) (w.setCells b o zs):=by
 have hst:=run_storeCells_cells (P:=P) b o zs 0 w (by simpa using hc) (by simpa using hf) h1;simp only [Nat.add_zero] at hst;simp [Builtin.clear_,run_underlying ht,hv,hz,hst]
theorem zbP (B g n cap i i1 n1:Nat) (xs:List Value) (w:World) (hown:w.ownsRow B 25 32 (.slice (some ⟨g,0,none⟩) n cap) n xs) (hone:∀ u∈xs,u.oneCell'=true) (hi:i<n) (e1:i+1=i1) (e2:n - 1=n1):Calls Tryz.prog 77 #[.slice (some ⟨g,0,none⟩) n cap,.int .i64 (i:Int),.int .i64 (i1:Int)] w fun e w'=>
  e=.returned (.slice (some ⟨g,0,none⟩) n1 cap)/\w'.ownsRow B 25 32 (.slice (some ⟨g,0,none⟩) n1 cap) n1 (xs.take (i*32) ++ xs.drop (i1*32))/\(∀ x,x≠g->w'.heap[x]?=w.heap[x]?)/\Below B w w':=by
 obtain ⟨ti,hti,hz,hs1,hby⟩:=info_parts z3X;obtain ⟨oc,ov,on,om,olt,oB⟩:=z3Z hown;have hsz:∀ w:World,(sizeOf 25).run Tryz.prog w=.ok 32 w:=fun w=>by simp [sizeOf,typeInfo,hti,hs1]
 have hxl:=hown.1;have hmx:cap<=9223372036854775807:=by unfold maxLen at om;omega
 obtain ⟨X,hX⟩:∃ X,∀ w,(Instr.slice 22 (.slice (some ⟨g,0,none⟩) n cap) (some (.int .i64 (i:Int))) (some (.int .i64 (i1:Int))) (some (.int .i64 (n:Int)))).run Tryz.prog w=.ok X w:=⟨_,fun w=>(run_slice_lhm (P:=Tryz.prog) w 22 (some ⟨g,0,none⟩) n cap (by kernel_rfl) .i64 .i64 .i64 (i:Int) (i1:Int) (n:Int) (by omega) (by omega) (by omega) (by omega)).trans (by rw [show Tryz.prog.elem 22=25 from by kernel_rfl,hsz];rfl)⟩
 have hY:∀ w,(Instr.slice 22 (.slice (some ⟨g,0,none⟩) n cap) none (some (.int .i64 (i:Int))) none).run Tryz.prog w=.ok (.slice (some ⟨g,0,none⟩) i cap) w:=fun w=>(run_slice_h (P:=Tryz.prog) w 22 (some ⟨g,0,none⟩) n cap (by kernel_rfl) .i64 (i:Int) (by omega) (by omega)).trans (by rw [show Tryz.prog.elem 22=25 from by kernel_rfl,hsz];simp [Result.andThen,sliced,Addr.add])
 obtain ⟨A,hA,hZ⟩:∃ A,(∀ j u,(xs.drop (i1*32))[j]?=some u->w.cell? (A.add j)=some u)/\∀ w,(Instr.slice 22 (.slice (some ⟨g,0,none⟩) n cap) (some (.int .i64 (i1:Int))) none none).run Tryz.prog w=.ok (.slice (some A) (n - i1) (cap - i1)) w:=by
  refine ⟨if cap=i1 then ⟨g,0,none⟩ else ⟨g,i1*32,none⟩,fun j u hu=>?_,fun w=>(run_slice_l (P:=Tryz.prog) w 22 (some ⟨g,0,none⟩) n cap (by kernel_rfl) .i64 (i1:Int) (by omega) (by omega)).trans (by rw [show Tryz.prog.elem 22=25 from by kernel_rfl,hsz];simp [Result.andThen,sliced,Addr.add_mid];split <;> rfl)⟩;have hj:=(List.getElem?_eq_some_iff.1 hu).1;simp at hj;rw [if_neg (by omega),Addr.add_mid];rw [List.getElem?_drop] at hu;exact ov _ u hu
 have hC:∀ w,(Instr.slice 22 (.slice (some ⟨g,0,none⟩) n1 cap) (some (.int .i64 (n1:Int))) (some (.int .i64 (n:Int))) none).run Tryz.prog w=.ok (.slice (some ⟨g,n1*32,none⟩) 1 (cap - n1)) w:=fun w=>(run_slice_lh (P:=Tryz.prog) w 22 (some ⟨g,0,none⟩) n1 cap (by kernel_rfl) .i64 .i64 (n1:Int) (n:Int) (by omega) (by omega) (by omega)).trans (by rw [show Tryz.prog.elem 22=25 from by kernel_rfl,hsz];simp [Result.andThen,sliced,Addr.add_mid];exact ⟨fun h=>absurd h (by omega),by omega⟩);have hsum:i+(n - i1)=n1:=by omega
 have hne:((i:Int) == (i1:Int))=false:=by simp;omega
 have hns:=Nat.mul_le_mul_right 32 hi;have nl:(xs.drop (i1*32)).length=(n - i1)*32:=by simp;omega
 have H:Aside (w.ownsRow B 25 32 (.slice (some ⟨g,0,none⟩) n cap) n xs/\i<n/\i+1=i1/\n - 1=n1/\n<=cap/\B<=g):=⟨hown,hi,e1,e2,on,oB⟩
 have s1:Aside ((xs.drop (i1*32)).length=(n - i1)*32):=nl;have s2:Aside (∀ j u,(xs.drop (i1*32))[j]?=some u->w.cell? (A.add j)=some u):=hA;have s3:Aside (∀ u∈xs.drop (i1*32),u.oneCell'=true):=fun u hu=>hone u (List.mem_of_mem_drop hu);have s4:Aside (i+(n - i1)<=cap):=by show i+(n - i1)<=cap;omega
 have s5:Aside (∀ j,j<(xs.drop (i1*32)).length->(w.cell? ⟨g,0+i*32+j,none⟩).isSome=true/\w.frozen? ⟨g,0+i*32+j,none⟩=false):=fun j hj=>oc _ (by omega);obtain ⟨w1,hw1⟩:∃ w1,w.drew.setCells g (i*32) (xs.drop (i1*32))=w1:=⟨_,rfl⟩
 have hcl:∀ ty,(Builtin.clear_ #[22] ty #[.slice (some ⟨g,n1*32,none⟩) 1 (cap - n1)]).run Tryz.prog w1=.ok (.tuple #[]) (w1.setCells g (n1*32) (z05 .u8 32 fun _=>0)):=fun ty=>by
  refine z7o w1 22 25 ty (.agg (UARR .u8 32 fun _=>0)) (z05 .u8 32 fun _=>0) Tryz.underlying22 (fun w=>by simp [zeroValue,typeInfo,hti,hz]) (by kernel_rfl) (by exact z3h _ _ _) g (n1*32) (cap - n1) (fun j hj=>?_) (fun j hj=>?_)
  ·rw [<-hw1]
   refine World.isSome_setCells g _ _ _ _ ?_;exact (oc (n1*32+j) (by rw [z0a] at hj;omega)).1
  ·rw [<-hw1,World.frozen?_setCells]
   exact (oc (n1*32+j) (by rw [z0a] at hj;omega)).2
 have R:Aside ((w1.setCells g (n1*32) (z05 .u8 32 fun _=>0)).ownsRow B 25 32 (.slice (some ⟨g,0,none⟩) n1 cap) n1 (xs.take (i*32) ++ xs.drop (i1*32))/\(∀ x,x≠g->(w1.setCells g (n1*32) (z05 .u8 32 fun _=>0)).heap[x]?=w.heap[x]?)/\Below B w (w1.setCells g (n1*32) (z05 .u8 32 fun _=>0))):=by
  rw [<-hw1];refine ⟨?_,fun x hx=>(z2b g _ _ _ x hx).trans (z2b g _ _ _ x hx),z1z oB _ _ _ (z1z oB _ _ _ (Below.refl B w).drew)⟩;have hown':w.drew.ownsRow B 25 32 (.slice (some ⟨g,0,none⟩) n cap) n xs:=hown;have:=z5b (zs:=(z05 .u8 32 fun _=>0)) (c:=n1*32) hown' hi (by rw [e2]);rw [e2,show i*32+32=i1*32 by omega] at this;exact this
 clear hown hi e1 e2 on oB nl hA hone oc ov om hxl hmx hsz hns olt;go_enter Tryz.func77,Tryz.ntmps77;go_upto_region 5 with fail
 go_region_law (refine step_append_room rfl (.tmp 22) (.tmp 25) 22 rfl 25 ti 32 Tryz.underlying22 hti hs1 g 0 i cap (by simp [Act.eval,Act.put]) A (n - i1) (cap - i1) (xs.drop (i1*32)) (by simp [Act.eval,Act.put]) s1.out s2.out s3.out s4.out s5.out ?_)
 clear hw1 hX hY hZ s1 s2 s3 s4 s5 hsum hne;go_wp2;go_ret;exact ⟨rfl,R.out⟩
theorem zbQ (B g n cap i i1 n1:Nat) (xs:List Value) (w:World) (hown:w.ownsRow B 139 3 (.slice (some ⟨g,0,none⟩) n cap) n xs) (hone:∀ u∈xs,u.oneCell'=true) (hi:i<n) (e1:i+1=i1) (e2:n - 1=n1):Calls Tryz.prog 78 #[.slice (some ⟨g,0,none⟩) n cap,.int .i64 (i:Int),.int .i64 (i1:Int)] w fun e w'=>
  e=.returned (.slice (some ⟨g,0,none⟩) n1 cap)/\w'.ownsRow B 139 3 (.slice (some ⟨g,0,none⟩) n1 cap) n1 (xs.take (i*3) ++ xs.drop (i1*3))/\(∀ x,x≠g->w'.heap[x]?=w.heap[x]?)/\Below B w w':=by
 obtain ⟨ti,hti,hz,hs1,hby⟩:=info_parts z4C;obtain ⟨oc,ov,on,om,olt,oB⟩:=z3Z hown;have hsz:∀ w:World,(sizeOf 139).run Tryz.prog w=.ok 3 w:=fun w=>by simp [sizeOf,typeInfo,hti,hs1]
 have hxl:=hown.1;have hmx:cap<=9223372036854775807:=by unfold maxLen at om;omega
 obtain ⟨X,hX⟩:∃ X,∀ w,(Instr.slice 126 (.slice (some ⟨g,0,none⟩) n cap) (some (.int .i64 (i:Int))) (some (.int .i64 (i1:Int))) (some (.int .i64 (n:Int)))).run Tryz.prog w=.ok X w:=⟨_,fun w=>(run_slice_lhm (P:=Tryz.prog) w 126 (some ⟨g,0,none⟩) n cap (by kernel_rfl) .i64 .i64 .i64 (i:Int) (i1:Int) (n:Int) (by omega) (by omega) (by omega) (by omega)).trans (by rw [show Tryz.prog.elem 126=139 from by kernel_rfl,hsz];rfl)⟩
 have hY:∀ w,(Instr.slice 126 (.slice (some ⟨g,0,none⟩) n cap) none (some (.int .i64 (i:Int))) none).run Tryz.prog w=.ok (.slice (some ⟨g,0,none⟩) i cap) w:=fun w=>(run_slice_h (P:=Tryz.prog) w 126 (some ⟨g,0,none⟩) n cap (by kernel_rfl) .i64 (i:Int) (by omega) (by omega)).trans (by rw [show Tryz.prog.elem 126=139 from by kernel_rfl,hsz];simp [Result.andThen,sliced,Addr.add])
 obtain ⟨A,hA,hZ⟩:∃ A,(∀ j u,(xs.drop (i1*3))[j]?=some u->w.cell? (A.add j)=some u)/\∀ w,(Instr.slice 126 (.slice (some ⟨g,0,none⟩) n cap) (some (.int .i64 (i1:Int))) none none).run Tryz.prog w=.ok (.slice (some A) (n - i1) (cap - i1)) w:=by
  refine ⟨if cap=i1 then ⟨g,0,none⟩ else ⟨g,i1*3,none⟩,fun j u hu=>?_,fun w=>(run_slice_l (P:=Tryz.prog) w 126 (some ⟨g,0,none⟩) n cap (by kernel_rfl) .i64 (i1:Int) (by omega) (by omega)).trans (by rw [show Tryz.prog.elem 126=139 from by kernel_rfl,hsz];simp [Result.andThen,sliced,Addr.add_mid];split <;> rfl)⟩;have hj:=(List.getElem?_eq_some_iff.1 hu).1;simp at hj;rw [if_neg (by omega),Addr.add_mid];rw [List.getElem?_drop] at hu;exact ov _ u hu
 have hC:∀ w,(Instr.slice 126 (.slice (some ⟨g,0,none⟩) n1 cap) (some (.int .i64 (n1:Int))) (some (.int .i64 (n:Int))) none).run Tryz.prog w=.ok (.slice (some ⟨g,n1*3,none⟩) 1 (cap - n1)) w:=fun w=>(run_slice_lh (P:=Tryz.prog) w 126 (some ⟨g,0,none⟩) n1 cap (by kernel_rfl) .i64 .i64 (n1:Int) (n:Int) (by omega) (by omega) (by omega)).trans (by rw [show Tryz.prog.elem 126=139 from by kernel_rfl,hsz];simp [Result.andThen,sliced,Addr.add_mid];exact ⟨fun h=>absurd h (by omega),by omega⟩);have hsum:i+(n - i1)=n1:=by omega
 have hne:((i:Int) == (i1:Int))=false:=by simp;omega
 have hns:=Nat.mul_le_mul_right 3 hi;have nl:(xs.drop (i1*3)).length=(n - i1)*3:=by simp;omega
 have H:Aside (w.ownsRow B 139 3 (.slice (some ⟨g,0,none⟩) n cap) n xs/\i<n/\i+1=i1/\n - 1=n1/\n<=cap/\B<=g):=⟨hown,hi,e1,e2,on,oB⟩
 have s1:Aside ((xs.drop (i1*3)).length=(n - i1)*3):=nl;have s2:Aside (∀ j u,(xs.drop (i1*3))[j]?=some u->w.cell? (A.add j)=some u):=hA;have s3:Aside (∀ u∈xs.drop (i1*3),u.oneCell'=true):=fun u hu=>hone u (List.mem_of_mem_drop hu);have s4:Aside (i+(n - i1)<=cap):=by show i+(n - i1)<=cap;omega
 have s5:Aside (∀ j,j<(xs.drop (i1*3)).length->(w.cell? ⟨g,0+i*3+j,none⟩).isSome=true/\w.frozen? ⟨g,0+i*3+j,none⟩=false):=fun j hj=>oc _ (by omega);obtain ⟨w1,hw1⟩:∃ w1,w.drew.setCells g (i*3) (xs.drop (i1*3))=w1:=⟨_,rfl⟩
 have hcl:∀ ty,(Builtin.clear_ #[126] ty #[.slice (some ⟨g,n1*3,none⟩) 1 (cap - n1)]).run Tryz.prog w1=.ok (.tuple #[]) (w1.setCells g (n1*3) (RQL 0)):=fun ty=>by
  refine z7o w1 126 139 ty (.agg #[.int .u64 0,.int .u64 0,.slice none 0 0]) (RQL 0) Tryz.underlying126 (fun w=>by simp [zeroValue,typeInfo,hti,hz]) (by kernel_rfl) (by exact zaH 0) g (n1*3) (cap - n1) (fun j hj=>?_) (fun j hj=>?_)
  ·rw [<-hw1]
   refine World.isSome_setCells g _ _ _ _ ?_;exact (oc (n1*3+j) (by rw [show (RQL 0).length=3 from rfl] at hj;omega)).1
  ·rw [<-hw1,World.frozen?_setCells]
   exact (oc (n1*3+j) (by rw [show (RQL 0).length=3 from rfl] at hj;omega)).2
 have R:Aside ((w1.setCells g (n1*3) (RQL 0)).ownsRow B 139 3 (.slice (some ⟨g,0,none⟩) n1 cap) n1 (xs.take (i*3) ++ xs.drop (i1*3))/\(∀ x,x≠g->(w1.setCells g (n1*3) (RQL 0)).heap[x]?=w.heap[x]?)/\Below B w (w1.setCells g (n1*3) (RQL 0))):=by
  rw [<-hw1];refine ⟨?_,fun x hx=>(z2b g _ _ _ x hx).trans (z2b g _ _ _ x hx),z1z oB _ _ _ (z1z oB _ _ _ (Below.refl B w).drew)⟩;have hown':w.drew.ownsRow B 139 3 (.slice (some ⟨g,0,none⟩) n cap) n xs:=hown;have:=z5b (zs:=(RQL 0)) (c:=n1*3) hown' hi (by rw [e2]);rw [e2,show i*3+3=i1*3 by omega] at this;exact this
 clear hown hi e1 e2 on oB nl hA hone oc ov om hxl hmx hsz hns olt;go_enter Tryz.func78,Tryz.ntmps78;go_upto_region 5 with fail
 go_region_law (refine step_append_room rfl (.tmp 22) (.tmp 25) 126 rfl 139 ti 3 Tryz.underlying126 hti hs1 g 0 i cap (by simp [Act.eval,Act.put]) A (n - i1) (cap - i1) (xs.drop (i1*3)) (by simp [Act.eval,Act.put]) s1.out s2.out s3.out s4.out s5.out ?_)
 clear hw1 hX hY hZ s1 s2 s3 s4 s5 hsum hne;go_wp2;go_ret;exact ⟨rfl,R.out⟩
end Go.Proofs.YtlbcnaenhghieaaGreatDoor.HX
