/- FindProves: part 15. -/
import Derived.Test.YtlbcnaenhghieaaGreatDoorFindProvesP14
set_option maxHeartbeats 2000000
namespace Go.Proofs.YtlbcnaenhghieaaGreatDoor.HX
open Go.RowKit
set_option maxRecDepth 100000
theorem z0E {fn:Func} {p q:Tmp} {ty:TypeId} (h:fn.results=#[.cell p ty,.tmp q]) (tmps:Array Value) (w:World) (g:Nat) (t:TypeId) (cs:Array Value) (fr:Nat × Nat) (n:Nat) (e:TypeId)
  (hp:tmps.getD p undef=.pointer (some ⟨g,0,none⟩)) (hg:w.heap[g]?=some (.cells cs t fr)) (v:Value) (hq:tmps.getD q undef=v)
  (hu:Tryz.prog.underlying ty=some (.array n e)) (hi:(Tryz.prog.info? ty).map (·.size)=some cs.size):
  (results fn tmps).run Tryz.prog w=.ok (.tuple #[.agg cs,v]) w:=by
 have hp':tmps[p]?.getD undef=.pointer (some ⟨g,0,none⟩):=by simpa using hp
 have hq':tmps[q]?.getD undef=v:=by simpa using hq
 simp [results,h,hp',hq',asAddr,run_loadVar_row w g t ty cs fr (.array n e) hg hu rfl hi]
def z2a:Option (Nat->Nat)->Nat->Nat
 | none=>fun _=>0
 | some h=>h
theorem z1I:∀ w,(zeroValue 25).run Tryz.prog w=.ok (.agg (UARR .u8 32 fun _=>0)) w:=(zero_of_info (P:=Tryz.prog) (n:=32) (by kernel_rfl)).1
theorem z4A (w:World):(Instr.build 25 #[]).run Tryz.prog w=.ok (.agg (UARR .u8 32 fun _=>0)) w:=run_build (P:=Tryz.prog) w 25 #[] _ (by kernel_rfl)
theorem z0I {w:World} {g:Nat} {f:Nat->Nat} (h:Has w g (UARR .u8 32 f) 25) (F:Nat->Nat):(storeCells ⟨g,0,none⟩ (UARR .u8 32 F).toList 0).run Tryz.prog w=.ok () (w.setRow g (UARR .u8 32 F)):=by
 have:=run_storeCells_from (P:=Tryz.prog) g 25 (UARR .u8 32 F).toList 0 _ w h (by rw [z03,Array.length_toList,z03]) (fun v hv=>by have:=Array.all_eq_true_iff_forall_mem.1 (z0j .u8 32 F) v (by simpa using hv);exact this);simpa using this
theorem z9I (B g p:Nat) (rs:List ROW) (hp:p<2 ^ 64) (w:World) (hC:CHUNK w B g rs):Calls Tryz.prog 73 #[.pointer (some ⟨g,0,none⟩),.int .u64 (p:Int)] w fun e w'=>
   e=.returned (.tuple #[.agg (UARR .u8 32 (z2a (LOOK rs p))),.bool (LOOK rs p).isSome])/\Below w.heap.size w w':=by
 obtain ⟨a,cap,hbx,hlie,hfrm,ho⟩:=hC.lies;have hz:=z1I;have hbn:=z4A;obtain ⟨w0,hw0⟩:∃ w0,w.alloc (.cells (UARR .u8 32 fun _=>0) 25)=w0:=⟨_,rfl⟩
 have hb0:Below w.heap.size w w0:=by rw [<-hw0];exact (Below.refl _ _).alloc (Nat.le_refl _) _
 have h40:Has w0 w.heap.size (UARR .u8 32 fun _=>0) 25:=by rw [<-hw0];exact Has.new w _ _
 have hlie0:z2R w0 a (rs.map ROW.rw):=fun h=>by
   obtain ⟨g1,o,e,hl,hc⟩:=hlie h
   exact ⟨g1,o,e,by have:=hb0.size;omega,fun j r hr=>by
    obtain ⟨c1,c2,c3⟩:=hc j r hr;exact ⟨(hb0.cell (by exact hl)).trans c1,(hb0.cell (by exact hl)).trans c2,(hb0.cell (by exact hl)).trans c3⟩⟩
 have cf:=zaD g a rs.length cap (rs.map ROW.rw) p (by simp) hC.few hC.rises w0 hlie0 ((hbx.keep hb0).cell 0);have H:Aside (CHUNK w B g rs/\p<2 ^ 64/\Has w g #[.slice a rs.length cap] 128/\z2R w a (rs.map ROW.rw)/\(0<rs.length->∃ gr,a=some ⟨gr,0,none⟩/\B<=gr/\gr<w.heap.size)):=⟨hC,hp,hbx,hlie,hfrm⟩
 clear hC hp hbx hlie hfrm ho hlie0;go_enter Tryz.func73,Tryz.ntmps73;go_wp2_with fail
 refine cf.mono ?_;rintro e w1 ⟨i,b,rfl,hst,hbi,hb1⟩;clear cf;have hb1':Below w.heap.size w w1:=hb0.trans (hb1.mono hb0.size);have h41:=h40.keep hb1;cases b with
 | false=>
   have hno:LOOK rs p=none:=z3i fun r hr e=>by
    obtain ⟨j,hj⟩:=List.getElem?_of_mem hr;have hq:(rs.map ROW.rw)[j]?=some r.rw:=by rw [List.getElem?_map,hj];rfl
    have hc:=H.out.1.rises;rcases Nat.lt_trichotomy j i with h | h | h
    ·have:=hst.2.1 j _ h hq
     have e2:r.rw.num=p / 64:=e;omega
    ·subst h
     have:=hbi.2 ⟨r.rw,hq,e⟩;cases this
    ·have h1:=hst.2.2 j _ (by omega) hq
     have hi:i<(rs.map ROW.rw).length:=by have:=(List.getElem?_eq_some_iff.1 hq).1;omega
     have h2:=hst.2.2 i _ (Nat.le_refl _) (List.getElem?_eq_getElem hi);have h3:=hc i j _ _ h (List.getElem?_eq_getElem hi) hq;have e2:r.rw.num=p / 64:=e;omega
   have E:Aside (LOOK rs p=none):=hno;clear hno hst hbi;go_upto_region 2 with fail
   refine zhX _ _ _ _ _ _ _ _ _ _ _ _ _ _ _ _ _ _ _ _ _ _ _ _ _ _ _ _ _ _ _ _ _ _ _ _ _ _ _ _ _ _ _ _ _ w1 g p (fun _ _ _ _ _ h=>h) ?_;rintro _ rfl;dsimp only;have h42:Has w1.drew w.heap.size (UARR .u8 32 fun _=>0) 25:=h41;have hstr:=z0I h42 (fun _=>0);go_wp2;refine bodyPost_ret (v:=.tuple #[.agg (UARR .u8 32 fun _=>0),.bool false]) ?_ rfl ⟨by rw [E.out];rfl,z0d hb1'.drew (Nat.le_refl _) _⟩;exact z0E rfl _ _ w.heap.size 25 _ (0,0) _ _ rfl (h42.row _) _ rfl Tryz.underlying25 (z04 _)
 | true=>
   obtain ⟨q,hq,hqn⟩:=hbi.1 rfl;obtain ⟨r,hr,rfl⟩:=z66 hq;have hrm:r∈rs:=List.mem_of_getElem? hr;have hil:i<rs.length:=(List.getElem?_eq_some_iff.1 hr).1;obtain ⟨c1,c2,c3,c4,c5⟩:=H.out;obtain ⟨gr,rfl,hBr,hgr⟩:=c5 (by omega);obtain ⟨g1,o,e1,hg1,hcells⟩:=c4 (by simp;omega);cases e1;obtain ⟨x0,x1,x2⟩:=hcells i _ hq;rw [Nat.zero_add] at x0 x1 x2;have hL:=z6K hr (show r.num=p / 64 from hqn) c1.rise;obtain ⟨r1,r2,r3,r4,r5⟩:=c1.row r hrm;have hpm:p % 64<64:=Nat.mod_lt _ (by decide);obtain ⟨k,hk⟩:∃ k,p % 64=k:=⟨_,rfl⟩
   rw [hk] at hpm hL;have hp2:2 ^ k<2 ^ 64:=Nat.pow_lt_pow_right (by decide) hpm;have cB:∀ w,Calls Tryz.prog 76 #[.int .u64 (p:Int)] w fun e w'=>e=.returned (.int .u64 ((2 ^ k:Nat):Int))/\w=w':=fun w=>by have:=z3V p c2 w;rw [hk] at this;exact this
   have hbits:bits .and .u64 (r.live:Int) ((2 ^ k:Nat):Int)=((r.live &&& 2 ^ k:Nat):Int):=z1Y rfl rfl r2 hp2
   have heq:(((r.live &&& 2 ^ k:Nat):Int) == 0)=decide (r.live &&& 2 ^ k=0):=by
    by_cases e:r.live &&& 2 ^ k=0
    ·simp [e]
    ·have e2:((r.live &&& 2 ^ k:Nat):Int)≠0:=by omega
     simp [e]
   have cRk:=fun W (h:W.cell? ⟨gr,i*3+1,none⟩=some (.int .u64 (r.live:Int)))=>z4V gr (i*3) r.live k r2 hpm W h;rw [z4W (by omega)] at cRk;have y0:w1.cell? ⟨g,0,none⟩=some (.slice (some ⟨gr,0,none⟩) rs.length cap):=(c3.keep hb1').cell 0;have y1:w1.cell? ⟨gr,i*3+1,none⟩=some (.int .u64 (r.live:Int)):=(hb1'.cell (by exact hgr)).trans x1;have y2:w1.cell? ⟨gr,i*3+2,none⟩=some (.slice (some ⟨r.gh,0,none⟩) r.hs.length r.ch):=(hb1'.cell (by exact hgr)).trans x2;have hil':(i:Int)<(rs.length:Int):=by omega
   obtain ⟨bt,hbt⟩:∃ bt,2 ^ k=bt:=⟨_,rfl⟩
   obtain ⟨lb,hlb⟩:∃ lb,r.live &&& 2 ^ k=lb:=⟨_,rfl⟩
   have hzb:=zf1 (X:=r.live) (k:=k);rw [hlb] at hzb hbits heq;rw [hbt] at cB hbits cRk;have HH:Aside (CHUNK w B g rs/\r∈rs/\r.hs.length=POP r.live/\k<64/\gr<w.heap.size):=⟨c1,hrm,r3,hpm,hgr⟩
   have HL:Aside (LOOK rs p=if r.live.testBit k then r.hs[RK r.live k]? else none):=hL;have HZ:Aside (lb=0↔r.live.testBit k=false):=hzb;clear hL hzb hst hbi hq hqn hcells x0 x1 x2 r1 r2 r3 r4 r5 c1 c2 c3 c4 c5 hlb hbt hp2 hpm hk hrm hr;go_upto_region 2 with fail
   refine get2 _ _ _ _ _ _ _ _ _ _ _ _ _ _ _ _ _ _ _ _ _ _ _ _ _ _ _ _ _ _ _ _ _ _ _ _ _ _ _ _ _ _ _ _ w1 g gr rs.length cap i p r.live bt lb hil' y0 y1 cB hbits heq (fun _ _ _ _ _ h=>h) ?_;rintro w2 ⟨z0,z1,hb2⟩;dsimp only;have hb2':Below w.heap.size w w2:=hb1'.trans (hb2.mono hb1'.size);have h42:=h41.keep hb2;clear hbits heq y0 y1;by_cases hl0:lb=0
   ·have E:Aside (LOOK rs p=none):=by rw [HL.out,HZ.out.1 hl0];rfl
    have hdec:decide (lb=0)=true:=decide_eq_true hl0;rw [hdec];clear hl0 hdec cB cRk;have hstr:=z0I h42 (fun _=>0);go_wp2;refine bodyPost_ret (v:=.tuple #[.agg (UARR .u8 32 fun _=>0),.bool false]) ?_ rfl ⟨by rw [E.out];rfl,z0d hb2' (Nat.le_refl _) _⟩;exact z0E rfl _ _ w.heap.size 25 _ (0,0) _ _ rfl (h42.row _) _ rfl Tryz.underlying25 (z04 _)
   ·have htb:r.live.testBit k=true:=by
     cases h:r.live.testBit k
     ·exact absurd (HZ.out.2 h) hl0
     ·rfl
    have hrl:=z7L HH.out.2.2.2.1 htb;rw [<-HH.out.2.2.1] at hrl;obtain ⟨h,hh⟩:∃ h,r.hs[RK r.live k]?=some h:=⟨_,List.getElem?_eq_getElem hrl⟩
    have E0:LOOK rs p=some h:=by rw [HL.out,htb,if_pos rfl,hh]
    have E:Aside (LOOK rs p=some h):=E0;clear E0;have hdec:decide (lb=0)=false:=decide_eq_false hl0;rw [hdec];have hrg:=HH.out.1.hash HH.out.2.1 hh;have hgh:r.gh<w.heap.size:=((HH.out.1.row r HH.out.2.1).2.2.2.2.lt r.gh rfl).2;have hrg2:w2.rangeAt r.gh (RK r.live k*32) (z05 .u8 32 h):=fun j v hv=>(hb2'.cell (by exact hgh)).trans (hrg j v hv);have y22:w2.cell? ⟨gr,i*3+2,none⟩=some (.slice (some ⟨r.gh,0,none⟩) r.hs.length r.ch):=(hb2.cell (by have:=hb1'.size;have:=HH.out.2.2.2.2;show gr<w1.heap.size;omega)).trans y2;have hgr:=HH.out.2.2.2.2;have hrl':((RK r.live k:Nat):Int)<((r.hs.length:Nat):Int):=by omega
    obtain ⟨rk,hrk⟩:∃ rk,RK r.live k=rk:=⟨_,rfl⟩
    rw [hrk] at hrg2 hrl' cRk;clear hl0 hdec htb hrl hh hrg y2 hrk;go_upto_region 5 with fail
    refine get5 _ _ _ _ _ _ _ _ _ _ _ _ _ _ _ _ _ _ _ _ _ _ _ _ _ _ _ _ _ _ _ _ _ _ _ _ _ _ _ _ _ _ _ _ _ w2 w.heap.size gr i p r.live bt r.hs.length r.ch r.gh rk w.heap.size h (fun _=>0) hrl' z1 y22 hrg2 h42 (by omega) (by omega) (Nat.le_refl _) cB cRk (fun _ _ _ _ _ h=>h) ?_;rintro w3 ⟨-, -, -,hb3,z,hz3⟩;dsimp only;go_wp2;refine bodyPost_ret (v:=.tuple #[.agg (UARR .u8 32 h),.bool true]) ?_ rfl ⟨by rw [E.out];rfl,z0d (hb2'.trans hb3) (Nat.le_refl _) _⟩;exact z0E rfl _ _ w.heap.size 25 _ (0,0) _ _ rfl (hz3.row _) _ rfl Tryz.underlying25 (z04 _)
end Go.Proofs.YtlbcnaenhghieaaGreatDoor.HX
namespace Go.Proofs.YtlbcnaenhghieaaGreatDoor.HX
open Go.RowKit Go.Maps
set_option maxRecDepth 100000
theorem zf2 {k:Nat} (hk:k<2 ^ 64) (w:World):(Instr.lookup 60 (.map none) (KEY k) true).run Tryz.prog w=.ok (.tuple #[.pointer none,.bool false]) w:=by
 have hc:=lawKey.check w true (z1P hk);rcases lawKey.find w (z1P hk) [] (fun e he=>by cases he) with ⟨hf,_⟩ | ⟨j,e,_,he,_⟩
 ·simp [Instr.lookup,run_underlying Tryz.underlying60,hc,hf]
 ·simp at he
abbrev z01:=Nat->Option (Nat × List ROW)
structure STORE (w:World) (B g log len alive N:Nat) (C:z01):Prop where
 small:log<=16
 short:len<2 ^ 40
 c0:w.cell? ⟨g,0,none⟩=some (.int .i64 (log:Int))
 c1:w.cell? ⟨g,1,none⟩=some (.int .u64 (len:Int))
 c2:w.cell? ⟨g,2,none⟩=some (.int .u64 (alive:Int))
 live:∀ i,i<7->w.frozen? ⟨g,i,none⟩=false
 kind:∃ cs t fr,w.heap[g]?=some (.cells cs t fr)/\t≠128/\t≠139/\t≠25
 map:∃ mv,w.cell? ⟨g,3,none⟩=some (.map mv)/\(mv=none->∀ k,C k=none)/\∀ b,mv=some b->B<=b/\∃ n,n<=N/\ChunkMap w b n (fun k=>(C k).map Prod.fst)
 chunk:∀ k gc rs,C k=some (gc,rs)->k<2 ^ 64/\CHUNK w B gc rs/\∀ r∈rs,∀ j,j<64->r.live.testBit j=true->(r.num*64+j) / 2 ^ log=k/\r.num*64+j<len
 one:∀ k k' gc gc' rs rs',k≠k'->C k=some (gc,rs)->C k'=some (gc',rs')->gc≠gc'/\(∀ r∈rs,∀ r'∈rs',r.gh≠r'.gh)/\∀ v v',w.cell? ⟨gc,0,none⟩=some v->w.cell? ⟨gc',0,none⟩=some v'->v.ownBlock=none\/v.ownBlock≠v'.ownBlock
def AT (C:z01) (log p:Nat):Option (Nat->Nat):=(C (p / 2 ^ log)).bind fun c=>LOOK c.2 p
theorem CHUNK.below {w w':World} {B g:Nat} {rs:List ROW} (h:CHUNK w B g rs) (hb:Below w.heap.size w w'):CHUNK w' B g rs:=by
 obtain ⟨v,hv,ho⟩:=h.box;have keep:∀ {t:TypeId} {s n:Nat} {v:Value} {xs:List Value},w.ownsRow B t s v n xs->w'.ownsRow B t s v n xs:=fun h=>⟨h.1,h.2.imp id fun ⟨g,c,cur,a,b,r,rest⟩=>⟨g,c,cur,a,b,(hb.block g (Array.getElem?_eq_some_iff.1 r).1).trans r,rest⟩⟩
 exact ⟨⟨v,hv.keep hb,keep ho⟩,h.far,h.few,h.rise,fun r hr=>by obtain ⟨a,b,c,d,e⟩:=h.row r hr;exact ⟨a,b,c,d,keep e⟩,h.apart,h.lives⟩
theorem STORE.lt {w:World} {B g log len alive N:Nat} {C:z01} (h:STORE w B g log len alive N C):g<w.heap.size:=by
 obtain ⟨cs,t,fr,h1,_⟩:=h.kind;exact (Array.getElem?_eq_some_iff.1 h1).1
theorem STORE.below {w w':World} {B g log len alive N:Nat} {C:z01} (h:STORE w B g log len alive N C) (hb:Below w.heap.size w w'):STORE w' B g log len alive N C:=by
 have hlt:=h.lt;have cell:∀ i,w'.cell? ⟨g,i,none⟩=w.cell? ⟨g,i,none⟩:=fun i=>hb.cell (by exact hlt);refine ⟨h.small,h.short,(cell 0).trans h.c0,(cell 1).trans h.c1,(cell 2).trans h.c2,fun i hi=>?_,?_,?_,?_,?_⟩
 ·have:=h.live i hi
  unfold World.frozen? at this ⊢;rw [hb.block g hlt];exact this
 ·obtain ⟨cs,t,fr,h1,h2⟩:=h.kind
  exact ⟨cs,t,fr,(hb.block g hlt).trans h1,h2⟩
 ·obtain ⟨mv,h1,h2,h3⟩:=h.map
  exact ⟨mv,(cell 3).trans h1,h2,fun b e=>by obtain ⟨x,n,y,z⟩:=h3 b e;exact ⟨x,n,y,z.below hb⟩⟩
 ·intro k gc rs e
  obtain ⟨a,b,c⟩:=h.chunk k gc rs e;exact ⟨a,b.below hb,c⟩
 ·intro k k' gc gc' rs rs' hne e e'
  obtain ⟨a,b,c⟩:=h.one k k' gc gc' rs rs' hne e e';refine ⟨a,b,fun v v' hv hv'=>c v v' ?_ ?_⟩
  ·obtain ⟨x,hx,_⟩:=(h.chunk k gc rs e).2.1.box
   rw [<-hv];exact (hb.cell (by exact hx.lt)).symm
  ·obtain ⟨x,hx,_⟩:=(h.chunk k' gc' rs' e').2.1.box
   rw [<-hv'];exact (hb.cell (by exact hx.lt)).symm
theorem STORE.key {w:World} {B g log len alive N:Nat} {C:z01} (h:STORE w B g log len alive N C) (p:Nat) (W:World) (hW:Below w.heap.size w W):Calls Tryz.prog 53 #[.pointer (some ⟨g,0,none⟩),.int .u64 (p:Int)] W fun e w'=>e=.returned (KEY (p / 2 ^ log))/\Below w.heap.size w w':=by
 have hs:=h.small
 have e:(p:Int) / 2 ^ min (log:Int).toNat 64=((p / 2 ^ log:Nat):Int):=by
  rw [show min (log:Int).toNat 64=log by omega];norm_cast
 exact (z9H g (p:Int) (log:Int) _ (by omega) W ((h.below hW).c0) e).mono fun e w' ⟨h1,h2⟩=>⟨h1,hW.trans (h2.mono hW.size)⟩
theorem STORE.looked {w:World} {B g log len alive N:Nat} {C:z01} (h:STORE w B g log len alive N C) (k:Nat) (hk:k<2 ^ 64):∃ mv v,(∀ W,Below w.heap.size w W->W.cell? ⟨g,3,none⟩=some mv)/\(∀ W,Below w.heap.size w W->(Instr.lookup 60 mv (KEY k) true).run Tryz.prog W=.ok (.tuple #[v,.bool (C k).isSome]) W)/\∀ gc rs,C k=some (gc,rs)->v=.pointer (some ⟨gc,0,none⟩):=by
 obtain ⟨mv,h1,h2,h3⟩:=h.map;have hlt:=h.lt;cases mv with
 | none=>
   have hc:=h2 rfl k;refine ⟨.map none,.pointer none,fun W hW=>(hW.cell (by exact hlt)).trans h1,fun W _=>?_,fun gc rs e=>by rw [hc] at e;cases e⟩;rw [hc];exact zf2 hk W
 | some b=>
   obtain ⟨hb,n,hn,hm⟩:=h3 b rfl;obtain ⟨v,hv,hg,hz⟩:=hm.look hk;refine ⟨.map (some b),v,fun W hW=>(hW.cell (by exact hlt)).trans h1,fun W hW=>?_,fun gc rs e=>hg gc (by rw [e];rfl)⟩;obtain ⟨v',hv',hg',hz'⟩:=(hm.below hW).look hk;have e1:((C k).map Prod.fst).isSome=(C k).isSome:=by cases C k <;> rfl
   cases hc:C k with
   | none=>
     rw [hz' (by rw [hc];rfl),e1,hc] at hv';rw [hz (by rw [hc];rfl)];exact hv'
   | some c=>
     have e2:=hg c.1 (by rw [hc];rfl);have e3:=hg' c.1 (by rw [hc];rfl);rw [e3,e1,hc] at hv';rw [e2];exact hv'
@[go_sem] def F1OPSq0:Oper:=⟨some 9,.move (.tmp 0),32,"store.go:187",#[],none⟩
@[go_sem] def F1OPSq1:Oper:=⟨some 10,.nilCheck (.tmp 9),0,"store.go:187",#[⟨0,.data⟩],none⟩
@[go_sem] def F1OPSq2:Oper:=⟨some 11,.fieldAddr 63 (.tmp 10) 3,0,"store.go:187",#[⟨1,.data⟩],none⟩
@[go_sem] def F1OPSq3:Oper:=⟨some 12,.load 60 (.tmp 11),60,"store.go:187",#[⟨2,.data⟩],none⟩
@[go_sem] def F1OPSq4:Oper:=⟨some 13,.move (.tmp 0),32,"store.go:187",#[],none⟩
@[go_sem] def F1OPSq5:Oper:=⟨some 14,.move (.tmp 1),36,"store.go:187",#[],none⟩
@[go_sem] def F1OPSq6:Oper:=⟨some 15,.call {callee:=.value (.func 53),args:=#[.tmp 13,.tmp 14],argTypes:=#[32,36]},113,"store.go:187",#[⟨4,.data⟩,⟨5,.data⟩],none⟩
@[go_sem] def F1OPSq7:Oper:=⟨some 16,.lookup 60 (.tmp 12) (.tmp 15) true,125,"store.go:187",#[⟨3,.data⟩,⟨6,.data⟩],none⟩
@[go_sem] def F1OPSq8:Oper:=⟨some 8,.move (.tmp 16),125,"store.go:187",#[⟨7,.data⟩],none⟩
@[go_sem] def F1OPSq9:Oper:=⟨some 17,.extract (.tmp 8) 0,115,"store.go:187",#[⟨8,.data⟩],none⟩
@[go_sem] def F1OPSq10:Oper:=⟨some 18,.extract (.tmp 8) 1,4,"store.go:187",#[⟨8,.data⟩,{on:=11,ground:=.gcOnly Departure.lateStores}],none⟩
@[go_sem] def F1OPSq11:Oper:=⟨some 6,.assign (.tmp 17),115,"store.go:187",#[⟨9,.data⟩,⟨6,.chain⟩,⟨0,.phase⟩,⟨1,.phase⟩,⟨2,.phase⟩,⟨3,.phase⟩,⟨4,.phase⟩,⟨5,.phase⟩,⟨6,.phase⟩,⟨7,.phase⟩,⟨8,.phase⟩,⟨9,.phase⟩,{on:=10,ground:=.textOnly Departure.lateStores}],none⟩
@[go_sem] def F1OPSq12:Oper:=⟨some 7,.assign (.tmp 18),4,"store.go:187",#[⟨10,.data⟩,⟨11,.chain⟩,⟨0,.phase⟩,⟨1,.phase⟩,⟨2,.phase⟩,⟨3,.phase⟩,⟨4,.phase⟩,⟨5,.phase⟩,⟨6,.phase⟩,⟨7,.phase⟩,⟨8,.phase⟩,⟨9,.phase⟩,⟨10,.phase⟩,⟨11,.phase⟩],none⟩
def z67:Array Oper:=#[F1OPSq0,F1OPSq1,F1OPSq2,F1OPSq3,F1OPSq4,F1OPSq5,F1OPSq6,F1OPSq7,F1OPSq8,F1OPSq9,F1OPSq10,F1OPSq11,F1OPSq12]
theorem zhY {Q:Exit->Act->World->Prop} (d f i j l m n q r s u x y z A B C D E F G H I J L:Value) (W:World) (g p k:Nat) (mv v:Value) (b:Bool) (h3:∀ w,Below W.heap.size W w->w.cell? ⟨g,3,none⟩=some mv) (hlook:∀ w,Below W.heap.size W w->(Instr.lookup 60 mv (KEY k) true).run Tryz.prog w=.ok (.tuple #[v,.bool b]) w) (cK:∀ w,Below W.heap.size W w->Calls Tryz.prog 53 #[.pointer (some ⟨g,0,none⟩),.int .u64 (p:Int)] w fun e w'=>e=.returned (KEY k)/\Below W.heap.size W w') (hQ:∀ c (a:Act) (t:Tmp) (v:Value) w,Q (.panic c) (a.put (some t) v) w->Q (.panic c) a w)
  (h:∀ w,(fun w=>Below W.heap.size W w) w->Q .normal {tmps:=#[.pointer (some ⟨g,0,none⟩),.int .u64 (p:Int),d,f,i,j,v,.bool b,.tuple #[v,.bool b],.pointer (some ⟨g,0,none⟩),.pointer (some ⟨g,0,none⟩),.pointer (some ⟨g,3,none⟩),mv,.pointer (some ⟨g,0,none⟩),.int .u64 (p:Int),KEY k,.tuple #[v,.bool b],v,.bool b,D,E,F,G,H,I,J,L],defers:=[]} w):(Code.region 1 z67 true).wp Tryz.prog Q {tmps:=#[.pointer (some ⟨g,0,none⟩),.int .u64 (p:Int),d,f,i,j,l,m,n,q,r,s,u,x,y,z,A,B,C,D,E,F,G,H,I,J,L],defers:=[]} W:=by
 have hs0:(fun w=>Below W.heap.size W w) W.drew:=(Below.refl _ _).drew
 have k1:∀ w,(fun w=>Below W.heap.size W w) w->wpAnyH Tryz.prog .any z67 Q (fun w=>Below W.heap.size W w) 6 #[tt,tt,tt,tt,tt,tt,tt,ff,ff,ff,ff,ff,ff] {tmps:=#[.pointer (some ⟨g,0,none⟩),.int .u64 (p:Int),d,f,i,j,l,m,n,.pointer (some ⟨g,0,none⟩),.pointer (some ⟨g,0,none⟩),.pointer (some ⟨g,3,none⟩),mv,.pointer (some ⟨g,0,none⟩),.int .u64 (p:Int),KEY k,A,B,C,D,E,F,G,H,I,J,L],defers:=[]} w:=fun w hw=>by
  have hww:(fun w=>Below W.heap.size W w) w:=hw;have last:wpAnyH Tryz.prog .any z67 Q (fun w=>Below W.heap.size W w) 0 #[tt,tt,tt,tt,tt,tt,tt,tt,tt,tt,tt,tt,tt] {tmps:=#[.pointer (some ⟨g,0,none⟩),.int .u64 (p:Int),d,f,i,j,v,.bool b,.tuple #[v,.bool b],.pointer (some ⟨g,0,none⟩),.pointer (some ⟨g,0,none⟩),.pointer (some ⟨g,3,none⟩),mv,.pointer (some ⟨g,0,none⟩),.int .u64 (p:Int),KEY k,.tuple #[v,.bool b],v,.bool b,D,E,F,G,H,I,J,L],defers:=[]} w:=wpAnyH_done (by kernel_rfl) (h w hw) _;refine tkH F1OPSq7 (.tuple #[v,.bool b]) 7 hQ (Or.inl ⟨by rfl,fun w hw=>z08 (hlook w hw)⟩) hww ?_;simp only [List.set];refine tkP F1OPSq8 (.tuple #[v,.bool b]) 8 hQ hww ?_;simp only [List.set];refine tkP F1OPSq9 v 9 hQ hww ?_;simp only [List.set];refine tkP F1OPSq10 (.bool b) 10 hQ hww ?_;simp only [List.set];refine tkP F1OPSq11 v 11 hQ hww ?_;simp only [List.set];refine tkP F1OPSq12 (.bool b) 12 hQ hww ?_;simp only [List.set];exact last
 have k0:∀ w,(fun w=>Below W.heap.size W w) w->wpAnyH Tryz.prog .any z67 Q (fun w=>Below W.heap.size W w) 13 #[ff,ff,ff,ff,ff,ff,ff,ff,ff,ff,ff,ff,ff] {tmps:=#[.pointer (some ⟨g,0,none⟩),.int .u64 (p:Int),d,f,i,j,l,m,n,q,r,s,u,x,y,z,A,B,C,D,E,F,G,H,I,J,L],defers:=[]} w:=fun w hw=>by
  have hww:(fun w=>Below W.heap.size W w) w:=hw
  have last:wpAnyH Tryz.prog .any z67 Q (fun w=>Below W.heap.size W w) 7 #[tt,tt,tt,tt,tt,tt,ff,ff,ff,ff,ff,ff,ff] {tmps:=#[.pointer (some ⟨g,0,none⟩),.int .u64 (p:Int),d,f,i,j,l,m,n,.pointer (some ⟨g,0,none⟩),.pointer (some ⟨g,0,none⟩),.pointer (some ⟨g,3,none⟩),mv,.pointer (some ⟨g,0,none⟩),.int .u64 (p:Int),z,A,B,C,D,E,F,G,H,I,J,L],defers:=[]} w:=by
   refine z2P (o:=F1OPSq6) 6 (by kernel_rfl) rfl (fun K hK=>?_);rw [if_pos (by rfl)];go_simp;refine (cK _ hww).mono ?_;rintro e w' ⟨rfl,hs'⟩;exact hK.out _ _ hs' (fun h=>k1 w' h)
  refine tkP F1OPSq0 (.pointer (some ⟨g,0,none⟩)) 0 hQ hww ?_;simp only [List.set];refine tkP F1OPSq1 (.pointer (some ⟨g,0,none⟩)) 1 hQ hww ?_;simp only [List.set];refine tkP F1OPSq2 (.pointer (some ⟨g,3,none⟩)) 2 hQ hww ?_;simp only [List.set];refine tkH F1OPSq3 mv 3 hQ (Or.inl ⟨by rfl,fun w hw=>by have hx:=h3 w hw;go_simp⟩) hww ?_;simp only [List.set];refine tkP F1OPSq4 (.pointer (some ⟨g,0,none⟩)) 4 hQ hww ?_;simp only [List.set];refine tkP F1OPSq5 (.int .u64 (p:Int)) 5 hQ hww ?_;simp only [List.set];exact last
 exact wp_region_held_drew (S:=(fun w=>Below W.heap.size W w)) (by kernel_rfl) hs0 (fun _=>k0 _ hs0)
theorem z4B {w:World} {B g log len alive N:Nat} {C:z01} (hS:STORE w B g log len alive N C) (p:Nat) (hp:p<2 ^ 64):Calls Tryz.prog 52 #[.pointer (some ⟨g,0,none⟩),.int .u64 (p:Int)] w fun e w'=>
   e=.returned (.tuple #[.agg (UARR .u8 32 (z2a (AT C log p))),.bool (AT C log p).isSome])/\Below w.heap.size w w':=by
 have hz:=z1I;have hbn:=z4A;obtain ⟨w0,hw0⟩:∃ w0,w.alloc (.cells (UARR .u8 32 fun _=>0) 25)=w0:=⟨_,rfl⟩
 have hb0:Below w.heap.size w w0:=by rw [<-hw0];exact (Below.refl _ _).alloc (Nat.le_refl _) _
 have h40:Has w0 w.heap.size (UARR .u8 32 fun _=>0) 25:=by rw [<-hw0];exact Has.new w _ _
 have hS0:=hS.below hb0;have hk:p / 2 ^ log<2 ^ 64:=Nat.lt_of_le_of_lt (Nat.div_le_self _ _) hp;obtain ⟨mv,v,l1,l2,l3⟩:=hS0.looked (p / 2 ^ log) hk;have l4:=hS0.key p;have H:Aside (STORE w0 B g log len alive N C/\p<2 ^ 64):=⟨hS0,hp⟩
 clear hS hS0 hp;obtain ⟨K,hK⟩:∃ K,p / 2 ^ log=K:=⟨_,rfl⟩
 rw [hK] at hk l2 l3 l4;have HK:Aside (AT C log p=(C K).bind fun c=>LOOK c.2 p):=by rw [<-hK];exact rfl
 clear hK;go_enter Tryz.func52,Tryz.ntmps52;go_upto_region 1 with fail
 refine zhY _ _ _ _ _ _ _ _ _ _ _ _ _ _ _ _ _ _ _ _ _ _ _ _ _ w0 g p K mv v (C K).isSome l1 l2 l4 (fun _ _ _ _ _ h=>h) ?_;intro w1 hb1;clear l1 l2 l4;have h41:=h40.keep hb1;have hb1':Below w.heap.size w w1:=hb0.trans (hb1.mono hb0.size);cases hc:C K with
 | none=>
   have E:Aside (AT C log p=none):=by rw [HK.out,hc];exact rfl
   have hstr:=z0I h41 (fun _=>0);clear hc l3;go_wp2;refine bodyPost_ret (v:=.tuple #[.agg (UARR .u8 32 fun _=>0),.bool false]) ?_ rfl ⟨by rw [E.out];rfl,z0d hb1' (Nat.le_refl _) _⟩;exact z0E rfl _ _ w.heap.size 25 _ (0,0) _ _ rfl (h41.row _) _ rfl Tryz.underlying25 (z04 _)
 | some c=>
   obtain ⟨gc,rs⟩:=c;have hv:=l3 gc rs hc;subst hv;have E:Aside (AT C log p=LOOK rs p):=by rw [HK.out,hc];exact rfl
   have cg:=z9I B gc p rs H.out.2 w1 ((H.out.1.chunk K gc rs hc).2.1.below hb1);clear hc l3;go_wp2_with fail
   refine cg.mono ?_;rintro e w2 ⟨rfl,hb2⟩;clear cg;have h42:=h41.keep hb2;have hstr:=z0I h42 (z2a (LOOK rs p));have hsu:=z03 .u8 32 (z2a (LOOK rs p));generalize hF:z2a (LOOK rs p)=F at *
   generalize hO:(LOOK rs p).isSome=O at *
   have HF:Aside (z2a (LOOK rs p)=F/\(LOOK rs p).isSome=O):=⟨hF,hO⟩
   clear hF hO;go_wp2;refine bodyPost_ret (v:=.tuple #[.agg (UARR .u8 32 F),.bool O]) ?_ rfl ⟨by rw [E.out,HF.out.1,HF.out.2],z0d (hb1'.trans (hb2.mono hb1'.size)) (Nat.le_refl _) _⟩;exact z0E rfl _ _ w.heap.size 25 _ (0,0) _ _ rfl (h42.row _) _ rfl Tryz.underlying25 (z04 _)
theorem zaG {w:World} {B g log len alive N:Nat} {C:z01} (hS:STORE w B g log len alive N C) (p:Nat) (hp:p<2 ^ 64):Calls Tryz.prog 26 #[.pointer (some ⟨g,0,none⟩),.int .u64 (p:Int)] w fun e w'=>
  e=.returned (.bool (AT C log p).isSome)/\Below w.heap.size w w':=by
 have cf:=z4B hS p hp;have hz:=z1I;clear hS;generalize (AT C log p).isSome=O at *
 generalize z2a (AT C log p)=F at *
 go_enter Tryz.func26,Tryz.ntmps26;go_wp2_with fail
 refine cf.mono ?_;rintro e w2 ⟨rfl,hb2⟩;clear cf;have hst:=run_storeCells_new (P:=Tryz.prog) w2 25 (UARR .u8 32 fun _=>0) (UARR .u8 32 F) (z04 _) (by rw [z03,z03]) (z0j _ _ _);have hsu:=z03 .u8 32 F;go_wp2;go_ret;exact ⟨rfl,hb2.alloc hb2.size _⟩
def GOT (C:z01) (log len p:Nat):Int:=if p<len then (if (AT C log p).isSome then 0 else 50) else 31
def GOTH (C:z01) (log len p:Nat):Nat->Nat:=if p<len then z2a (AT C log p) else fun _=>0
theorem zdk {w:World} {B g log len alive N:Nat} {C:z01} (hS:STORE w B g log len alive N C) (p:Nat) (hp:p<2 ^ 64):Calls Tryz.prog 51 #[.pointer (some ⟨g,0,none⟩),.int .u64 (p:Int)] w fun e w'=>
  e=.returned (.tuple #[.agg (UARR .u8 32 (GOTH C log len p)),.int .i64 (GOT C log len p)])/\Below w.heap.size w w':=by
 have hz:=z1I;have hbn:=z4A;obtain ⟨w0,hw0⟩:∃ w0,w.alloc (.cells (UARR .u8 32 fun _=>0) 25)=w0:=⟨_,rfl⟩
 have hb0:Below w.heap.size w w0:=by rw [<-hw0];exact (Below.refl _ _).alloc (Nat.le_refl _) _
 have h40:Has w0 w.heap.size (UARR .u8 32 fun _=>0) 25:=by rw [<-hw0];exact Has.new w _ _
 have hS0:=hS.below hb0;have c1:=hS0.c1;by_cases hlt:p<len
 ·have hge:¬ (len:Int)<=(p:Int):=by omega
  have cf:=z4B hS0 p hp
  have E:Aside (GOTH C log len p=z2a (AT C log p)/\GOT C log len p=if (AT C log p).isSome then 0 else 50):=by
    unfold GOTH GOT;rw [if_pos hlt,if_pos hlt];exact ⟨rfl,rfl⟩
  have hnone:Aside ((AT C log p).isSome=false->z2a (AT C log p)=fun _=>0):=fun h=>by
    cases hx:AT C log p with
    | none=>rfl
    | some x=>rw [hx] at h;cases h
  clear hS hS0 hlt;generalize (AT C log p).isSome=O at *
  generalize z2a (AT C log p)=F at *
  go_enter Tryz.func51,Tryz.ntmps51;go_wp2_with fail
  refine cf.mono ?_;rintro e w1 ⟨rfl,hb1⟩;clear cf;have hst:=run_storeCells_new (P:=Tryz.prog) w1 25 (UARR .u8 32 fun _=>0) (UARR .u8 32 F) (z04 _) (by rw [z03,z03]) (z0j _ _ _);have hsu:=z03 .u8 32 F;obtain ⟨w2,hw2⟩:∃ w2,w1.alloc (.cells (UARR .u8 32 F) 25)=w2:=⟨_,rfl⟩
  have hb2:Below w0.heap.size w0 w2:=by rw [<-hw2];exact hb1.alloc hb1.size _
  have hF2:Has w2 w1.heap.size (UARR .u8 32 F) 25:=by rw [<-hw2];exact Has.new w1 _ _
  have h42:=h40.keep hb2;have hb2':Below w.heap.size w w2:=hb0.trans (hb2.mono hb0.size);cases O with
  | false=>
    have hst2:=z0I h42 (fun _=>0);have HN:Aside (F=fun _=>0):=hnone.out rfl;clear hnone;go_wp2;refine bodyPost_ret (v:=.tuple #[.agg (UARR .u8 32 fun _=>0),.int .i64 50]) ?_ rfl ⟨by rw [E.out.1,E.out.2,HN.out];rfl,z0d hb2' (Nat.le_refl _) _⟩;exact z0E rfl _ _ w.heap.size 25 _ (0,0) _ _ rfl (h42.row _) _ rfl Tryz.underlying25 (z04 _)
  | true=>
    have hst2:=z0I h42 F
    go_wp2_with (first
     | (refine wpList_load_row rfl 25 (.tmp 6) rfl w1.heap.size rfl 25 (UARR .u8 32 F) (0,0) _ hF2 Tryz.underlying25 rfl (z04 _) ?_)
     | fail)
    refine bodyPost_ret (v:=.tuple #[.agg (UARR .u8 32 F),.int .i64 0]) ?_ rfl ⟨by rw [E.out.1,E.out.2];rfl,z0d hb2' (Nat.le_refl _) _⟩;exact z0E rfl _ _ w.heap.size 25 _ (0,0) _ _ rfl (h42.row _) _ rfl Tryz.underlying25 (z04 _)
 ·have hge:(len:Int)<=(p:Int):=by omega
  have E:Aside (GOTH C log len p=(fun _=>0)/\GOT C log len p=31):=by
    unfold GOTH GOT;rw [if_neg hlt,if_neg hlt];exact ⟨rfl,rfl⟩
  have hst2:=z0I h40 (fun _=>0);clear hS hS0 hlt;go_enter Tryz.func51,Tryz.ntmps51;go_wp2;refine bodyPost_ret (v:=.tuple #[.agg (UARR .u8 32 fun _=>0),.int .i64 31]) ?_ rfl ⟨by rw [E.out.1,E.out.2],z0d hb0 (Nat.le_refl _) _⟩;exact z0E rfl _ _ w.heap.size 25 _ (0,0) _ _ rfl (h40.row _) _ rfl Tryz.underlying25 (z04 _)
end Go.Proofs.YtlbcnaenhghieaaGreatDoor.HX
namespace Go.Proofs.YtlbcnaenhghieaaGreatDoor.HX
open Go.RowKit
set_option maxRecDepth 100000
theorem z3X:(Tryz.prog.info? 25).map (fun i=>(i.zero,i.size,i.bytes))=some (some (.agg (UARR .u8 32 fun _=>0)),32,32):=by kernel_rfl
theorem z4C:(Tryz.prog.info? 139).map (fun i=>(i.zero,i.size,i.bytes))=some (some (.agg #[.int .u64 0,.int .u64 0,.slice none 0 0]),3,40):=by kernel_rfl
theorem z4D {w:World} {B n s:Nat} {t:TypeId} {v:Value} {xs:List Value} (h:w.ownsRow B t s v n xs):∃ a cap,v=.slice a n cap:=by
 rcases h.2 with ⟨rfl,rfl⟩ | ⟨g,cap,cur,rfl,_⟩
 ·exact ⟨none,0,rfl⟩
 ·exact ⟨_,cap,rfl⟩
theorem z68 (B ga n:Nat) (v:Value) (xs:List Value) (h:Nat->Nat) (w:World) (hown:w.ownsRow B 25 32 v n xs) (hB:B<=w.heap.size) (hn:n<=1000) (hga:Has w ga (UARR .u8 32 h) 25):Calls Tryz.prog 88 #[v,.int .i64 (n:Int),.slice (some ⟨ga,0,none⟩) 1 1] w fun e w'=>
  ∃ g cap,e=.returned (.slice (some ⟨g,0,none⟩) (n+1) cap)/\w'.ownsRow B 25 32 (.slice (some ⟨g,0,none⟩) (n+1) cap) (n+1) (xs ++ z05 .u8 32 h)/\w.grownBy w' v.ownBlock/\(v.ownBlock=some g\/g=w.heap.size):=by
 obtain ⟨i,hi,hz,hs1,hby⟩:=info_parts z3X;obtain ⟨a,cap0,rfl⟩:=z4D hown;obtain ⟨X,hX⟩:∃ X,∀ w,(Instr.slice 22 (.slice a n cap0) (some (.int .i64 (n:Int))) none none).run Tryz.prog w=.ok X w:=⟨_,fun w=>(run_slice_l (P:=Tryz.prog) w 22 a n cap0 (by kernel_rfl) .i64 (n:Int) (by omega) (by omega)).trans (by simp [go_sem];rfl)⟩
 have H:Aside (w.ownsRow B 25 32 (.slice a n cap0) n xs/\B<=w.heap.size/\n<=1000/\Has w ga (UARR .u8 32 h) 25):=⟨hown,hB,hn,hga⟩
 clear hown hB hn hga;go_enter Tryz.func88,Tryz.ntmps88;go_wp2_with (at_builtin;refine wpList_append_lies w rfl (.tmp 23) (.tmp 24) 22 rfl B 25 i _ 32 32 Tryz.underlying22 hi hz hs1 hby (by simp [Value.cells,z03]) (by decide) (.slice a n cap0) n xs rfl H.out.1 ⟨ga,0,none⟩ 1 1 (z05 .u8 32 h) rfl (by rw [z0a]) (fun j u hj=>by rw [Addr.add_mid,H.out.2.2.2.cell,Nat.zero_add,z0N,List.getElem?_toArray];exact hj) (z3h _ _ _) (by decide) (by simp only [maxLen];have:=H.out.2.2.1;omega) (by have:=H.out.2.2.1;omega) H.out.2.1 w.heap.size rfl ?_;intro g cap w' r1 r2 r3 r4)
 go_ret;exact ⟨g,cap,rfl,r1,r2,r3⟩
def RQL (q:Nat):List Value:=[.int .u64 (q:Int),.int .u64 0,.slice none 0 0]
def RQ (q:Nat):Array Value:=(RQL q).toArray
theorem zaH (q:Nat):∀ u∈RQL q,u.oneCell'=true:=fun u hu=>by
 simp [RQL] at hu;rcases hu with rfl | rfl | rfl <;> rfl
theorem zbH (B ga n:Nat) (v:Value) (xs:List Value) (q:Nat) (w:World) (hown:w.ownsRow B 139 3 v n xs) (hB:B<=w.heap.size) (hn:n<=2 ^ 40) (hga:Has w ga (RQ q) 139):Calls Tryz.prog 86 #[v,.int .i64 (n:Int),.slice (some ⟨ga,0,none⟩) 1 1] w fun e w'=>
  ∃ g cap,e=.returned (.slice (some ⟨g,0,none⟩) (n+1) cap)/\w'.ownsRow B 139 3 (.slice (some ⟨g,0,none⟩) (n+1) cap) (n+1) (xs ++ RQL q)/\w.grownBy w' v.ownBlock/\(v.ownBlock=some g\/g=w.heap.size):=by
 obtain ⟨i,hi,hz,hs1,hby⟩:=info_parts z4C;obtain ⟨a,cap0,rfl⟩:=z4D hown;obtain ⟨X,hX⟩:∃ X,∀ w,(Instr.slice 126 (.slice a n cap0) (some (.int .i64 (n:Int))) none none).run Tryz.prog w=.ok X w:=⟨_,fun w=>(run_slice_l (P:=Tryz.prog) w 126 a n cap0 (by kernel_rfl) .i64 (n:Int) (by omega) (by omega)).trans (by simp [go_sem];rfl)⟩
 have H:Aside (w.ownsRow B 139 3 (.slice a n cap0) n xs/\B<=w.heap.size/\n<=2 ^ 40/\Has w ga (RQ q) 139):=⟨hown,hB,hn,hga⟩
 clear hown hB hn hga;go_enter Tryz.func86,Tryz.ntmps86;go_wp2_with (at_builtin;refine wpList_append_lies w rfl (.tmp 23) (.tmp 24) 126 rfl B 139 i _ 3 40 Tryz.underlying126 hi hz hs1 hby (by simp [Value.cells]) (by decide) (.slice a n cap0) n xs rfl H.out.1 ⟨ga,0,none⟩ 1 1 (RQL q) rfl rfl (fun j u hj=>by rw [Addr.add_mid,H.out.2.2.2.cell,Nat.zero_add,RQ,List.getElem?_toArray];exact hj) (zaH q) (by decide) (by simp only [maxLen];have:=H.out.2.2.1;omega) (by have:=H.out.2.2.1;omega) H.out.2.1 w.heap.size rfl ?_;intro g cap w' r1 r2 r3 r4)
 go_ret;exact ⟨g,cap,rfl,r1,r2,r3⟩
end Go.Proofs.YtlbcnaenhghieaaGreatDoor.HX
