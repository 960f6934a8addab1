/- FindProves: part 18. -/
import Derived.Test.YtlbcnaenhghieaaGreatDoorFindProvesP17
set_option maxHeartbeats 2000000
namespace Go.Proofs.YtlbcnaenhghieaaGreatDoor.HX
open Go.RowKit
set_option maxRecDepth 100000
theorem z4d {B g p:Nat} {rs:List ROW} {w:World} (hC:CHUNK w B g rs) (W:World) (hW:Below w.heap.size w W):Calls Tryz.prog 74 #[.pointer (some ⟨g,0,none⟩),.int .u64 (p:Int)] W fun e w'=>z3W (rs.map ROW.rw) (p / 64) W e w':=by
 obtain ⟨a,cap,hbx,hlie,hfrm,ho⟩:=hC.lies;refine zaD g a rs.length cap (rs.map ROW.rw) p (by simp) hC.few hC.rises W (fun h=>?_) ((hbx.keep hW).cell 0);obtain ⟨g1,o,e,hl,hc⟩:=hlie h
 exact ⟨g1,o,e,by have:=hW.size;omega,fun j r hr=>by
  obtain ⟨c1,c2,c3⟩:=hc j r hr;exact ⟨(hW.cell (by exact hl)).trans c1,(hW.cell (by exact hl)).trans c2,(hW.cell (by exact hl)).trans c3⟩⟩
theorem z3k {B g p i:Nat} {rs:List ROW} {r:ROW} {w:World} (hC:CHUNK w B g rs) (hr:rs[i]?=some r) (hn:r.num=p / 64) (W:World) (hW:Below w.heap.size w W):Calls Tryz.prog 74 #[.pointer (some ⟨g,0,none⟩),.int .u64 (p:Int)] W fun e w'=>e=.returned (.tuple #[.int .i64 (i:Int),.bool true])/\Below W.heap.size W w':=
 (z4d hC W hW).mono fun e w' ⟨j,b,he,hst,hbi,hb⟩=>by
   have hq:(rs.map ROW.rw)[i]?=some r.rw:=by rw [List.getElem?_map,hr];rfl
   have hji:j=i:=by
    rcases Nat.lt_trichotomy j i with h | h | h
    ·have hil:i<(rs.map ROW.rw).length:=(List.getElem?_eq_some_iff.1 hq).1
     have h2:=hst.2.2 j _ (Nat.le_refl _) (List.getElem?_eq_getElem (by omega));have h3:=hC.rises j i _ _ h (List.getElem?_eq_getElem (by omega)) hq;have e2:r.rw.num=p / 64:=hn;omega
    ·exact h
    ·have h2:=hst.2.1 i _ h hq
     have e2:r.rw.num=p / 64:=hn;omega
   subst hji;have hbt:b=true:=hbi.2 ⟨_,hq,hn⟩;subst hbt;exact ⟨he,hb⟩
theorem z7G {B g p:Nat} {rs:List ROW} {w:World} (hC:CHUNK w B g rs) (hall:∀ r∈rs,r.num<p / 64) (W:World) (hW:Below w.heap.size w W):Calls Tryz.prog 74 #[.pointer (some ⟨g,0,none⟩),.int .u64 (p:Int)] W fun e w'=>e=.returned (.tuple #[.int .i64 (rs.length:Int),.bool false])/\Below W.heap.size W w':=
 (z4d hC W hW).mono fun e w' ⟨j,b,he,hst,hbi,hb⟩=>by
   have hjl:j=rs.length:=by
    have h1:j<=rs.length:=by have:=hst.1;simpa using this
    by_cases h:j<rs.length
    ·have hq:(rs.map ROW.rw)[j]?=some rs[j].rw:=by rw [List.getElem?_map,List.getElem?_eq_getElem h];rfl
     have h2:=hst.2.2 j _ (Nat.le_refl _) hq;have h3:=hall rs[j] (List.getElem_mem h);have e2:rs[j].rw.num=rs[j].num:=rfl;omega
    ·omega
   subst hjl
   have hbf:b=false:=by
    cases hb2:b
    ·rfl
    ·obtain ⟨r,hr,_⟩:=hbi.1 hb2
     rw [List.getElem?_eq_none (by simp)] at hr;cases hr
   subst hbf;exact ⟨he,hb⟩
theorem NEXT.low {w:World} {B g p i:Nat} {rs:List ROW} {r:ROW} (hC:CHUNK w B g rs) (hr:rs[i]?=some r) (hn:r.num=p / 64):∀ s∈rs.take i,s.num<p / 64:=fun s hs=>by
 obtain ⟨j,hj⟩:=List.getElem?_of_mem hs;have hji:j<i:=by have:=(List.getElem?_eq_some_iff.1 hj).1;rw [List.length_take] at this;omega
 rw [List.getElem?_take_of_lt hji] at hj;have:=hC.rise j i s r hji hj hr;omega
theorem z6F {rs:List ROW} {i:Nat} {s:ROW} (hs:s∈rs.take i):∃ j,j<i/\rs[j]?=some s:=by
 obtain ⟨j,hj⟩:=List.getElem?_of_mem hs;have hji:j<i:=by have:=(List.getElem?_eq_some_iff.1 hj).1;rw [List.length_take] at this;omega
 rw [List.getElem?_take_of_lt hji] at hj;exact ⟨j,hji,hj⟩
theorem z7n {rs:List ROW} {i p q k gh ch live:Nat} {hs:List (Nat->Nat)} {h:Nat->Nat} (hR:REST rs i q live hs) (hq:p / 64=q) (hk:p % 64=k):∀ r∈MORE rs i q k gh ch live hs h,∀ j,j<64->r.live.testBit j=true->r.num*64+j=p\/∃ r0∈rs,r0.num=r.num/\r0.live.testBit j=true:=fun r hr j hj hb=>by
 rcases z36 hr with h1 | rfl
 ·exact .inr ⟨r,List.mem_of_mem_take h1,rfl,hb⟩
 ·rw [z4E] at hb
  by_cases e:k=j
  ·left
   show q*64+j=p;omega
  ·simp only [e,decide_false,Bool.or_false] at hb
   rcases hR with ⟨_,rfl,_⟩ | ⟨r0,hr0,_,hn,rfl,_⟩
   ·simp at hb
   ·exact .inr ⟨r0,List.mem_of_getElem? hr0,hn,hb⟩
theorem z3q (B g p:Nat) (rs:List ROW) (h:Nat->Nat) (hp:p<2 ^ 64) (hfew:rs.length+1<2 ^ 40) (hN:NEXT rs p) (h8:∀ i,h i<256) (w:World) (hC:CHUNK w B g rs):Calls Tryz.prog 65 #[.pointer (some ⟨g,0,none⟩),.int .u64 (p:Int),.agg (UARR .u8 32 h)] w fun e w'=>(∃ v,e=.returned v)/\PUTS w B g p rs h w':=by
 obtain ⟨a,cap,hbx,hlie,hfrm,ho⟩:=hC.lies;have hgl:=hbx.lt;have hBw:B<=w.heap.size:=by have:=hC.far;omega
 have hcell:=hbx.cell 0;by_cases hL:∃ r,rs[rs.length - 1]?=some r/\r.num=p / 64
 ·obtain ⟨r,hr,hn⟩:=hL
  have hil:=(List.getElem?_eq_some_iff.1 hr).1;obtain ⟨i,hi⟩:∃ i,rs.length - 1=i:=⟨_,rfl⟩
  rw [hi] at hr;have hi1:i+1=rs.length:=by omega
  obtain ⟨gr,rfl,hBr,hgr⟩:=hfrm (by omega);have hrm:=List.mem_of_getElem? hr;obtain ⟨r1,r2,r3,r4,r5⟩:=hC.row r hrm
  have hbits:∀ j,j<64->r.live.testBit j=true->j<p % 64:=by
   rcases hN r hrm with h1 | h1
   ·omega
   ·exact h1.2
  have hR:REST rs i (p / 64) r.live r.hs:=.inr ⟨r,hr,hi1,hn,rfl,rfl⟩;have hlow:=NEXT.low hC hr hn;have hrk:RK r.live (p % 64)=r.hs.length:=by rw [r3,zaJ (by omega) hbits]
  have h64:r.hs.length<=1000:=by rw [<-hrk];have:=zbL r.live (p % 64);omega
  refine (zbJ B g gr i rs.length cap p (p % 64) r.live r.hs.length (RC rs) (HL r.hs) r.v h w hbx ho (by omega) (z2z rs i 1 r hr (by decide)) (z2z rs i 2 r hr (by decide)) r5 hrk r2 rfl hp hBw h64 (fun W hW=>z3k hC hr hn W hW)).mono ?_;rintro e w' ⟨he,gh,ch,b1,b2,b3,b4,b5,b6,b7⟩
  have hap:∀ s∈rs.take i,s.gh≠r.gh/\s.gh<w.heap.size/\s.gh≠gr:=fun s hs=>by
   obtain ⟨j,hj,hjs⟩:=z6F hs;have h5:=(hC.row s (List.mem_of_getElem? hjs)).2.2.2.2;exact ⟨hC.apart j i s r (by omega) hjs hr,(h5.lt s.gh rfl).2,fun e=>z2I ho h5 (by rw [<-e];rfl)⟩
  have hghc:gh=r.gh\/w.heap.size<=gh:=b4.imp (fun e=>by have e2:some r.gh=some gh:=e;exact (Option.some.inj e2).symm) id;refine ⟨he,MORE rs i (p / 64) (p % 64) gh ch r.live r.hs h,?_,fun p'=>z7m hR hlow rfl rfl hbits r3,z7n hR rfl rfl,?_,?_,b5,b6,?_⟩
  ·refine hC.more (gr:=gr) (cap:=cap) hR hlow rfl rfl hp r2 hfew (fun x hx=>?_) hbits r3 (by omega) (by rw [hi1];exact b1) (by rw [hi1,z9J hr hi1 hn];exact b2) (by rw [zaK];exact b3) (fun s hs=>?_) (fun s hs=>?_)
   ·rcases List.mem_append.1 hx with h1 | h1
    ·exact r4 x h1
    ·rw [List.mem_singleton.1 h1];exact h8
   ·obtain ⟨c1,c2,c3⟩:=hap s hs
    exact b7 s.gh c2 c3 (fun e=>c1 (by have e2:some r.gh=some s.gh:=e;exact (Option.some.inj e2).symm))
   ·obtain ⟨c1,c2,c3⟩:=hap s hs
    rcases hghc with e | e
    ·rw [e];exact c1
    ·omega
  ·intro s hs
   rcases z36 hs with h1 | rfl
   ·exact .inl ⟨s,List.mem_of_mem_take h1,rfl⟩
   ·exact hghc.imp (fun e=>⟨r,hrm,e.symm⟩) id
  ·intro v v' e1 e2
   rw [hcell] at e1;rw [b1.cell 0] at e2;have e1:=Option.some.inj e1;have e2:=Option.some.inj e2;left;rw [<-e1,<-e2]
  ·intro b hb hbg hbv hbr
   refine b7 b hb (fun e=>hbv _ hcell (by rw [e];rfl)) (fun e=>?_);have e2:some r.gh=some b:=e;exact hbr r hrm (Option.some.inj e2)
 ·have hall:∀ r∈rs,r.num<p / 64:=fun r hr=>by
   rcases hN r hr with h1 | h1
   ·exact h1
   ·exfalso
    obtain ⟨j,hj⟩:=List.getElem?_of_mem hr;have hjl:=(List.getElem?_eq_some_iff.1 hj).1;by_cases e:j=rs.length - 1
    ·subst e
     exact hL ⟨r,hj,h1.1⟩
    ·have hl:rs.length - 1<rs.length:=by omega
     have h3:=hC.rise j (rs.length - 1) r _ (by omega) hj (List.getElem?_eq_getElem hl);rcases hN _ (List.getElem_mem hl) with h4 | h4 <;> omega
  have hR:REST rs rs.length (p / 64) 0 []:=.inl ⟨rfl,rfl,rfl⟩;have hlow:∀ s∈rs.take rs.length,s.num<p / 64:=fun s hs=>hall s (List.mem_of_mem_take hs);have hbits:∀ j,j<64->(0:Nat).testBit j=true->j<p % 64:=fun j _ hb=>by simp at hb
  have hp0:([]:List (Nat->Nat)).length=POP 0:=by rw [z34,z6L];rfl
  refine (zbK B g rs.length p (p / 64) (p % 64) (.slice a rs.length cap) (RC rs) h w hbx hC.far ho (by omega) rfl rfl hp hBw (fun W hW=>z7G hC hall W hW)).mono ?_;rintro e w' ⟨he,gr,cap',gh,ch,b1,b2,b3,b4,b5,b6,b7,b8⟩;refine ⟨he,MORE rs rs.length (p / 64) (p % 64) gh ch 0 [] h,?_,fun p'=>z7m hR hlow rfl rfl hbits hp0,z7n hR rfl rfl,?_,?_,b6,b7,?_⟩
  ·refine hC.more (gr:=gr) (cap:=cap') hR hlow rfl rfl hp (by decide) hfew (fun x hx=>?_) hbits hp0 (Nat.le_refl _) b1 (by rw [z9K rfl];exact b2) (by rw [zaK];exact b3) (fun s hs=>?_) (fun s hs=>?_)
   ·rw [List.mem_singleton.1 hx];exact h8
   ·have h5:=(hC.row s (List.mem_of_mem_take hs)).2.2.2.2
    refine b8 s.gh (h5.lt s.gh rfl).2 (fun e=>?_) (fun e=>?_)
    ·obtain ⟨c,hc,_⟩:=z0B h5 (b:=s.gh) rfl
     rw [e,show w.heap[g]?=_ from hbx] at hc;cases hc
    ·obtain ⟨j,_,hjs⟩:=z6F hs
     have:0<rs.length:=by have:=(List.getElem?_eq_some_iff.1 hjs).1;omega
     obtain ⟨gr0,rfl,_⟩:=hfrm this;exact z2I ho h5 (by have e2:some gr0=some s.gh:=e;rw [Option.some.inj e2];rfl)
   ·have h5:=(hC.row s (List.mem_of_mem_take hs)).2.2.2.2
    have:=(h5.lt s.gh rfl).2;omega
  ·intro s hs
   rcases z36 hs with h1 | rfl
   ·exact .inl ⟨s,List.mem_of_mem_take h1,rfl⟩
   ·exact .inr b4
  ·intro v v' e1 e2
   rw [hcell] at e1;rw [b1.cell 0] at e2;have e1:=Option.some.inj e1;have e2:=Option.some.inj e2;rw [<-e1,<-e2];rcases b5 with e | e
   ·left
    exact e.symm
   ·right
    exact ⟨gr,rfl,e⟩
  ·intro b hb hbg hbv hbr
   exact b8 b hb hbg (hbv _ hcell)
end Go.Proofs.YtlbcnaenhghieaaGreatDoor.HX
namespace Go.Proofs.YtlbcnaenhghieaaGreatDoor.HX
open Go.RowKit Go.Maps
set_option maxRecDepth 100000
theorem z1J {w:World} {b o:Nat} {v:Value} (h:w.cell? ⟨b,o,none⟩=some v):(Instr.loadAt 60 (.pointer (some ⟨b,o,none⟩))).run Tryz.prog w=.ok v w:=by simp [go_sem,h]
theorem z1K {w:World} {g k:Nat} (hg:Has w g #[.int .u64 (k:Int)] 113):(Instr.loadAt 113 (.pointer (some ⟨g,0,none⟩))).run Tryz.prog w=.ok (KEY k) w:=by
 simp only [Instr.loadAt,Instr.sureAddr,Sem.run_bind,Sem.run_pure,Result.andThen];exact run_loadVar_row w g 113 113 #[.int .u64 (k:Int)] (0,0) _ hg Tryz.underlying113 rfl (by kernel_rfl)
@[go_sem] def SP4OPSq0:Oper:=⟨some 22,.move (.tmp 0),32,"store.go:200",#[],none⟩
@[go_sem] def SP4OPSq1:Oper:=⟨some 23,.nilCheck (.tmp 22),0,"store.go:200",#[⟨0,.data⟩],none⟩
@[go_sem] def SP4OPSq2:Oper:=⟨some 24,.fieldAddr 63 (.tmp 23) 3,0,"store.go:200",#[⟨1,.data⟩],none⟩
@[go_sem] def SP4OPSq3:Oper:=⟨some 25,.load 60 (.tmp 24),60,"store.go:200",#[⟨2,.data⟩],none⟩
@[go_sem] def SP4OPSq4:Oper:=⟨some 26,.load 113 (.tmp 6),113,"store.go:200",#[],none⟩
@[go_sem] def SP4OPSq5:Oper:=⟨some 27,.lookup 60 (.tmp 25) (.tmp 26) true,125,"store.go:200",#[⟨3,.data⟩,⟨4,.data⟩],none⟩
@[go_sem] def SP4OPSq6:Oper:=⟨some 21,.move (.tmp 27),125,"store.go:200",#[⟨5,.data⟩],none⟩
@[go_sem] def SP4OPSq7:Oper:=⟨some 28,.extract (.tmp 21) 0,115,"store.go:200",#[⟨6,.data⟩],none⟩
@[go_sem] def SP4OPSq8:Oper:=⟨some 29,.extract (.tmp 21) 1,4,"store.go:200",#[⟨6,.data⟩,{on:=9,ground:=.gcOnly Departure.lateStores}],none⟩
@[go_sem] def SP4OPSq9:Oper:=⟨some 7,.assign (.tmp 28),115,"store.go:200",#[⟨7,.data⟩,⟨0,.phase⟩,⟨1,.phase⟩,⟨2,.phase⟩,⟨3,.phase⟩,⟨4,.phase⟩,⟨5,.phase⟩,⟨6,.phase⟩,⟨7,.phase⟩,{on:=8,ground:=.textOnly Departure.lateStores}],none⟩
@[go_sem] def SP4OPSq10:Oper:=⟨some 8,.assign (.tmp 29),4,"store.go:200",#[⟨8,.data⟩,⟨9,.chain⟩,⟨0,.phase⟩,⟨1,.phase⟩,⟨2,.phase⟩,⟨3,.phase⟩,⟨4,.phase⟩,⟨5,.phase⟩,⟨6,.phase⟩,⟨7,.phase⟩,⟨8,.phase⟩,⟨9,.phase⟩],none⟩
def z1q:Array Oper:=#[SP4OPSq0,SP4OPSq1,SP4OPSq2,SP4OPSq3,SP4OPSq4,SP4OPSq5,SP4OPSq6,SP4OPSq7,SP4OPSq8,SP4OPSq9,SP4OPSq10]
theorem zbM {Q:Exit->Act->World->Prop} (d e f i j l m n p q r u x y z A B C D E F G H I J L M N O P R S T U V X Y Z aa ab ac ad ae af ag ah ai aj ak:Value) (W:World) (g b6 k:Nat) (mv v:Value) (b:Bool) (h3:W.cell? ⟨g,3,none⟩=some mv) (h6:Has W b6 #[.int .u64 (k:Int)] 113) (hlook:(Instr.lookup 60 mv (KEY k) true).run Tryz.prog W.drew=.ok (.tuple #[v,.bool b]) W.drew) (hQ:∀ c (a:Act) (t:Tmp) (v:Value) w,Q (.panic c) (a.put (some t) v) w->Q (.panic c) a w)
  (h:Q .normal {tmps:=#[.pointer (some ⟨g,0,none⟩),d,e,f,i,j,.pointer (some ⟨b6,0,none⟩),v,.bool b,n,p,q,r,u,x,y,z,A,B,C,D,.tuple #[v,.bool b],.pointer (some ⟨g,0,none⟩),.pointer (some ⟨g,0,none⟩),.pointer (some ⟨g,3,none⟩),mv,KEY k,.tuple #[v,.bool b],v,.bool b,O,P,R,S,T,U,V,X,Y,Z,aa,ab,ac,ad,ae,af,ag,ah,ai,aj,ak],defers:=[]} W.drew):(Code.region 4 z1q true).wp Tryz.prog Q {tmps:=#[.pointer (some ⟨g,0,none⟩),d,e,f,i,j,.pointer (some ⟨b6,0,none⟩),l,m,n,p,q,r,u,x,y,z,A,B,C,D,E,F,G,H,I,J,L,M,N,O,P,R,S,T,U,V,X,Y,Z,aa,ab,ac,ad,ae,af,ag,ah,ai,aj,ak],defers:=[]} W:=by
 have d3:W.drew.cell? ⟨g,3,none⟩=some mv:=h3;have d6:Has W.drew b6 #[.int .u64 (k:Int)] 113:=h6
 have s3_4_5_6_7_8_9_10:wpAny Tryz.prog .any z1q Q 0 #[tt,tt,tt,tt,tt,tt,tt,tt,tt,tt,tt] {tmps:=#[.pointer (some ⟨g,0,none⟩),d,e,f,i,j,.pointer (some ⟨b6,0,none⟩),v,.bool b,n,p,q,r,u,x,y,z,A,B,C,D,.tuple #[v,.bool b],.pointer (some ⟨g,0,none⟩),.pointer (some ⟨g,0,none⟩),.pointer (some ⟨g,3,none⟩),mv,KEY k,.tuple #[v,.bool b],v,.bool b,O,P,R,S,T,U,V,X,Y,Z,aa,ab,ac,ad,ae,af,ag,ah,ai,aj,ak],defers:=[]} W.drew:=by
  exact wpAny_done (by kernel_rfl) h _
 have s3_4_5_6_7_8_9:wpAny Tryz.prog .any z1q Q 1 #[tt,tt,tt,tt,tt,tt,tt,tt,tt,tt,ff] {tmps:=#[.pointer (some ⟨g,0,none⟩),d,e,f,i,j,.pointer (some ⟨b6,0,none⟩),v,m,n,p,q,r,u,x,y,z,A,B,C,D,.tuple #[v,.bool b],.pointer (some ⟨g,0,none⟩),.pointer (some ⟨g,0,none⟩),.pointer (some ⟨g,3,none⟩),mv,KEY k,.tuple #[v,.bool b],v,.bool b,O,P,R,S,T,U,V,X,Y,Z,aa,ab,ac,ad,ae,af,ag,ah,ai,aj,ak],defers:=[]} W.drew:=by
  refine wpAny_ready (rs:=[10]) (by kernel_rfl) (by simp) ?_;refine AllReady.cons (o:=SP4OPSq10) rfl (fun K hK=>z07 (v:=.bool b) rfl rfl (hK _ _ s3_4_5_6_7_8_9_10)) ?_;exact AllReady.nil
 have s3_4_5_6_7_9:wpAny Tryz.prog .any z1q Q 2 #[tt,tt,tt,tt,tt,tt,tt,tt,ff,tt,ff] {tmps:=#[.pointer (some ⟨g,0,none⟩),d,e,f,i,j,.pointer (some ⟨b6,0,none⟩),v,m,n,p,q,r,u,x,y,z,A,B,C,D,.tuple #[v,.bool b],.pointer (some ⟨g,0,none⟩),.pointer (some ⟨g,0,none⟩),.pointer (some ⟨g,3,none⟩),mv,KEY k,.tuple #[v,.bool b],v,N,O,P,R,S,T,U,V,X,Y,Z,aa,ab,ac,ad,ae,af,ag,ah,ai,aj,ak],defers:=[]} W.drew:=by
  refine wpAny_ready (rs:=[8]) (by kernel_rfl) (by simp) ?_;refine AllReady.cons (o:=SP4OPSq8) rfl (fun K hK=>z07 (v:=.bool b) rfl rfl (hK _ _ s3_4_5_6_7_8_9)) ?_;exact AllReady.nil
 have s3_4_5_6_7_8:wpAny Tryz.prog .any z1q Q 2 #[tt,tt,tt,tt,tt,tt,tt,tt,tt,ff,ff] {tmps:=#[.pointer (some ⟨g,0,none⟩),d,e,f,i,j,.pointer (some ⟨b6,0,none⟩),l,m,n,p,q,r,u,x,y,z,A,B,C,D,.tuple #[v,.bool b],.pointer (some ⟨g,0,none⟩),.pointer (some ⟨g,0,none⟩),.pointer (some ⟨g,3,none⟩),mv,KEY k,.tuple #[v,.bool b],v,.bool b,O,P,R,S,T,U,V,X,Y,Z,aa,ab,ac,ad,ae,af,ag,ah,ai,aj,ak],defers:=[]} W.drew:=by
  refine wpAny_ready (rs:=[9]) (by kernel_rfl) (by simp) ?_;refine AllReady.cons (o:=SP4OPSq9) rfl (fun K hK=>z07 (v:=v) rfl rfl (hK _ _ s3_4_5_6_7_8_9)) ?_;exact AllReady.nil
 have s3_4_5_6_8:wpAny Tryz.prog .any z1q Q 3 #[tt,tt,tt,tt,tt,tt,tt,ff,tt,ff,ff] {tmps:=#[.pointer (some ⟨g,0,none⟩),d,e,f,i,j,.pointer (some ⟨b6,0,none⟩),l,m,n,p,q,r,u,x,y,z,A,B,C,D,.tuple #[v,.bool b],.pointer (some ⟨g,0,none⟩),.pointer (some ⟨g,0,none⟩),.pointer (some ⟨g,3,none⟩),mv,KEY k,.tuple #[v,.bool b],M,.bool b,O,P,R,S,T,U,V,X,Y,Z,aa,ab,ac,ad,ae,af,ag,ah,ai,aj,ak],defers:=[]} W.drew:=by
  refine wpAny_ready (rs:=[7]) (by kernel_rfl) (by simp) ?_;refine AllReady.cons (o:=SP4OPSq7) rfl (fun K hK=>z07 (v:=v) rfl rfl (hK _ _ s3_4_5_6_7_8)) ?_;exact AllReady.nil
 have s3_4_5_6_7:wpAny Tryz.prog .any z1q Q 3 #[tt,tt,tt,tt,tt,tt,tt,tt,ff,ff,ff] {tmps:=#[.pointer (some ⟨g,0,none⟩),d,e,f,i,j,.pointer (some ⟨b6,0,none⟩),l,m,n,p,q,r,u,x,y,z,A,B,C,D,.tuple #[v,.bool b],.pointer (some ⟨g,0,none⟩),.pointer (some ⟨g,0,none⟩),.pointer (some ⟨g,3,none⟩),mv,KEY k,.tuple #[v,.bool b],v,N,O,P,R,S,T,U,V,X,Y,Z,aa,ab,ac,ad,ae,af,ag,ah,ai,aj,ak],defers:=[]} W.drew:=by
  refine wpAny_ready (rs:=[8,9]) (by kernel_rfl) (by simp) ?_;refine AllReady.cons (o:=SP4OPSq8) rfl (fun K hK=>z07 (v:=.bool b) rfl rfl (hK _ _ s3_4_5_6_7_8)) ?_;refine AllReady.cons (o:=SP4OPSq9) rfl (fun K hK=>z07 (v:=v) rfl rfl (hK _ _ s3_4_5_6_7_9)) ?_;exact AllReady.nil
 have s3_4_5_6:wpAny Tryz.prog .any z1q Q 4 #[tt,tt,tt,tt,tt,tt,tt,ff,ff,ff,ff] {tmps:=#[.pointer (some ⟨g,0,none⟩),d,e,f,i,j,.pointer (some ⟨b6,0,none⟩),l,m,n,p,q,r,u,x,y,z,A,B,C,D,.tuple #[v,.bool b],.pointer (some ⟨g,0,none⟩),.pointer (some ⟨g,0,none⟩),.pointer (some ⟨g,3,none⟩),mv,KEY k,.tuple #[v,.bool b],M,N,O,P,R,S,T,U,V,X,Y,Z,aa,ab,ac,ad,ae,af,ag,ah,ai,aj,ak],defers:=[]} W.drew:=by
  refine wpAny_ready (rs:=[7,8]) (by kernel_rfl) (by simp) ?_;refine AllReady.cons (o:=SP4OPSq7) rfl (fun K hK=>z07 (v:=v) rfl rfl (hK _ _ s3_4_5_6_7)) ?_;refine AllReady.cons (o:=SP4OPSq8) rfl (fun K hK=>z07 (v:=.bool b) rfl rfl (hK _ _ s3_4_5_6_8)) ?_;exact AllReady.nil
 have s3_4_5:wpAny Tryz.prog .any z1q Q 5 #[tt,tt,tt,tt,tt,tt,ff,ff,ff,ff,ff] {tmps:=#[.pointer (some ⟨g,0,none⟩),d,e,f,i,j,.pointer (some ⟨b6,0,none⟩),l,m,n,p,q,r,u,x,y,z,A,B,C,D,E,.pointer (some ⟨g,0,none⟩),.pointer (some ⟨g,0,none⟩),.pointer (some ⟨g,3,none⟩),mv,KEY k,.tuple #[v,.bool b],M,N,O,P,R,S,T,U,V,X,Y,Z,aa,ab,ac,ad,ae,af,ag,ah,ai,aj,ak],defers:=[]} W.drew:=by
  refine wpAny_ready (rs:=[6]) (by kernel_rfl) (by simp) ?_;refine AllReady.cons (o:=SP4OPSq6) rfl (fun K hK=>z07 (v:=.tuple #[v,.bool b]) rfl rfl (hK _ _ s3_4_5_6)) ?_;exact AllReady.nil
 have s3_4:wpAny Tryz.prog .any z1q Q 6 #[tt,tt,tt,tt,tt,ff,ff,ff,ff,ff,ff] {tmps:=#[.pointer (some ⟨g,0,none⟩),d,e,f,i,j,.pointer (some ⟨b6,0,none⟩),l,m,n,p,q,r,u,x,y,z,A,B,C,D,E,.pointer (some ⟨g,0,none⟩),.pointer (some ⟨g,0,none⟩),.pointer (some ⟨g,3,none⟩),mv,KEY k,L,M,N,O,P,R,S,T,U,V,X,Y,Z,aa,ab,ac,ad,ae,af,ag,ah,ai,aj,ak],defers:=[]} W.drew:=by
  refine wpAny_ready (rs:=[5]) (by kernel_rfl) (by simp) ?_;refine AllReady.cons (o:=SP4OPSq5) rfl (fun K hK=>z07 (v:=.tuple #[v,.bool b]) rfl (z08 (hlook)) (hK _ _ s3_4_5)) ?_;exact AllReady.nil
 have s4:wpAny Tryz.prog .any z1q Q 7 #[tt,tt,tt,ff,tt,ff,ff,ff,ff,ff,ff] {tmps:=#[.pointer (some ⟨g,0,none⟩),d,e,f,i,j,.pointer (some ⟨b6,0,none⟩),l,m,n,p,q,r,u,x,y,z,A,B,C,D,E,.pointer (some ⟨g,0,none⟩),.pointer (some ⟨g,0,none⟩),.pointer (some ⟨g,3,none⟩),I,KEY k,L,M,N,O,P,R,S,T,U,V,X,Y,Z,aa,ab,ac,ad,ae,af,ag,ah,ai,aj,ak],defers:=[]} W.drew:=by
  refine wpAny_ready (rs:=[3]) (by kernel_rfl) (by simp) ?_;refine AllReady.cons (o:=SP4OPSq3) rfl (fun K hK=>z07 (v:=mv) rfl (z08 (z1J d3)) (hK _ _ s3_4)) ?_;exact AllReady.nil
 have s3:wpAny Tryz.prog .any z1q Q 7 #[tt,tt,tt,tt,ff,ff,ff,ff,ff,ff,ff] {tmps:=#[.pointer (some ⟨g,0,none⟩),d,e,f,i,j,.pointer (some ⟨b6,0,none⟩),l,m,n,p,q,r,u,x,y,z,A,B,C,D,E,.pointer (some ⟨g,0,none⟩),.pointer (some ⟨g,0,none⟩),.pointer (some ⟨g,3,none⟩),mv,J,L,M,N,O,P,R,S,T,U,V,X,Y,Z,aa,ab,ac,ad,ae,af,ag,ah,ai,aj,ak],defers:=[]} W.drew:=by
  refine wpAny_ready (rs:=[4]) (by kernel_rfl) (by simp) ?_;refine AllReady.cons (o:=SP4OPSq4) rfl (fun K hK=>z07 (v:=KEY k) rfl (z08 (z1K d6)) (hK _ _ s3_4)) ?_;exact AllReady.nil
 have s:wpAny Tryz.prog .any z1q Q 8 #[tt,tt,tt,ff,ff,ff,ff,ff,ff,ff,ff] {tmps:=#[.pointer (some ⟨g,0,none⟩),d,e,f,i,j,.pointer (some ⟨b6,0,none⟩),l,m,n,p,q,r,u,x,y,z,A,B,C,D,E,.pointer (some ⟨g,0,none⟩),.pointer (some ⟨g,0,none⟩),.pointer (some ⟨g,3,none⟩),I,J,L,M,N,O,P,R,S,T,U,V,X,Y,Z,aa,ab,ac,ad,ae,af,ag,ah,ai,aj,ak],defers:=[]} W.drew:=by
  refine wpAny_ready (rs:=[3,4]) (by kernel_rfl) (by simp) ?_;refine AllReady.cons (o:=SP4OPSq3) rfl (fun K hK=>z07 (v:=mv) rfl (z08 (z1J d3)) (hK _ _ s3)) ?_;refine AllReady.cons (o:=SP4OPSq4) rfl (fun K hK=>z07 (v:=KEY k) rfl (z08 (z1K d6)) (hK _ _ s4)) ?_;exact AllReady.nil
 refine wp_region_any (by kernel_rfl) ?_;refine tkB SP4OPSq0 (.pointer (some ⟨g,0,none⟩)) 0 hQ ?_;simp only [List.set];refine tkB SP4OPSq1 (.pointer (some ⟨g,0,none⟩)) 1 hQ ?_;simp only [List.set];refine tkB SP4OPSq2 (.pointer (some ⟨g,3,none⟩)) 2 hQ ?_;simp only [List.set];exact s
@[go_sem] def SP7OPSq0:Oper:=⟨some 34,.move (.tmp 0),32,"store.go:203",#[],none⟩
@[go_sem] def SP7OPSq1:Oper:=⟨some 35,.nilCheck (.tmp 34),0,"store.go:203",#[⟨0,.data⟩],none⟩
@[go_sem] def SP7OPSq2:Oper:=⟨some 36,.fieldAddr 63 (.tmp 35) 3,0,"store.go:203",#[⟨1,.data⟩],none⟩
@[go_sem] def SP7OPSq3:Oper:=⟨some 37,.load 60 (.tmp 36),60,"store.go:203",#[⟨2,.data⟩],none⟩
@[go_sem] def SP7OPSq4:Oper:=⟨some 38,.load 113 (.tmp 6),113,"store.go:203",#[],none⟩
@[go_sem] def SP7OPSq5:Oper:=⟨some 39,.move (.tmp 7),115,"store.go:203",#[],none⟩
@[go_sem] def SP7OPSq6:Oper:=⟨none,.mapUpdate 60 (.tmp 37) (.tmp 38) (.tmp 39),0,"store.go:203",#[⟨3,.data⟩,⟨4,.data⟩,⟨5,.data⟩,⟨0,.phase⟩,⟨1,.phase⟩,⟨2,.phase⟩,⟨3,.phase⟩,⟨4,.phase⟩,⟨5,.phase⟩],none⟩
def z3x:Array Oper:=#[SP7OPSq0,SP7OPSq1,SP7OPSq2,SP7OPSq3,SP7OPSq4,SP7OPSq5,SP7OPSq6]
theorem zfW {Q:Exit->Act->World->Prop} (b d e f i j l m n p q r u x y z A B C D E F G H I J L M N O P R S T U V X Y Z aa ab ac ad ae af ag ah ai:Value) (W:World) (g b6 k:Nat) (mv v7:Value) (w2:World) (h3:W.cell? ⟨g,3,none⟩=some mv) (h6:Has W b6 #[.int .u64 (k:Int)] 113) (hupd:(Instr.mapUpdate 60 mv (KEY k) v7).run Tryz.prog W.drew=.ok () w2) (hQ:∀ c (a:Act) (t:Tmp) (v:Value) w,Q (.panic c) (a.put (some t) v) w->Q (.panic c) a w)
  (h:Q .normal {tmps:=#[.pointer (some ⟨g,0,none⟩),b,d,e,f,i,.pointer (some ⟨b6,0,none⟩),v7,j,l,m,n,p,q,r,u,x,y,z,A,B,C,D,E,F,G,H,I,J,L,M,N,O,P,.pointer (some ⟨g,0,none⟩),.pointer (some ⟨g,0,none⟩),.pointer (some ⟨g,3,none⟩),mv,KEY k,v7,Y,Z,aa,ab,ac,ad,ae,af,ag,ah,ai],defers:=[]} (w2)):(Code.region 7 z3x true).wp Tryz.prog Q {tmps:=#[.pointer (some ⟨g,0,none⟩),b,d,e,f,i,.pointer (some ⟨b6,0,none⟩),v7,j,l,m,n,p,q,r,u,x,y,z,A,B,C,D,E,F,G,H,I,J,L,M,N,O,P,R,S,T,U,V,X,Y,Z,aa,ab,ac,ad,ae,af,ag,ah,ai],defers:=[]} W:=by
 have d3:W.drew.cell? ⟨g,3,none⟩=some mv:=h3;have d6:Has W.drew b6 #[.int .u64 (k:Int)] 113:=h6
 have s3_4_6:wpAny Tryz.prog .any z3x Q 0 #[tt,tt,tt,tt,tt,tt,tt] {tmps:=#[.pointer (some ⟨g,0,none⟩),b,d,e,f,i,.pointer (some ⟨b6,0,none⟩),v7,j,l,m,n,p,q,r,u,x,y,z,A,B,C,D,E,F,G,H,I,J,L,M,N,O,P,.pointer (some ⟨g,0,none⟩),.pointer (some ⟨g,0,none⟩),.pointer (some ⟨g,3,none⟩),mv,KEY k,v7,Y,Z,aa,ab,ac,ad,ae,af,ag,ah,ai],defers:=[]} (w2):=by
  exact wpAny_done (by kernel_rfl) h _
 have s3_4:wpAny Tryz.prog .any z3x Q 1 #[tt,tt,tt,tt,tt,tt,ff] {tmps:=#[.pointer (some ⟨g,0,none⟩),b,d,e,f,i,.pointer (some ⟨b6,0,none⟩),v7,j,l,m,n,p,q,r,u,x,y,z,A,B,C,D,E,F,G,H,I,J,L,M,N,O,P,.pointer (some ⟨g,0,none⟩),.pointer (some ⟨g,0,none⟩),.pointer (some ⟨g,3,none⟩),mv,KEY k,v7,Y,Z,aa,ab,ac,ad,ae,af,ag,ah,ai],defers:=[]} W.drew:=by
  refine wpAny_ready (rs:=[6]) (by kernel_rfl) (by simp) ?_;refine AllReady.cons (o:=SP7OPSq6) rfl (fun K hK=>z0L rfl (z10 (hupd)) (hK _ _ s3_4_6)) ?_;exact AllReady.nil
 have s4:wpAny Tryz.prog .any z3x Q 2 #[tt,tt,tt,ff,tt,tt,ff] {tmps:=#[.pointer (some ⟨g,0,none⟩),b,d,e,f,i,.pointer (some ⟨b6,0,none⟩),v7,j,l,m,n,p,q,r,u,x,y,z,A,B,C,D,E,F,G,H,I,J,L,M,N,O,P,.pointer (some ⟨g,0,none⟩),.pointer (some ⟨g,0,none⟩),.pointer (some ⟨g,3,none⟩),U,KEY k,v7,Y,Z,aa,ab,ac,ad,ae,af,ag,ah,ai],defers:=[]} W.drew:=by
  refine wpAny_ready (rs:=[3]) (by kernel_rfl) (by simp) ?_;refine AllReady.cons (o:=SP7OPSq3) rfl (fun K hK=>z07 (v:=mv) rfl (z08 (z1J d3)) (hK _ _ s3_4)) ?_;exact AllReady.nil
 have s3:wpAny Tryz.prog .any z3x Q 2 #[tt,tt,tt,tt,ff,tt,ff] {tmps:=#[.pointer (some ⟨g,0,none⟩),b,d,e,f,i,.pointer (some ⟨b6,0,none⟩),v7,j,l,m,n,p,q,r,u,x,y,z,A,B,C,D,E,F,G,H,I,J,L,M,N,O,P,.pointer (some ⟨g,0,none⟩),.pointer (some ⟨g,0,none⟩),.pointer (some ⟨g,3,none⟩),mv,V,v7,Y,Z,aa,ab,ac,ad,ae,af,ag,ah,ai],defers:=[]} W.drew:=by
  refine wpAny_ready (rs:=[4]) (by kernel_rfl) (by simp) ?_;refine AllReady.cons (o:=SP7OPSq4) rfl (fun K hK=>z07 (v:=KEY k) rfl (z08 (z1K d6)) (hK _ _ s3_4)) ?_;exact AllReady.nil
 have s:wpAny Tryz.prog .any z3x Q 3 #[tt,tt,tt,ff,ff,tt,ff] {tmps:=#[.pointer (some ⟨g,0,none⟩),b,d,e,f,i,.pointer (some ⟨b6,0,none⟩),v7,j,l,m,n,p,q,r,u,x,y,z,A,B,C,D,E,F,G,H,I,J,L,M,N,O,P,.pointer (some ⟨g,0,none⟩),.pointer (some ⟨g,0,none⟩),.pointer (some ⟨g,3,none⟩),U,V,v7,Y,Z,aa,ab,ac,ad,ae,af,ag,ah,ai],defers:=[]} W.drew:=by
  refine wpAny_ready (rs:=[3,4]) (by kernel_rfl) (by simp) ?_;refine AllReady.cons (o:=SP7OPSq3) rfl (fun K hK=>z07 (v:=mv) rfl (z08 (z1J d3)) (hK _ _ s3)) ?_;refine AllReady.cons (o:=SP7OPSq4) rfl (fun K hK=>z07 (v:=KEY k) rfl (z08 (z1K d6)) (hK _ _ s4)) ?_;exact AllReady.nil
 refine wp_region_any (by kernel_rfl) ?_;refine tkB SP7OPSq0 (.pointer (some ⟨g,0,none⟩)) 0 hQ ?_;simp only [List.set];refine tkB SP7OPSq1 (.pointer (some ⟨g,0,none⟩)) 1 hQ ?_;simp only [List.set];refine tkB SP7OPSq2 (.pointer (some ⟨g,3,none⟩)) 2 hQ ?_;simp only [List.set];refine tkB SP7OPSq5 v7 5 hQ ?_;simp only [List.set];exact s
theorem z2m {w:World} {g i:Nat} {cs:Array Value} {t:TypeId} {fr:Nat × Nat} (h:w.heap[g]?=some (.cells cs t fr)) (v:Value):∃ cs',(w.setCell ⟨g,i,none⟩ v).heap[g]?=some (.cells cs' t fr):=by
 refine ⟨cs.setIfInBounds i v,?_⟩;simp [World.setCell,Array.getElem?_modify,h]
def FOOT (w:World) (g:Nat) (C:z01) (b:Nat):Prop:=w.cell? ⟨g,3,none⟩=some (.map (some b))\/∃ k gc rs,C k=some (gc,rs)/\(b=gc\/(∃ v,w.cell? ⟨gc,0,none⟩=some v/\v.ownBlock=some b)\/∃ r∈rs,r.gh=b)
def TOP (C:z01) (p:Nat):Prop:=∀ k gc rs,C k=some (gc,rs)->∀ r∈rs,∀ j,j<64->r.live.testBit j=true->r.num*64+j<p
theorem CHUNK.kinds {w:World} {B g:Nat} {rs:List ROW} (h:CHUNK w B g rs):(∃ c,w.heap[g]?=some (.cells c 128 (0,0)))/\(∀ v b,w.cell? ⟨g,0,none⟩=some v->v.ownBlock=some b->∃ c,w.heap[b]?=some (.cells c 139 (0,0)))/\∀ r∈rs,∃ c,w.heap[r.gh]?=some (.cells c 25 (0,0)):=by
 obtain ⟨v,hv,ho⟩:=h.box;refine ⟨⟨_,hv⟩,fun u b hu hb=>?_,fun r hr=>?_⟩
 ·rw [hv.cell 0] at hu
  cases Option.some.inj hu;obtain ⟨c,hc,_⟩:=z0B ho hb;exact ⟨c,hc⟩
 ·obtain ⟨c,hc,_⟩:=z0B (h.row r hr).2.2.2.2 (b:=r.gh) rfl
  exact ⟨c,hc⟩
theorem CHUNK.at {w w':World} {B g:Nat} {rs:List ROW} (h:CHUNK w B g rs) (e1:w'.heap[g]?=w.heap[g]?) (e2:∀ v b,w.cell? ⟨g,0,none⟩=some v->v.ownBlock=some b->w'.heap[b]?=w.heap[b]?) (e3:∀ r∈rs,w'.heap[r.gh]?=w.heap[r.gh]?):CHUNK w' B g rs:=by
 obtain ⟨v,hv,ho⟩:=h.box
 exact ⟨⟨v,e1.trans hv,z35 ho fun b hb=>e2 v b (hv.cell 0) hb⟩,h.far,h.few,h.rise,fun r hr=>by
  obtain ⟨a,b,c,d,e⟩:=h.row r hr;exact ⟨a,b,c,d,z35 e fun b hb=>by cases hb;exact e3 r hr⟩,h.apart,h.lives⟩
theorem TOP.next {w:World} {B g p:Nat} {rs:List ROW} (hC:CHUNK w B g rs) (h:∀ r∈rs,∀ j,j<64->r.live.testBit j=true->r.num*64+j<p):NEXT rs p:=fun r hr=>by
 obtain ⟨j,hj,hb⟩:=hC.lives r hr;have h1:=h r hr j hj hb;by_cases e:r.num<p / 64
 ·exact .inl e
 ·refine .inr ⟨by omega,fun i hi hb'=>?_⟩
  have:=h r hr i hi hb';omega
def WITH (C:z01) (K gc:Nat) (rs:List ROW):z01:=fun j=>if j=K then some (gc,rs) else C j
theorem z0o {C:z01} {K gc:Nat} {rs:List ROW}:WITH C K gc rs K=some (gc,rs):=if_pos rfl
theorem z0p {C:z01} {K gc j:Nat} {rs:List ROW} (h:j≠K):WITH C K gc rs j=C j:=if_neg h
theorem z09 {w:World} {b b':Nat} {c c':Array Value} {t t':TypeId} {fr fr':Nat × Nat} (h:w.heap[b]?=some (.cells c t fr)) (h':w.heap[b']?=some (.cells c' t' fr')) (ht:t≠t'):b≠b':=fun e=>by
 rw [e,h'] at h;cases h;exact ht rfl
def FULL (C:z01):Prop:=∀ k gc rs,C k=some (gc,rs)->rs≠[]
def FULLB (C:z01) (K:Nat):Prop:=∀ k gc rs,k≠K->C k=some (gc,rs)->rs≠[]
theorem FULL.but {C:z01} (h:FULL C) (K:Nat):FULLB C K:=fun k gc rs _ e=>h k gc rs e
theorem FULLB.with {C:z01} {K gc:Nat} {rs:List ROW} (h:FULLB C K):FULLB (WITH C K gc rs) K:=fun k gc rs hk e=>h k gc rs hk (by rw [z0p hk] at e;exact e)
theorem FULLB.full {C:z01} {K gc:Nat} {rs:List ROW} (h:FULLB C K) (hr:rs≠[]):FULL (WITH C K gc rs):=fun k gc' rs' e=>by
 by_cases hk:k=K
 ·subst hk
  rw [z0o] at e;cases e;exact hr
 ·rw [z0p hk] at e
  exact h k gc' rs' hk e
theorem STORE.put {W W':World} {B g log len alive N K gc p:Nat} {C:z01} {rs:List ROW} {h:Nat->Nat} (hS:STORE W B g log len alive N C) (hK:C K=some (gc,rs)) (hp:p / 2 ^ log=K) (hpl:p<len) (hP:PUTS W B gc p rs h W'):
  ∃ C',STORE (W'.setCell ⟨g,2,none⟩ (.int .u64 ((alive+1:Nat):Int))) B g log len (alive+1) N C'/\(∀ p',AT C' log p'=if p'=p then some h else AT C log p')/\(TOP C p->TOP C' (p+1))/\
   (∀ b,FOOT (W'.setCell ⟨g,2,none⟩ (.int .u64 ((alive+1:Nat):Int))) g C' b->FOOT W g C b\/W.heap.size<=b)/\(∀ b,b<W.heap.size->b≠g->¬ FOOT W g C b->(W'.setCell ⟨g,2,none⟩ (.int .u64 ((alive+1:Nat):Int))).heap[b]?=W.heap[b]?)/\
   (∀ i,i≠2->(W'.setCell ⟨g,2,none⟩ (.int .u64 ((alive+1:Nat):Int))).cell? ⟨g,i,none⟩=W.cell? ⟨g,i,none⟩)/\W.heap.size<=(W'.setCell ⟨g,2,none⟩ (.int .u64 ((alive+1:Nat):Int))).heap.size/\(FULLB C K->FULL C'):=by
 obtain ⟨rs',q1,q2,q3,q4,q5,q6,q7,q8⟩:=hP;obtain ⟨cs,t,fr,k1,k2,k3,k4⟩:=hS.kind;obtain ⟨a1,a2,a3⟩:=hS.chunk K gc rs hK;obtain ⟨⟨_,y1⟩,y2,y3⟩:=a2.kinds;have hgl:=hS.lt;have hg:W'.heap[g]?=W.heap[g]?:=q8 g hgl (z09 k1 y1 k2) (fun v hv e=>by obtain ⟨_,hc⟩:=y2 v g hv e;exact z09 k1 hc k3 rfl) (fun r hr e=>by obtain ⟨_,hc⟩:=y3 r hr;rw [e] at hc;exact z09 k1 hc k4 rfl);have hcell:∀ i,W'.cell? ⟨g,i,none⟩=W.cell? ⟨g,i,none⟩:=fun i=>World.cell?_of_block (w:=W) (by exact hg);obtain ⟨w5,hw5⟩:∃ w5,W'.setCell ⟨g,2,none⟩ (.int .u64 ((alive+1:Nat):Int))=w5:=⟨_,rfl⟩
 rw [hw5];have hset:∀ b,b≠g->w5.heap[b]?=W'.heap[b]?:=fun b hb=>by rw [<-hw5];exact Below.heap_setCell _ _ _ b (by exact hb)
 have hc5:∀ i,i≠2->w5.cell? ⟨g,i,none⟩=W.cell? ⟨g,i,none⟩:=fun i hi=>by rw [<-hw5,z1N (fun e=>hi e.symm)];exact hcell i
 have hs5:w5.heap.size=W'.heap.size:=by rw [<-hw5];simp
 obtain ⟨mv,m1,m2,m3⟩:=hS.map;have keep:∀ b c t' fr',W.heap[b]?=some (.cells c t' fr')->b≠g->b≠gc->(∀ v,W.cell? ⟨gc,0,none⟩=some v->v.ownBlock≠some b)->(∀ r∈rs,r.gh≠b)->w5.heap[b]?=W.heap[b]?:=fun b c t' fr' hb e1 e2 e3 e4=>(hset b e1).trans (q8 b (Array.getElem?_eq_some_iff.1 hb).1 e2 e3 e4)
 have hother:∀ k gc' rk,k≠K->C k=some (gc',rk)->w5.heap[gc']?=W.heap[gc']?/\(∀ v b,W.cell? ⟨gc',0,none⟩=some v->v.ownBlock=some b->w5.heap[b]?=W.heap[b]?)/\∀ r∈rk,w5.heap[r.gh]?=W.heap[r.gh]?:=fun k gc' rk hk e=>by
  obtain ⟨b1,b2,b3⟩:=hS.chunk k gc' rk e;obtain ⟨⟨_,z1⟩,z2,z3⟩:=b2.kinds;obtain ⟨o1,o2,o3⟩:=hS.one k K gc' gc rk rs hk e hK;refine ⟨keep gc' _ _ _ z1 (fun e=>z09 k1 z1 k2 e.symm) o1 (fun v hv e=>by obtain ⟨_,hc⟩:=y2 v _ hv e;exact z09 z1 hc (by decide) rfl) (fun r hr e=>by obtain ⟨_,hc⟩:=y3 r hr;rw [e] at hc;exact z09 z1 hc (by decide) rfl),fun v b hv hb=>?_,fun r hr=>?_⟩
  ·obtain ⟨_,hcb⟩:=z2 v b hv hb
   refine keep b _ _ _ hcb (fun e=>z09 k1 hcb k3 e.symm) (z09 hcb y1 (by decide)) (fun v' hv' e=>?_) (fun r hr e=>by obtain ⟨_,hc⟩:=y3 r hr;rw [e] at hc;exact z09 hcb hc (by decide) rfl);rcases o3 v v' hv hv' with h | h
   ·rw [hb] at h;cases h
   ·exact h (hb.trans e.symm)
  ·obtain ⟨_,hcr⟩:=z3 r hr
   exact keep r.gh _ _ _ hcr (fun e=>z09 k1 hcr k4 e.symm) (z09 hcr y1 (by decide)) (fun v hv e=>by obtain ⟨_,hc⟩:=y2 v _ hv e;exact z09 hcr hc (by decide) rfl) (fun r' hr' e=>o2 r hr r' hr' e.symm)
 have hocell:∀ k gc' rk,k≠K->C k=some (gc',rk)->∀ i,w5.cell? ⟨gc',i,none⟩=W.cell? ⟨gc',i,none⟩:=fun k gc' rk hk e i=>World.cell?_of_block (w:=W) (by exact (hother k gc' rk hk e).1);obtain ⟨⟨_,x1⟩,x2,x3⟩:=q1.kinds;have k1':W'.heap[g]?=some (.cells cs t fr):=hg.trans k1;have hgcg:gc≠g:=fun e=>z09 k1' x1 k2 e.symm;have hgcell:w5.cell? ⟨gc,0,none⟩=W'.cell? ⟨gc,0,none⟩:=World.cell?_of_block (w:=W') (by exact hset gc hgcg);have q1':CHUNK w5 B gc rs':=q1.at (hset gc hgcg) (fun v b hv hb=>by obtain ⟨_,hc⟩:=x2 v b hv hb;exact hset b (fun e=>z09 k1' hc k3 e.symm)) (fun r hr=>by obtain ⟨_,hc⟩:=x3 r hr;exact hset r.gh (fun e=>z09 k1' hc k4 e.symm))
 obtain ⟨v0,hv0,ho0⟩:=a2.box;have hv0c:W.cell? ⟨gc,0,none⟩=some v0:=hv0.cell 0
 have hone:∀ k' gc' rk,k'≠K->C k'=some (gc',rk)->gc≠gc'/\(∀ r∈rs',∀ r'∈rk,r.gh≠r'.gh)/\∀ v v',w5.cell? ⟨gc,0,none⟩=some v->w5.cell? ⟨gc',0,none⟩=some v'->v.ownBlock=none\/v.ownBlock≠v'.ownBlock:=fun k' gc' rk hk e=>by
  obtain ⟨o1,o2,o3⟩:=hS.one K k' gc gc' rs rk (fun h=>hk h.symm) hK e;obtain ⟨_,z2,z3⟩:=(hS.chunk k' gc' rk e).2.1.kinds;refine ⟨o1,fun r hr r' hr'=>?_,fun v v' hv hv'=>?_⟩
  ·rcases q4 r hr with ⟨r0,h1,h2⟩ | h1
   ·rw [<-h2];exact o2 r0 h1 r' hr'
   ·obtain ⟨_,hc⟩:=z3 r' hr'
    have:=(Array.getElem?_eq_some_iff.1 hc).1;omega
  ·rw [hgcell] at hv
   rw [hocell k' gc' rk hk e 0] at hv';rcases q5 v0 v hv0c hv with h1 | ⟨b,h1,h2⟩
   ·rw [h1];exact o3 v0 v' hv0c hv'
   ·refine .inr (fun h=>?_)
    rw [h1] at h;obtain ⟨_,hc⟩:=z2 v' b hv' h.symm;have:=(Array.getElem?_eq_some_iff.1 hc).1;omega
 refine ⟨WITH C K gc rs',⟨hS.small,hS.short,(hc5 0 (by decide)).trans hS.c0,(hc5 1 (by decide)).trans hS.c1,?_,fun i hi=>?_,?_,?_,?_,?_⟩,?_,?_,?_,?_,hc5,by rw [hs5];exact q6,fun hF=>hF.full (fun e=>by have:=q2 p;rw [e,if_pos rfl] at this;cases this)⟩
 ·rw [<-hw5]
  exact World.cell?_setCell_same _ _ _ (by rw [hcell 2];exact hS.c2)
 ·rw [<-hw5,World.frozen?_setCell]
  have:=hS.live i hi;unfold World.frozen? at this ⊢;rw [show W'.heap[g]?=W.heap[g]? from hg];exact this
 ·obtain ⟨cs',h1⟩:=z2m (i:=2) k1' (.int .u64 ((alive+1:Nat):Int))
  exact ⟨cs',t,fr,by rw [<-hw5];exact h1,k2,k3,k4⟩
 ·refine ⟨mv,(hc5 3 (by decide)).trans m1,fun e k=>?_,fun b e=>?_⟩
  ·have:=m2 e K
   rw [hK] at this;cases this
  ·obtain ⟨c1,n,c2,c3⟩:=m3 b e
   refine ⟨c1,n,c2,?_⟩
   have hM:(fun k=>(WITH C K gc rs' k).map Prod.fst)=fun k=>(C k).map Prod.fst:=funext fun k=>by
    by_cases e:k=K
    ·subst e;rw [z0o,hK];rfl
    ·rw [z0p e]
   rw [hM];refine c3.at ?_;obtain ⟨D,⟨es,clock,h1,_⟩,_⟩:=c3;have hbc:∀ {b' c t' fr'},W.heap[b']?=some (.cells c t' fr')->b≠b':=fun h2 e=>by rw [<-e,h1] at h2;cases h2
   refine (hset b (hbc k1)).trans (q8 b (Array.getElem?_eq_some_iff.1 h1).1 (hbc y1) (fun v hv e=>?_) (fun r hr e=>?_))
   ·obtain ⟨_,hc⟩:=y2 v b hv e
    exact hbc hc rfl
   ·obtain ⟨_,hc⟩:=y3 r hr
    exact hbc hc e.symm
 ·intro k gc' rk e
  by_cases ek:k=K
  ·subst ek
   rw [z0o] at e;cases e;refine ⟨a1,q1',fun r hr j hj hb=>?_⟩;rcases q3 r hr j hj hb with h1 | ⟨r0,h1,h2,h3⟩
   ·rw [h1];exact ⟨hp,hpl⟩
   ·rw [<-h2];exact a3 r0 h1 j hj h3
  ·rw [z0p ek] at e
   obtain ⟨b1,b2,b3⟩:=hS.chunk k gc' rk e;obtain ⟨d1,d2,d3⟩:=hother k gc' rk ek e;exact ⟨b1,b2.at d1 d2 d3,b3⟩
 ·intro k k' gk gk' rk rk' hne e e'
  by_cases ek:k=K
  ·subst ek
   rw [z0o] at e;cases e;rw [z0p (fun h=>hne h.symm)] at e';exact hone k' gk' rk' (fun h=>hne h.symm) e'
  ·rw [z0p ek] at e
   by_cases ek':k'=K
   ·subst ek'
    rw [z0o] at e';cases e';obtain ⟨o1,o2,o3⟩:=hone k gk rk ek e;refine ⟨fun h=>o1 h.symm,fun r hr r' hr' h=>o2 r' hr' r hr h.symm,fun v v' hv hv'=>?_⟩;rcases o3 v' v hv' hv with h | h
    ·by_cases hn:v.ownBlock=none
     ·exact .inl hn
     ·exact .inr (fun e=>hn (e.trans h))
    ·exact .inr (fun e=>h e.symm)
   ·rw [z0p ek'] at e'
    obtain ⟨o1,o2,o3⟩:=hS.one k k' gk gk' rk rk' hne e e';refine ⟨o1,o2,fun v v' hv hv'=>o3 v v' ?_ ?_⟩
    ·rw [<-hocell k gk rk ek e 0];exact hv
    ·rw [<-hocell k' gk' rk' ek' e' 0];exact hv'
 ·intro p'
  unfold AT;by_cases ek:p' / 2 ^ log=K
  ·rw [ek,z0o,hK]
   exact q2 p'
  ·rw [z0p ek,if_neg (fun e=>ek (by rw [e];exact hp))]
 ·intro hT k gc' rk e r hr j hj hb
  by_cases ek:k=K
  ·subst ek
   rw [z0o] at e;cases e;rcases q3 r hr j hj hb with h1 | ⟨r0,h1,h2,h3⟩
   ·omega
   ·rw [<-h2]
    have:=hT _ _ _ hK r0 h1 j hj h3;omega
  ·rw [z0p ek] at e
   have:=hT _ _ _ e r hr j hj hb;omega
 ·intro b hb
  rcases hb with h1 | ⟨k,gc',rk,e,h1⟩
  ·left;left
   rw [<-hc5 3 (by decide)];exact h1
  ·by_cases ek:k=K
   ·subst ek
    rw [z0o] at e;cases e;rcases h1 with h1 | ⟨v,hv,h1⟩ | ⟨r,hr,h1⟩
    ·exact .inl (.inr ⟨_,_,_,hK,.inl h1⟩)
    ·rw [hgcell] at hv
     rcases q5 v0 v hv0c hv with h2 | ⟨b',h2,h3⟩
     ·exact .inl (.inr ⟨_,_,_,hK,.inr (.inl ⟨v0,hv0c,by rw [<-h2];exact h1⟩)⟩)
     ·rw [h1] at h2
      cases h2;exact .inr h3
    ·rcases q4 r hr with ⟨r0,h2,h3⟩ | h2
     ·exact .inl (.inr ⟨_,_,_,hK,.inr (.inr ⟨r0,h2,by rw [h3];exact h1⟩)⟩)
     ·rw [h1] at h2
      exact .inr h2
   ·rw [z0p ek] at e
    rcases h1 with h1 | ⟨v,hv,h1⟩ | h1
    ·exact .inl (.inr ⟨_,_,_,e,.inl h1⟩)
    ·rw [hocell k gc' rk ek e 0] at hv
     exact .inl (.inr ⟨_,_,_,e,.inr (.inl ⟨v,hv,h1⟩)⟩)
    ·exact .inl (.inr ⟨_,_,_,e,.inr (.inr h1)⟩)
 ·intro b hb hbg hf
  exact (hset b hbg).trans (q8 b hb (fun e=>hf (.inr ⟨_,_,_,hK,.inl e⟩)) (fun v hv e=>hf (.inr ⟨_,_,_,hK,.inr (.inl ⟨v,hv,e⟩)⟩)) (fun r hr e=>hf (.inr ⟨_,_,_,hK,.inr (.inr ⟨r,hr,e⟩)⟩)))
end Go.Proofs.YtlbcnaenhghieaaGreatDoor.HX
