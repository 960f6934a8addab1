/- FindProves: part 10. -/
import Derived.Test.YtlbcnaenhghieaaGreatDoorFindProvesP9
set_option maxHeartbeats 4000000
namespace Go.Proofs.YtlbcnaenhghieaaGreatDoor
open Go.RowKit Go.Maps
set_option maxRecDepth 100000
theorem z7f {w:World} {B p n:Nat} {v:Value} {m:Option Nat} {f:Nat->List Int} (H:FIND w B p v m f n) {h:List Int} (hh:FISH h):Calls Tryz.prog 25 #[.pointer (some ⟨p,0,none⟩),.agg (z00 h).toArray] w fun e w'=>e=.returned (.int .i64 (LSTI f n h))/\Below w.heap.size w w':=by
 obtain ⟨W0,hW0⟩:∃ W0,w.alloc (.cells (z00 h).toArray 25)=W0:=⟨_,rfl⟩
 obtain ⟨b3,hb3⟩:∃ b,w.heap.size=b:=⟨_,rfl⟩
 have hb0:Below w.heap.size w W0:=by rw [<-hW0];exact (Below.refl _ _).alloc (Nat.le_refl _) _
 have k3:Has W0 b3 (z00 h).toArray 25:=by rw [<-hW0,<-hb3];exact Has.new _ _ _
 have H0:=H.keep hb0;have x1:=H0.box.cell 1;have h3:W0.rangeAt b3 0 (z00 h):=fun j u hj=>by rw [Nat.zero_add,k3.cell,List.getElem?_toArray];exact hj
 have hr:=z2D f h n;have L:Aside (h.length=32):=hh.1
 obtain ⟨z,hl,hz⟩:∃ z,(∀ w2:World,w2.heap=W0.heap->(Instr.lookup 55 (.map m) (.agg (z00 h).toArray) true).run Tryz.prog w2=.ok (.tuple #[.int .i64 z,.bool (decide (LSTI f n h ≠ -1))]) w2)/\(LSTI f n h ≠ -1->z=LSTI f n h):=by
  rcases H0.map with ⟨rfl,_,rfl⟩ | ⟨b,rfl,_,hm⟩
  ·exact ⟨0,fun w2 _=>by rw [zbu hh];rfl,fun e=>absurd rfl e⟩
  ·obtain ⟨D,h1,h2⟩:=hm
   obtain ⟨z,_,hz⟩:=FMAP.look ⟨D,h1,h2⟩ hh
   have key:∀ w2:World,w2.heap=W0.heap->∃ z2,(Instr.lookup 55 (.map (some b)) (.agg (z00 h).toArray) true).run Tryz.prog w2=.ok (.tuple #[.int .i64 z2,.bool (decide (LSTI f n h ≠ -1))]) w2/\(LSTI f n h ≠ -1->z2=LSTI f n h)/\(LSTI f n h = -1->z2=0):=fun w2 e=>by
    have h1':w2.ownsMap Tryz.prog 25 (plainElem Tryz.prog 3) b (UNL f n) D:=by
     obtain ⟨es,clock,hb,r⟩:=h1;exact ⟨es,clock,by rw [e];exact hb,r⟩
    obtain ⟨es,clock,hb,F,_,rfl⟩:=h1';rcases Maps.fit_look true lawF Tryz.underlying55 (zbt w2) hb F (z1G hh) with ⟨hrun,_,hat⟩ | ⟨e0,y,_,_,hrun,hRv,hat,_⟩
    ·have e2:=Maps.has_false_of_atKey hat
     have e3:LSTI f n h = -1:=Classical.byContradiction fun c=>by rw [(h2.has h hh).2 c] at e2;cases e2
     exact ⟨0,by rw [hrun];simp [e3],fun c=>absurd e3 c,fun _=>rfl⟩
    ·have e2:=Maps.has_true_of_atKey hat
     have e3:=(h2.has h hh).1 e2;obtain ⟨c,ec,hc,hwc⟩:=plainElem_int_inv Tryz.underlying3 hRv
     have hcc:c=LSTI f n h:=by
      have:=h2.at_ h hh e3 (.lit (.int .i64 0));rw [hat,hc] at this;simpa using this
     exact ⟨LSTI f n h,by rw [hrun,ec,hcc];simp [e3],fun _=>rfl,fun c=>absurd c e3⟩
   by_cases e:LSTI f n h = -1
   ·refine ⟨0,fun w2 ew=>?_,fun c=>absurd e c⟩
    obtain ⟨z2,r1,_,r3⟩:=key w2 ew;rw [r1,r3 e]
   ·refine ⟨LSTI f n h,fun w2 ew=>?_,fun _=>rfl⟩
    obtain ⟨z2,r1,r2,_⟩:=key w2 ew;rw [r1,r2 e]
 have R:Aside (Below w.heap.size w W0):=hb0;generalize LSTI f n h=l at *
 clear H H0 k3 hb0 hh;have k1:∀ w2:World,w2=W0.drew->w2.cell? ⟨p,1,none⟩=some (.map m)/\w2.rangeAt b3 0 (z00 h):=fun w2 e=>by rw [e];exact ⟨x1,h3⟩
 by_cases c:l = -1
 ·subst c
  have hl1:∀ w2:World,w2=W0.drew->(Instr.lookup 55 (.map m) (.agg (z00 h).toArray) true).run Tryz.prog w2=.ok (.tuple #[.int .i64 z,.bool false]) w2:=fun w2 e=>by rw [e];exact hl _ rfl
  clear hz hr hl x1 h3;go_enter Tryz.func25,Tryz.ntmps25;go_upto_region 1 with fail
  clear hW0 hb3;refine zcZ _ p b3 m h L.out z false (fun w2=>w2=W0.drew) rfl (fun w2 e=>⟨(k1 w2 e).1,(k1 w2 e).2,hl1 w2 e⟩) (fun _ _ _ _ _=>id) ?_;rintro w2 rfl;clear hl1 k1 L;go_wp2;go_ret;exact ⟨rfl,R.out.drew⟩
 ·have hz':=hz c
  subst hz';have hl1:∀ w2:World,w2=W0.drew->(Instr.lookup 55 (.map m) (.agg (z00 h).toArray) true).run Tryz.prog w2=.ok (.tuple #[.int .i64 z,.bool true]) w2:=fun w2 e=>by rw [e];exact (hl W0.drew rfl).trans (by simp [c])
  clear hr hl hz c x1 h3;go_enter Tryz.func25,Tryz.ntmps25;go_upto_region 1 with fail
  clear hW0 hb3;refine zcZ _ p b3 m h L.out z true (fun w2=>w2=W0.drew) rfl (fun w2 e=>⟨(k1 w2 e).1,(k1 w2 e).2,hl1 w2 e⟩) (fun _ _ _ _ _=>id) ?_;rintro w2 rfl;clear hl1 k1 L;go_wp2;go_ret;exact ⟨rfl,R.out.drew⟩
theorem FMAP.ne {w:World} {b k n:Nat} {f:Nat->List Int} {cs:Array Value} {t:TypeId} (h:FMAP w b f n) (hk:Has w k cs t):k≠b:=fun e=>by
 obtain ⟨D,⟨es,clock,h1,_⟩,_⟩:=h;unfold Has at hk;rw [e,h1] at hk;simp at hk
theorem FMAP.own_ne {w:World} {b n B s:Nat} {f:Nat->List Int} {t:TypeId} {v:Value} {k:Nat} {xs:List Value} (h:FMAP w b f n) (ho:w.ownsRow B t s v k xs):v.ownBlock≠some b:=fun e=>by
 obtain ⟨D,⟨es,clock,h1,_⟩,_⟩:=h;rcases ho.2 with ⟨rfl,_⟩ | ⟨g,cap,cur,rfl,_,h',_⟩
 ·cases e
 ·simp only [Value.ownBlock,Option.some.injEq] at e
  subst e;rw [h1] at h';cases h'
structure FMID (w w1:World) (B p:Nat) (v v':Value) (m m':Option Nat) (f:Nat->List Int) (n b3:Nat):Prop where
 box:Has w1 p #[v',.map m'] 57
 own:w1.ownsRow B 75 33 v' (n+1) (ECS f (n+1))
 step:FSTP w w1 p v m v' m'
 hash:Has w1 b3 (z00 (f n)).toArray 25
 map:∀ b,m'=some b->FMAP w1 b f n/\B<=b
 ne:v'.ownBlock≠some p
theorem FMID.made {w w1:World} {B p b3:Nat} {v v':Value} {f:Nat->List Int} (h:FMID w w1 B p v v' none none f 0 b3) (h3:b3≠p) (hB:B<=w.heap.size):FMID w ((w1.alloc (.map #[] 0)).setCell ⟨p,1,none⟩ (.map (some w1.heap.size))) B p v v' none (some w1.heap.size) f 0 b3:=by
 have hb:Below w1.heap.size w1 (w1.alloc (.map #[] 0)):=(Below.refl _ _).alloc (Nat.le_refl _) _;have hp:=h.box.lt;have hs:=h.step.size;refine ⟨(h.box.keep hb).set 1 _,z0J h.own fun k e=>?_,?_,?_,fun b e=>?_,h.ne⟩
 ·rw [Below.heap_setCell _ _ _ k (fun e2=>h.ne (by rw [e,e2]))]
  exact hb.block k (h.own.lt k e).2
 ·refine ⟨h.step.os,h.step.tape,h.step.output,?_,fun k h1 h2=>?_,?_⟩
  ·simp;omega
  ·rw [Below.heap_setCell _ _ _ k (fun e2=>h2 (.inl e2))]
   exact (hb.block k (by omega)).trans (h.step.block k h1 h2)
  ·rintro k (e | e | e)
   ·exact .inl (.inl e)
   ·exact h.step.foot k (.inr (.inl e))
   ·cases e
    exact .inr hs
 ·exact (Below.heap_setCell _ _ _ b3 h3).trans (h.hash.keep hb)
 ·cases e
  refine ⟨(FMAP.made w1 f).at (Below.heap_setCell _ _ _ _ (by show w1.heap.size≠p;omega)),by omega⟩
theorem FMID.last {w w1:World} {B p b b3 n:Nat} {v v':Value} {m:Option Nat} {f:Nat->List Int} (h:FMID w w1 B p v v' m (some b) f n b3) (hn:n<100000) (hf:∀ i,i<n+1->FISH (f i)) (hB:B<=p):∃ w2,(Instr.mapUpdate 55 (.map (some b)) (.agg (z00 (f n)).toArray) (.int .i64 (n:Int))).run Tryz.prog w1=.ok () w2/\FIND w2 B p v' (some b) f (n+1)/\FSTP w w2 p v m v' (some b)/\Has w2 b3 (z00 (f n)).toArray 25:=by
 obtain ⟨hm,hBb⟩:=h.map b rfl;obtain ⟨w2,r1,r2,r3⟩:=hm.add (by omega) (hf n (by omega));have hpb:=hm.ne h.box;have ho:=hm.own_ne h.own;refine ⟨w2,r1,⟨(r3.block p h.box.lt (fun e=>hpb (by simpa using e))).trans h.box,z0J h.own fun k e=>r3.block k (h.own.lt k e).2 (fun e2=>ho (by rw [e];exact e2)),.inr ⟨b,rfl,hBb,r2⟩,hf,hB⟩,h.step.trans ⟨r3.os,r3.tape,r3.output,r3.size,fun k h1 h2=>r3.block k h1 (fun e=>h2 (.inr (.inr (by simpa [eq_comm] using e)))),fun _ e=>.inl e⟩,(r3.block b3 h.hash.lt (fun e=>(hm.ne h.hash) (by simpa using e))).trans h.hash⟩
theorem zeP (b:Nat) (w:World):(binOp .eql 55 (.map (some b)) (.map none)).run Tryz.prog w=.ok (.bool false) w:=by kernel_rfl
theorem zd0 (w:World):(binOp .eql 55 (.map none) (.map none)).run Tryz.prog w=.ok (.bool true) w:=by kernel_rfl
theorem z0s {w:World} {b:Nat} {h:List Int} {t:TypeId} (k:Has w b (z00 h).toArray t):w.rangeAt b 0 (z00 h):=fun j u hj=>by
 rw [Nat.zero_add,k.cell,List.getElem?_toArray];exact hj
theorem z8m {w:World} {B p n:Nat} {v:Value} {m:Option Nat} {f:Nat->List Int} (H:FIND w B p v m f n) (hh:FISH (f n)) (hn:n<100000):Calls Tryz.prog 9 #[.pointer (some ⟨p,0,none⟩),.agg (z00 (f n)).toArray] w fun e w'=>∃ v' m',e=.returned (.int .u64 (n:Int))/\FIND w' B p v' m' f (n+1)/\FSTP w w' p v m v' m':=by
 obtain ⟨a,c,rfl, -⟩:=H.slice;obtain ⟨w0,hw0⟩:∃ w0,w.alloc (.cells (z00 (f n)).toArray 25)=w0:=⟨_,rfl⟩
 obtain ⟨b3,hb3⟩:∃ b,w.heap.size=b:=⟨_,rfl⟩
 obtain ⟨h,hfn⟩:∃ h,f n=h:=⟨_,rfl⟩
 have hb0:Below w.heap.size w w0:=by rw [<-hw0];exact (Below.refl _ _).alloc (Nat.le_refl _) _
 have k3:Has w0 b3 (z00 h).toArray 25:=by rw [<-hw0,<-hb3,<-hfn];exact Has.new _ _ _
 have H0:=H.keep hb0;have hp:=H.box.lt;have hB:=H.base;have lh:h.length=32:=by rw [<-hfn];exact hh.1
 have hfi:∀ i,i<n+1->FISH (f i):=fun i hi=>by
  by_cases e:i=n
  ·rw [e];exact hh
  ·exact H.is i (by omega)
 have hap:=H.apart;have hx:=H0.box;have ho:=H0.own;have hmap:=H0.map;have hFLT:=H.lt
 have FIN:Aside (∀ g q W W',Below w0.heap.size w0 W->W'.ownsRow B 75 33 (.slice (some ⟨g,0,none⟩) (n+1) q) (n+1) (ECS f n ++ (z00 h ++ [Value.int .i64 (LSTI f n h)]))->W.grownBy W' (Value.slice a n c).ownBlock->((Value.slice a n c).ownBlock=some g\/g=W.heap.size)->FMID w (W'.setCell ⟨p,0,none⟩ (.slice (some ⟨g,0,none⟩) (n+1) q)) B p (.slice a n c) (.slice (some ⟨g,0,none⟩) (n+1) q) m m f n b3):=fun g q W W' hb ho hg hat=>by
  have hbw:Below w.heap.size w W:=hb0.trans (hb.mono hb0.size);have hsz:=hbw.size
  have hgg:g≠p:=fun e=>by
   subst e;rcases hat with hat | hat
   ·exact hap.1 hat
   ·omega
  refine ⟨?_,?_,?_,?_,fun b e=>?_,?_⟩
  ·have hB':Has W' p #[.slice a n c,.map m] 57:=(hg.block p (by omega) (fun e=>hap.1 e.symm)).trans ((hb.block p (by have:=hb0.size;omega)).trans hx)
   exact hB'.set 0 _
  ·refine z0J (xs:=ECS f (n+1)) ?_ fun k e=>Below.heap_setCell _ _ _ k (fun e2=>hgg (by
    have e:g=k:=by simpa [Value.ownBlock] using e
    rw [e];exact e2))
   rw [ECS,ENT,hfn];exact ho
  ·refine ⟨hg.os.trans hbw.os,hg.tape.trans hbw.tape,hg.output.trans hbw.output,by have:=hg.size;simp;omega,fun k h1 h2=>(Below.heap_setCell _ _ _ k (fun e=>h2 (.inl e))).trans ((hg.block k (by omega) (fun e=>h2 (.inr (.inl e.symm)))).trans (hbw.block k h1)),?_⟩
   rintro k (e | e | e)
   ·exact .inl (.inl e)
   ·have e:g=k:=by simpa [Value.ownBlock] using e
    subst e;rcases hat with hat | hat
    ·exact .inl (.inr (.inl hat))
    ·exact .inr (by omega)
   ·exact .inl (.inr (.inr e))
  ·have h3:b3<W.heap.size:=Nat.lt_of_lt_of_le k3.lt hb.size
   rw [hfn];exact (Below.heap_setCell _ _ _ b3 (by show b3≠p;omega)).trans ((hg.block b3 h3 (fun e=>by have:=(hFLT b3 (.inr (.inl e.symm))).2;omega)).trans ((hb.block b3 k3.lt).trans k3))
  ·subst e
   rcases hmap with ⟨e,_⟩ | ⟨b2,e,h1,h2⟩
   ·cases e
   ·cases e
    refine ⟨h2.at ?_,h1⟩;have hbl:=h2.lt;refine (Below.heap_setCell _ _ _ b (fun e=>hap.2.1 (by rw [e]))).trans ((hg.block b (Nat.lt_of_lt_of_le hbl hb.size) (fun e=>hap.2.2 b e.symm rfl)).trans (hb.block b hbl))
  ·intro e
   exact hgg (by simpa [Value.ownBlock] using e)
 have EQ:Aside (IntKind.u64.wrap (n:Int)=(n:Int)):=u64f (by omega);have hn5:n<=100000:=by omega
 have h3o:(Value.slice a n c).ownBlock≠some b3:=fun e=>by have:=(H.own.lt b3 e).2;omega
 have h3p:b3≠p:=by omega
 have hp0:p<w0.heap.size:=Nat.lt_of_lt_of_le hp hb0.size;have hBw:B<=w0.heap.size:=by omega
 have hBw':B<=w.heap.size:=by omega
 have hne0:=hap.1
 have HL:Aside (∀ W,Below w0.heap.size w0 W->Calls Tryz.prog 25 #[.pointer (some ⟨p,0,none⟩),.agg (z00 h).toArray] W fun e w'=>e=.returned (.int .i64 (LSTI f n h))/\Below w0.heap.size w0 w'):=fun W hb=>(z7f (H0.keep hb) (by rw [<-hfn];exact hh)).mono (by
  rintro e w' ⟨rfl,h1⟩;exact ⟨rfl,hb.trans (h1.mono hb.size)⟩)
 have CASE:m=none/\n=0\/∃ b,m=some b:=by
  rcases hmap with ⟨e,_,e2⟩ | ⟨b,e,_⟩
  ·exact .inl ⟨e,e2⟩
  ·exact .inr ⟨b,e⟩
 rw [hfn] at hw0 ⊢;clear H H0 hb0 hp hap hmap hFLT;go_enter Tryz.func9,Tryz.ntmps9;have x0:=hx.cell 0;go_upto_region 2 with fail
 clear hw0 hb3 x0;refine zhS w0 p b3 n c B a h lh (LSTI f n h) (ECS f n) hn5 (fun W=>Below w0.heap.size w0 W) (fun z W=>Below w0.heap.size w0 W/\Has W z (z00 h ++ [Value.int .i64 (LSTI f n h)]).toArray 75) (fun z g q W'=>∃ W,Below w0.heap.size w0 W/\W'.ownsRow B 75 33 (.slice (some ⟨g,0,none⟩) (n+1) q) (n+1) (ECS f n ++ (z00 h ++ [Value.int .i64 (LSTI f n h)]))/\W.grownBy W' (Value.slice a n c).ownBlock/\((Value.slice a n c).ownBlock=some g\/g=W.heap.size)) (fun W2=>∃ g q W W',Below w0.heap.size w0 W/\W'.ownsRow B 75 33 (.slice (some ⟨g,0,none⟩) (n+1) q) (n+1) (ECS f n ++ (z00 h ++ [Value.int .i64 (LSTI f n h)]))/\W.grownBy W' (Value.slice a n c).ownBlock/\((Value.slice a n c).ownBlock=some g\/g=W.heap.size)/\W2=W'.setCell ⟨p,0,none⟩ (.slice (some ⟨g,0,none⟩) (n+1) q)) (Below.refl _ _).drew ?_ ?_ ?_ ?_ (fun W hb=>HL.out W hb) ?_ ?_ ?_ ?_ ?_ ?_ ?_ ?_ ?_ (fun _ _ _ _ _ h=>h) ?_
 ·exact fun W h=>z0s (k3.keep h)
 ·exact fun z W h=>z0s (k3.keep h.1)
 ·rintro z g q W' ⟨W,h1,h2,h3,h4⟩
  exact z0s ((h3.block b3 (Nat.lt_of_lt_of_le k3.lt h1.size) (fun e=>h3o e.symm)).trans ((h1.block b3 k3.lt).trans k3))
 ·rintro W2 ⟨g,q,W,W',h1,h2,h3,h4,rfl⟩
  exact z0s ((Below.heap_setCell _ _ _ b3 h3p).trans ((h3.block b3 (Nat.lt_of_lt_of_le k3.lt h1.size) (fun e=>h3o e.symm)).trans ((h1.block b3 k3.lt).trans k3)))
 ·exact fun W h=>(hx.keep h).cell 0
 ·exact fun z W h=>(hx.keep h.1).cell 0
 ·exact fun W h=>⟨h.alloc h.size _,Has.new _ _ _⟩
 ·exact fun z W h=>z0J ho fun k e=>h.1.block k (ho.lt k e).2
 ·exact fun z W h j u hj=>by rw [Nat.zero_add,h.2.cell,List.getElem?_toArray];exact hj
 ·exact fun z W h=>Nat.le_trans hBw h.1.size
 ·exact fun z W g q W' h h1 h2 h3=>⟨W,h.1,h1,h2,h3⟩
 ·rintro z g q W' ⟨W,h1,h2,h3,h4⟩
  have:=(h3.block p (Nat.lt_of_lt_of_le hp0 h1.size) (fun e=>hne0 e.symm)).trans ((h1.block p hp0).trans hx);have hB:Has W' p #[.slice a n c,.map m] 57:=this;exact ⟨hB.cell 0,hB.frozen 0⟩
 ·exact fun z g q W' ⟨W,h1,h2,h3,h4⟩=>⟨g,q,W,W',h1,h2,h3,h4,rfl⟩
 ·rintro z g q W2 ⟨g',q',W,W',h1,h2,h3,h4,rfl⟩
  have F:=FIN.out g' q' W W' h1 h2 h3 h4;generalize W'.setCell ⟨p,0,none⟩ (.slice (some ⟨g',0,none⟩) (n+1) q')=W2 at *
  clear FIN h1 h2 h3 h4 hx ho HL k3 h3o;obtain ⟨v',hv'⟩:∃ v',Value.slice (some ⟨g',0,none⟩) (n+1) q'=v':=⟨_,rfl⟩
  rw [hv'] at F;clear hv' W W';rcases CASE with ⟨rfl,rfl⟩ | ⟨b,rfl⟩
  ·have x1:=F.box.cell 1
   have xe:=zd0;have f1:=F.box.frozen 1;have F2:=F.made h3p hBw';have xa:(W2.alloc (.map #[] 0)).cell? ⟨p,1,none⟩=some (.map none):=(F.box.keep ((Below.refl _ _).alloc (Nat.le_refl _) _)).cell 1;have fa:(W2.alloc (.map #[] 0)).frozen? ⟨p,1,none⟩=false:=(F.box.keep ((Below.refl _ _).alloc (Nat.le_refl _) _)).frozen 1;obtain ⟨b,hb⟩:∃ b,W2.heap.size=b:=⟨_,rfl⟩
   rw [hb] at F2;have hmk:(Instr.makeMap 55 none).run Tryz.prog W2=.ok (.map (some b)) (W2.alloc (.map #[] 0)):=by rw [<-hb];rfl
   obtain ⟨W3,hW3⟩:∃ W3,(W2.alloc (.map #[] 0)).setCell ⟨p,1,none⟩ (.map (some b))=W3:=⟨_,rfl⟩
   rw [hW3] at F2;have F3:Aside (FMID w W3 B p (.slice a 0 c) v' none (some b) f 0 b3):=F2;clear F F2 hb;go_upto_region 5 with fail
   clear hW3 hmk x1 f1 xa fa xe;refine zfV W3 p b3 b h lh _ (fun W=>W=W3.drew) (fun W=>FIND W B p v' (some b) f (0+1)/\FSTP w W p (.slice a 0 c) none v' (some b)/\Has W b3 (z00 h).toArray 25) rfl ?_ ?_ ?_ (fun _ _ _ _ _ h=>h) ?_
   ·rintro W rfl
    exact ⟨F3.out.box.cell 1,by rw [<-hfn];exact z0s F3.out.hash⟩
   ·rintro W ⟨k1,k2,k3⟩
    exact ⟨k1.box.cell 1,z0s k3⟩
   ·rintro W rfl
    have F4:FMID w W3.drew B p (.slice a 0 c) v' none (some b) f 0 b3:=⟨F3.out.box,F3.out.own,⟨F3.out.step.os,F3.out.step.tape,F3.out.step.output,F3.out.step.size,F3.out.step.block,F3.out.step.foot⟩,F3.out.hash,F3.out.map,F3.out.ne⟩
    obtain ⟨W4,r1,r2,r3,r4⟩:=F4.last hn hfi hB;rw [hfn] at r1 r4;exact ⟨W4,r1,r2,r3,r4⟩
   ·rintro W4 ⟨r1,r2, -⟩
    have R:Aside (FIND W4 B p v' (some b) f (0+1)/\FSTP w W4 p (.slice a 0 c) none v' (some b)):=⟨r1,r2⟩
    have eu:=EQ.out;clear r1 r2 F3;go_wp2;go_ret;exact ⟨v',some b,rfl,R.out.1,R.out.2⟩
  ·have x1:=F.box.cell 1
   have xe:=zeP;have F3:Aside (FMID w W2 B p (.slice a n c) v' (some b) (some b) f n b3):=F;clear F;go_upto_region 5 with fail
   clear x1 xe;refine zfV W2 p b3 b h lh _ (fun W=>W=W2.drew) (fun W=>FIND W B p v' (some b) f (n+1)/\FSTP w W p (.slice a n c) (some b) v' (some b)/\Has W b3 (z00 h).toArray 25) rfl ?_ ?_ ?_ (fun _ _ _ _ _ h=>h) ?_
   ·rintro W rfl
    exact ⟨F3.out.box.cell 1,by rw [<-hfn];exact z0s F3.out.hash⟩
   ·rintro W ⟨k1,k2,k3⟩
    exact ⟨k1.box.cell 1,z0s k3⟩
   ·rintro W rfl
    have F4:FMID w W2.drew B p (.slice a n c) v' (some b) (some b) f n b3:=⟨F3.out.box,F3.out.own,⟨F3.out.step.os,F3.out.step.tape,F3.out.step.output,F3.out.step.size,F3.out.step.block,F3.out.step.foot⟩,F3.out.hash,F3.out.map,F3.out.ne⟩
    obtain ⟨W4,r1,r2,r3,r4⟩:=F4.last hn hfi hB;rw [hfn] at r1 r4;exact ⟨W4,r1,r2,r3,r4⟩
   ·rintro W4 ⟨r1,r2, -⟩
    have R:Aside (FIND W4 B p v' (some b) f (n+1)/\FSTP w W4 p (.slice a n c) (some b) v' (some b)):=⟨r1,r2⟩
    have eu:=EQ.out;clear r1 r2 F3;go_wp2;go_ret;exact ⟨v',some b,rfl,R.out.1,R.out.2⟩
theorem zd1 (w:World):(zeroValue 25).run Tryz.prog w=.ok (.agg ZARR) w:=by kernel_rfl
theorem z4v {w:World} {g:Nat} {x y:List Int} (h:Has w g (z00 x).toArray 25) (hx:x.length=32) (hy:y.length=32):(storeCells ⟨g,0,none⟩ (z00 y) 0).run Tryz.prog w=.ok () (w.setRow g (z00 y).toArray):=by
 have:=run_storeCells_from (P:=Tryz.prog) g 25 (z00 y) 0 _ w h (by simp [z00,hx,hy]) (z0Y y);simpa using this
theorem z4w {B g:Nat} {w w':World} {cs:Array Value} (h:Below B w w') (hg:B<=g):Below B w (w'.setRow g cs):=z0d h hg _
end Go.Proofs.YtlbcnaenhghieaaGreatDoor
namespace Go.Proofs.YtlbcnaenhghieaaGreatDoor
set_option linter.unusedSimpArgs false
open Go.RowKit
set_option maxRecDepth 100000
theorem z7g {w:World} {b o:Nat} {y:Int} (h:∃ u,w.cell? ⟨b,o,none⟩=some u) (hf:w.frozen? ⟨b,o,none⟩=false):(Instr.storeAt 36 (.pointer (some ⟨b,o,none⟩)) (.int .u64 y)).run Tryz.prog w=.ok () (w.setCell ⟨b,o,none⟩ (.int .u64 y)):=by
 obtain ⟨u,h⟩:=h;go_simp
@[go_sem] def FV3OPSq0:Oper:=⟨some 14,.move (.tmp 0),23,"slices.go:485",#[],none⟩
@[go_sem] def FV3OPSq1:Oper:=⟨some 15,.move (.tmp 2),3,"slices.go:485",#[],none⟩
@[go_sem] def FV3OPSq2:Oper:=⟨some 16,.move (.tmp 0),23,"slices.go:485",#[{on:=13,ground:=.gcOnly Departure.lateStores}],none⟩
@[go_sem] def FV3OPSq3:Oper:=⟨some 17,.move (.tmp 3),3,"slices.go:485",#[{on:=13,ground:=.gcOnly Departure.lateStores}],none⟩
@[go_sem] def FV3OPSq4:Oper:=⟨some 18,.move (.tmp 0),23,"slices.go:485",#[],none⟩
@[go_sem] def FV3OPSq5:Oper:=⟨some 19,.move (.tmp 3),3,"slices.go:485",#[],none⟩
@[go_sem] def FV3OPSq6:Oper:=⟨some 20,.indexAddr 23 (.tmp 18) (.tmp 19),0,"slices.go:485",#[⟨4,.data⟩,⟨5,.data⟩],none⟩
@[go_sem] def FV3OPSq7:Oper:=⟨some 21,.load 36 (.tmp 20),36,"slices.go:485",#[⟨6,.data⟩],none⟩
@[go_sem] def FV3OPSq8:Oper:=⟨some 22,.move (.tmp 0),23,"slices.go:485",#[],none⟩
@[go_sem] def FV3OPSq9:Oper:=⟨some 23,.move (.tmp 2),3,"slices.go:485",#[],none⟩
@[go_sem] def FV3OPSq10:Oper:=⟨some 24,.indexAddr 23 (.tmp 22) (.tmp 23),0,"slices.go:485",#[⟨8,.data⟩,⟨9,.data⟩],none⟩
@[go_sem] def FV3OPSq11:Oper:=⟨some 25,.load 36 (.tmp 24),36,"slices.go:485",#[⟨10,.data⟩],none⟩
@[go_sem] def FV3OPSq12:Oper:=⟨some 26,.indexAddr 23 (.tmp 14) (.tmp 15),0,"slices.go:485",#[⟨0,.data⟩,⟨1,.data⟩,⟨0,.phase⟩,⟨1,.phase⟩,{on:=2,ground:=.textOnly Departure.lateStores},{on:=3,ground:=.textOnly Departure.lateStores},⟨4,.phase⟩,⟨5,.phase⟩,⟨6,.phase⟩,⟨7,.phase⟩,{on:=8,ground:=.textOnly Departure.lateStores},{on:=9,ground:=.textOnly Departure.lateStores},{on:=10,ground:=.textOnly Departure.lateStoresUnsure},⟨11,.phase⟩],none⟩
@[go_sem] def FV3OPSq13:Oper:=⟨none,.store 36 (.tmp 26) (.tmp 21),0,"slices.go:485",#[⟨12,.data⟩,⟨7,.data⟩,⟨0,.phase⟩,⟨1,.phase⟩,{on:=2,ground:=.textOnly Departure.lateStores},{on:=3,ground:=.textOnly Departure.lateStores},⟨4,.phase⟩,⟨5,.phase⟩,⟨6,.phase⟩,⟨7,.phase⟩,{on:=8,ground:=.textOnly Departure.lateStores},{on:=9,ground:=.textOnly Departure.lateStores},{on:=10,ground:=.textOnly Departure.lateStoresUnsure},⟨11,.phase⟩],none⟩
@[go_sem] def FV3OPSq14:Oper:=⟨some 27,.indexAddr 23 (.tmp 16) (.tmp 17),0,"slices.go:485",#[⟨2,.data⟩,⟨3,.data⟩,⟨0,.phase⟩,⟨1,.phase⟩,⟨2,.phase⟩,⟨3,.phase⟩,⟨4,.phase⟩,⟨5,.phase⟩,⟨6,.phase⟩,⟨7,.phase⟩,⟨8,.phase⟩,⟨9,.phase⟩,⟨10,.phase⟩,⟨11,.phase⟩,⟨12,.phase⟩,⟨13,.phase⟩],none⟩
@[go_sem] def FV3OPSq15:Oper:=⟨none,.store 36 (.tmp 27) (.tmp 25),0,"slices.go:485",#[⟨14,.data⟩,⟨11,.data⟩,⟨13,.chain⟩,⟨0,.phase⟩,⟨1,.phase⟩,⟨2,.phase⟩,⟨3,.phase⟩,⟨4,.phase⟩,⟨5,.phase⟩,⟨6,.phase⟩,⟨7,.phase⟩,⟨8,.phase⟩,⟨9,.phase⟩,⟨10,.phase⟩,⟨11,.phase⟩,⟨12,.phase⟩,⟨13,.phase⟩],none⟩
def z1S:Array Oper:=#[FV3OPSq0,FV3OPSq1,FV3OPSq2,FV3OPSq3,FV3OPSq4,FV3OPSq5,FV3OPSq6,FV3OPSq7,FV3OPSq8,FV3OPSq9,FV3OPSq10,FV3OPSq11,FV3OPSq12,FV3OPSq13,FV3OPSq14,FV3OPSq15]
theorem zhT {Q:Exit->Act->World->Prop} {b d e f h k l m p q r s A B C D E F G H I J K L M:Value} (W:World) (g n c i j:Nat) (hi:(i:Int)<(n:Int)) (hj:(j:Int)<(n:Int)) (x y:Int) (P0 P1 P2:World->Prop) (h0:P0 W.drew) (c0:∀ w,P0 w->w.cell? ⟨g,i,none⟩=some (.int .u64 x)/\w.cell? ⟨g,j,none⟩=some (.int .u64 y)) (m0:∀ w,P0 w->(∃ u,w.cell? ⟨g,i,none⟩=some u)/\w.frozen? ⟨g,i,none⟩=false) (m1:∀ w,P1 w->(∃ u,w.cell? ⟨g,j,none⟩=some u)/\w.frozen? ⟨g,j,none⟩=false) (s0:∀ w,P0 w->P1 (w.setCell ⟨g,i,none⟩ (.int .u64 y))) (s1:∀ w,P1 w->P2 (w.setCell ⟨g,j,none⟩ (.int .u64 x))) (hQ:∀ c (a:Act) (t:Tmp) (v:Value) w,Q (.panic c) (a.put (some t) v) w->Q (.panic c) a w)
  (hfin:∀ (w:World),(P2 w)->Q .normal {tmps:=#[.slice (some ⟨g,0,none⟩) n c,b,.int .i64 (i:Int),.int .i64 (j:Int),d,e,f,h,k,l,m,p,q,r,.slice (some ⟨g,0,none⟩) n c,.int .i64 (i:Int),.slice (some ⟨g,0,none⟩) n c,.int .i64 (j:Int),.slice (some ⟨g,0,none⟩) n c,.int .i64 (j:Int),.pointer (some ⟨g,j,none⟩),.int .u64 y,.slice (some ⟨g,0,none⟩) n c,.int .i64 (i:Int),.pointer (some ⟨g,i,none⟩),.int .u64 x,.pointer (some ⟨g,i,none⟩),.pointer (some ⟨g,j,none⟩)],defers:=[]} w):(Code.region 3 z1S true).wp Tryz.prog Q {tmps:=#[.slice (some ⟨g,0,none⟩) n c,b,.int .i64 (i:Int),.int .i64 (j:Int),d,e,f,h,k,l,m,p,q,r,s,A,B,C,D,E,F,G,H,I,J,K,L,M],defers:=[]} W:=by
 have kst7_11_13_15:∀ (w:World),(P2 w)->wpAnyH Tryz.prog .any z1S Q (fun _:World=>True) 0 #[tt,tt,tt,tt,tt,tt,tt,tt,tt,tt,tt,tt,tt,tt,tt,tt] {tmps:=#[.slice (some ⟨g,0,none⟩) n c,b,.int .i64 (i:Int),.int .i64 (j:Int),d,e,f,h,k,l,m,p,q,r,.slice (some ⟨g,0,none⟩) n c,.int .i64 (i:Int),.slice (some ⟨g,0,none⟩) n c,.int .i64 (j:Int),.slice (some ⟨g,0,none⟩) n c,.int .i64 (j:Int),.pointer (some ⟨g,j,none⟩),.int .u64 y,.slice (some ⟨g,0,none⟩) n c,.int .i64 (i:Int),.pointer (some ⟨g,i,none⟩),.int .u64 x,.pointer (some ⟨g,i,none⟩),.pointer (some ⟨g,j,none⟩)],defers:=[]} w:=fun  w hp=>by
  exact wpAnyH_done (by kernel_rfl) (hfin  w hp) _
 have ekst7_11_13:∀ (w:World),(P1 w)->wpAnyH Tryz.prog .any z1S Q (fun _:World=>True) 2 #[tt,tt,tt,tt,tt,tt,tt,tt,tt,tt,tt,tt,tt,tt,ff,ff] {tmps:=#[.slice (some ⟨g,0,none⟩) n c,b,.int .i64 (i:Int),.int .i64 (j:Int),d,e,f,h,k,l,m,p,q,r,.slice (some ⟨g,0,none⟩) n c,.int .i64 (i:Int),.slice (some ⟨g,0,none⟩) n c,.int .i64 (j:Int),.slice (some ⟨g,0,none⟩) n c,.int .i64 (j:Int),.pointer (some ⟨g,j,none⟩),.int .u64 y,.slice (some ⟨g,0,none⟩) n c,.int .i64 (i:Int),.pointer (some ⟨g,i,none⟩),.int .u64 x,.pointer (some ⟨g,i,none⟩),M],defers:=[]} w:=fun  w hp=>by
  have hww:(fun _:World=>True) w:=trivial;refine tkP FV3OPSq14 (.pointer (some ⟨g,j,none⟩)) 14 hQ hww ?_;simp only [List.set];refine wpAnyH_ready (rs:=[15]) (by kernel_rfl) (by simp) ?_;refine AllReadyH.cons (o:=FV3OPSq15) rfl (fun KQ hKQ=>?_) ?_
  ·exact z0L rfl (z10 (z7g (m1 _ hp).1 (m1 _ hp).2)) (have hp:(fun (w:World)=>(P2 w))  _:=s1 _ hp;hKQ.out _ _ (trivial) (fun _=>kst7_11_13_15  _ hp))
  exact AllReadyH.nil
 have kst7_11:∀ (w:World),(P0 w)->wpAnyH Tryz.prog .any z1S Q (fun _:World=>True) 3 #[tt,tt,tt,tt,tt,tt,tt,tt,tt,tt,tt,tt,tt,ff,ff,ff] {tmps:=#[.slice (some ⟨g,0,none⟩) n c,b,.int .i64 (i:Int),.int .i64 (j:Int),d,e,f,h,k,l,m,p,q,r,.slice (some ⟨g,0,none⟩) n c,.int .i64 (i:Int),.slice (some ⟨g,0,none⟩) n c,.int .i64 (j:Int),.slice (some ⟨g,0,none⟩) n c,.int .i64 (j:Int),.pointer (some ⟨g,j,none⟩),.int .u64 y,.slice (some ⟨g,0,none⟩) n c,.int .i64 (i:Int),.pointer (some ⟨g,i,none⟩),.int .u64 x,.pointer (some ⟨g,i,none⟩),M],defers:=[]} w:=fun  w hp=>by
  refine wpAnyH_ready (rs:=[13]) (by kernel_rfl) (by simp) ?_;refine AllReadyH.cons (o:=FV3OPSq13) rfl (fun KQ hKQ=>?_) ?_
  ·exact z0L rfl (z10 (z7g (m0 _ hp).1 (m0 _ hp).2)) (have hp:(fun (w:World)=>(P1 w))  _:=s0 _ hp;hKQ.out _ _ (trivial) (fun _=>ekst7_11_13  _ hp))
  exact AllReadyH.nil
 have ekst7_11:∀ (w:World),(P0 w)->wpAnyH Tryz.prog .any z1S Q (fun _:World=>True) 4 #[tt,tt,tt,tt,tt,tt,tt,tt,tt,tt,tt,tt,ff,ff,ff,ff] {tmps:=#[.slice (some ⟨g,0,none⟩) n c,b,.int .i64 (i:Int),.int .i64 (j:Int),d,e,f,h,k,l,m,p,q,r,.slice (some ⟨g,0,none⟩) n c,.int .i64 (i:Int),.slice (some ⟨g,0,none⟩) n c,.int .i64 (j:Int),.slice (some ⟨g,0,none⟩) n c,.int .i64 (j:Int),.pointer (some ⟨g,j,none⟩),.int .u64 y,.slice (some ⟨g,0,none⟩) n c,.int .i64 (i:Int),.pointer (some ⟨g,i,none⟩),.int .u64 x,L,M],defers:=[]} w:=fun  w hp=>by
  have hww:(fun _:World=>True) w:=trivial;have last:=kst7_11  w hp;refine tkP FV3OPSq12 (.pointer (some ⟨g,i,none⟩)) 12 hQ hww ?_;simp only [List.set];exact last
 have kst7:∀ (w:World),(P0 w)->wpAnyH Tryz.prog .any z1S Q (fun _:World=>True) 5 #[tt,tt,tt,tt,tt,tt,tt,tt,tt,tt,tt,ff,ff,ff,ff,ff] {tmps:=#[.slice (some ⟨g,0,none⟩) n c,b,.int .i64 (i:Int),.int .i64 (j:Int),d,e,f,h,k,l,m,p,q,r,.slice (some ⟨g,0,none⟩) n c,.int .i64 (i:Int),.slice (some ⟨g,0,none⟩) n c,.int .i64 (j:Int),.slice (some ⟨g,0,none⟩) n c,.int .i64 (j:Int),.pointer (some ⟨g,j,none⟩),.int .u64 y,.slice (some ⟨g,0,none⟩) n c,.int .i64 (i:Int),.pointer (some ⟨g,i,none⟩),K,L,M],defers:=[]} w:=fun  w hp=>by
  refine wpAnyH_ready (rs:=[11]) (by kernel_rfl) (by simp) ?_;refine AllReadyH.cons (o:=FV3OPSq11) rfl (fun KQ hKQ=>?_) ?_
  ·exact z0k (by rfl) (by have hx:=(c0 _ hp).1;go_simp) (have hp:(fun (w:World)=>(P0 w))  w:=hp;hKQ.out _ _ (trivial) (fun _=>ekst7_11  _ hp))
  exact AllReadyH.nil
 have ekst11_7:∀ (w:World),(P0 w)->wpAnyH Tryz.prog .any z1S Q (fun _:World=>True) 4 #[tt,tt,tt,tt,tt,tt,tt,tt,tt,tt,tt,tt,ff,ff,ff,ff] {tmps:=#[.slice (some ⟨g,0,none⟩) n c,b,.int .i64 (i:Int),.int .i64 (j:Int),d,e,f,h,k,l,m,p,q,r,.slice (some ⟨g,0,none⟩) n c,.int .i64 (i:Int),.slice (some ⟨g,0,none⟩) n c,.int .i64 (j:Int),.slice (some ⟨g,0,none⟩) n c,.int .i64 (j:Int),.pointer (some ⟨g,j,none⟩),.int .u64 y,.slice (some ⟨g,0,none⟩) n c,.int .i64 (i:Int),.pointer (some ⟨g,i,none⟩),.int .u64 x,L,M],defers:=[]} w:=fun  w hp=>by
  have hww:(fun _:World=>True) w:=trivial;have last:=kst7_11  w hp;refine tkP FV3OPSq12 (.pointer (some ⟨g,i,none⟩)) 12 hQ hww ?_;simp only [List.set];exact last
 have kst11:∀ (w:World),(P0 w)->wpAnyH Tryz.prog .any z1S Q (fun _:World=>True) 5 #[tt,tt,tt,tt,tt,tt,tt,ff,tt,tt,tt,tt,ff,ff,ff,ff] {tmps:=#[.slice (some ⟨g,0,none⟩) n c,b,.int .i64 (i:Int),.int .i64 (j:Int),d,e,f,h,k,l,m,p,q,r,.slice (some ⟨g,0,none⟩) n c,.int .i64 (i:Int),.slice (some ⟨g,0,none⟩) n c,.int .i64 (j:Int),.slice (some ⟨g,0,none⟩) n c,.int .i64 (j:Int),.pointer (some ⟨g,j,none⟩),G,.slice (some ⟨g,0,none⟩) n c,.int .i64 (i:Int),.pointer (some ⟨g,i,none⟩),.int .u64 x,L,M],defers:=[]} w:=fun  w hp=>by
  refine wpAnyH_ready (rs:=[7]) (by kernel_rfl) (by simp) ?_;refine AllReadyH.cons (o:=FV3OPSq7) rfl (fun KQ hKQ=>?_) ?_
  ·exact z0k (by rfl) (by have hx:=(c0 _ hp).2;go_simp) (have hp:(fun (w:World)=>(P0 w))  w:=hp;hKQ.out _ _ (trivial) (fun _=>ekst11_7  _ hp))
  exact AllReadyH.nil
 have kst:∀ (w:World),(P0 w)->wpAnyH Tryz.prog .any z1S Q (fun _:World=>True) 6 #[tt,tt,tt,tt,tt,tt,tt,ff,tt,tt,tt,ff,ff,ff,ff,ff] {tmps:=#[.slice (some ⟨g,0,none⟩) n c,b,.int .i64 (i:Int),.int .i64 (j:Int),d,e,f,h,k,l,m,p,q,r,.slice (some ⟨g,0,none⟩) n c,.int .i64 (i:Int),.slice (some ⟨g,0,none⟩) n c,.int .i64 (j:Int),.slice (some ⟨g,0,none⟩) n c,.int .i64 (j:Int),.pointer (some ⟨g,j,none⟩),G,.slice (some ⟨g,0,none⟩) n c,.int .i64 (i:Int),.pointer (some ⟨g,i,none⟩),K,L,M],defers:=[]} w:=fun  w hp=>by
  refine wpAnyH_ready (rs:=[7,11]) (by kernel_rfl) (by simp) ?_;refine AllReadyH.cons (o:=FV3OPSq7) rfl (fun KQ hKQ=>?_) ?_
  ·exact z0k (by rfl) (by have hx:=(c0 _ hp).2;go_simp) (have hp:(fun (w:World)=>(P0 w))  w:=hp;hKQ.out _ _ (trivial) (fun _=>kst7  _ hp))
  refine AllReadyH.cons (o:=FV3OPSq11) rfl (fun KQ hKQ=>?_) ?_
  ·exact z0k (by rfl) (by have hx:=(c0 _ hp).1;go_simp) (have hp:(fun (w:World)=>(P0 w))  w:=hp;hKQ.out _ _ (trivial) (fun _=>kst11  _ hp))
  exact AllReadyH.nil
 have hp:=h0;have hww:(fun _:World=>True) W.drew:=trivial;have last:=kst W.drew hp
 have z:wpAnyH Tryz.prog .any z1S Q (fun _:World=>True) 16 #[ff,ff,ff,ff,ff,ff,ff,ff,ff,ff,ff,ff,ff,ff,ff,ff] {tmps:=#[.slice (some ⟨g,0,none⟩) n c,b,.int .i64 (i:Int),.int .i64 (j:Int),d,e,f,h,k,l,m,p,q,r,s,A,B,C,D,E,F,G,H,I,J,K,L,M],defers:=[]} W.drew:=by
  refine tkP FV3OPSq0 (.slice (some ⟨g,0,none⟩) n c) 0 hQ hww ?_;simp only [List.set];refine tkP FV3OPSq1 (.int .i64 (i:Int)) 1 hQ hww ?_;simp only [List.set];refine tkP FV3OPSq2 (.slice (some ⟨g,0,none⟩) n c) 2 hQ hww ?_;simp only [List.set];refine tkP FV3OPSq3 (.int .i64 (j:Int)) 3 hQ hww ?_;simp only [List.set];refine tkP FV3OPSq4 (.slice (some ⟨g,0,none⟩) n c) 4 hQ hww ?_;simp only [List.set];refine tkP FV3OPSq5 (.int .i64 (j:Int)) 5 hQ hww ?_;simp only [List.set];refine tkP FV3OPSq6 (.pointer (some ⟨g,j,none⟩)) 6 hQ hww ?_;simp only [List.set];refine tkP FV3OPSq8 (.slice (some ⟨g,0,none⟩) n c) 8 hQ hww ?_;simp only [List.set];refine tkP FV3OPSq9 (.int .i64 (i:Int)) 9 hQ hww ?_;simp only [List.set];refine tkP FV3OPSq10 (.pointer (some ⟨g,i,none⟩)) 10 hQ hww ?_;simp only [List.set];exact last
 exact wp_region_held_drew (S:=(fun _:World=>True)) (by kernel_rfl) hww (fun _=>z)
end Go.Proofs.YtlbcnaenhghieaaGreatDoor
namespace Go.Proofs.YtlbcnaenhghieaaGreatDoor
open Go.RowKit
set_option maxRecDepth 100000
def REVD (L:List Nat) (i:Nat):List Nat:=(List.range L.length).map fun k=>if k<i\/L.length - 1 - k<i then L.getD (L.length - 1 - k) 0 else L.getD k 0
theorem z2s (L:List Nat) (i:Nat):(REVD L i).length=L.length:=by simp [REVD]
theorem z1V (L:List Nat) {i k:Nat} (h:k<L.length):(REVD L i)[k]?=some (if k<i\/L.length - 1 - k<i then L.getD (L.length - 1 - k) 0 else L.getD k 0):=by
 unfold REVD;rw [List.getElem?_map,List.getElem?_range h];rfl
theorem zd2 (L:List Nat):REVD L 0=L:=by
 apply List.ext_getElem?;intro k;by_cases h:k<L.length
 ·rw [z1V L h,if_neg (by omega),List.getElem?_eq_getElem h,List.getD_eq_getElem?_getD,List.getElem?_eq_getElem h]
  rfl
 ·rw [List.getElem?_eq_none (by rw [z2s];omega),List.getElem?_eq_none (by omega)]
theorem zeQ (L:List Nat) {i:Nat} (h:L.length<=2*i+1):REVD L i=L.reverse:=by
 apply List.ext_getElem?;intro k;by_cases hk:k<L.length
 ·rw [z1V L hk,List.getElem?_reverse hk]
  have e:∀ j,j<L.length->some (L.getD j 0)=L[j]?:=fun j hj=>by
   rw [List.getD_eq_getElem?_getD,List.getElem?_eq_getElem hj];rfl
  by_cases c:k<i\/L.length - 1 - k<i
  ·rw [if_pos c]
   exact e _ (by omega)
  ·rw [if_neg c,e k hk]
   congr 1
   omega
 ·rw [List.getElem?_eq_none (by rw [z2s];omega),List.getElem?_eq_none (by simp;omega)]
theorem zd3 (L:List Nat) {i j:Nat} (h:i<j) (hj:i+j+1=L.length):((REVD L i).set i (L.getD j 0)).set j (L.getD i 0)=REVD L (i+1):=by
 apply List.ext_getElem?;intro k;have hl:=z2s L i;by_cases hk:k<L.length
 ·rw [List.getElem?_set,List.getElem?_set,z1V L hk,z1V L hk]
  simp only [List.length_set,hl];by_cases c:j=k
  ·subst c
   rw [if_pos rfl,if_pos hk,if_pos (by omega)];congr 2
   omega
  ·rw [if_neg c]
   by_cases c2:i=k
   ·subst c2
    rw [if_pos rfl,if_pos hk,if_pos (by omega)];congr 2
    omega
   ·rw [if_neg c2]
    by_cases c3:k<i\/L.length - 1 - k<i
    ·rw [if_pos c3,if_pos (by omega)]
    ·rw [if_neg c3,if_neg (by omega)]
 ·rw [List.getElem?_eq_none (by simp only [List.length_set,hl];omega),List.getElem?_eq_none (by rw [z2s];omega)]
theorem z5X (l:List Nat) (k:Nat):(z06 l)[k]?=(l[k]?).map fun (x:Nat)=>Value.int .u64 (x:Int):=by
 unfold z06;rw [List.getElem?_map]
theorem zbx (l:List Nat) (k x:Nat):(z06 l).set k (.int .u64 (x:Int))=z06 (l.set k x):=by simp [z06,List.map_set]
structure REVS (w0 w:World) (B g n c:Nat) (L X:List Nat):Prop where
 len:L.length=n
 own:w.ownsRow B 36 1 (.slice (some ⟨g,0,none⟩) n c) n (z06 X)
 out:∀ k,k≠g->w.heap[k]?=w0.heap[k]?
 bel:Below B w0 w
theorem REVS.put {w0 w:World} {B g n c:Nat} {L X:List Nat} (h:REVS w0 w B g n c L X) (k x:Nat):REVS w0 (w.setCell ⟨g,k,none⟩ (.int .u64 (x:Int))) B g n c L (X.set k x):=by
 refine ⟨h.len,by rw [<-zbx];exact (h.own.stored k _).1,fun j hj=>(Below.heap_setCell _ _ _ j hj).trans (h.out j hj),?_⟩
 exact h.bel.setCell (by
  rcases h.own.2 with ⟨e,_⟩ | ⟨g',cap,cur,e,hb,_⟩
  ·cases e
  ·cases e
   exact hb) _
theorem zeR {w:World} {B g n c:Nat} {L:List Nat} (hL:L.length=n) (h:w.ownsRow B 36 1 (.slice (some ⟨g,0,none⟩) n c) n (z06 L)) (hn:n<=1000000):Calls Tryz.prog 59 #[.slice (some ⟨g,0,none⟩) n c] w fun e w'=>e=.returned (.tuple #[])/\REVS w w' B g n c L L.reverse:=by
 have A0:Aside (REVS w w B g n c L (REVD L 0)):=⟨hL,by rw [zd2];exact h,fun _ _=>rfl,Below.refl _ _⟩
 have HN:Aside (n<=1000000):=hn;have e1:wrap64 ((n:Int) - 1)=(n:Int) - 1:=by unfold wrap64;omega
 clear h hn hL;go_enter Tryz.func59,Tryz.ntmps59;go_wp2_with fail
 go_loopg [2,3] n (fun q s2 s3 wx=>∃ i:Nat,s2=.int .i64 (i:Int)/\s3=.int .i64 ((n:Int) - 1 - (i:Int))/\Aside (i+q=n/\REVS w wx B g n c L (REVD L i)))
 case atStart=>exact ⟨0,rfl,by rw [e1];simp,by omega,A0.out⟩
 case round=>
  obtain ⟨i,rfl,rfl,A⟩:=hrel;by_cases hc:(i:Int)<(n:Int) - 1 - (i:Int)
  ·obtain ⟨j,hj⟩:∃ j,i+j+1=n:=⟨n - 1 - i,by omega⟩
   have ej:(n:Int) - 1 - (i:Int)=(j:Int):=by omega
   have hij:i<j:=by omega
   rw [ej] at hc ⊢;cases gk with
   | zero=>have:=A.out.1;omega
   | succ q=>
     have hlt:(i:Int)<(n:Int):=by omega
     have hlt2:(j:Int)<(n:Int):=by omega
     have e2:wrap64 ((i:Int)+1)=((i+1:Nat):Int):=by have:=HN.out;unfold wrap64;omega
     have e3:wrap64 ((j:Int) - 1)=(n:Int) - 1 - ((i+1:Nat):Int):=by have:=HN.out;unfold wrap64;omega
     have hl:=A.out.2.len;have hi2:(REVD L i)[i]?=some (L.getD i 0):=by rw [z1V L (by omega),if_neg (by omega)]
     have hj2:(REVD L i)[j]?=some (L.getD j 0):=by rw [z1V L (by omega),if_neg (by omega)]
     have R:Aside (i+q+1=n/\REVS w wr B g n c L (REVD L i)/\REVD L (i+1)=((REVD L i).set i (L.getD j 0)).set j (L.getD i 0)):=⟨by have:=A.out.1;omega,A.out.2,(zd3 L hij (by omega)).symm⟩
     have hcx:∀ k x,k<n->(REVD L i)[k]?=some x->wr.cell? ⟨g,k,none⟩=some (.int .u64 (x:Int)):=fun k x hk e=>by
      rw [A.out.2.own.cellAt k (by omega),z5X,e];rfl
     have hx:=hcx i _ (by omega) hi2;have hy:=hcx j _ (by omega) hj2;have HIJ:Aside (i<j/\j<n):=⟨hij,by omega⟩
     clear A hij hj ej hi2 hj2 hcx hl;generalize L.getD i 0=x at *
     generalize L.getD j 0=y at *
     go_upto_region 3 with fail
     refine zhT wr g n c i j hlt hlt2 (x:Int) (y:Int) (fun W=>W=wr.drew) (fun W=>W=wr.drew.setCell ⟨g,i,none⟩ (.int .u64 (y:Int))) (fun W=>W=(wr.drew.setCell ⟨g,i,none⟩ (.int .u64 (y:Int))).setCell ⟨g,j,none⟩ (.int .u64 (x:Int))) rfl ?_ ?_ ?_ (by rintro W rfl;rfl) (by rintro W rfl;rfl) (fun _ _ _ _ _ h=>h) ?_
     ·rintro W rfl
      exact ⟨hx,hy⟩
     ·rintro W rfl
      exact ⟨⟨_,hx⟩,R.out.2.1.own.frozenAt i⟩
     ·rintro W rfl
      have Z:=R.out.2.1.put i y;have k:=Z.own.cellAt j (by have:=HIJ.out;omega);rw [z5X,List.getElem?_set_ne (by have:=HIJ.out;omega),z1V L (by have:=HIJ.out;have:=Z.len;omega)] at k;exact ⟨⟨_,k⟩,Z.own.frozenAt j⟩
     ·rintro W rfl
      have Z:Aside (REVS w ((wr.drew.setCell ⟨g,i,none⟩ (.int .u64 (y:Int))).setCell ⟨g,j,none⟩ (.int .u64 (x:Int))) B g n c L (REVD L (i+1))):=by
       have h0:REVS w wr.drew B g n c L (REVD L i):=⟨R.out.2.1.len,R.out.2.1.own,R.out.2.1.out,R.out.2.1.bel.drew⟩
       show REVS _ _ _ _ _ _ _ _;rw [R.out.2.2];exact (h0.put i y).put j x
      generalize (wr.drew.setCell ⟨g,i,none⟩ (.int .u64 (y:Int))).setCell ⟨g,j,none⟩ (.int .u64 (x:Int))=W2 at *
      clear hx hy;go_wp2;go_roundg q
      case measure=>exact Nat.lt_succ_self _
      case rel=>exact ⟨i+1,by rw [e2],by rw [e3],by have:=R.out.1;omega,Z.out⟩
  ·have Z:Aside (REVS w wr B g n c L L.reverse):=by
     have:=A.out.2;rwa [zeQ L (by have:=this.len;omega)] at this
   clear A;go_wp2;exact bodyPost_end (v:=.tuple #[]) (by simp [results,Tryz.f59]) rfl ⟨rfl,Z.out⟩
theorem zeS (w:World):Calls Tryz.prog 59 #[.slice none 0 0] w fun e w'=>e=.returned (.tuple #[])/\w=w':=by
 go_enter Tryz.func59,Tryz.ntmps59;go_wp2;refine wp_loop_rounds 1 ?_;rw [rounds_succ];go_wp2;exact bodyPost_end (v:=.tuple #[]) (by simp [results,Tryz.f59]) rfl ⟨rfl,rfl⟩
def NUML (w:World) (a:Option Addr) (L:List Nat):Prop:=0<L.length->∃ b o,a=some ⟨b,o,none⟩/\b<w.heap.size/\∀ i x,L[i]?=some x->w.cell? ⟨b,o+i,none⟩=some (.int .u64 ((x:Nat):Int))
theorem NUML.below {w w':World} {a:Option Addr} {L:List Nat} {B:Nat} (h:NUML w a L) (hb:Below B w w') (hB:∀ x,a=some x->x.block<B):NUML w' a L:=fun h0=>by
 obtain ⟨b,o,e,hl,hc⟩:=h h0;have h1:b<B:=hB _ e;exact ⟨b,o,e,by have:=hb.size;omega,fun i x hx=>(hb.cell (p:=⟨b,o+i,none⟩) h1).trans (hc i x hx)⟩
def RISES (L:List Nat):Prop:=∀ (i j x y:Nat),i<j->L[i]?=some x->L[j]?=some y->x<y
theorem zd4 {i j:Nat} (h:i<j):∃ m,i<=m/\m<j/\m=(i+j) / 2:=⟨(i+j) / 2,by omega,by omega,rfl⟩
theorem z4x (i j S m:Nat) (hj:j<2 ^ 40) (hi:i<j) (hS:i+j=S) (hm:m=(i+j) / 2):wrap64 ((i:Int)+(j:Int))=(S:Int)/\IntKind.u64.wrap ((i:Int)+(j:Int))=(S:Int)/\(S:Int) / 2=(m:Int)/\wrap64 (m:Int)=(m:Int)/\wrap64 ((m:Int)+1)=((m+1:Nat):Int)/\IntKind.u64.wrap (S:Int)=(S:Int):=by
 rw [z0b,z0b];unfold wrap64;omega
structure RANKS (L:List Nat) (t k:Nat):Prop where
 le:k<=L.length
 lo:∀ i x,i<k->L[i]?=some x->x<t
 hi:∀ i x,k<=i->L[i]?=some x->t<=x
end Go.Proofs.YtlbcnaenhghieaaGreatDoor
