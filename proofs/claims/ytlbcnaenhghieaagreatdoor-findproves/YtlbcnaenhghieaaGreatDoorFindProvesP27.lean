/- FindProves: part 27. -/
import Derived.Test.YtlbcnaenhghieaaGreatDoorFindProvesP26
namespace Go.Proofs.YtlbcnaenhghieaaGreatDoor
open Go.RowKit
set_option maxRecDepth 100000
structure RSTP (w w':World) (gs:Nat) (v v':Value):Prop where
 os:w'.os=w.os
 tape:w'.tape=w.tape
 output:w'.output=w.output
 size:w.heap.size<=w'.heap.size
 block:∀ k,k<w.heap.size->k≠gs->v.ownBlock≠some k->w'.heap[k]?=w.heap[k]?
 foot:∀ k,v'.ownBlock=some k->v.ownBlock=some k\/w.heap.size<=k
theorem RSTP.trans {w w' w'':World} {gs:Nat} {v v' v'':Value} (h:RSTP w w' gs v v') (k:RSTP w' w'' gs v' v''):RSTP w w'' gs v v'':=by
 refine ⟨k.os.trans h.os,k.tape.trans h.tape,k.output.trans h.output,Nat.le_trans h.size k.size,fun i h1 h2 h3=>(k.block i (Nat.lt_of_lt_of_le h1 h.size) h2 (fun e=>?_)).trans (h.block i h1 h2 h3),fun i e=>?_⟩
 ·rcases h.foot i e with c | c
  ·exact h3 c
  ·omega
 ·rcases k.foot i e with c | c
  ·exact h.foot i c
  ·exact .inr (Nat.le_trans h.size c)
theorem RSTP.of_below {w w':World} (gs:Nat) (v:Value) (h:Below w.heap.size w w'):RSTP w w' gs v v:=⟨h.os,h.tape,h.output,h.size,fun k h1 _ _=>h.block k h1,fun _ e=>.inl e⟩
theorem zfp {n:Nat} (h:n<=100000):wrap64 (n:Int)=(n:Int):=by unfold wrap64;omega
set_option maxHeartbeats 2000000 in
theorem z8Q {w:World} {B gs:Nat} {log:Int} {l:List RND} {a:Option Addr} {c:Nat} (H:RSTORE w B gs log l a c) (h:List Int) (lh:h.length=32) (hl:l.length<100000):Calls Tryz.prog 41 #[.pointer (some ⟨gs,0,none⟩),.agg (z00 h).toArray] w fun e w'=>∃ a' c',e=.returned (.int .u64 (l.length:Int))/\RSTORE w' B gs log (l ++ [⟨h,true,0⟩]) a' c'/\RSTP w w' gs (.slice a l.length c) (.slice a' (l.length+1) c'):=by
 obtain ⟨w0,hw0⟩:∃ w0,w.alloc (.cells (z00 h).toArray 25)=w0:=⟨_,rfl⟩
 obtain ⟨b3,hb3⟩:∃ b,w.heap.size=b:=⟨_,rfl⟩
 have hb0:Below w.heap.size w w0:=by rw [<-hw0];exact (Below.refl _ _).alloc (Nat.le_refl _) _
 have k3:Has w0 b3 (z00 h).toArray 25:=by rw [<-hw0,<-hb3];exact Has.new _ _ _
 have H0:=H.below hb0;have hgs:=H.box.lt;have hbs:B<=w0.heap.size:=by have:=H0.base;have:=H0.box.lt;omega
 obtain ⟨n,hn⟩:∃ n,l.length=n:=⟨_,rfl⟩
 have hx:=H0.box;have ho:=H0.own;rw [hn] at hx ho hl ⊢
 have FIN:Aside (∀ g q W W',Below w0.heap.size w0 W->W'.ownsRow B 78 34 (.slice (some ⟨g,0,none⟩) (n+1) q) (n+1) (NCS l ++ NC ⟨h,true,0⟩)->W.grownBy W' (Value.slice a n c).ownBlock->((Value.slice a n c).ownBlock=some g\/g=W.heap.size)->RSTORE (W'.setCell ⟨gs,1,none⟩ (.slice (some ⟨g,0,none⟩) (n+1) q)) B gs log (l ++ [⟨h,true,0⟩]) (some ⟨g,0,none⟩) q/\RSTP w (W'.setCell ⟨gs,1,none⟩ (.slice (some ⟨g,0,none⟩) (n+1) q)) gs (.slice a n c) (.slice (some ⟨g,0,none⟩) (n+1) q)):=fun g q W W' hb ho hg hat=>by
  have hbw:Below w.heap.size w W:=hb0.trans (hb.mono hb0.size);have hne:=H.ne;rw [hn] at hne
  have hgg:g≠gs:=fun e=>by
   subst e;rcases hat with hat | hat
   ·exact hne hat
   ·have:=hbw.size
    omega
  have hB':Has W' gs #[.int .i64 log,.slice a n c] 81:=(hg.block gs (by have:=hbw.size;omega) (fun e=>hne e.symm)).trans ((hb.block gs (by have:=hb0.size;omega)).trans hx);refine ⟨⟨?_,?_,?_,fun v hv=>?_,by rw [List.length_append,hn];simp;omega,H.base⟩,?_⟩
  ·rw [List.length_append,hn]
   exact hB'.set 1 _
  ·rw [List.length_append,hn,zfm]
   exact z24 ho fun k e=>Below.heap_setCell _ _ _ k (fun e2=>hgg (by
    have e:g=k:=by simpa [Value.ownBlock] using e
    rw [e];exact e2))
  ·intro e
   exact hgg (by simpa [Value.ownBlock] using e)
  ·rcases List.mem_append.1 hv with hv | hv
   ·exact H.is v hv
   ·obtain rfl:=List.mem_singleton.1 hv
    exact lh
  ·refine ⟨hg.os.trans hbw.os,hg.tape.trans hbw.tape,hg.output.trans hbw.output,by have:=hg.size;have:=hbw.size;simp;omega,fun k h1 h2 h3=>(Below.heap_setCell _ _ _ k h2).trans ((hg.block k (by have:=hbw.size;omega) (fun e=>h3 e.symm)).trans (hbw.block k h1)),fun k e=>?_⟩
   have e:g=k:=by simpa [Value.ownBlock] using e
   subst e;rcases hat with hat | hat
   ·exact .inl hat
   ·exact .inr (by have:=hbw.size;omega)
 have EQ:Aside (IntKind.u64.wrap (n:Int)=(n:Int)/\wrap64 (n:Int)=(n:Int)):=⟨zaS (by omega),zfp (by omega)⟩
 have hn5:n<=100000:=by omega
 have HN:Aside (l.length=n):=hn;have hne0:(Value.slice a n c).ownBlock≠some gs:=by have:=H.ne;rwa [hn] at this
 have h3o:(Value.slice a n c).ownBlock≠some b3:=fun e=>by have:=(H.own.lt b3 (by rw [hn];exact e)).2;omega
 have h3g:b3≠gs:=by omega
 have hgs0:gs<w0.heap.size:=Nat.lt_of_lt_of_le hgs hb0.size;clear H H0 hl hn hb0 hgs;go_enter Tryz.func41,Tryz.ntmps41;go_upto_region 1 with fail
 clear hw0 hb3;refine zhz w0 gs b3 n c B a h lh (NCS l) hn5 (fun W=>Below w0.heap.size w0 W) (fun z W=>Below w0.heap.size w0 W/\Has W z (NC ⟨h,true,0⟩).toArray 78) (fun z g q W'=>∃ W,Below w0.heap.size w0 W/\W'.ownsRow B 78 34 (.slice (some ⟨g,0,none⟩) (n+1) q) (n+1) (NCS l ++ NC ⟨h,true,0⟩)/\W.grownBy W' (Value.slice a n c).ownBlock/\((Value.slice a n c).ownBlock=some g\/g=W.heap.size)) (fun W2=>∃ g q W W',Below w0.heap.size w0 W/\W'.ownsRow B 78 34 (.slice (some ⟨g,0,none⟩) (n+1) q) (n+1) (NCS l ++ NC ⟨h,true,0⟩)/\W.grownBy W' (Value.slice a n c).ownBlock/\((Value.slice a n c).ownBlock=some g\/g=W.heap.size)/\W2=W'.setCell ⟨gs,1,none⟩ (.slice (some ⟨g,0,none⟩) (n+1) q)) (Below.refl _ _).drew ?_ ?_ ?_ ?_ ?_ ?_ ?_ ?_ ?_ ?_ ?_ ?_ ?_ (fun _ _ _ _ _ h=>h) ?_
 ·exact fun W h=>z23 (k3.keep h)
 ·exact fun z W h=>z23 (k3.keep h.1)
 ·rintro z g q W' ⟨W,h1,h2,h3,h4⟩
  exact z23 ((h3.block b3 (Nat.lt_of_lt_of_le k3.lt h1.size) (fun e=>h3o e.symm)).trans ((h1.block b3 k3.lt).trans k3))
 ·rintro W2 ⟨g,q,W,W',h1,h2,h3,h4,rfl⟩
  exact z23 ((Below.heap_setCell _ _ _ b3 h3g).trans ((h3.block b3 (Nat.lt_of_lt_of_le k3.lt h1.size) (fun e=>h3o e.symm)).trans ((h1.block b3 k3.lt).trans k3)))
 ·exact fun W h=>(hx.keep h).cell 1
 ·exact fun z W h=>(hx.keep h.1).cell 1
 ·exact fun W h=>⟨h.alloc h.size _,Has.new _ _ _⟩
 ·exact fun z W h=>z24 ho fun k e=>h.1.block k (ho.lt k e).2
 ·exact fun z W h=>h.2
 ·exact fun z W h=>Nat.le_trans hbs h.1.size
 ·exact fun z W g q W' h h1 h2 h3=>⟨W,h.1,h1,h2,h3⟩
 ·rintro z g q W' ⟨W,h1,h2,h3,h4⟩
  have:=(h3.block gs (Nat.lt_of_lt_of_le hgs0 h1.size) (fun e=>hne0 e.symm)).trans ((h1.block gs hgs0).trans hx);have hB:Has W' gs #[.int .i64 log,.slice a n c] 81:=this;exact ⟨hB.cell 1,hB.frozen 1⟩
 ·exact fun z g q W' ⟨W,h1,h2,h3,h4⟩=>⟨g,q,W,W',h1,h2,h3,h4,rfl⟩
 ·rintro z g q W2 ⟨g',q',W,W',h1,h2,h3,h4,rfl⟩
  obtain ⟨F1,F2⟩:=FIN.out g' q' W W' h1 h2 h3 h4;generalize W'.setCell ⟨gs,1,none⟩ (.slice (some ⟨g',0,none⟩) (n+1) q')=W2 at *
  have x1:W2.cell? ⟨gs,1,none⟩=some (.slice (some ⟨g',0,none⟩) (n+1) q'):=by
   have:=F1.box.cell 1;rw [List.length_append,HN.out] at this;exact this
  have FF:Aside (RSTORE W2 B gs log (l ++ [⟨h,true,0⟩]) (some ⟨g',0,none⟩) q'/\RSTP w W2 gs (.slice a n c) (.slice (some ⟨g',0,none⟩) (n+1) q')):=⟨F1,F2⟩
  have eu:=EQ.out.1;have ew:=EQ.out.2;clear F1 F2 FIN h1 h2 h3 h4 hx ho;go_wp2;go_ret;exact ⟨_,_,rfl,FF.out.1,FF.out.2⟩
end Go.Proofs.YtlbcnaenhghieaaGreatDoor
