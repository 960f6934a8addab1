/- ProofMakes: part 27. -/
import Derived.Test.YthmnailmbgondaaGreatDoorProofMakesP26
set_option maxHeartbeats 2000000
namespace Go.Proofs.YthmnailmbgondaaGreatDoor
open Go.RowKit
set_option maxRecDepth 100000
theorem z4k:(Tryz.prog.info? 83).map (fun i=>(i.zero,i.size,i.bytes))=some (some (.agg ZNC),34,48):=by kernel_rfl
theorem zhp (v:RND):∀ x∈NC v,x.oneCell'=true:=fun x hx=>by
 rcases List.mem_append.1 hx with h | h
 ·exact z1p v.hash x h
 ·simp only [List.mem_cons,List.not_mem_nil,or_false] at h
  rcases h with rfl | rfl <;> rfl
theorem zfg {ops:Array Oper} {rest:List Oper} {o:Oper} {a:Act} {Q:Exit->Act->World->Prop} (w:World) (hgd:o.guard=none) (s x:Operand)
  (ho:o.op=.call {callee:=.builtin .append,args:=#[s,x],argTypes:=#[84,84]})
  (base:Nat) (v:Value) (n:Nat) (xs:List Value) (hs:a.eval s=v) (hown:w.ownsRow base 83 34 v n xs)
  (b c:Nat) (y:RND) (hl:y.hash.length=32) (hx:a.eval x=.slice (some ⟨b,0,none⟩) 1 c) (hc:Has w b (NC y).toArray 83)
  (hb:n<=100000) (hbase:base<=w.heap.size)
  (h:∀ g cap w',w'.ownsRow base 83 34 (.slice (some ⟨g,0,none⟩) (n+1) cap) (n+1) (xs ++ NC y)->w.grownBy w' v.ownBlock->(v.ownBlock=some g\/g=w.heap.size)->g<w'.heap.size->wpList Tryz.prog ops Q rest (a.put o.dst (.slice (some ⟨g,0,none⟩) (n+1) cap)) w'):wpList Tryz.prog ops Q (o :: rest) a w:=by
 obtain ⟨i,hi,hz,hs1,hby⟩:=info_parts z4k;refine wpList_append_lies w hgd s x 84 ho base 83 i (.agg ZNC) 34 48 Tryz.underlying84 hi hz hs1 hby rfl (by decide) v n xs hs hown ⟨b,0,none⟩ 1 c (NC y) hx (by rw [z1s hl]) ?_ (zhp y) (by decide) (by simp only [maxLen];omega) (by omega) hbase w.heap.size rfl h;intro j u hj;rw [z0O,Nat.zero_add,hc.cell,List.getElem?_toArray];exact hj
theorem zc0 (h:List Int) (hl:h.length=32):Tryz.prog.built 83 [(0,.agg (z00 h).toArray),(1,.bool true)]=some (NC ⟨h,true,0⟩).toArray:=by
 obtain ⟨f,rfl⟩:=zgA h hl;kernel_rfl
theorem z6B {ops:Array Oper} {rest:List Oper} {o:Oper} {a:Act} {w:World} {Q:Exit->Act->World->Prop} (hg:o.guard=none) {x y:Operand} (ho:o.op=.build 83 #[(0,x),(1,y)]) (h:List Int) (hl:h.length=32) (hx:a.eval x=.agg (z00 h).toArray) (hy:a.eval y=.bool true)
  (hh:wpList Tryz.prog ops Q rest (a.put o.dst (.agg (NC ⟨h,true,0⟩).toArray)) w):wpList Tryz.prog ops Q (o :: rest) a w:=by
 have e:Tryz.prog.built 83 ((#[(0,x),(1,y)]:Array (Nat × Operand)).map fun (i,x)=>(i,a.eval x)).toList=some (NC ⟨h,true,0⟩).toArray:=by
  simp only [List.map_toArray,List.map_cons,List.map_nil,hx,hy];exact zc0 h hl
 refine wpList_build hg 83 _ ho (by rw [e];rfl) ?_;rw [e];exact hh
theorem z9Q {w:World} {b o n c:Nat} {y:Value} {a:Option Addr} (h:w.cell? ⟨b,o,none⟩=some y) (hf:w.frozen? ⟨b,o,none⟩=false):(Instr.storeAt 84 (.pointer (some ⟨b,o,none⟩)) (.slice a n c)).run Tryz.prog w=.ok () (w.setCell ⟨b,o,none⟩ (.slice a n c)):=by go_simp
@[go_sem] def RPUOPSq0:Oper:=⟨some 5,.move (.tmp 0),37,"ref.go:31",#[],none⟩
@[go_sem] def RPUOPSq1:Oper:=⟨some 6,.move (.tmp 0),37,"ref.go:31",#[],none⟩
@[go_sem] def RPUOPSq2:Oper:=⟨some 7,.nilCheck (.tmp 6),0,"ref.go:31",#[⟨1,.data⟩],none⟩
@[go_sem] def RPUOPSq3:Oper:=⟨some 8,.fieldAddr 86 (.tmp 7) 1,0,"ref.go:31",#[⟨2,.data⟩],none⟩
@[go_sem] def RPUOPSq4:Oper:=⟨some 9,.load 84 (.tmp 8),84,"ref.go:31",#[⟨3,.data⟩],none⟩
@[go_sem] def RPUOPSq5:Oper:=⟨some 10,.load 35 (.tmp 3),35,"ref.go:31",#[],none⟩
@[go_sem] def RPUOPSq6:Oper:=⟨some 11,.build 83 #[(0,.tmp 10),(1,.const (.bool true))],83,"ref.go:31",#[⟨5,.data⟩],none⟩
@[go_sem] def RPUOPSq7:Oper:=⟨some 12,.buildSlice 84 1 #[(0,.tmp 11)],84,"ref.go:31",#[⟨6,.data⟩],none⟩
@[go_sem] def RPUOPSq8:Oper:=⟨some 13,.call {callee:=.builtin .append,args:=#[.tmp 9,.tmp 12],argTypes:=#[84,84]},84,"ref.go:31",#[⟨4,.data⟩,⟨7,.data⟩],none⟩
@[go_sem] def RPUOPSq9:Oper:=⟨some 14,.nilCheck (.tmp 5),0,"ref.go:31",#[⟨0,.data⟩,⟨0,.phase⟩,⟨1,.phase⟩,⟨2,.phase⟩,⟨3,.phase⟩,⟨4,.phase⟩,⟨5,.phase⟩,⟨6,.phase⟩,⟨7,.phase⟩,⟨8,.phase⟩],none⟩
@[go_sem] def RPUOPSq10:Oper:=⟨some 15,.fieldAddr 86 (.tmp 14) 1,0,"ref.go:31",#[⟨9,.data⟩,⟨0,.phase⟩,⟨1,.phase⟩,⟨2,.phase⟩,⟨3,.phase⟩,⟨4,.phase⟩,⟨5,.phase⟩,⟨6,.phase⟩,⟨7,.phase⟩,⟨8,.phase⟩],none⟩
@[go_sem] def RPUOPSq11:Oper:=⟨none,.store 84 (.tmp 15) (.tmp 13),0,"ref.go:31",#[⟨10,.data⟩,⟨8,.data⟩,⟨8,.chain⟩,⟨0,.phase⟩,⟨1,.phase⟩,⟨2,.phase⟩,⟨3,.phase⟩,⟨4,.phase⟩,⟨5,.phase⟩,⟨6,.phase⟩,⟨7,.phase⟩,⟨8,.phase⟩],none⟩
def z1R:Array Oper:=#[RPUOPSq0,RPUOPSq1,RPUOPSq2,RPUOPSq3,RPUOPSq4,RPUOPSq5,RPUOPSq6,RPUOPSq7,RPUOPSq8,RPUOPSq9,RPUOPSq10,RPUOPSq11]
theorem zhq {Q:Exit->Act->World->Prop} {b d e f i j k l m p r s u x y A C D E F G:Value} (W:World) (gs b3 n c B:Nat) (a:Option Addr) (h:List Int) (lh:h.length=32) (xs:List Value) (hn:n<=100000) (P0:World->Prop) (P1:Nat->World->Prop) (P2:Nat->Nat->Nat->World->Prop) (P3:World->Prop) (h0:P0 W.drew) (t0:∀ w,P0 w->(fun w:World=>w.rangeAt b3 0 (z00 h)) w) (t1:∀ z w,P1 z w->(fun w:World=>w.rangeAt b3 0 (z00 h)) w) (t2:∀ z g q w,P2 z g q w->(fun w:World=>w.rangeAt b3 0 (z00 h)) w) (t3:∀ w,P3 w->(fun w:World=>w.rangeAt b3 0 (z00 h)) w)
  (c0:∀ w,P0 w->w.cell? ⟨gs,1,none⟩=some (.slice a n c)) (c1:∀ z w,P1 z w->w.cell? ⟨gs,1,none⟩=some (.slice a n c)) (al:∀ w,P0 w->P1 w.heap.size (w.alloc (.cells (NC ⟨h,true,0⟩).toArray 83))) (o1:∀ z w,P1 z w->w.ownsRow B 83 34 (.slice a n c) n xs) (z1:∀ z w,P1 z w->Has w z (NC ⟨h,true,0⟩).toArray 83) (bs:∀ z w,P1 z w->B<=w.heap.size)
  (gr:∀ z w g q w',P1 z w->w'.ownsRow B 83 34 (.slice (some ⟨g,0,none⟩) (n+1) q) (n+1) (xs ++ NC ⟨h,true,0⟩)->w.grownBy w' (Value.slice a n c).ownBlock->((Value.slice a n c).ownBlock=some g\/g=w.heap.size)->P2 z g q w') (m2:∀ z g q w,P2 z g q w->w.cell? ⟨gs,1,none⟩=some (.slice a n c)/\w.frozen? ⟨gs,1,none⟩=false) (st:∀ z g q w,P2 z g q w->P3 (w.setCell ⟨gs,1,none⟩ (.slice (some ⟨g,0,none⟩) (n+1) q))) (hQ:∀ c (a:Act) (t:Tmp) (v:Value) w,Q (.panic c) (a.put (some t) v) w->Q (.panic c) a w)
  (hfin:∀ (z:Nat) (g:Nat) (q:Nat) (w:World),(P3 w)->Q .normal {tmps:=#[.pointer (some ⟨gs,0,none⟩),b,d,.pointer (some ⟨b3,0,none⟩),e,.pointer (some ⟨gs,0,none⟩),.pointer (some ⟨gs,0,none⟩),.pointer (some ⟨gs,0,none⟩),.pointer (some ⟨gs,1,none⟩),.slice a n c,.agg (z00 h).toArray,.agg (NC ⟨h,true,0⟩).toArray,.slice (some ⟨z,0,none⟩) 1 1,.slice (some ⟨g,0,none⟩) (n+1) q,.pointer (some ⟨gs,0,none⟩),.pointer (some ⟨gs,1,none⟩),y,A,C,D,E,F,G],defers:=[]} w):(Code.region 1 z1R true).wp Tryz.prog Q {tmps:=#[.pointer (some ⟨gs,0,none⟩),b,d,.pointer (some ⟨b3,0,none⟩),e,f,i,j,k,l,m,p,r,s,u,x,y,A,C,D,E,F,G],defers:=[]} W:=by
 have kst4_6_7_8_11:∀ (z:Nat) (g:Nat) (q:Nat) (w:World),(P3 w)->wpAnyH Tryz.prog .any z1R Q (fun w:World=>w.rangeAt b3 0 (z00 h)) 0 #[tt,tt,tt,tt,tt,tt,tt,tt,tt,tt,tt,tt] {tmps:=#[.pointer (some ⟨gs,0,none⟩),b,d,.pointer (some ⟨b3,0,none⟩),e,.pointer (some ⟨gs,0,none⟩),.pointer (some ⟨gs,0,none⟩),.pointer (some ⟨gs,0,none⟩),.pointer (some ⟨gs,1,none⟩),.slice a n c,.agg (z00 h).toArray,.agg (NC ⟨h,true,0⟩).toArray,.slice (some ⟨z,0,none⟩) 1 1,.slice (some ⟨g,0,none⟩) (n+1) q,.pointer (some ⟨gs,0,none⟩),.pointer (some ⟨gs,1,none⟩),y,A,C,D,E,F,G],defers:=[]} w:=fun z g q w hp=>by
  exact wpAnyH_done (by kernel_rfl) (hfin z g q w hp) _
 have kst4_6_7_8:∀ (z:Nat) (g:Nat) (q:Nat) (w:World),(P2 z g q w)->wpAnyH Tryz.prog .any z1R Q (fun w:World=>w.rangeAt b3 0 (z00 h)) 1 #[tt,tt,tt,tt,tt,tt,tt,tt,tt,tt,tt,ff] {tmps:=#[.pointer (some ⟨gs,0,none⟩),b,d,.pointer (some ⟨b3,0,none⟩),e,.pointer (some ⟨gs,0,none⟩),.pointer (some ⟨gs,0,none⟩),.pointer (some ⟨gs,0,none⟩),.pointer (some ⟨gs,1,none⟩),.slice a n c,.agg (z00 h).toArray,.agg (NC ⟨h,true,0⟩).toArray,.slice (some ⟨z,0,none⟩) 1 1,.slice (some ⟨g,0,none⟩) (n+1) q,.pointer (some ⟨gs,0,none⟩),.pointer (some ⟨gs,1,none⟩),y,A,C,D,E,F,G],defers:=[]} w:=fun z g q w hp=>by
  refine wpAnyH_ready (rs:=[11]) (by kernel_rfl) (by simp) ?_;refine AllReadyH.cons (o:=RPUOPSq11) rfl (fun KQ hKQ=>?_) ?_
  ·exact z1e rfl (z1u (z9Q (m2 _ _ _ _ hp).1 (m2 _ _ _ _ hp).2)) (have hp:(fun (z:Nat) (g:Nat) (q:Nat) (w:World)=>(P3 w)) z g q _:=st _ _ _ _ hp;hKQ.out _ _ (t3 _ hp) (fun _=>kst4_6_7_8_11 z g q _ hp))
  exact AllReadyH.nil
 have ekst4_6_7_8:∀ (z:Nat) (g:Nat) (q:Nat) (w:World),(P2 z g q w)->wpAnyH Tryz.prog .any z1R Q (fun w:World=>w.rangeAt b3 0 (z00 h)) 3 #[tt,tt,tt,tt,tt,tt,tt,tt,tt,ff,ff,ff] {tmps:=#[.pointer (some ⟨gs,0,none⟩),b,d,.pointer (some ⟨b3,0,none⟩),e,.pointer (some ⟨gs,0,none⟩),.pointer (some ⟨gs,0,none⟩),.pointer (some ⟨gs,0,none⟩),.pointer (some ⟨gs,1,none⟩),.slice a n c,.agg (z00 h).toArray,.agg (NC ⟨h,true,0⟩).toArray,.slice (some ⟨z,0,none⟩) 1 1,.slice (some ⟨g,0,none⟩) (n+1) q,u,x,y,A,C,D,E,F,G],defers:=[]} w:=fun z g q w hp=>by
  have hww:(fun w:World=>w.rangeAt b3 0 (z00 h)) w:=t2 _ _ _ _ hp;have last:=kst4_6_7_8 z g q w hp;refine tkP RPUOPSq9 (.pointer (some ⟨gs,0,none⟩)) 9 hQ hww ?_;simp only [List.set];refine tkP RPUOPSq10 (.pointer (some ⟨gs,1,none⟩)) 10 hQ hww ?_;simp only [List.set];exact last
 have kst4_6_7:∀ (z:Nat) (w:World),(P1 z w)->wpAnyH Tryz.prog .any z1R Q (fun w:World=>w.rangeAt b3 0 (z00 h)) 4 #[tt,tt,tt,tt,tt,tt,tt,tt,ff,ff,ff,ff] {tmps:=#[.pointer (some ⟨gs,0,none⟩),b,d,.pointer (some ⟨b3,0,none⟩),e,.pointer (some ⟨gs,0,none⟩),.pointer (some ⟨gs,0,none⟩),.pointer (some ⟨gs,0,none⟩),.pointer (some ⟨gs,1,none⟩),.slice a n c,.agg (z00 h).toArray,.agg (NC ⟨h,true,0⟩).toArray,.slice (some ⟨z,0,none⟩) 1 1,s,u,x,y,A,C,D,E,F,G],defers:=[]} w:=fun z w hp=>by
  refine wpAnyH_ready (rs:=[8]) (by kernel_rfl) (by simp) ?_;refine AllReadyH.cons (o:=RPUOPSq8) rfl (fun KQ hKQ=>?_) ?_
  ·exact z1o (by rfl) (zfg w rfl (.tmp 9) (.tmp 12) rfl B (.slice a n c) n xs rfl (o1 _ _ hp) z 1 ⟨h,true,0⟩ lh rfl (z1 _ _ hp) hn (bs _ _ hp) (fun g q w' h1 h2 h3 _=>⟨rfl,(have hp:(fun (z:Nat) (g:Nat) (q:Nat) (w:World)=>(P2 z g q w)) z g q w':=gr _ _ _ _ _ hp h1 h2 h3;hKQ.out _ _ (t2 _ _ _ _ hp) (fun _=>ekst4_6_7_8 z g q _ hp))⟩))
  exact AllReadyH.nil
 have kst4_6:∀ (w:World),(P0 w)->wpAnyH Tryz.prog .any z1R Q (fun w:World=>w.rangeAt b3 0 (z00 h)) 5 #[tt,tt,tt,tt,tt,tt,tt,ff,ff,ff,ff,ff] {tmps:=#[.pointer (some ⟨gs,0,none⟩),b,d,.pointer (some ⟨b3,0,none⟩),e,.pointer (some ⟨gs,0,none⟩),.pointer (some ⟨gs,0,none⟩),.pointer (some ⟨gs,0,none⟩),.pointer (some ⟨gs,1,none⟩),.slice a n c,.agg (z00 h).toArray,.agg (NC ⟨h,true,0⟩).toArray,r,s,u,x,y,A,C,D,E,F,G],defers:=[]} w:=fun  w hp=>by
  refine wpAnyH_ready (rs:=[7]) (by kernel_rfl) (by simp) ?_;refine AllReadyH.cons (o:=RPUOPSq7) rfl (fun KQ hKQ=>?_) ?_
  ·exact z1o (by rfl) (z1g w rfl 84 83 (.tmp 11) rfl (NC ⟨h,true,0⟩).toArray rfl 34 _ _ Tryz.underlying84 z4k (by rw [List.size_toArray,z1s (v:=⟨h,true,0⟩) lh]) rfl (by decide) (by decide) ⟨rfl,(have hp:(fun (z:Nat) (w:World)=>(P1 z w)) w.heap.size _:=al w hp;hKQ.out _ _ (t1 _ _ hp) (fun _=>kst4_6_7 w.heap.size _ hp))⟩)
  exact AllReadyH.nil
 have kst6_7:∀ (z:Nat) (w:World),(P1 z w)->wpAnyH Tryz.prog .any z1R Q (fun w:World=>w.rangeAt b3 0 (z00 h)) 5 #[tt,tt,tt,tt,ff,tt,tt,tt,ff,ff,ff,ff] {tmps:=#[.pointer (some ⟨gs,0,none⟩),b,d,.pointer (some ⟨b3,0,none⟩),e,.pointer (some ⟨gs,0,none⟩),.pointer (some ⟨gs,0,none⟩),.pointer (some ⟨gs,0,none⟩),.pointer (some ⟨gs,1,none⟩),l,.agg (z00 h).toArray,.agg (NC ⟨h,true,0⟩).toArray,.slice (some ⟨z,0,none⟩) 1 1,s,u,x,y,A,C,D,E,F,G],defers:=[]} w:=fun z w hp=>by
  refine wpAnyH_ready (rs:=[4]) (by kernel_rfl) (by simp) ?_;refine AllReadyH.cons (o:=RPUOPSq4) rfl (fun KQ hKQ=>?_) ?_
  ·exact z0u (by rfl) (by have hx:=c1 _ _ hp;go_simp) (have hp:(fun (z:Nat) (w:World)=>(P1 z w)) z w:=hp;hKQ.out _ _ (t1 _ _ hp) (fun _=>kst4_6_7 z _ hp))
  exact AllReadyH.nil
 have kst4:∀ (w:World),(P0 w)->wpAnyH Tryz.prog .any z1R Q (fun w:World=>w.rangeAt b3 0 (z00 h)) 6 #[tt,tt,tt,tt,tt,tt,ff,ff,ff,ff,ff,ff] {tmps:=#[.pointer (some ⟨gs,0,none⟩),b,d,.pointer (some ⟨b3,0,none⟩),e,.pointer (some ⟨gs,0,none⟩),.pointer (some ⟨gs,0,none⟩),.pointer (some ⟨gs,0,none⟩),.pointer (some ⟨gs,1,none⟩),.slice a n c,.agg (z00 h).toArray,p,r,s,u,x,y,A,C,D,E,F,G],defers:=[]} w:=fun  w hp=>by
  refine wpAnyH_ready (rs:=[6]) (by kernel_rfl) (by simp) ?_;refine AllReadyH.cons (o:=RPUOPSq6) rfl (fun KQ hKQ=>?_) ?_
  ·exact z1o (by rfl) (z6B rfl rfl h lh rfl rfl ⟨rfl,(have hp:(fun (w:World)=>(P0 w))  w:=hp;hKQ.out _ _ (t0 _ hp) (fun _=>kst4_6  _ hp))⟩)
  exact AllReadyH.nil
 have kst6:∀ (w:World),(P0 w)->wpAnyH Tryz.prog .any z1R Q (fun w:World=>w.rangeAt b3 0 (z00 h)) 6 #[tt,tt,tt,tt,ff,tt,tt,ff,ff,ff,ff,ff] {tmps:=#[.pointer (some ⟨gs,0,none⟩),b,d,.pointer (some ⟨b3,0,none⟩),e,.pointer (some ⟨gs,0,none⟩),.pointer (some ⟨gs,0,none⟩),.pointer (some ⟨gs,0,none⟩),.pointer (some ⟨gs,1,none⟩),l,.agg (z00 h).toArray,.agg (NC ⟨h,true,0⟩).toArray,r,s,u,x,y,A,C,D,E,F,G],defers:=[]} w:=fun  w hp=>by
  refine wpAnyH_ready (rs:=[4,7]) (by kernel_rfl) (by simp) ?_;refine AllReadyH.cons (o:=RPUOPSq4) rfl (fun KQ hKQ=>?_) ?_
  ·exact z0u (by rfl) (by have hx:=c0 _ hp;go_simp) (have hp:(fun (w:World)=>(P0 w))  w:=hp;hKQ.out _ _ (t0 _ hp) (fun _=>kst4_6  _ hp))
  refine AllReadyH.cons (o:=RPUOPSq7) rfl (fun KQ hKQ=>?_) ?_
  ·exact z1o (by rfl) (z1g w rfl 84 83 (.tmp 11) rfl (NC ⟨h,true,0⟩).toArray rfl 34 _ _ Tryz.underlying84 z4k (by rw [List.size_toArray,z1s (v:=⟨h,true,0⟩) lh]) rfl (by decide) (by decide) ⟨rfl,(have hp:(fun (z:Nat) (w:World)=>(P1 z w)) w.heap.size _:=al w hp;hKQ.out _ _ (t1 _ _ hp) (fun _=>kst6_7 w.heap.size _ hp))⟩)
  exact AllReadyH.nil
 have kst:∀ (w:World),(P0 w)->wpAnyH Tryz.prog .any z1R Q (fun w:World=>w.rangeAt b3 0 (z00 h)) 7 #[tt,tt,tt,tt,ff,tt,ff,ff,ff,ff,ff,ff] {tmps:=#[.pointer (some ⟨gs,0,none⟩),b,d,.pointer (some ⟨b3,0,none⟩),e,.pointer (some ⟨gs,0,none⟩),.pointer (some ⟨gs,0,none⟩),.pointer (some ⟨gs,0,none⟩),.pointer (some ⟨gs,1,none⟩),l,.agg (z00 h).toArray,p,r,s,u,x,y,A,C,D,E,F,G],defers:=[]} w:=fun  w hp=>by
  refine wpAnyH_ready (rs:=[4,6]) (by kernel_rfl) (by simp) ?_;refine AllReadyH.cons (o:=RPUOPSq4) rfl (fun KQ hKQ=>?_) ?_
  ·exact z0u (by rfl) (by have hx:=c0 _ hp;go_simp) (have hp:(fun (w:World)=>(P0 w))  w:=hp;hKQ.out _ _ (t0 _ hp) (fun _=>kst4  _ hp))
  refine AllReadyH.cons (o:=RPUOPSq6) rfl (fun KQ hKQ=>?_) ?_
  ·exact z1o (by rfl) (z6B rfl rfl h lh rfl rfl ⟨rfl,(have hp:(fun (w:World)=>(P0 w))  w:=hp;hKQ.out _ _ (t0 _ hp) (fun _=>kst6  _ hp))⟩)
  exact AllReadyH.nil
 have hp:=h0;have hww:(fun w:World=>w.rangeAt b3 0 (z00 h)) W.drew:=t0 _ hp;have last:=kst W.drew hp
 have z:wpAnyH Tryz.prog .any z1R Q (fun w:World=>w.rangeAt b3 0 (z00 h)) 12 #[ff,ff,ff,ff,ff,ff,ff,ff,ff,ff,ff,ff] {tmps:=#[.pointer (some ⟨gs,0,none⟩),b,d,.pointer (some ⟨b3,0,none⟩),e,f,i,j,k,l,m,p,r,s,u,x,y,A,C,D,E,F,G],defers:=[]} W.drew:=by
  refine tkP RPUOPSq0 (.pointer (some ⟨gs,0,none⟩)) 0 hQ hww ?_;simp only [List.set];refine tkP RPUOPSq1 (.pointer (some ⟨gs,0,none⟩)) 1 hQ hww ?_;simp only [List.set];refine tkP RPUOPSq2 (.pointer (some ⟨gs,0,none⟩)) 2 hQ hww ?_;simp only [List.set];refine tkP RPUOPSq3 (.pointer (some ⟨gs,1,none⟩)) 3 hQ hww ?_;simp only [List.set];refine tkH RPUOPSq5 (.agg (z00 h).toArray) 5 hQ (yieldsIf_load_mid (by rfl) 35 (.tmp 3) rfl b3 0 rfl (z00 h) _ (fun w h=>h) Tryz.underlying35 rfl (z0v lh)) hww ?_;simp only [List.set];exact last
 exact wp_region_held_drew (S:=(fun w:World=>w.rangeAt b3 0 (z00 h))) (by kernel_rfl) hww (fun _=>z)
structure RSTP (w w':World) (gs:Nat) (v v':Value):Prop where
 os:w'.os=w.os
 tape:w'.tape=w.tape
 output:w'.output=w.output
 size:w.heap.size<=w'.heap.size
 block:∀ k,k<w.heap.size->k≠gs->v.ownBlock≠some k->w'.heap[k]?=w.heap[k]?
 foot:∀ k,v'.ownBlock=some k->v.ownBlock=some k\/w.heap.size<=k
theorem RSTP.trans {w w' w'':World} {gs:Nat} {v v' v'':Value} (h:RSTP w w' gs v v') (k:RSTP w' w'' gs v' v''):RSTP w w'' gs v v'':=by
 refine ⟨k.os.trans h.os,k.tape.trans h.tape,k.output.trans h.output,Nat.le_trans h.size k.size,fun i h1 h2 h3=>(k.block i (Nat.lt_of_lt_of_le h1 h.size) h2 (fun e=>?_)).trans (h.block i h1 h2 h3),fun i e=>?_⟩
 ·rcases h.foot i e with c | c
  ·exact h3 c
  ·omega
 ·rcases k.foot i e with c | c
  ·exact h.foot i c
  ·exact .inr (Nat.le_trans h.size c)
theorem RSTP.of_below {w w':World} (gs:Nat) (v:Value) (h:Below w.heap.size w w'):RSTP w w' gs v v:=⟨h.os,h.tape,h.output,h.size,fun k h1 _ _=>h.block k h1,fun _ e=>.inl e⟩
theorem zfh {n:Nat} (h:n<=100000):wrap64 (n:Int)=(n:Int):=by unfold wrap64;omega
theorem z8Y {w:World} {B gs:Nat} {log:Int} {l:List RND} {a:Option Addr} {c:Nat} (H:RSTORE w B gs log l a c) (h:List Int) (lh:h.length=32) (hl:l.length<100000):Calls Tryz.prog 56 #[.pointer (some ⟨gs,0,none⟩),.agg (z00 h).toArray] w fun e w'=>∃ a' c',e=.returned (.int .u64 (l.length:Int))/\RSTORE w' B gs log (l ++ [⟨h,true,0⟩]) a' c'/\RSTP w w' gs (.slice a l.length c) (.slice a' (l.length+1) c'):=by
 obtain ⟨w0,hw0⟩:∃ w0,w.alloc (.cells (z00 h).toArray 35)=w0:=⟨_,rfl⟩
 obtain ⟨b3,hb3⟩:∃ b,w.heap.size=b:=⟨_,rfl⟩
 have hb0:Below w.heap.size w w0:=by rw [<-hw0];exact (Below.refl _ _).alloc (Nat.le_refl _) _
 have k3:Has w0 b3 (z00 h).toArray 35:=by rw [<-hw0,<-hb3];exact Has.new _ _ _
 have H0:=H.below hb0;have hgs:=H.box.lt;have hbs:B<=w0.heap.size:=by have:=H0.base;have:=H0.box.lt;omega
 obtain ⟨n,hn⟩:∃ n,l.length=n:=⟨_,rfl⟩
 have hx:=H0.box;have ho:=H0.own;rw [hn] at hx ho hl ⊢
 have FIN:Aside (∀ g q W W',Below w0.heap.size w0 W->W'.ownsRow B 83 34 (.slice (some ⟨g,0,none⟩) (n+1) q) (n+1) (NCS l ++ NC ⟨h,true,0⟩)->W.grownBy W' (Value.slice a n c).ownBlock->((Value.slice a n c).ownBlock=some g\/g=W.heap.size)->RSTORE (W'.setCell ⟨gs,1,none⟩ (.slice (some ⟨g,0,none⟩) (n+1) q)) B gs log (l ++ [⟨h,true,0⟩]) (some ⟨g,0,none⟩) q/\RSTP w (W'.setCell ⟨gs,1,none⟩ (.slice (some ⟨g,0,none⟩) (n+1) q)) gs (.slice a n c) (.slice (some ⟨g,0,none⟩) (n+1) q)):=fun g q W W' hb ho hg hat=>by
  have hbw:Below w.heap.size w W:=hb0.trans (hb.mono hb0.size);have hne:=H.ne;rw [hn] at hne
  have hgg:g≠gs:=fun e=>by
   subst e;rcases hat with hat | hat
   ·exact hne hat
   ·have:=hbw.size
    omega
  have hB':Has W' gs #[.int .i64 log,.slice a n c] 86:=(hg.block gs (by have:=hbw.size;omega) (fun e=>hne e.symm)).trans ((hb.block gs (by have:=hb0.size;omega)).trans hx);refine ⟨⟨?_,?_,?_,fun v hv=>?_,by rw [List.length_append,hn];simp;omega,H.base⟩,?_⟩
  ·rw [List.length_append,hn]
   exact hB'.set 1 _
  ·rw [List.length_append,hn,zfe]
   exact z1t ho fun k e=>Below.heap_setCell _ _ _ k (fun e2=>hgg (by
    have e:g=k:=by simpa [Value.ownBlock] using e
    rw [e];exact e2))
  ·intro e
   exact hgg (by simpa [Value.ownBlock] using e)
  ·rcases List.mem_append.1 hv with hv | hv
   ·exact H.is v hv
   ·obtain rfl:=List.mem_singleton.1 hv
    exact lh
  ·refine ⟨hg.os.trans hbw.os,hg.tape.trans hbw.tape,hg.output.trans hbw.output,by have:=hg.size;have:=hbw.size;simp;omega,fun k h1 h2 h3=>(Below.heap_setCell _ _ _ k h2).trans ((hg.block k (by have:=hbw.size;omega) (fun e=>h3 e.symm)).trans (hbw.block k h1)),fun k e=>?_⟩
   have e:g=k:=by simpa [Value.ownBlock] using e
   subst e;rcases hat with hat | hat
   ·exact .inl hat
   ·exact .inr (by have:=hbw.size;omega)
 have EQ:Aside (IntKind.u64.wrap (n:Int)=(n:Int)/\wrap64 (n:Int)=(n:Int)):=⟨zaN (by omega),zfh (by omega)⟩
 have hn5:n<=100000:=by omega
 have HN:Aside (l.length=n):=hn;have hne0:(Value.slice a n c).ownBlock≠some gs:=by have:=H.ne;rwa [hn] at this
 have h3o:(Value.slice a n c).ownBlock≠some b3:=fun e=>by have:=(H.own.lt b3 (by rw [hn];exact e)).2;omega
 have h3g:b3≠gs:=by omega
 have hgs0:gs<w0.heap.size:=Nat.lt_of_lt_of_le hgs hb0.size;clear H H0 hl hn hb0 hgs;go_enter Tryz.func56,Tryz.ntmps56;go_upto_region 1 with fail
 clear hw0 hb3;refine zhq w0 gs b3 n c B a h lh (NCS l) hn5 (fun W=>Below w0.heap.size w0 W) (fun z W=>Below w0.heap.size w0 W/\Has W z (NC ⟨h,true,0⟩).toArray 83) (fun z g q W'=>∃ W,Below w0.heap.size w0 W/\W'.ownsRow B 83 34 (.slice (some ⟨g,0,none⟩) (n+1) q) (n+1) (NCS l ++ NC ⟨h,true,0⟩)/\W.grownBy W' (Value.slice a n c).ownBlock/\((Value.slice a n c).ownBlock=some g\/g=W.heap.size)) (fun W2=>∃ g q W W',Below w0.heap.size w0 W/\W'.ownsRow B 83 34 (.slice (some ⟨g,0,none⟩) (n+1) q) (n+1) (NCS l ++ NC ⟨h,true,0⟩)/\W.grownBy W' (Value.slice a n c).ownBlock/\((Value.slice a n c).ownBlock=some g\/g=W.heap.size)/\W2=W'.setCell ⟨gs,1,none⟩ (.slice (some ⟨g,0,none⟩) (n+1) q)) (Below.refl _ _).drew ?_ ?_ ?_ ?_ ?_ ?_ ?_ ?_ ?_ ?_ ?_ ?_ ?_ (fun _ _ _ _ _ h=>h) ?_
 ·exact fun W h=>z2b (k3.keep h)
 ·exact fun z W h=>z2b (k3.keep h.1)
 ·rintro z g q W' ⟨W,h1,h2,h3,h4⟩
  exact z2b ((h3.block b3 (Nat.lt_of_lt_of_le k3.lt h1.size) (fun e=>h3o e.symm)).trans ((h1.block b3 k3.lt).trans k3))
 ·rintro W2 ⟨g,q,W,W',h1,h2,h3,h4,rfl⟩
  exact z2b ((Below.heap_setCell _ _ _ b3 h3g).trans ((h3.block b3 (Nat.lt_of_lt_of_le k3.lt h1.size) (fun e=>h3o e.symm)).trans ((h1.block b3 k3.lt).trans k3)))
 ·exact fun W h=>(hx.keep h).cell 1
 ·exact fun z W h=>(hx.keep h.1).cell 1
 ·exact fun W h=>⟨h.alloc h.size _,Has.new _ _ _⟩
 ·exact fun z W h=>z1t ho fun k e=>h.1.block k (ho.lt k e).2
 ·exact fun z W h=>h.2
 ·exact fun z W h=>Nat.le_trans hbs h.1.size
 ·exact fun z W g q W' h h1 h2 h3=>⟨W,h.1,h1,h2,h3⟩
 ·rintro z g q W' ⟨W,h1,h2,h3,h4⟩
  have:=(h3.block gs (Nat.lt_of_lt_of_le hgs0 h1.size) (fun e=>hne0 e.symm)).trans ((h1.block gs hgs0).trans hx);have hB:Has W' gs #[.int .i64 log,.slice a n c] 86:=this;exact ⟨hB.cell 1,hB.frozen 1⟩
 ·exact fun z g q W' ⟨W,h1,h2,h3,h4⟩=>⟨g,q,W,W',h1,h2,h3,h4,rfl⟩
 ·rintro z g q W2 ⟨g',q',W,W',h1,h2,h3,h4,rfl⟩
  obtain ⟨F1,F2⟩:=FIN.out g' q' W W' h1 h2 h3 h4;generalize W'.setCell ⟨gs,1,none⟩ (.slice (some ⟨g',0,none⟩) (n+1) q')=W2 at *
  have x1:W2.cell? ⟨gs,1,none⟩=some (.slice (some ⟨g',0,none⟩) (n+1) q'):=by
   have:=F1.box.cell 1;rw [List.length_append,HN.out] at this;exact this
  have FF:Aside (RSTORE W2 B gs log (l ++ [⟨h,true,0⟩]) (some ⟨g',0,none⟩) q'/\RSTP w W2 gs (.slice a n c) (.slice (some ⟨g',0,none⟩) (n+1) q')):=⟨F1,F2⟩
  have eu:=EQ.out.1;have ew:=EQ.out.2;clear F1 F2 FIN h1 h2 h3 h4 hx ho;go_wp2;go_ret;exact ⟨_,_,rfl,FF.out.1,FF.out.2⟩
end Go.Proofs.YthmnailmbgondaaGreatDoor
