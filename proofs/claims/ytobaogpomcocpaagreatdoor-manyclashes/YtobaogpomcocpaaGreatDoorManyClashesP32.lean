/- ManyClashes: part 32. -/
import Derived.Test.YtobaogpomcocpaaGreatDoorManyClashesP31
set_option maxRecDepth 100000
set_option maxHeartbeats 16000000
open Go.RowKit
namespace Go.Proofs.YtobaogpomcocpaaGreatDoor
theorem jb{fn:Func}{p q:Tmp}{ty:TypeId}(h:fn.results=#[.cell p ty,.tmp q])(tmps:Array Value)(w:World)(g:Nat)(v v2:Value)
  (hp:tmps.getD p undef=.pointer (some ⟨g,0,none⟩))(hq:tmps.getD q undef=v2)(h1:(loadVar ty ⟨g,0,none⟩).run Tryz.prog w=.ok v w):
  (results fn tmps).run Tryz.prog w=.ok (.tuple #[v,v2]) w:=by
 have hp':tmps[p]?.getD undef=.pointer (some ⟨g,0,none⟩):=by simpa using hp
 have hq':tmps[q]?.getD undef=v2:=by simpa using hq
 simp[results,h,hp',hq',asAddr,h1]
theorem ki(d:Int)(root:List Int)(hroot:IsH root)(N:Nat)(ai:Option Addr)(n ci:Nat)(L:List Nat)(ax:Option Addr)(kx cx:Nat)(lx:List Int)(ap:Option Addr)(np cp:Nat)(p:List Int)(ay:Option Addr)(ky cy:Nat)(ly:List Int)(aq:Option Addr)(nq cq:Nat)(q:List Int)(w:World)
  (hl:L.length=n)(hn:n<=200)(hL:NUML w ai L)(hFx:Flat w ax kx lx)(hcx:kx<=cx)(hlx:∀ x,ax=some x->x.block<w.heap.size)(hkx:kx<=200)(hBp:Bytes w ap np p)(hcp:np<=cp)(hnp:np<=10000)(hFy:Flat w ay ky ly)(hcy:ky<=cy)(hly:∀ x,ay=some x->x.block<w.heap.size)(hBq:Bytes w aq nq q)(hcq:nq<=cq)(hnq:nq<=10000)(hT:Tabled w)(hX:HX.Tabled w)(h0:0<w.heap.size)
  (h:lx=ly\/MVA d root N L kx lx p≠0\/MVA d root N L ky ly q≠0):
  Calls Tryz.prog 9 #[.int .i64 d,.agg (za root).toArray,.int .u64 (N:Int),.slice ai n ci,.slice ax kx cx,.slice ap np cp,.slice ay ky cy,.slice aq nq cq] w (CLASHED w none):=by
 obtain⟨w1,e1⟩:∃ w1,w.alloc (.cells (za root).toArray 23)=w1:=⟨_,rfl⟩
 obtain⟨w2,e2⟩:∃ w2,w1.alloc (.cells #[.slice none 0 0,.slice none 0 0] 35)=w2:=⟨_,rfl⟩
 obtain⟨b9,hb9⟩:∃ b,w.heap.size=b:=⟨_,rfl⟩
 obtain⟨bz,hbz⟩:∃ b,b9+1=b:=⟨_,rfl⟩
 have n1:w1.heap.size=bz:=by rw[<-e1];simp;omega
 have q1:Below w.heap.size w w1:=by rw[<-e1];exact(Below.refl _ _).alloc (Nat.le_refl _) _
 have q2:Below w1.heap.size w1 w2:=by rw[<-e2];exact(Below.refl _ _).alloc (Nat.le_refl _) _
 have q12:Below w.heap.size w w2:=q1.trans (q2.mono q1.size)
 have hR:Has w2 b9 (za root).toArray 23:=by
  refine Has.keep ?_ q2;rw[<-e1,<-hb9];exact Has.new _ _ _
 have hZ:Has w2 bz #[.slice none 0 0,.slice none 0 0] 35:=by rw[<-e2,<-n1];exact Has.new _ _ _
 have ce:=Ym ax ay kx ky cx cy lx ly w2 (hFx.below q12) (hFy.below q12) (by omega);have C1:Aside (∀ W,Below w.heap.size w W->Calls Tryz.prog 22 #[.int .i64 d,.agg (za root).toArray,.int .u64 (N:Int),.slice ai n ci,.slice ax kx cx,.slice ap np cp] W fun e w'=>e=.returned (.int .i64 (MVA d root N L kx lx p))/\Below W.heap.size W w'):=fun W hb=>jY d root hroot N ai n ci L ax kx cx lx ap np cp p W hl hn (hL.keep hb) (hFx.below hb) hcx (fun x e=>Nat.lt_of_lt_of_le (hlx x e) hb.size) (hBp.below hb) hcp hnp (hT.below h0 hb) (hX.below hb) (by have:=hb.size;omega);have C2:Aside (∀ W,Below w.heap.size w W->Calls Tryz.prog 22 #[.int .i64 d,.agg (za root).toArray,.int .u64 (N:Int),.slice ai n ci,.slice ay ky cy,.slice aq nq cq] W fun e w'=>e=.returned (.int .i64 (MVA d root N L ky ly q))/\Below W.heap.size W w'):=fun W hb=>jY d root hroot N ai n ci L ay ky cy ly aq nq cq q W hl hn (hL.keep hb) (hFy.below hb) hcy (fun x e=>Nat.lt_of_lt_of_le (hly x e) hb.size) (hBq.below hb) hcq hnq (hT.below h0 hb) (hX.below hb) (by have:=hb.size;omega);have HA:Aside (Below w.heap.size w w2/\Has w2 b9 (za root).toArray 23/\Has w2 bz #[.slice none 0 0,.slice none 0 0] 35/\w.heap.size=b9/\b9+1=bz):=⟨q12,hR,hZ,hb9,hbz⟩
 have h32:=hroot.1;generalize MVA d root N L kx lx p=V1 at *
 generalize MVA d root N L ky ly q=V2 at *
 clear hroot hl hL hFx hlx hBp hFy hly hBq hT hX h0 q1 q2 q12 hR hZ;go_enter Tryz.func9,Tryz.ntmps9;go_upto_region 1 with fail
 clear e1 e2;go_wp2_with fail
 refine ce.mono ?_;rintro e w3 ⟨rfl,hb3⟩;clear ce;have K3:Aside (Below w2.heap.size w2 w3):=hb3;clear hb3;by_cases hq:lx=ly
 ·rw[decide_eq_true hq]
  have K:=K3;have B:Aside (Below w.heap.size w w3):=HA.out.1.trans (K3.out.mono HA.out.1.size);clear C1 C2 K3 h hq;have FN:Aside (CLASHED w none (.returned (.tuple #[.agg #[.slice none 0 0,.slice none 0 0],.bool false])) (w3.setRow bz #[.slice none 0 0,.slice none 0 0])):=⟨zm B.out (by have:=HA.out;omega) _,rfl⟩
  have hz:=(HA.out.2.2.1.keep K.out)
  clear B K;go_wp2_with (refine wpList_store_row rfl 35 (.tmp 16) (.tmp 48) rfl _ _ rfl rfl 35 _ hz (by kernel_rfl) rfl (by simp[Value.oneCell']) ?_)
  exact bodyPost_ret (v:=.tuple #[.agg #[.slice none 0 0,.slice none 0 0],.bool false]) (jb rfl _ _ bz _ _ rfl rfl (run_loadVar_row _ bz 35 35 _ (0,0) _ (hz.row _) Tryz.underlying35 rfl (by kernel_rfl))) rfl FN.out
 ·rw[decide_eq_false hq]
  have B3:Aside (Below w.heap.size w w3):=HA.out.1.trans (K3.out.mono HA.out.1.size);have hr3:=HA.out.2.1.keep K3.out;have c1:=C1.out w3 B3.out;go_wp2_with (refine ye (by rfl) 23 (.tmp 9) rfl 32 5 b9 rfl 23 (za root).toArray (0,0) hr3 Tryz.underlying23 (zd h32) ?_)
  refine c1.mono ?_;rintro e w4 ⟨rfl,hb4⟩;clear c1 hr3;have K4:Aside (Below w2.heap.size w2 w4):=K3.out.trans (hb4.mono K3.out.size);have B4:Aside (Below w.heap.size w w4):=HA.out.1.trans (K4.out.mono HA.out.1.size);clear hb4;by_cases hv:V1=0
  ·subst hv
   have hv2:V2≠0:=by
    rcases h with h | h | h
    ·exact absurd h hq
    ·exact absurd rfl h
    ·exact h
   have hn2:(V2 != 0)=true:=bne_iff_ne.2 hv2;have hr4:=HA.out.2.1.keep K4.out;have c2:=C2.out w4 B4.out;clear h hv2 hq;go_wp2_with (refine ye (by rfl) 23 (.tmp 9) rfl 32 5 b9 rfl 23 (za root).toArray (0,0) hr4 Tryz.underlying23 (zd h32) ?_)
   refine c2.mono ?_;rintro e w5 ⟨rfl,hb5⟩;clear c2 hr4;have K:Aside (Below w2.heap.size w2 w5):=K4.out.trans (hb5.mono K4.out.size);have B:Aside (Below w.heap.size w w5):=HA.out.1.trans (K.out.mono HA.out.1.size);clear hb5 C1 C2 K3 K4 B3 B4;have FN:Aside (CLASHED w none (.returned (.tuple #[.agg #[.slice none 0 0,.slice none 0 0],.bool false])) (w5.setRow bz #[.slice none 0 0,.slice none 0 0])):=⟨zm B.out (by have:=HA.out;omega) _,rfl⟩
   have hz:=(HA.out.2.2.1.keep K.out)
   clear B K;go_wp2_with (refine wpList_store_row rfl 35 (.tmp 16) (.tmp 48) rfl _ _ rfl rfl 35 _ hz (by kernel_rfl) rfl (by simp[Value.oneCell']) ?_)
   exact bodyPost_ret (v:=.tuple #[.agg #[.slice none 0 0,.slice none 0 0],.bool false]) (jb rfl _ _ bz _ _ rfl rfl (run_loadVar_row _ bz 35 35 _ (0,0) _ (hz.row _) Tryz.underlying35 rfl (by kernel_rfl))) rfl FN.out
  ·have hn1:(V1 != 0)=true:=bne_iff_ne.2 hv
   have K:=K4;have B:=B4;clear h hq hv C1 C2 K3 B3 K4 B4;have FN:Aside (CLASHED w none (.returned (.tuple #[.agg #[.slice none 0 0,.slice none 0 0],.bool false])) (w4.setRow bz #[.slice none 0 0,.slice none 0 0])):=⟨zm B.out (by have:=HA.out;omega) _,rfl⟩
   have hz:=(HA.out.2.2.1.keep K.out)
   clear B K;go_wp2_with (refine wpList_store_row rfl 35 (.tmp 16) (.tmp 48) rfl _ _ rfl rfl 35 _ hz (by kernel_rfl) rfl (by simp[Value.oneCell']) ?_)
   exact bodyPost_ret (v:=.tuple #[.agg #[.slice none 0 0,.slice none 0 0],.bool false]) (jb rfl _ _ bz _ _ rfl rfl (run_loadVar_row _ bz 35 35 _ (0,0) _ (hz.row _) Tryz.underlying35 rfl (by kernel_rfl))) rfl FN.out
theorem uX{d:Int}:∀ {X:List (List Int × List Int)} {i:Nat} {s:List Int × List Int},TWOH X->X[i]?=some s->∀ (j:Nat) (v:Value),(MSL s.1 s.2 (zp d s.1 s.2))[j]?=some v->(STL d X)[i*96+j]?=some v
 | [],_,_,_,h,_,_,_=>by simp at h
 | x :: X,0,s,hX,h,j,v,hv=>by
   simp only[List.getElem?_cons_zero,Option.some.injEq] at h;subst h;show (MSL x.1 x.2 (zp d x.1 x.2) ++ STL d X)[0*96+j]?=some v;have hj:=(List.getElem?_eq_some_iff.1 hv).1;rw[show 0*96+j=j by omega,List.getElem?_append_left hj];exact hv
 | x :: X,i+1,s,hX,h,j,v,hv=>by
   have hx:=hX x (List.mem_cons_self ..);have hl:(MSL x.1 x.2 (zp d x.1 x.2)).length=96:=YH hx.1.1 hx.2.1 (xC d _ _).1;show (MSL x.1 x.2 (zp d x.1 x.2) ++ STL d X)[(i+1)*96+j]?=some v;rw[List.getElem?_append_right (by omega),hl,show (i+1)*96+j - 96=i*96+j by omega];exact uX (fun y hy=>hX y (List.mem_cons_of_mem _ hy)) (by simpa using h) j v hv
theorem vz{w:World}{B g m c i:Nat}{d:Int}{X:List (List Int × List Int)}{s:List Int × List Int}(h:w.ownsRow B 56 96 (.slice (some ⟨g,0,none⟩) m c) m (STL d X))(hX:TWOH X)(hs:X[i]?=some s)(him:i<m):w.rangeAt g (i*96) (za s.1 ++ za s.2 ++ za (zp d s.1 s.2)):=fun j v hv=>by
 have hx:=hX s (List.mem_of_getElem? hs);have hl:(MSL s.1 s.2 (zp d s.1 s.2)).length=96:=YH hx.1.1 hx.2.1 (xC d _ _).1;have hj:=(List.getElem?_eq_some_iff.1 (show (MSL s.1 s.2 (zp d s.1 s.2))[j]?=some v from hv)).1;rw[h.cellAt (i*96+j) (by omega)];exact uX hX hs j v hv
theorem J2{w:World}{B s n:Nat}{t:TypeId}{v:Value}{xs:List Value}(h:w.ownsRow B t s v n xs):∃ a c,v=.slice a n c/\(0<n->∃ g,a=some ⟨g,0,none⟩):=by
 rcases h.2 with ⟨e,h0⟩ | ⟨g,cap,cur,e,_⟩
 ·exact⟨none,0,by rw[e,h0],fun h=>by omega⟩
 ·exact⟨_,_,e,fun _=>⟨g,rfl⟩⟩
theorem Vh(A B Y:List Int):(za A ++ za B ++ za Y).toArray.all (·.oneCell')=true:=by
 rw[Array.all_eq_true_iff_forall_mem];intro v hv;exact uC A B Y v (by simpa[MSL] using hv)
theorem xN{ops:Array Oper}{rest:List Oper}{o:Oper}{a:Act}{w:World}{Q:Exit->Act->World->Prop}(hw:Region.wanted o (yielded ops a.tmps)=true)(ty:TypeId)(x:Operand)(ho:o.op=.load ty x)
  (b:Nat)(hx:a.eval x=.pointer (some ⟨b,0,none⟩))(t:TypeId)(cs:Array Value)(fr:Nat × Nat)(fs:Array Field)(hb:w.heap[b]?=some (.cells cs t fr))(hu:Tryz.prog.underlying ty=some (.struct fs))(hi:(Tryz.prog.info? ty).map (·.size)=some cs.size)
  (h:wpList Tryz.prog ops Q rest (a.put o.dst (.agg cs)) w):wpList Tryz.prog ops Q (o :: rest) a w:=by
 simp only[wpList];rw[if_pos hw];exact .inl (wp_load_row ty x ho b hx t cs fr (.struct fs) hb hu rfl hi h)
theorem Zl{d:Int}{root:List Int}{N:Nat}{L:List Nat}{k:Nat}{lv b:List Int}(h:MVA d root N L k lv b=0)(hb:∀ x∈b,0<=x/\x<=255)(hl:HSS k lv):(∀ x∈MUPS d (TPS N) L lv (MDC b).2.2.2,0<=x/\x<=255)/\N<=4611686018427387904/\(MSTS d (TPS N) L lv (MDC b).2.2.2).length<=L.length*62:=by
 obtain⟨e1,e2,_⟩:=qG h;obtain⟨t1,t2,t3,_,t5⟩:=xT hb (by rw[e1]);obtain⟨nd,hnd⟩:∃ nd,(MDC b).2.2.2=nd:=⟨_,rfl⟩
 rw[hnd] at e1 ⊢;clear hnd;rw[e1] at t1 t2 t3 t5;dsimp only at t1 t2 t3 t5;obtain⟨_,r2,r3⟩:=yF t2;exact⟨YJ (TPS N) 0 N L lv nd k _ (yE t1) (fun x hx=>⟨Nat.zero_le _,r3 x hx⟩) r2 hl ⟨t3,t5⟩ (by omega) (Nat.le_refl _),t1,Xj d (TPS N) 0 N L lv nd (yE t1) (fun x hx=>⟨Nat.zero_le _,r3 x hx⟩) r2 (fun p hp=>(yu (n:=N) (by omega) (h:=p.1) (k:=p.2) hp).1)⟩
theorem vA{W:World}{b:Nat}{A B Y:List Int}(h:Has W b (za A ++ za B ++ za Y).toArray 56):W.rangeAt b 0 (za A):=fun j v hv=>by
 have hj:=(List.getElem?_eq_some_iff.1 hv).1;rw[h.cell,List.getElem?_toArray,List.append_assoc,Nat.zero_add,List.getElem?_append_left hj];exact hv
theorem V9{W:World}{b:Nat}{A B Y:List Int}(lA:A.length=32)(h:Has W b (za A ++ za B ++ za Y).toArray 56):W.rangeAt b 32 (za B):=fun j v hv=>by
 have hj:=(List.getElem?_eq_some_iff.1 hv).1;have hc:(za A).length=32:=by simp[za,lA]
 rw[h.cell,List.getElem?_toArray,List.append_assoc,List.getElem?_append_right (by omega),hc,show 32+j - 32=j by omega,List.getElem?_append_left hj];exact hv
theorem Kz{w wr w8:World}{bz:Nat}{RES:Option (List Nat × List Nat)}{e:Ending}(h:CLASHED wr RES e w8)(hbw:Below w.heap.size w wr)(hz:w.heap.size<=bz)(hzr:bz<wr.heap.size):∃ a1 n1 c1 a2 n2 c2 b,e=.returned (.tuple #[.agg #[.slice a1 n1 c1,.slice a2 n2 c2],.bool b])/\CLASHED w RES e (w8.setRow bz #[.slice a1 n1 c1,.slice a2 n2 c2]):=by
 have hb8:Below w.heap.size w w8:=hbw.trans (h.1.mono hbw.size);cases RES with
 | none=>
   obtain⟨_,rfl⟩:=h;exact⟨none,0,0,none,0,0,false,rfl,zm hb8 hz _,rfl⟩
 | some st=>
   obtain⟨hb,gA,cA,gB,cB,rfl,oA,oB,hne⟩:=h;have lA:=(oA.1.lt gA rfl).1;have lB:=(oB.1.lt gB rfl).1;exact⟨_,_,cA,_,_,cB,true,rfl,zm hb8 hz _,gA,cA,gB,cB,rfl,⟨zq (oA.at (setRow_other w8 bz gA _ (by omega))).1 hbw.size,oA.2⟩,⟨zq (oB.at (setRow_other w8 bz gB _ (by omega))).1 hbw.size,oB.2⟩,hne⟩
theorem Xu(d:Int)(N:Nat)(L:List Nat)(lx nx ly ny:List Int):MCLK d N L lx nx ly ny=match FPK d (MSTS d (TPS N) L lx nx) (MSTS d (TPS N) L ly ny) with | some (s,t)=>some (zJ s.1 s.2,zJ t.1 t.2) | none=>CLPK d N (PC N) (MUPS d (TPS N) L lx nx) (PC N) (MUPS d (TPS N) L ly ny):=rfl
theorem UN(d:Int)(root:List Int)(hroot:IsH root)(N:Nat)(ai:Option Addr)(n ci:Nat)(L:List Nat)(ax:Option Addr)(kx cx:Nat)(lx:List Int)(ap:Option Addr)(np cp:Nat)(p:List Int)(ay:Option Addr)(ky cy:Nat)(ly:List Int)(aq:Option Addr)(nq cq:Nat)(q:List Int)(w:World)
  (hl:L.length=n)(hn:n<=200)(hL:NUML w ai L)(hFx:Flat w ax kx lx)(hcx:kx<=cx)(hlx:∀ x,ax=some x->x.block<w.heap.size)(hkx:kx<=200)(hBp:Bytes w ap np p)(hcp:np<=cp)(hnp:np<=10000)(hFy:Flat w ay ky ly)(hcy:ky<=cy)(hly:∀ x,ay=some x->x.block<w.heap.size)(hky:ky<=200)(hBq:Bytes w aq nq q)(hcq:nq<=cq)(hnq:nq<=10000)(hT:Tabled w)(hX:HX.Tabled w)(h0:0<w.heap.size)
  (hne:lx≠ly)(hv1:MVA d root N L kx lx p=0)(hv2:MVA d root N L ky ly q=0):
  Calls Tryz.prog 9 #[.int .i64 d,.agg (za root).toArray,.int .u64 (N:Int),.slice ai n ci,.slice ax kx cx,.slice ap np cp,.slice ay ky cy,.slice aq nq cq] w (CLASHED w (MCLK d N L lx (MDC p).2.2.2 ly (MDC q).2.2.2)):=by
 obtain⟨w1,e1⟩:∃ w1,w.alloc (.cells (za root).toArray 23)=w1:=⟨_,rfl⟩
 obtain⟨w2,e2⟩:∃ w2,w1.alloc (.cells #[.slice none 0 0,.slice none 0 0] 35)=w2:=⟨_,rfl⟩
 obtain⟨b9,hb9⟩:∃ b,w.heap.size=b:=⟨_,rfl⟩
 obtain⟨bz,hbz⟩:∃ b,b9+1=b:=⟨_,rfl⟩
 have n1:w1.heap.size=bz:=by rw[<-e1];simp;omega
 have q1:Below w.heap.size w w1:=by rw[<-e1];exact(Below.refl _ _).alloc (Nat.le_refl _) _
 have q2:Below w1.heap.size w1 w2:=by rw[<-e2];exact(Below.refl _ _).alloc (Nat.le_refl _) _
 have q12:Below w.heap.size w w2:=q1.trans (q2.mono q1.size)
 have hR:Has w2 b9 (za root).toArray 23:=by
  refine Has.keep ?_ q2;rw[<-e1,<-hb9];exact Has.new _ _ _
 have hZ:Has w2 bz #[.slice none 0 0,.slice none 0 0] 35:=by rw[<-e2,<-n1];exact Has.new _ _ _
 have ce:=Ym ax ay kx ky cx cy lx ly w2 (hFx.below q12) (hFy.below q12) (by omega);rw[decide_eq_false hne] at ce
 have C1:Aside (∀ W,Below w.heap.size w W->Calls Tryz.prog 22 #[.int .i64 d,.agg (za root).toArray,.int .u64 (N:Int),.slice ai n ci,.slice ax kx cx,.slice ap np cp] W fun e w'=>e=.returned (.int .i64 0)/\Below W.heap.size W w'):=fun W hb=>by
  have:=jY d root hroot N ai n ci L ax kx cx lx ap np cp p W hl hn (hL.keep hb) (hFx.below hb) hcx (fun x e=>Nat.lt_of_lt_of_le (hlx x e) hb.size) (hBp.below hb) hcp hnp (hT.below h0 hb) (hX.below hb) (by have:=hb.size;omega);rw[hv1] at this;exact this
 have C2:Aside (∀ W,Below w.heap.size w W->Calls Tryz.prog 22 #[.int .i64 d,.agg (za root).toArray,.int .u64 (N:Int),.slice ai n ci,.slice ay ky cy,.slice aq nq cq] W fun e w'=>e=.returned (.int .i64 0)/\Below W.heap.size W w'):=fun W hb=>by
  have:=jY d root hroot N ai n ci L ay ky cy ly aq nq cq q W hl hn (hL.keep hb) (hFy.below hb) hcy (fun x e=>Nat.lt_of_lt_of_le (hly x e) hb.size) (hBq.below hb) hcq hnq (hT.below h0 hb) (hX.below hb) (by have:=hb.size;omega);rw[hv2] at this;exact this
 obtain⟨dp,kL,_⟩:=qG hv1;obtain⟨dq,kM,_⟩:=qG hv2;have tx:=Zx hv1 hBp.2.2 ⟨hFx.1,hFx.2.2⟩;have ty:=Zx hv2 hBq.2.2 ⟨hFy.1,hFy.2.2⟩;obtain⟨ux,hN,mx⟩:=Zl hv1 hBp.2.2 ⟨hFx.1,hFx.2.2⟩;obtain⟨uy,_,_⟩:=Zl hv2 hBq.2.2 ⟨hFy.1,hFy.2.2⟩;have S1:Aside (∀ W,Below w.heap.size w W->Calls Tryz.prog 23 #[.int .i64 d,.slice ax kx cx,.slice ap np cp] W (STPD W d N L lx (MDC p).2.2.2)):=fun W hb=>vy d ax kx cx lx ap np cp p N L (MDC p).2.2.2 W dp (by omega) (by omega) (hFx.below hb) hcx (fun x e=>Nat.lt_of_lt_of_le (hlx x e) hb.size) (hBp.below hb) hcp (by omega) (hT.below h0 hb) (hX.below hb) (by have:=hb.size;omega);have S2:Aside (∀ W,Below w.heap.size w W->Calls Tryz.prog 23 #[.int .i64 d,.slice ay ky cy,.slice aq nq cq] W (STPD W d N L ly (MDC q).2.2.2)):=fun W hb=>vy d ay ky cy ly aq nq cq q N L (MDC q).2.2.2 W dq (by omega) (by omega) (hFy.below hb) hcy (fun x e=>Nat.lt_of_lt_of_le (hly x e) hb.size) (hBq.below hb) hcq (by omega) (hT.below h0 hb) (hX.below hb) (by have:=hb.size;omega);have eln:(MSTS d (TPS N) L ly (MDC q).2.2.2).length=(MSTS d (TPS N) L lx (MDC p).2.2.2).length:=JQ d (TPS N) L _ _ _ _;rw[Xu];unfold STPD at S1 S2;have xt:Aside (∀ W,Below w.heap.size w W->HX.Tabled W):=fun W hb=>hX.below hb;have h32:=hroot.1;generalize MSTS d (TPS N) L lx (MDC p).2.2.2=X at *
 generalize MSTS d (TPS N) L ly (MDC q).2.2.2=Y at *
 generalize MUPS d (TPS N) L lx (MDC p).2.2.2=PX at *
 generalize MUPS d (TPS N) L ly (MDC q).2.2.2=PY at *
 obtain⟨RES,hRES⟩:∃ r,(match FPK d X Y with | some (s,t)=>some (zJ s.1 s.2,zJ t.1 t.2) | none=>CLPK d N (PC N) PX (PC N) PY)=r:=⟨_,rfl⟩
 rw[hRES];have hpc:PC N<=64:=yC 64 N (by omega);generalize hK:PC N=K at *
 obtain⟨m,hm⟩:∃ m,X.length=m:=⟨_,rfl⟩
 have HA:Aside (Below w.heap.size w w2/\Has w2 b9 (za root).toArray 23/\Has w2 bz #[.slice none 0 0,.slice none 0 0] 35/\w.heap.size=b9/\b9+1=bz):=⟨q12,hR,hZ,hb9,hbz⟩
 have HR:Aside ((match FPK d X Y with | some (s,t)=>some (zJ s.1 s.2,zJ t.1 t.2) | none=>CLPK d N K PX K PY)=RES):=hRES;have HB:Aside (X.length=m/\Y.length=m/\TWOH X/\TWOH Y/\(∀ x∈PX,0<=x/\x<=255)/\(∀ x∈PY,0<=x/\x<=255)/\N<=4611686018427387904/\m<=20000/\K<=64):=⟨hm,by omega,tx,ty,ux,uy,hN,by omega,hpc⟩
 rw[hm] at S1;rw[eln,hm] at S2;clear hroot hl hL hFx hlx hBp hFy hly hBq hT hX h0 q1 q2 q12 hR hZ hv1 hv2 dp dq kL kM tx ty ux uy mx eln hm hn hkx hky hnp hnq hcx hcy hcp hcq hN hpc hne hK hRES;have hr2:=HA.out.2.1;go_enter Tryz.func9,Tryz.ntmps9;go_upto_region 1 with fail
 clear e1 e2;go_wp2_with fail
 refine ce.mono ?_;rintro e w3 ⟨rfl,hb3⟩;clear ce hr2;have K3:Aside (Below w2.heap.size w2 w3/\Below w.heap.size w w3):=⟨hb3,HA.out.1.trans (hb3.mono HA.out.1.size)⟩
 clear hb3;have hr3:=HA.out.2.1.keep K3.out.1;have c1:=C1.out w3 K3.out.2;go_wp2_with (refine ye (by rfl) 23 (.tmp 9) rfl 32 5 b9 rfl 23 (za root).toArray (0,0) hr3 Tryz.underlying23 (zd h32) ?_)
 refine c1.mono ?_;rintro e w4 ⟨rfl,hb4⟩;have k4:Below w2.heap.size w2 w4:=K3.out.1.trans (hb4.mono K3.out.1.size);have K4:Aside (Below w2.heap.size w2 w4/\Below w.heap.size w w4):=⟨k4,HA.out.1.trans (k4.mono HA.out.1.size)⟩
 clear c1 hr3 hb4 k4 K3 C1;have hr4:=HA.out.2.1.keep K4.out.1;have c2:=C2.out w4 K4.out.2;go_wp2_with (refine ye (by rfl) 23 (.tmp 9) rfl 32 5 b9 rfl 23 (za root).toArray (0,0) hr4 Tryz.underlying23 (zd h32) ?_)
 refine c2.mono ?_;rintro e w5 ⟨rfl,hb5⟩;have k5:Below w2.heap.size w2 w5:=K4.out.1.trans (hb5.mono K4.out.1.size);have K5:Aside (Below w2.heap.size w2 w5/\Below w.heap.size w w5):=⟨k5,HA.out.1.trans (k5.mono HA.out.1.size)⟩
 clear c2 hr4 hb5 k5 K4 C2;have s1:=S1.out w5 K5.out.2;go_wp2_with fail
 refine s1.mono ?_;rintro e w6 ⟨a1,c1,v1,rfl,o1,t1,hb6⟩;clear s1 S1;have k6:Below w2.heap.size w2 w6:=K5.out.1.trans (hb6.mono K5.out.1.size);have K6:Aside (Below w2.heap.size w2 w6/\Below w.heap.size w w6):=⟨k6,HA.out.1.trans (k6.mono HA.out.1.size)⟩
 have s2:=S2.out w6 K6.out.2;obtain⟨xa,xc,rfl,gx⟩:=J2 t1;have O1:Aside (w6.ownsRow w5.heap.size 23 32 (.slice a1 K c1) K (za PX)/\w6.ownsRow w5.heap.size 56 96 (.slice xa m xc) m (STL d X)/\(0<m->∃ g,xa=some ⟨g,0,none⟩)):=⟨o1,t1,gx⟩
 clear o1 t1 gx hb6 k6 K5;go_wp2_with fail
 refine s2.mono ?_;rintro e w7 ⟨a2,c2,v2,rfl,o2,t2,hb7⟩;clear s2 S2;have k7:Below w2.heap.size w2 w7:=K6.out.1.trans (hb7.mono K6.out.1.size);obtain⟨ya,yc,rfl,gy⟩:=J2 t2;have W7:Aside (Below w2.heap.size w2 w7/\Below w.heap.size w w7/\w7.ownsRow w5.heap.size 23 32 (.slice a1 K c1) K (za PX)/\w7.ownsRow w5.heap.size 56 96 (.slice xa m xc) m (STL d X)/\(0<m->∃ g,xa=some ⟨g,0,none⟩)/\w7.ownsRow w6.heap.size 23 32 (.slice a2 K c2) K (za PY)/\w7.ownsRow w6.heap.size 56 96 (.slice ya m yc) m (STL d Y)/\(0<m->∃ g,ya=some ⟨g,0,none⟩)):=⟨k7,HA.out.1.trans (k7.mono HA.out.1.size),zG O1.out.1 hb7,zG O1.out.2.1 hb7,O1.out.2.2,o2,t2,gy⟩
 clear o2 t2 gy hb7 k7 O1 K6;go_wp2_with fail
 go_loopg [65] m (fun r s65 wx=>∃ i:Nat,s65=.int .i64 (i:Int)/\Aside (i+r=m/\Below w7.heap.size w7 wx/\FPK d X Y=FPK d (X.drop i) (Y.drop i)))
 case atStart=>exact⟨0,rfl,by omega,Below.refl _ _,rfl⟩
 case round=>
  obtain⟨i,rfl,A⟩:=hrel;have BR:Aside (Below w2.heap.size w2 wr/\Below w.heap.size w wr):=⟨W7.out.1.trans (A.out.2.1.mono W7.out.1.size),W7.out.2.1.trans (A.out.2.1.mono W7.out.2.1.size)⟩
  cases gk with
  | zero=>
    obtain rfl:i=m:=by have:=A.out.1;omega
    have hlt:¬ (i:Int)<(i:Int):=by omega
    have hf:FPK d X Y=none:=by rw[A.out.2.2,z1W (by have:=HB.out;omega)]
    have hZ:CLPK d N K PX K PY=RES:=by have h:=HR.out;rw[hf] at h;exact h
    have cp:=Gq d N (by have:=HB.out;omega) a1 a2 K K c1 c2 (by have:=HB.out;omega) (by have:=HB.out;omega) PX PY wr (xg (zG W7.out.2.2.1 A.out.2.1) HB.out.2.2.2.2.1) (xg (zG W7.out.2.2.2.2.2.1 A.out.2.1) HB.out.2.2.2.2.2.1) (xt.out wr BR.out.2);rw[hZ] at cp;clear A W7 HB hf hZ HR;go_wp2_with fail
    refine cp.mono ?_;rintro e w8 h8;clear cp;have hz8:=HA.out.2.2.1.keep (BR.out.1.trans (h8.1.mono BR.out.1.size));obtain⟨s1,m1,k1,s2,m2,k2,bb,rfl,hc⟩:=Kz (bz:=bz) h8 BR.out.2 (by have:=HA.out;omega) ((HA.out.2.2.1.keep BR.out.1).lt);have FN:Aside (CLASHED w RES (.returned (.tuple #[.agg #[.slice s1 m1 k1,.slice s2 m2 k2],.bool bb])) (w8.setRow bz #[.slice s1 m1 k1,.slice s2 m2 k2])):=hc;clear h8 hc BR;go_wp2_with (refine wpList_store_row rfl 35 (.tmp 16) (.tmp 101) rfl _ _ rfl rfl 35 _ hz8 (by kernel_rfl) rfl (by simp[Value.oneCell']) ?_)
    exact bodyPost_ret (v:=.tuple #[.agg #[.slice s1 m1 k1,.slice s2 m2 k2],.bool bb]) (jb rfl _ _ bz _ _ rfl rfl (run_loadVar_row _ bz 35 35 _ (0,0) _ (hz8.row _) Tryz.underlying35 rfl (by kernel_rfl))) rfl FN.out
  | succ r=>
    have him:i<m:=by have:=A.out.1;omega
    have hlt:(i:Int)<(m:Int):=by omega
    obtain⟨⟨P,Q⟩,ex⟩:∃ s,X[i]?=some s:=⟨_,List.getElem?_eq_getElem (by have:=HB.out.1;omega)⟩
    obtain⟨⟨R,S⟩,ey⟩:∃ s,Y[i]?=some s:=⟨_,List.getElem?_eq_getElem (by have:=HB.out.2.1;omega)⟩
    obtain⟨g1,rfl⟩:=W7.out.2.2.2.2.1 (by omega);obtain⟨g2,rfl⟩:=W7.out.2.2.2.2.2.2.2 (by omega);have xi:=HB.out.2.2.1 _ (List.mem_of_getElem? ex);have yi:=HB.out.2.2.2.1 _ (List.mem_of_getElem? ey);have ux:=xC d P Q;have uy:=xC d R S;have rx:=vz (zG W7.out.2.2.2.1 A.out.2.1) HB.out.2.2.1 ex him;have ry:=vz (zG W7.out.2.2.2.2.2.2.1 A.out.2.1) HB.out.2.2.2.1 ey him;have hF:=z2x (d:=d) ex ey;have lx2:=(W7.out.2.2.2.1.lt g1 rfl).2;have ly2:=(W7.out.2.2.2.2.2.2.1.lt g2 rfl).2;have AQ:Aside (i+1+r=m/\Below w7.heap.size w7 wr/\FPK d X Y=(if xK d (P,Q) (R,S)=true then some ((P,Q),(R,S)) else FPK d (X.drop (i+1)) (Y.drop (i+1)))):=⟨by have:=A.out.1;omega,A.out.2.1,A.out.2.2.trans hF⟩
    have ei:wrap64 ((i:Int)+1)=((i+1:Nat):Int):=by have:=HB.out;unfold wrap64;omega
    clear A hF ex ey him;dsimp only at xi yi rx ry;have HU:Aside (IsH P/\IsH Q/\IsH R/\IsH S/\IsH (zp d P Q)/\IsH (zp d R S)):=⟨xi.1,xi.2,yi.1,yi.2,ux,uy⟩
    unfold xK at AQ;dsimp only at AQ;generalize zp d P Q=U at *
    generalize zp d R S=V at *
    have hneq:∀ W,(Op.equalIn 10000 56 (.agg (za P ++ za Q ++ za U).toArray) (.agg (za R ++ za S ++ za V).toArray)).run Tryz.prog W=.ok (!(MNE P Q U R S V)) W:=fun W=>kg xi.1 xi.2 ux yi.1 yi.2 uy W;have heq:∀ W,(Op.equalIn 10000 23 (.agg (za U).toArray) (.agg (za V).toArray)).run Tryz.prog W=.ok (decide (U=V)) W:=fun W=>jZ ux.1 uy.1 W;have s96:(za P ++ za Q ++ za U).toArray.size=96:=by simp[za,xi.1.1,xi.2.1,ux.1]
    have t96:(za R ++ za S ++ za V).toArray.size=96:=by simp[za,yi.1.1,yi.2.1,uy.1]
    have i96:=jg xi.1.1 xi.2.1 ux.1;have j96:=jg yi.1.1 yi.2.1 uy.1;have o96:=Vh P Q U;have p96:=Vh R S V;have z96:(Tryz.prog.info? 56).map (·.size)=some 96:=by kernel_rfl
    have lg2:g2<wr.heap.size:=Nat.lt_of_lt_of_le ly2 AQ.out.2.1.size;have ry8:∀ o,(wr.alloc o).rangeAt g2 (i*96) (za R ++ za S ++ za V):=fun o=>xo ry ((Below.refl _ _).alloc (Nat.le_refl _) o) lg2;obtain⟨VA,hVA⟩:∃ l,za P ++ za Q ++ za U=l:=⟨_,rfl⟩
    obtain⟨VB,hVB⟩:∃ l,za R ++ za S ++ za V=l:=⟨_,rfl⟩
    rw[hVA] at rx s96 i96 o96;rw[hVB] at ry ry8 t96 j96 p96;rw[hVA,hVB] at hneq;have HV:Aside (za P ++ za Q ++ za U=VA/\za R ++ za S ++ za V=VB):=⟨hVA,hVB⟩
    generalize MNE P Q U R S V=mn at *
    clear lx2 ly2 lg2 W7 hVA hVB xi yi ux uy
    go_upto_region 9 with (first
      | (refine wpList_load_mid rfl 56 (.tmp 68) rfl g1 (i*96) rfl VA _ rx Tryz.underlying56 rfl i96 ?_)
      | (refine wpList_store_row rfl 56 (.tmp 23) (.tmp 69) rfl _ _ rfl rfl 56 _ (Has.new wr _ _) (by rw[s96];exact z96) (by rw[s96];rfl) o96 ?_;rw[World.setRow_alloc_new])
      | (refine wpList_load_mid rfl 56 (.tmp 72) rfl g2 (i*96) rfl VB _ (ry8 _) Tryz.underlying56 rfl j96 ?_)
      | (refine wpList_store_row rfl 56 (.tmp 24) (.tmp 73) rfl _ _ rfl rfl 56 _ (Has.at _ _ _ (by simp)) (by rw[t96];exact z96) (by rw[t96];rfl) p96 ?_))
    obtain⟨w8,e8⟩:∃ x,((wr.alloc (.cells VA.toArray 56)).alloc (.cells Tryz.zeroCells56 56)).setRow (wr.heap.size+1) VB.toArray=x:=⟨_,rfl⟩
    have h23:Has w8 wr.heap.size VA.toArray 56:=by rw[<-e8];exact(setRow_other _ _ _ _ (by omega)).trans ((Has.new wr _ _).alloc _)
    have h24:Has w8 (wr.heap.size+1) VB.toArray 56:=by
      rw[<-e8];refine Has.row (c:=Tryz.zeroCells56) ?_ _;exact Has.at _ _ _ (by simp)
    have hb8:Below wr.heap.size wr w8:=by rw[<-e8];exact zm (((Below.refl _ _).alloc (Nat.le_refl _) _).alloc (by simp) _) (by omega) _
    rw[e8];have hlo:bz<wr.heap.size:=(HA.out.2.2.1.keep BR.out.1).lt;have W8:Aside (Has w8 wr.heap.size VA.toArray 56/\Has w8 (wr.heap.size+1) VB.toArray 56/\Below w2.heap.size w2 w8/\Below w.heap.size w w8/\Below w7.heap.size w7 w8/\bz<wr.heap.size):=⟨h23,h24,BR.out.1.trans (hb8.mono BR.out.1.size),BR.out.2.trans (hb8.mono BR.out.2.size),AQ.out.2.1.trans (hb8.mono AQ.out.2.1.size),hlo⟩
    have r1u:w8.rangeAt wr.heap.size 64 (za U):=by have h:=h23;rw[<-HV.out.1] at h;exact Zp HU.out.1.1 HU.out.2.1.1 h
    have r2v:w8.rangeAt (wr.heap.size+1) 64 (za V):=by have h:=h24;rw[<-HV.out.2] at h;exact Zp HU.out.2.2.1.1 HU.out.2.2.2.1.1 h
    have AR:Aside (i+1+r=m/\FPK d X Y=(if (decide (U=V) && mn)=true then some ((P,Q),(R,S)) else FPK d (X.drop (i+1)) (Y.drop (i+1)))):=⟨AQ.out.1,AQ.out.2.2⟩
    generalize wr.heap.size=b23 at *
    clear e8 h23 h24 hb8 rx ry ry8 i96 j96 o96 p96 AQ BR hlo hlt;by_cases hUV:U=V
    case neg=>
      have hdf:decide (U=V)=false:=decide_eq_false hUV;rw[hdf] at heq AR;have Z:Aside (i+1+r=m/\Below w7.heap.size w7 w8/\FPK d X Y=FPK d (X.drop (i+1)) (Y.drop (i+1))):=⟨AR.out.1,W8.out.2.2.2.2.1,by have h:=AR.out.2;simpa using h⟩
      clear AR hneq hdf hUV
      go_wp2_with (first
       | (refine wpList_load_mid rfl 23 (.tmp 74) rfl b23 64 rfl (za U) _ r1u Tryz.underlying23 rfl (zo HU.out.2.2.2.2.1.1) ?_)
       | (refine wpList_load_mid rfl 23 (.tmp 76) rfl (b23+1) 64 rfl (za V) _ r2v Tryz.underlying23 rfl (zo HU.out.2.2.2.2.2.1) ?_)
       | (refine xN (by rfl) 56 (.tmp 23) rfl b23 rfl 56 VA.toArray (0,0) _ W8.out.1 Tryz.underlying56 (by rw[s96];exact z96) ?_)
       | (refine xN (by rfl) 56 (.tmp 24) rfl (b23+1) rfl 56 VB.toArray (0,0) _ W8.out.2.1 Tryz.underlying56 (by rw[t96];exact z96) ?_))
      go_roundg r
      case measure=>exact Nat.lt_succ_self _
      case rel=>exact⟨i+1,by first | rfl | (rw[ei]),Z.out⟩
    have hdf:decide (U=V)=true:=decide_eq_true hUV;rw[hdf] at heq AR;cases mn with
    | false=>
      have Z:Aside (i+1+r=m/\Below w7.heap.size w7 w8/\FPK d X Y=FPK d (X.drop (i+1)) (Y.drop (i+1))):=⟨AR.out.1,W8.out.2.2.2.2.1,by have h:=AR.out.2;simpa using h⟩
      clear AR hdf hUV
      go_wp2_with (first
       | (refine wpList_load_mid rfl 23 (.tmp 74) rfl b23 64 rfl (za U) _ r1u Tryz.underlying23 rfl (zo HU.out.2.2.2.2.1.1) ?_)
       | (refine wpList_load_mid rfl 23 (.tmp 76) rfl (b23+1) 64 rfl (za V) _ r2v Tryz.underlying23 rfl (zo HU.out.2.2.2.2.2.1) ?_)
       | (refine xN (by rfl) 56 (.tmp 23) rfl b23 rfl 56 VA.toArray (0,0) _ W8.out.1 Tryz.underlying56 (by rw[s96];exact z96) ?_)
       | (refine xN (by rfl) 56 (.tmp 24) rfl (b23+1) rfl 56 VB.toArray (0,0) _ W8.out.2.1 Tryz.underlying56 (by rw[t96];exact z96) ?_))
      go_roundg r
      case measure=>exact Nat.lt_succ_self _
      case rel=>exact⟨i+1,by first | rfl | (rw[ei]),Z.out⟩
    | true=>
      have hres:RES=some (zJ P Q,zJ R S):=by
       have h:=AR.out.2;have h2:=HR.out;rw[h] at h2;exact h2.symm
      have RR:Aside (RES=some (zJ P Q,zJ R S)):=hres;clear AR hdf hUV HR hres HB
      go_upto_region 10 with (first
       | (refine wpList_load_mid rfl 23 (.tmp 74) rfl b23 64 rfl (za U) _ r1u Tryz.underlying23 rfl (zo HU.out.2.2.2.2.1.1) ?_)
       | (refine wpList_load_mid rfl 23 (.tmp 76) rfl (b23+1) 64 rfl (za V) _ r2v Tryz.underlying23 rfl (zo HU.out.2.2.2.2.2.1) ?_)
       | (refine xN (by rfl) 56 (.tmp 23) rfl b23 rfl 56 VA.toArray (0,0) _ W8.out.1 Tryz.underlying56 (by rw[s96];exact z96) ?_)
       | (refine xN (by rfl) 56 (.tmp 24) rfl (b23+1) rfl 56 VB.toArray (0,0) _ W8.out.2.1 Tryz.underlying56 (by rw[t96];exact z96) ?_))
      have lo:=W8.out.1.lt
      have RG:Aside (w8.rangeAt b23 0 (za P)/\w8.rangeAt b23 32 (za Q)/\w8.rangeAt (b23+1) 0 (za R)/\w8.rangeAt (b23+1) 32 (za S)):=by
       have h1:=W8.out.1;have h2:=W8.out.2.1;rw[<-HV.out.1] at h1;rw[<-HV.out.2] at h2;exact⟨vA h1,V9 HU.out.1.1 h1,vA h2,V9 HU.out.2.2.1.1 h2⟩
      have KP:Aside (∀ W,Below w8.heap.size w8 W->W.rangeAt b23 0 (za P)/\W.rangeAt b23 32 (za Q)/\W.rangeAt (b23+1) 0 (za R)/\W.rangeAt (b23+1) 32 (za S)):=fun W hb=>⟨xo RG.out.1 hb W8.out.1.lt,xo RG.out.2.1 hb W8.out.1.lt,xo RG.out.2.2.1 hb W8.out.2.1.lt,xo RG.out.2.2.2 hb W8.out.2.1.lt⟩
      refine z0L w8 b23 (b23+1) bz P Q R S HU.out.1.1 HU.out.2.1.1 HU.out.2.2.1.1 HU.out.2.2.2.1.1 (fun W=>W=w8.drew) (fun g c W=>OWNT W w8.heap.size g c (zJ P Q)/\g<W.heap.size/\Below w8.heap.size w8 W)
       (fun g c g' c' W=>OWNT W w8.heap.size g c (zJ P Q)/\OWNT W w8.heap.size g' c' (zJ R S)/\g≠g'/\Below w8.heap.size w8 W)
       (fun g c g' c' W=>∃ VV,(OWNT VV w8.heap.size g c (zJ P Q)/\OWNT VV w8.heap.size g' c' (zJ R S)/\g≠g'/\Below w8.heap.size w8 VV)/\W=(VV.setCell ⟨bz,0,none⟩ (.slice (some ⟨g,0,none⟩) 65 c)).setCell ⟨bz,1,none⟩ (.slice (some ⟨g',0,none⟩) 65 c')) rfl ?_ ?_ ?_ ?_ ?_ ?_ ?_ ?_ (fun _ _ _ _ _ h=>h) ?_
      case refine_1=>
       rintro W rfl;exact KP.out _ (Below.refl _ _).drew
      case refine_2=>
       rintro g c W ⟨_,_,hb⟩;exact KP.out _ hb
      case refine_3=>
       rintro g c g' c' W ⟨_,_,_,hb⟩;exact KP.out _ hb
      case refine_4=>
       rintro g c g' c' W ⟨VV,⟨_,_,_,hb⟩,rfl⟩;obtain⟨k1,k2,k3,k4⟩:=KP.out _ hb;have n1:b23≠bz:=by have:=W8.out.2.2.2.2.2;omega
       have n2:b23+1≠bz:=by have:=W8.out.2.2.2.2.2;omega
       exact⟨xp (xp k1 (a:=⟨bz,0,none⟩) n1 _) (a:=⟨bz,1,none⟩) n1 _,xp (xp k2 (a:=⟨bz,0,none⟩) n1 _) (a:=⟨bz,1,none⟩) n1 _,xp (xp k3 (a:=⟨bz,0,none⟩) n2 _) (a:=⟨bz,1,none⟩) n2 _,xp (xp k4 (a:=⟨bz,0,none⟩) n2 _) (a:=⟨bz,1,none⟩) n2 _⟩
      case refine_5=>
       rintro W rfl;refine(V4 P Q HU.out.1 HU.out.2.1 w8.drew w8.heap.size (Nat.le_refl _)).mono ?_;rintro e W ⟨g,c,rfl,_,ho,hb⟩;exact⟨g,c,rfl,ho,(ho.1.lt g rfl).2,(Below.refl _ _).drew.trans hb⟩
      case refine_6=>
       rintro g c W ⟨ho,hg,hb⟩;refine(V4 R S HU.out.2.2.1 HU.out.2.2.2.1 W w8.heap.size hb.size).mono ?_;rintro e W' ⟨g',c',rfl,hge,ho',hb'⟩;exact⟨g',c',rfl,ho.at (hb'.block g hg),ho',by omega,hb.trans (hb'.mono hb.size)⟩
      case refine_7=>
       rintro g c g' c' W ⟨_,_,_,hb⟩;exact(HA.out.2.2.1.keep W8.out.2.2.1).keep hb
      case refine_8=>
       rintro g c g' c' W h;exact⟨W,h,rfl⟩
      rintro g c g' c' W ⟨VV,⟨oA,oB,hne,hb⟩,rfl⟩;have hzV:=(HA.out.2.2.1.keep W8.out.2.2.1).keep hb;have hzW:=(hzV.set 0 (.slice (some ⟨g,0,none⟩) 65 c)).set 1 (.slice (some ⟨g',0,none⟩) 65 c')
      have FN:Aside (CLASHED w RES (.returned (.tuple #[.agg #[.slice (some ⟨g,0,none⟩) 65 c,.slice (some ⟨g',0,none⟩) 65 c'],.bool true])) ((VV.setCell ⟨bz,0,none⟩ (.slice (some ⟨g,0,none⟩) 65 c)).setCell ⟨bz,1,none⟩ (.slice (some ⟨g',0,none⟩) 65 c'))):=by
       have lA:=(oA.1.lt g rfl).1;have lB:=(oB.1.lt g' rfl).1;have hs8:=W8.out.2.2.2.1.size;have hzb:w.heap.size<=bz:=by have:=HA.out;omega
       have l8:=W8.out.1.lt;have l9:=W8.out.2.2.2.2.2;have hbw:Below w.heap.size w VV:=W8.out.2.2.2.1.trans (hb.mono hs8);rw[RR.out];refine⟨(hbw.setCell (p:=⟨bz,0,none⟩) hzb _).setCell (p:=⟨bz,1,none⟩) hzb _,g,c,g',c',by rw[Yr,Yr],?_,?_,hne⟩
       ·have:=oA.at (w':=(VV.setCell ⟨bz,0,none⟩ (.slice (some ⟨g,0,none⟩) 65 c)).setCell ⟨bz,1,none⟩ (.slice (some ⟨g',0,none⟩) 65 c')) (by rw[Below.heap_setCell _ _ _ _ (by show g≠bz;omega),Below.heap_setCell _ _ _ _ (by show g≠bz;omega)])
        exact⟨zq this.1 hs8,this.2⟩
       ·have:=oB.at (w':=(VV.setCell ⟨bz,0,none⟩ (.slice (some ⟨g,0,none⟩) 65 c)).setCell ⟨bz,1,none⟩ (.slice (some ⟨g',0,none⟩) 65 c')) (by rw[Below.heap_setCell _ _ _ _ (by show g'≠bz;omega),Below.heap_setCell _ _ _ _ (by show g'≠bz;omega)])
        exact⟨zq this.1 hs8,this.2⟩
      clear hzV oA oB hne hb;dsimp only;go_wp2_with fail
      exact bodyPost_ret (v:=.tuple #[.agg #[.slice (some ⟨g,0,none⟩) 65 c,.slice (some ⟨g',0,none⟩) 65 c'],.bool true]) (jb rfl _ _ bz _ _ rfl rfl (run_loadVar_row _ bz 35 35 _ (0,0) _ hzW Tryz.underlying35 rfl (by kernel_rfl))) rfl FN.out
end Go.Proofs.YtobaogpomcocpaaGreatDoor
