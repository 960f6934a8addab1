/- FindProves: part 17. -/
import Derived.Test.YtlbcnaenhghieaaGreatDoorFindProvesP16
set_option maxHeartbeats 2000000
namespace Go.Proofs.YtlbcnaenhghieaaGreatDoor.HX
open Go.RowKit
set_option maxRecDepth 100000
theorem z2S {w:World} {B s g n cap:Nat} {t:TypeId} {xs:List Value} (h:w.ownsRow B t s (.slice (some ⟨g,0,none⟩) n cap) n xs) (j:Nat) (u:Value):(w.setCell ⟨g,j,none⟩ u).ownsRow B t s (.slice (some ⟨g,0,none⟩) n cap) n (xs.set j u):=by
 rcases h.2 with ⟨h0,_⟩ | ⟨g',cap',cur,e,hb,hg,hle,hm,hsz,hx⟩
 ·cases h0
 ·cases e
  refine ⟨by rw [List.length_set];exact h.1,.inr ⟨g,cap,cur.setIfInBounds j u,rfl,hb,(show Has w g cur t from hg).set j u,hle,hm,by rw [Array.size_setIfInBounds];exact hsz,?_⟩⟩;rw [Array.toList_setIfInBounds,List.take_set,hx]
theorem z0O {w:World} {B s g n cap j:Nat} {t:TypeId} {xs:List Value} {u:Value} (h:w.ownsRow B t s (.slice (some ⟨g,0,none⟩) n cap) n xs) (hj:xs[j]?=some u):w.cell? ⟨g,j,none⟩=some u/\w.frozen? ⟨g,j,none⟩=false/\g<w.heap.size/\B<=g:=by
 have hlt:j<n*s:=by have:=(List.getElem?_eq_some_iff.1 hj).1;rw [h.1] at this;exact this
 refine ⟨by rw [h.cellAt j hlt];exact hj,?_,(h.lt g rfl).2,(h.lt g rfl).1⟩;rcases h.2 with ⟨h0,_⟩ | ⟨g',cap',cur,e,hb,hg,_⟩
 ·cases h0
 ·cases e
  exact (show Has w g cur t from hg).frozen j
theorem z0B {w:World} {B s n:Nat} {t:TypeId} {v:Value} {xs:List Value} (h:w.ownsRow B t s v n xs) {b:Nat} (hb:v.ownBlock=some b):∃ cur,w.heap[b]?=some (.cells cur t (0,0))/\B<=b:=by
 rcases h.2 with ⟨rfl,_⟩ | ⟨g,cap,cur,rfl,hB,hg,_⟩
 ·cases hb
 ·cases hb
  exact ⟨cur,hg,hB⟩
theorem z2l {w w':World} {base:Nat} {t:TypeId} {s:Nat} {v:Value} {n:Nat} {xs:List Value} (h:w.ownsRow base t s v n xs) (hb:Below w.heap.size w w'):w'.ownsRow base t s v n xs:=by
 refine ⟨h.1,h.2.imp id ?_⟩;rintro ⟨g,c,cur,a,b,r,rest⟩;exact ⟨g,c,cur,a,b,(hb.block g (Array.getElem?_eq_some_iff.1 r).1).trans r,rest⟩
theorem zbJ (B g gr i m cap p k live n0:Nat) (xs ys:List Value) (hv:Value) (h:Nat->Nat) (w:World) (hbx:Has w g #[.slice (some ⟨gr,0,none⟩) m cap] 128) (hrow:w.ownsRow B 139 3 (.slice (some ⟨gr,0,none⟩) m cap) m xs) (him:i<m)
  (hl:xs[i*3+1]?=some (.int .u64 (live:Int))) (hhv:xs[i*3+2]?=some hv) (hown:w.ownsRow B 25 32 hv n0 ys) (hrk:RK live k=n0) (hlive:live<2 ^ 64) (hk:p % 64=k) (hp:p<2 ^ 64) (hB:B<=w.heap.size) (hn0:n0<=1000)
  (cf:∀ W,Below w.heap.size w W->Calls Tryz.prog 74 #[.pointer (some ⟨g,0,none⟩),.int .u64 (p:Int)] W fun e w'=>e=.returned (.tuple #[.int .i64 (i:Int),.bool true])/\Below W.heap.size W w'):
  Calls Tryz.prog 65 #[.pointer (some ⟨g,0,none⟩),.int .u64 (p:Int),.agg (UARR .u8 32 h)] w fun e w'=>(∃ v,e=.returned v)/\∃ gh ch,Has w' g #[.slice (some ⟨gr,0,none⟩) m cap] 128/\
   w'.ownsRow B 139 3 (.slice (some ⟨gr,0,none⟩) m cap) m ((xs.set (i*3+2) (.slice (some ⟨gh,0,none⟩) (n0+1) ch)).set (i*3+1) (.int .u64 ((live ||| 2 ^ k:Nat):Int)))/\
   w'.ownsRow B 25 32 (.slice (some ⟨gh,0,none⟩) (n0+1) ch) (n0+1) (ys ++ z05 .u8 32 h)/\(hv.ownBlock=some gh\/w.heap.size<=gh)/\w.heap.size<=w'.heap.size/\Below B w w'/\∀ b,b<w.heap.size->b≠gr->hv.ownBlock≠some b->w'.heap[b]?=w.heap[b]?:=by
 obtain ⟨w0,hw0⟩:∃ w0,w.alloc (.cells (UARR .u8 32 h) 25)=w0:=⟨_,rfl⟩
 have hb0:Below w.heap.size w w0:=by rw [<-hw0];exact (Below.refl _ _).alloc (Nat.le_refl _) _
 have h50:Has w0 w.heap.size (UARR .u8 32 h) 25:=by rw [<-hw0];exact Has.new w _ _
 have cf0:=cf w0 hb0;have H:Aside (Has w g #[.slice (some ⟨gr,0,none⟩) m cap] 128/\w.ownsRow B 139 3 (.slice (some ⟨gr,0,none⟩) m cap) m xs/\xs[i*3+1]?=some (.int .u64 (live:Int))/\xs[i*3+2]?=some hv/\w.ownsRow B 25 32 hv n0 ys/\RK live k=n0/\live<2 ^ 64/\p % 64=k/\p<2 ^ 64/\B<=w.heap.size/\n0<=1000):=⟨hbx,hrow,hl,hhv,hown,hrk,hlive,hk,hp,hB,hn0⟩
 have him':(i:Int)<(m:Int):=by omega
 clear cf hbx hrow hl hhv hown hrk hlive hk hp hB hn0 him;go_enter Tryz.func65,Tryz.ntmps65;go_wp2_with fail
 refine cf0.mono ?_;rintro e w1 ⟨rfl,hb1⟩;clear cf0;have hb1':Below w.heap.size w w1:=hb0.trans (hb1.mono hb0.size);obtain ⟨a1,a2,a3,a4,a5,a6,a7,a8,a9,a10,a11⟩:=H.out;have hbx1:=a1.keep hb1';have hrow1:=z2l a2 hb1';have hown1:=z2l a5 hb1';have h51:=h50.keep hb1;have hcb:=hbx1.cell 0;obtain ⟨x1,x2,x3,x4⟩:=z0O hrow1 a3;obtain ⟨y1,y2,y3,y4⟩:=z0O hrow1 a4;have hkk:k<64:=by rw [<-a8];exact Nat.mod_lt _ (by decide)
 have cB:∀ w,Calls Tryz.prog 76 #[.int .u64 (p:Int)] w fun e w'=>e=.returned (.int .u64 ((2 ^ k:Nat):Int))/\w=w':=fun w=>by have:=z3V p a9 w;rw [a8] at this;exact this
 have cR:∀ w,w.cell? ⟨gr,i*3+1,none⟩=some (.int .u64 (live:Int))->Calls Tryz.prog 75 #[.pointer (some ⟨gr,i*3,none⟩),.int .u64 ((2 ^ k:Nat):Int)] w fun e w'=>e=.returned (.int .i64 (n0:Int))/\w=w':=fun w h=>by
  have:=z4V gr (i*3) live k a7 hkk w h;rw [z4W (by omega),a6] at this;exact this
 have cI:=z68 B w1.heap.size n0 hv ys h (w1.drew.alloc (.cells (UARR .u8 32 h) 25)) (hown1.drew.alloc _) (by have:=hb1'.size;simp;omega) a11 (Has.new w1.drew _ _)
 have hgrh:hv.ownBlock≠some gr:=fun e=>by
  obtain ⟨cur,hcur,_⟩:=z0B hown1 e;rcases hrow1.2 with ⟨h0,_⟩ | ⟨g',cap',cur',e',_,hg,_⟩
  ·cases h0
  ·cases e'
   rw [hcur] at hg;cases hg
 have hgg:hv.ownBlock≠some g:=fun e=>by
  obtain ⟨cur,hcur,_⟩:=z0B hown1 e;rw [show w1.heap[g]?=_ from hbx1] at hcur;cases hcur
 have hgrg:gr≠g:=fun e=>by
  rcases hrow1.2 with ⟨h0,_⟩ | ⟨g',cap',cur',e',_,hg,_⟩
  ·cases h0
  ·cases e'
   rw [e,show w1.heap[g]?=_ from hbx1] at hg;cases hg
 have hp2:2 ^ k<2 ^ 64:=Nat.pow_lt_pow_right (by decide) hkk;have hor:bits .or .u64 (live:Int) ((2 ^ k:Nat):Int)=((live ||| 2 ^ k:Nat):Int):=z5F a7 hp2;have G:Aside (gr≠g/\hv.ownBlock≠some gr/\hv.ownBlock≠some g/\B<=w.heap.size/\w1.heap.size=w1.drew.heap.size/\Has w1 g #[.slice (some ⟨gr,0,none⟩) m cap] 128/\w1.ownsRow B 139 3 (.slice (some ⟨gr,0,none⟩) m cap) m xs/\w1.ownsRow B 25 32 hv n0 ys/\Below w.heap.size w w1/\gr<w1.heap.size/\B<=gr):=⟨hgrg,hgrh,hgg,a10,rfl,hbx1,hrow1,hown1,hb1',x3,x4⟩
 clear a1 a2 a5 a6 a7 a8 a9 a10 a11 hgrg hgrh hgg hkk hp2 hown1 hrow1 y3 y4 x4 hbx1;obtain ⟨bt,hbt⟩:∃ bt,2 ^ k=bt:=⟨_,rfl⟩
 obtain ⟨lb,hlb⟩:∃ lb,live ||| 2 ^ k=lb:=⟨_,rfl⟩
 rw [hlb] at hor;rw [hbt] at cB cR hor;have HLB:Aside (live ||| 2 ^ k=lb):=hlb;clear hbt hlb
 have cI':Calls Tryz.prog 88 #[hv,.int .i64 (n0:Int),.slice (some ⟨w1.heap.size,0,none⟩) 1 1] (w1.drew.alloc (.cells (UARR .u8 32 h) 25)) fun e w'=>∃ X,e=.returned X/\((∃ gh ch,X=.slice (some ⟨gh,0,none⟩) (n0+1) ch/\w'.ownsRow B 25 32 (.slice (some ⟨gh,0,none⟩) (n0+1) ch) (n0+1) (ys ++ z05 .u8 32 h)/\(w1.drew.alloc (.cells (UARR .u8 32 h) 25)).grownBy w' hv.ownBlock/\(hv.ownBlock=some gh\/w1.heap.size<=gh))/\∃ y,w'.cell? ⟨gr,i*3+2,none⟩=some y/\w'.frozen? ⟨gr,i*3+2,none⟩=false):=
  cI.mono fun e w' ⟨gh,ch,h1,h2,h3,h4⟩=>by
   have hbk:w'.heap[gr]?=w1.heap[gr]?:=(h3.block gr (by simp;have:=G.out.2.2.2.2.2.2.2.2.2.1;omega) (fun e=>G.out.2.1 e.symm)).trans (Below.heap_alloc w1.drew _ gr (by exact G.out.2.2.2.2.2.2.2.2.2.1));refine ⟨_,h1,⟨gh,ch,rfl,h2,h3,h4.imp id (fun e=>by rw [e];simp)⟩,hv,?_,?_⟩
   ·rw [<-y1]
    exact World.cell?_of_block (w:=w1) (by exact hbk)
   ·unfold World.frozen? at y2 ⊢
    rw [hbk];exact y2
 clear cI;go_upto_region 5 with fail
 refine put5 _ _ _ _ _ _ _ _ _ _ _ _ _ _ _ _ _ _ _ _ _ _ _ _ _ _ _ _ _ _ _ _ _ _ _ _ _ _ _ _ _ _ _ _ _ _ _ _ _ _ _ _ _ _ _ _ w1 gr i p bt n0 w.heap.size live h hv (fun X w'=>∃ gh ch,X=.slice (some ⟨gh,0,none⟩) (n0+1) ch/\w'.ownsRow B 25 32 (.slice (some ⟨gh,0,none⟩) (n0+1) ch) (n0+1) (ys ++ z05 .u8 32 h)/\(w1.drew.alloc (.cells (UARR .u8 32 h) 25)).grownBy w' hv.ownBlock/\(hv.ownBlock=some gh\/w1.heap.size<=gh)) (fun X w' ⟨gh,ch,h1,_⟩=>⟨_,_,_,h1⟩) x1 y1 x3 h51 cB cR cI' (fun _ _ _ _ _ h=>h) ?_;rintro X w2 ⟨⟨gh,ch,rfl,o2,gw2,hgh⟩,_⟩;dsimp only;obtain ⟨g1,g2,g3,g4, -,g6,g7,g8,g9,g10,g11⟩:=G.out;have hbk:∀ b,b<w1.heap.size->hv.ownBlock≠some b->w2.heap[b]?=w1.heap[b]?:=fun b hb hne=>(gw2.block b (by simp;omega) (fun e=>hne e.symm)).trans (Below.heap_alloc w1.drew _ b (by exact hb));have hrow2:w2.ownsRow B 139 3 (.slice (some ⟨gr,0,none⟩) m cap) m xs:=⟨g7.1,g7.2.imp id fun ⟨g',c',cur,e,b,r,rest⟩=>⟨g',c',cur,e,b,by cases e;exact (hbk gr g10 g2).trans r,rest⟩⟩
 have hrow3:=z2S hrow2 (i*3+2) (.slice (some ⟨gh,0,none⟩) (n0+1) ch)
 have hghr:gh≠gr:=by
  rcases hgh with e | e
  ·exact fun e2=>g2 (by rw [e,e2])
  ·omega
 have hx3:(xs.set (i*3+2) (.slice (some ⟨gh,0,none⟩) (n0+1) ch))[i*3+1]?=some (.int .u64 (live:Int)):=by rw [List.getElem?_set_ne (by omega)];exact a3
 obtain ⟨z1,z2,z3, -⟩:=z0O hrow3 hx3
 have FIN:Aside (w2.ownsRow B 25 32 (.slice (some ⟨gh,0,none⟩) (n0+1) ch) (n0+1) (ys ++ z05 .u8 32 h)/\gh≠gr/\(hv.ownBlock=some gh\/w1.heap.size<=gh)/\(w2.setCell ⟨gr,i*3+2,none⟩ (.slice (some ⟨gh,0,none⟩) (n0+1) ch)).ownsRow B 139 3 (.slice (some ⟨gr,0,none⟩) m cap) m (xs.set (i*3+2) (.slice (some ⟨gh,0,none⟩) (n0+1) ch))/\w1.heap.size<=w2.heap.size/\Below B w1 w2/\∀ b,b<w1.heap.size->hv.ownBlock≠some b->w2.heap[b]?=w1.heap[b]?):=by
  refine ⟨o2,hghr,hgh,hrow3,?_,?_,hbk⟩
  ·have:=gw2.size
   simp at this;omega
  ·have hs:=g9.size
   exact ((Below.refl B w1).drew.alloc (by show B<=w1.heap.size;omega) _).grown gw2 (by simp;omega) (fun b e=>by obtain ⟨_,_,hB⟩:=z0B g8 e;exact hB)
 clear hrow2 hrow3 hghr hx3 hbk o2 gw2 hgh g1 g2 g3 g4 g6 g7 g8 g9 g10 g11 cR cI' x1 x2 x3 y1 y2 hcb h51;go_upto_region 6 with fail
 refine put6 _ _ _ _ _ _ _ _ _ _ _ _ _ _ _ _ _ _ _ _ _ _ _ _ _ _ _ _ _ _ _ _ _ _ _ _ _ _ _ _ _ _ _ _ _ _ _ _ _ _ _ _ _ _ _ _ _ (w2.setCell ⟨gr,i*3+2,none⟩ (.slice (some ⟨gh,0,none⟩) (n0+1) ch)) gr i p bt live lb z1 z2 hor cB (fun _ _ _ _ _ h=>h) ?_;dsimp only;go_end0
 obtain ⟨f1,f2,f3,f4,f5,f6,f7⟩:=FIN.out;obtain ⟨g1,g2,g3,g4, -,g6,g7,g8,g9,g10,g11⟩:=G.out;have hs9:=g9.size;have hset:∀ b,b≠gr->((w2.setCell ⟨gr,i*3+2,none⟩ (.slice (some ⟨gh,0,none⟩) (n0+1) ch)).drew.setCell ⟨gr,i*3+1,none⟩ (.int .u64 (lb:Int))).heap[b]?=w2.heap[b]?:=fun b hb=>(Below.heap_setCell _ _ _ b (by exact hb)).trans (Below.heap_setCell _ _ _ b (by exact hb));have hgl:g<w1.heap.size:=g6.lt;refine ⟨⟨_,rfl⟩,gh,ch,(hset g (fun e=>g1 e.symm)).trans ((f7 g hgl g3).trans g6),?_,?_,?_,?_,?_,?_⟩
 ·rw [HLB.out]
  exact z2S f4.drew (i*3+1) (.int .u64 (lb:Int))
 ·exact ⟨f1.1,f1.2.imp id fun ⟨g',c',cur,e,b,r,rest⟩=>⟨g',c',cur,e,b,by cases e;exact (hset gh f2).trans r,rest⟩⟩
 ·exact f3.imp id (fun e=>by omega)
 ·simp
  omega
 ·exact (((g9.mono g4).trans f6).setCell (p:=⟨gr,i*3+2,none⟩) g11 _).drew.setCell (p:=⟨gr,i*3+1,none⟩) g11 _
 ·intro b hb hne hno
  exact (hset b hne).trans ((f7 b (by omega) hno).trans (g9.block b hb))
theorem z6L:∀ k,RK 0 k=0
 | 0=>rfl
 | k+1=>by rw [RK,z6L k];simp
theorem zbK (B g n p q k:Nat) (v0:Value) (xs:List Value) (h:Nat->Nat) (w:World) (hbx:Has w g #[v0] 128) (hBg:B<=g) (hrow:w.ownsRow B 139 3 v0 n xs) (hn:n<=2 ^ 40) (hk:p % 64=k) (hq:p / 64=q) (hp:p<2 ^ 64) (hB:B<=w.heap.size)
  (cf:∀ W,Below w.heap.size w W->Calls Tryz.prog 74 #[.pointer (some ⟨g,0,none⟩),.int .u64 (p:Int)] W fun e w'=>e=.returned (.tuple #[.int .i64 (n:Int),.bool false])/\Below W.heap.size W w'):
  Calls Tryz.prog 65 #[.pointer (some ⟨g,0,none⟩),.int .u64 (p:Int),.agg (UARR .u8 32 h)] w fun e w'=>(∃ v,e=.returned v)/\∃ gr cap gh ch,Has w' g #[.slice (some ⟨gr,0,none⟩) (n+1) cap] 128/\
   w'.ownsRow B 139 3 (.slice (some ⟨gr,0,none⟩) (n+1) cap) (n+1) (((xs ++ RQL q).set (n*3+2) (.slice (some ⟨gh,0,none⟩) 1 ch)).set (n*3+1) (.int .u64 ((2 ^ k:Nat):Int)))/\
   w'.ownsRow B 25 32 (.slice (some ⟨gh,0,none⟩) 1 ch) 1 (z05 .u8 32 h)/\w.heap.size<=gh/\(v0.ownBlock=some gr\/w.heap.size<=gr)/\w.heap.size<=w'.heap.size/\Below B w w'/\∀ b,b<w.heap.size->b≠g->v0.ownBlock≠some b->w'.heap[b]?=w.heap[b]?:=by
 obtain ⟨w0,hw0⟩:∃ w0,w.alloc (.cells (UARR .u8 32 h) 25)=w0:=⟨_,rfl⟩
 have hb0:Below w.heap.size w w0:=by rw [<-hw0];exact (Below.refl _ _).alloc (Nat.le_refl _) _
 have h50:Has w0 w.heap.size (UARR .u8 32 h) 25:=by rw [<-hw0];exact Has.new w _ _
 have cf0:=cf w0 hb0;have cR0:∀ w,Calls Tryz.prog 87 #[.int .u64 (p:Int)] w fun e w'=>e=.returned (.int .u64 (q:Int))/\w=w':=fun w=>by have:=z8v p w;rw [hq] at this;exact this
 have H:Aside (Has w g #[v0] 128/\B<=g/\w.ownsRow B 139 3 v0 n xs/\n<=2 ^ 40/\p % 64=k/\p<2 ^ 64/\B<=w.heap.size):=⟨hbx,hBg,hrow,hn,hk,hp,hB⟩
 clear cf hbx hBg hrow hn hk hp hB hq;go_enter Tryz.func65,Tryz.ntmps65;go_wp2_with fail
 refine cf0.mono ?_;rintro e wa ⟨rfl,hb1⟩;clear cf0;have hba:Below w.heap.size w wa:=hb0.trans (hb1.mono hb0.size);obtain ⟨a1,a2,a3,a4,a5,a6,a7⟩:=H.out;have hbxa:=a1.keep hba;have hrowa:=z2l a3 hba;have h5a:=h50.keep hb1
 have hvg:v0.ownBlock≠some g:=fun e=>by
  obtain ⟨cur,hcur,_⟩:=z0B hrowa e;rw [show wa.heap[g]?=_ from hbxa] at hcur;cases hcur
 have hv5:v0.ownBlock≠some w.heap.size:=fun e=>by
  obtain ⟨cur,hcur,_⟩:=z0B a3 e;have:=(Array.getElem?_eq_some_iff.1 hcur).1;omega
 have cIr:=zbH B wa.heap.size n v0 xs q (wa.drew.alloc (.cells (RQ q) 139)) (hrowa.drew.alloc _) (by have:=hba.size;simp;omega) a4 (Has.new wa.drew _ _);have hgl:g<wa.heap.size:=hbxa.lt;have h5l:w.heap.size<wa.heap.size:=h5a.lt
 have cIr':Calls Tryz.prog 86 #[v0,.int .i64 (n:Int),.slice (some ⟨wa.heap.size,0,none⟩) 1 1] (wa.drew.alloc (.cells (RQ q) 139)) fun e w'=>∃ X,e=.returned X/\((∃ gr cap,X=.slice (some ⟨gr,0,none⟩) (n+1) cap/\w'.ownsRow B 139 3 (.slice (some ⟨gr,0,none⟩) (n+1) cap) (n+1) (xs ++ RQL q)/\(wa.drew.alloc (.cells (RQ q) 139)).grownBy w' v0.ownBlock/\(v0.ownBlock=some gr\/wa.heap.size<=gr))/\∃ y,Has w' g #[y] 128):=
  cIr.mono fun e w' ⟨gr,cap,h1,h2,h3,h4⟩=>by
   have hbk:w'.heap[g]?=wa.heap[g]?:=(h3.block g (by simp;omega) (fun e=>hvg e.symm)).trans (Below.heap_alloc wa.drew _ g (by exact hgl));exact ⟨_,h1,⟨gr,cap,rfl,h2,h3,h4.imp id (fun e=>by rw [e];simp)⟩,v0,hbk.trans hbxa⟩
 clear cIr;go_upto_region 3 with fail
 refine put3 _ _ _ _ _ _ _ _ _ _ _ _ _ _ _ _ _ _ _ _ _ _ _ _ _ _ _ _ _ _ _ _ _ _ _ _ _ _ _ _ _ _ _ _ _ _ _ _ _ _ _ _ _ _ _ _ wa g p n q v0 (fun X w'=>∃ gr cap,X=.slice (some ⟨gr,0,none⟩) (n+1) cap/\w'.ownsRow B 139 3 (.slice (some ⟨gr,0,none⟩) (n+1) cap) (n+1) (xs ++ RQL q)/\(wa.drew.alloc (.cells (RQ q) 139)).grownBy w' v0.ownBlock/\(v0.ownBlock=some gr\/wa.heap.size<=gr)) (fun X w' ⟨gr,cap,h1,_⟩=>⟨_,_,_,h1⟩) hbxa cR0 cIr' (fun _ _ _ _ _ h=>h) ?_;rintro X wb ⟨⟨gr,cap,rfl,ob,gwb,hgr⟩,y,hyb⟩;dsimp only;have hbk:∀ b,b<wa.heap.size->v0.ownBlock≠some b->wb.heap[b]?=wa.heap[b]?:=fun b hb hne=>(gwb.block b (by simp;omega) (fun e=>hne e.symm)).trans (Below.heap_alloc wa.drew _ b (by exact hb))
 have hgrg:gr≠g:=by
  rcases hgr with e | e
  ·exact fun e2=>hvg (by rw [e,e2])
  ·omega
 obtain ⟨w1,hw1⟩:∃ w1,wb.setCell ⟨g,0,none⟩ (.slice (some ⟨gr,0,none⟩) (n+1) cap)=w1:=⟨_,rfl⟩
 have hset1:∀ b,b≠g->w1.heap[b]?=wb.heap[b]?:=fun b hb=>by rw [<-hw1];exact Below.heap_setCell _ _ _ b (by exact hb)
 have hbx1:Has w1 g #[.slice (some ⟨gr,0,none⟩) (n+1) cap] 128:=by rw [<-hw1];exact hyb.set 0 _
 have hrow1:w1.ownsRow B 139 3 (.slice (some ⟨gr,0,none⟩) (n+1) cap) (n+1) (xs ++ RQL q):=⟨ob.1,ob.2.imp id fun ⟨g',c',cur,e,b,r,rest⟩=>⟨g',c',cur,e,b,by cases e;exact (hset1 gr hgrg).trans r,rest⟩⟩
 have h51:Has w1 w.heap.size (UARR .u8 32 h) 25:=(hset1 _ (by have:=a1.lt;omega)).trans ((hbk _ h5l hv5).trans h5a)
 have hs1:wa.heap.size<=w1.heap.size:=by
  have:=gwb.size;rw [<-hw1];simp at this ⊢;omega
 have hB1:Below B w w1:=by
  rw [<-hw1];have hs:=hba.size;exact ((((hba.mono a7).drew.alloc (by show B<=wa.heap.size;omega) _).grown gwb (by simp;omega) (fun b e=>by obtain ⟨_,_,hB⟩:=z0B hrowa e;exact hB))).setCell (p:=⟨g,0,none⟩) a2 _
 have hfr1:∀ b,b<w.heap.size->b≠g->v0.ownBlock≠some b->w1.heap[b]?=w.heap[b]?:=fun b hb hne hno=>(hset1 b hne).trans ((hbk b (by have:=hba.size;omega) hno).trans (hba.block b hb));have hlen:xs.length=n*3:=a3.1;have ax1:(xs ++ RQL q)[n*3+1]?=some (.int .u64 ((0:Nat):Int)):=by rw [List.getElem?_append_right (by omega),hlen,show n*3+1 - n*3=1 by omega];rfl
 have ax2:(xs ++ RQL q)[n*3+2]?=some (.slice none 0 0):=by rw [List.getElem?_append_right (by omega),hlen,show n*3+2 - n*3=2 by omega];rfl
 rw [hw1];obtain ⟨x1,x2,x3,x4⟩:=z0O hrow1 ax1;obtain ⟨y1,y2,y3,y4⟩:=z0O hrow1 ax2;have hkk:k<64:=by rw [<-a5];exact Nat.mod_lt _ (by decide)
 have cB:∀ w,Calls Tryz.prog 76 #[.int .u64 (p:Int)] w fun e w'=>e=.returned (.int .u64 ((2 ^ k:Nat):Int))/\w=w':=fun w=>by have:=z3V p a6 w;rw [a5] at this;exact this
 have cR:∀ w,w.cell? ⟨gr,n*3+1,none⟩=some (.int .u64 ((0:Nat):Int))->Calls Tryz.prog 75 #[.pointer (some ⟨gr,n*3,none⟩),.int .u64 ((2 ^ k:Nat):Int)] w fun e w'=>e=.returned (.int .i64 ((0:Nat):Int))/\w=w':=fun w h=>by
  have:=z4V gr (n*3) 0 k (by decide) hkk w h;rw [z4W (by omega),z6L] at this;exact this
 have cI:=z68 B w1.heap.size 0 (.slice none 0 0) [] h (w1.drew.alloc (.cells (UARR .u8 32 h) 25)) ⟨rfl,.inl ⟨rfl,rfl⟩⟩ (by have:=hba.size;simp;omega) (by decide) (Has.new w1.drew _ _);have hp2:2 ^ k<2 ^ 64:=Nat.pow_lt_pow_right (by decide) hkk;have hor:bits .or .u64 ((0:Nat):Int) ((2 ^ k:Nat):Int)=((2 ^ k:Nat):Int):=by rw [z5F (by decide) hp2,Nat.zero_or]
 have G:Aside (gr≠g/\Has w1 g #[.slice (some ⟨gr,0,none⟩) (n+1) cap] 128/\w1.ownsRow B 139 3 (.slice (some ⟨gr,0,none⟩) (n+1) cap) (n+1) (xs ++ RQL q)/\gr<w1.heap.size/\B<=gr/\(v0.ownBlock=some gr\/wa.heap.size<=gr)/\wa.heap.size<=w1.heap.size/\w.heap.size<=wa.heap.size/\Below B w w1/\(∀ b,b<w.heap.size->b≠g->v0.ownBlock≠some b->w1.heap[b]?=w.heap[b]?)/\(xs ++ RQL q)[n*3+1]?=some (.int .u64 ((0:Nat):Int))/\B<=w.heap.size):=⟨hgrg,hbx1,hrow1,x3,x4,hgr,hs1,hba.size,hB1,hfr1,ax1,a7⟩
 have hn1:(n:Int)<((n+1:Nat):Int):=by omega
 have hcb:=hbx1.cell 0;obtain ⟨N1,hN1⟩:∃ N1,n+1=N1:=⟨_,rfl⟩
 rw [hN1] at G hn1 hcb;have HN1:Aside (n+1=N1):=hN1;rw [hN1];clear hN1;obtain ⟨bt,hbt⟩:∃ bt,2 ^ k=bt:=⟨_,rfl⟩
 rw [hbt] at cB cR hor;have HBT:Aside (2 ^ k=bt):=hbt;clear hbt
 have cI':Calls Tryz.prog 88 #[.slice none 0 0,.int .i64 ((0:Nat):Int),.slice (some ⟨w1.heap.size,0,none⟩) 1 1] (w1.drew.alloc (.cells (UARR .u8 32 h) 25)) fun e w'=>∃ X,e=.returned X/\((∃ gh ch,X=.slice (some ⟨gh,0,none⟩) 1 ch/\w'.ownsRow B 25 32 (.slice (some ⟨gh,0,none⟩) 1 ch) 1 (z05 .u8 32 h)/\(w1.drew.alloc (.cells (UARR .u8 32 h) 25)).grownBy w' none/\w1.heap.size<=gh)/\∃ y,w'.cell? ⟨gr,n*3+2,none⟩=some y/\w'.frozen? ⟨gr,n*3+2,none⟩=false):=
  cI.mono fun e w' ⟨gh,ch,h1,h2,h3,h4⟩=>by
   have hbk:w'.heap[gr]?=w1.heap[gr]?:=(h3.block gr (by simp;omega) (by simp [Value.ownBlock])).trans (Below.heap_alloc w1.drew _ gr (by exact x3));refine ⟨_,h1,⟨gh,ch,rfl,h2,h3,?_⟩,.slice none 0 0,?_,?_⟩
   ·rcases h4 with e | e
    ·simp [Value.ownBlock] at e
    ·rw [e];simp
   ·rw [<-y1]
    exact World.cell?_of_block (w:=w1) (by exact hbk)
   ·unfold World.frozen? at y2 ⊢
    rw [hbk];exact y2
 clear cI hbk hset1 hgrg hbx1 hrow1 hs1 hB1 hfr1 ob gwb hyb hw1 a1 a3 hbxa hrowa cIr' hgr ax1 ax2 y3 y4 x4 hp2 hkk;go_upto_region 5 with fail
 refine put5 _ _ _ _ _ _ _ _ _ _ _ _ _ _ _ _ _ _ _ _ _ _ _ _ _ _ _ _ _ _ _ _ _ _ _ _ _ _ _ _ _ _ _ _ _ _ _ _ _ _ _ _ _ _ _ _ w1 gr n p bt 0 w.heap.size 0 h (.slice none 0 0) (fun X w'=>∃ gh ch,X=.slice (some ⟨gh,0,none⟩) 1 ch/\w'.ownsRow B 25 32 (.slice (some ⟨gh,0,none⟩) 1 ch) 1 (z05 .u8 32 h)/\(w1.drew.alloc (.cells (UARR .u8 32 h) 25)).grownBy w' none/\w1.heap.size<=gh) (fun X w' ⟨gh,ch,h1,_⟩=>⟨_,_,_,h1⟩) x1 y1 x3 h51 cB cR cI' (fun _ _ _ _ _ h=>h) ?_;rintro X w2 ⟨⟨gh,ch,rfl,o2,gw2,hgh⟩,_⟩;dsimp only;obtain ⟨g1,g6,g7,g10,g11,g12,g13,g14,g15,g16,g17,g18⟩:=G.out;have hbk:∀ b,b<w1.heap.size->w2.heap[b]?=w1.heap[b]?:=fun b hb=>(gw2.block b (by simp;omega) (by simp)).trans (Below.heap_alloc w1.drew _ b (by exact hb));have hrow2:w2.ownsRow B 139 3 (.slice (some ⟨gr,0,none⟩) N1 cap) N1 (xs ++ RQL q):=⟨g7.1,g7.2.imp id fun ⟨g',c',cur,e,b,r,rest⟩=>⟨g',c',cur,e,b,by cases e;exact (hbk gr g10).trans r,rest⟩⟩
 have hrow3:=z2S hrow2 (n*3+2) (.slice (some ⟨gh,0,none⟩) 1 ch);have hghr:gh≠gr:=by omega
 have hx3:((xs ++ RQL q).set (n*3+2) (.slice (some ⟨gh,0,none⟩) 1 ch))[n*3+1]?=some (.int .u64 ((0:Nat):Int)):=by rw [List.getElem?_set_ne (by omega)];exact g17
 obtain ⟨z1,z2,z3, -⟩:=z0O hrow3 hx3
 have FIN:Aside (w2.ownsRow B 25 32 (.slice (some ⟨gh,0,none⟩) 1 ch) 1 (z05 .u8 32 h)/\gh≠gr/\w1.heap.size<=gh/\(w2.setCell ⟨gr,n*3+2,none⟩ (.slice (some ⟨gh,0,none⟩) 1 ch)).ownsRow B 139 3 (.slice (some ⟨gr,0,none⟩) N1 cap) N1 ((xs ++ RQL q).set (n*3+2) (.slice (some ⟨gh,0,none⟩) 1 ch))/\w1.heap.size<=w2.heap.size/\Below B w1 w2/\∀ b,b<w1.heap.size->w2.heap[b]?=w1.heap[b]?):=by
  refine ⟨o2,hghr,hgh,hrow3,?_,?_,hbk⟩
  ·have:=gw2.size
   simp at this;omega
  ·exact ((Below.refl B w1).drew.alloc (by show B<=w1.heap.size;omega) _).grown gw2 (by simp;omega) (fun b e=>by cases e)
 clear hrow2 hrow3 hghr hx3 hbk o2 gw2 hgh g1 g6 g7 g10 g11 g12 g13 g14 g15 g16 g17 cR cI' x1 x2 x3 y1 y2 hcb h51;go_upto_region 6 with fail
 refine put6 _ _ _ _ _ _ _ _ _ _ _ _ _ _ _ _ _ _ _ _ _ _ _ _ _ _ _ _ _ _ _ _ _ _ _ _ _ _ _ _ _ _ _ _ _ _ _ _ _ _ _ _ _ _ _ _ _ (w2.setCell ⟨gr,n*3+2,none⟩ (.slice (some ⟨gh,0,none⟩) 1 ch)) gr n p bt 0 bt z1 z2 hor cB (fun _ _ _ _ _ h=>h) ?_;dsimp only;go_end0
 obtain ⟨f1,f2,f3,f4,f5,f6,f7⟩:=FIN.out;obtain ⟨g1,g6,g7,g10,g11,g12,g13,g14,g15,g16,g17,g18⟩:=G.out;have hset:∀ b,b≠gr->((w2.setCell ⟨gr,n*3+2,none⟩ (.slice (some ⟨gh,0,none⟩) 1 ch)).drew.setCell ⟨gr,n*3+1,none⟩ (.int .u64 (bt:Int))).heap[b]?=w2.heap[b]?:=fun b hb=>(Below.heap_setCell _ _ _ b (by exact hb)).trans (Below.heap_setCell _ _ _ b (by exact hb));have hgl1:g<w1.heap.size:=g6.lt;rw [HN1.out,HBT.out];refine ⟨⟨_,rfl⟩,gr,cap,gh,ch,(hset g (fun e=>g1 e.symm)).trans ((f7 g hgl1).trans g6),z2S f4.drew (n*3+1) (.int .u64 (bt:Int)),?_,?_,?_,?_,?_,?_⟩
 ·exact ⟨f1.1,f1.2.imp id fun ⟨g',c',cur,e,b,r,rest⟩=>⟨g',c',cur,e,b,by cases e;exact (hset gh f2).trans r,rest⟩⟩
 ·omega
 ·exact g12.imp id (fun e=>by omega)
 ·simp
  omega
 ·exact ((g15.trans f6).setCell (p:=⟨gr,n*3+2,none⟩) g11 _).drew.setCell (p:=⟨gr,n*3+1,none⟩) g11 _
 ·intro b hb hne hno
  have hbr:b≠gr:=by
   rcases g12 with e | e
   ·exact fun e2=>hno (by rw [e,e2])
   ·omega
  exact (hset b hbr).trans ((f7 b (by omega)).trans (g16 b hb hne hno))
theorem z4E (X k j:Nat):(X ||| 2 ^ k).testBit j=(X.testBit j || decide (k=j)):=by rw [Nat.testBit_or,Nat.testBit_two_pow]
theorem z7M {X k:Nat} (h:X.testBit k=false):∀ j,RK (X ||| 2 ^ k) j=RK X j+if k<j then 1 else 0
 | 0=>by simp [RK]
 | j + 1=>by
   rw [RK,RK,z7M h j,z4E];by_cases e:k=j
   ·subst e
    rw [h];simp
   ·have e1:(X.testBit j || decide (k=j))=X.testBit j:=by simp [e]
    rw [e1];generalize (if X.testBit j=true then 1 else 0)=z;by_cases e2:k<j
    ·have e3:k<j+1:=by omega
     simp only [e2,e3,if_true];omega
    ·have e3:¬ k<j+1:=by omega
     simp only [e2,e3,if_false];omega
theorem zdm {X k:Nat} (h:X.testBit k=false) (hk:k<64):POP (X ||| 2 ^ k)=POP X+1:=by
 rw [z34,z34,z7M h,if_pos hk]
theorem zhZ {X k:Nat} (hX:X<2 ^ 64) (hk:k<64):X ||| 2 ^ k<2 ^ 64:=Nat.or_lt_two_pow hX (Nat.pow_lt_pow_right (by decide) hk)
theorem zaJ {X k:Nat} (hk:k<=64) (h:∀ j,j<64->X.testBit j=true->j<k):RK X k=POP X:=by
 rw [z34,z6J (k:=k) hk (fun i a b=>by
  cases hb:X.testBit i
  ·rfl
  ·have:=h i b hb;omega)]
def MORE (rs:List ROW) (i q k gh ch:Nat) (live:Nat) (hs:List (Nat->Nat)) (h:Nat->Nat):List ROW:=rs.take i ++ [⟨q,live ||| 2 ^ k,gh,ch,hs ++ [h]⟩]
theorem zaK (hs:List (Nat->Nat)) (h:Nat->Nat):HL (hs ++ [h])=HL hs ++ z05 .u8 32 h:=by simp [HL]
theorem z6M (rs:List ROW) (r:ROW):RC (rs ++ [r])=RC rs ++ [.int .u64 (r.num:Int),.int .u64 (r.live:Int),r.v]:=by simp [RC]
theorem zaL (xs:List Value) (n:Nat) (hn:xs.length=n*3) (a b c b' c':Value):((xs ++ [a,b,c]).set (n*3+2) c').set (n*3+1) b'=xs ++ [a,b',c']:=by
 rw [List.set_append_right _ _ (by omega),List.set_append_right _ _ (by omega),hn,show n*3+2 - n*3=2 by omega,show n*3+1 - n*3=1 by omega];rfl
theorem z9J {rs:List ROW} {i q k gh ch:Nat} {r:ROW} {h:Nat->Nat} (hr:rs[i]?=some r) (hi:i+1=rs.length) (hq:r.num=q):RC (MORE rs i q k gh ch r.live r.hs h)=((RC rs).set (i*3+2) (.slice (some ⟨gh,0,none⟩) (r.hs.length+1) ch)).set (i*3+1) (.int .u64 ((r.live ||| 2 ^ k:Nat):Int)):=by
 have hsplit:rs=rs.take i ++ [r]:=by
  have h1:=List.take_append_drop i rs
  have h2:rs.drop i=[r]:=by
   rw [List.drop_eq_getElem_cons (by omega),List.drop_of_length_le (by omega)];rw [List.getElem?_eq_getElem (by omega)] at hr;rw [Option.some.inj hr]
  rw [h2] at h1;exact h1.symm
 have hl:(RC (rs.take i)).length=i*3:=by rw [z4z,List.length_take];omega
 have e:RC rs=RC (rs.take i) ++ [.int .u64 (r.num:Int),.int .u64 (r.live:Int),r.v]:=by
  conv=>lhs;rw [hsplit]
  rw [z6M]
 rw [MORE,z6M,e,zaL _ i hl,hq];simp [ROW.v]
theorem z9K {rs:List ROW} {n q k gh ch:Nat} {h:Nat->Nat} (hn:rs.length=n):RC (MORE rs n q k gh ch 0 [] h)=((RC rs ++ RQL q).set (n*3+2) (.slice (some ⟨gh,0,none⟩) 1 ch)).set (n*3+1) (.int .u64 ((2 ^ k:Nat):Int)):=by
 rw [MORE,List.take_of_length_le (by omega),z6M,RQL,zaL _ n (by rw [z4z,hn])];simp [ROW.v]
def NEXT (rs:List ROW) (p:Nat):Prop:=∀ r∈rs,r.num<p / 64\/(r.num=p / 64/\∀ j,j<64->r.live.testBit j=true->j<p % 64)
theorem zdn {rs:List ROW} {i p:Nat} {r:ROW} (hs:∀ s∈rs.drop i,s.num≠p / 64):LOOK (rs.take i ++ [r]) p=if r.num=p / 64/\∀ s∈rs.take i,s.num≠p / 64 then (if r.live.testBit (p % 64) then r.hs[RK r.live (p % 64)]? else none) else LOOK rs p:=by
 unfold LOOK;rw [List.find?_append];conv=>rhs;rw [<-List.take_append_drop i rs,List.find?_append]
 have hd:(rs.drop i).find? (fun r=>r.num == p / 64)=none:=List.find?_eq_none.2 fun s h=>by simpa using hs s h
 rw [hd];cases hf:(rs.take i).find? (fun r=>r.num == p / 64) with
 | some s=>
   have hm:=List.mem_of_find?_eq_some hf;have hn:s.num=p / 64:=by simpa using List.find?_some hf
   rw [if_neg (fun h=>h.2 s (by rw [List.take_append_drop] at *;exact hm) hn)];simp
 | none=>
   have hno:∀ s∈rs.take i,s.num≠p / 64:=fun s h=>by simpa using List.find?_eq_none.1 hf s h
   by_cases e:r.num=p / 64
   ·rw [if_pos ⟨e,by rw [List.take_append_drop];exact hno⟩]
    simp [e]
   ·rw [if_neg (fun h=>e h.1)]
    simp [e]
def REST (rs:List ROW) (i q live:Nat) (hs:List (Nat->Nat)):Prop:=(rs.length=i/\live=0/\hs=[])\/∃ r,rs[i]?=some r/\i+1=rs.length/\r.num=q/\r.live=live/\r.hs=hs
theorem REST.drop {rs:List ROW} {i q live:Nat} {hs:List (Nat->Nat)} (h:REST rs i q live hs):∀ s∈rs.drop i,s.num=q:=fun s hs'=>by
 rcases h with ⟨h,_⟩ | ⟨r,hr,hi,hq,_⟩
 ·rw [List.drop_of_length_le (by omega)] at hs'
  cases hs'
 ·rw [List.drop_eq_getElem_cons (by omega),List.drop_of_length_le (by omega)] at hs'
  simp only [List.mem_singleton] at hs';rw [List.getElem?_eq_getElem (by omega)] at hr;rw [hs',Option.some.inj hr];exact hq
theorem REST.look {rs:List ROW} {i q live p:Nat} {hs:List (Nat->Nat)} (h:REST rs i q live hs) (hlow:∀ s∈rs.take i,s.num<q) (hp:p / 64=q):LOOK rs p=if live.testBit (p % 64) then hs[RK live (p % 64)]? else none:=by
 have hf:(rs.take i).find? (fun r=>r.num == p / 64)=none:=List.find?_eq_none.2 fun s hs'=>by
  have:=hlow s hs';simp;omega
 unfold LOOK;conv=>lhs;rw [<-List.take_append_drop i rs,List.find?_append,hf]
 rcases h with ⟨h,rfl,rfl⟩ | ⟨r,hr,hi,hq,rfl,rfl⟩
 ·rw [List.drop_of_length_le (by omega)]
  simp
 ·have e:rs.drop i=[r]:=by
   rw [List.drop_eq_getElem_cons (by omega),List.drop_of_length_le (by omega)];rw [List.getElem?_eq_getElem (by omega)] at hr;rw [Option.some.inj hr]
  rw [e];have hb:(r.num == p / 64)=true:=by simp;omega
  simp [hb]
theorem z7m {rs:List ROW} {i q k gh ch live p p':Nat} {hs:List (Nat->Nat)} {h:Nat->Nat} (hR:REST rs i q live hs) (hlow:∀ s∈rs.take i,s.num<q) (hq:p / 64=q) (hk:p % 64=k) (hbits:∀ j,j<64->live.testBit j=true->j<k) (hlen:hs.length=POP live):
  LOOK (MORE rs i q k gh ch live hs h) p'=if p'=p then some h else LOOK rs p':=by
 have hk64:k<64:=by rw [<-hk];exact Nat.mod_lt _ (by decide)
 have hno:live.testBit k=false:=by
  cases hb:live.testBit k
  ·rfl
  ·have:=hbits k hk64 hb;omega
 have hrk:RK live k=hs.length:=by rw [hlen,zaJ (by omega) hbits]
 unfold MORE;by_cases e:p' / 64=q
 ·have hf:(rs.take i).find? (fun r=>r.num == p' / 64)=none:=List.find?_eq_none.2 fun s hs'=>by
   have:=hlow s hs';simp;omega
  have hL:LOOK (rs.take i ++ [⟨q,live ||| 2 ^ k,gh,ch,hs ++ [h]⟩]) p'=if (live ||| 2 ^ k).testBit (p' % 64) then (hs ++ [h])[RK (live ||| 2 ^ k) (p' % 64)]? else none:=by
   unfold LOOK;rw [List.find?_append,hf];have hb:(q == p' / 64)=true:=by simp;omega
   simp [hb]
  rw [hL,hR.look hlow e,z4E,z7M hno];by_cases e2:p' % 64=k
  ·have e3:p'=p:=by omega
   rw [if_pos e3,e2];simp only [decide_true,Bool.or_true,if_true,Nat.lt_irrefl,if_false,Nat.add_zero];rw [hrk,List.getElem?_append_right (Nat.le_refl _)];simp
  ·have e3:p'≠p:=fun h=>e2 (by rw [h];exact hk)
   have e4:¬ k=p' % 64:=fun h=>e2 h.symm;rw [if_neg e3];simp only [e4,decide_false,Bool.or_false];cases hb:live.testBit (p' % 64)
   ·simp
   ·have hj:=hbits _ (Nat.mod_lt _ (by decide)) hb
    have hr:=z7L (Nat.mod_lt p' (show 0<64 by decide)) hb;rw [if_pos rfl,if_pos rfl,if_neg (by omega),Nat.add_zero,List.getElem?_append_left (by omega)]
 ·have e3:p'≠p:=fun h=>e (by rw [h];exact hq)
  rw [if_neg e3,zdn (fun s hs'=>by rw [hR.drop s hs'];exact fun h=>e h.symm),if_neg (fun h=>e h.1.symm)]
theorem zbL (X:Nat):∀ k,RK X k<=k
 | 0=>Nat.le_refl _
 | k+1=>by
   have:=zbL X k;rw [RK];split <;> omega
def PUTS (w:World) (B g p:Nat) (rs:List ROW) (h:Nat->Nat) (w':World):Prop:=
 ∃ rs',CHUNK w' B g rs'/\(∀ p',LOOK rs' p'=if p'=p then some h else LOOK rs p')/\
  (∀ r∈rs',∀ j,j<64->r.live.testBit j=true->r.num*64+j=p\/∃ r0∈rs,r0.num=r.num/\r0.live.testBit j=true)/\
  (∀ r∈rs',(∃ r0∈rs,r0.gh=r.gh)\/w.heap.size<=r.gh)/\
  (∀ v v',w.cell? ⟨g,0,none⟩=some v->w'.cell? ⟨g,0,none⟩=some v'->v'.ownBlock=v.ownBlock\/∃ b,v'.ownBlock=some b/\w.heap.size<=b)/\
  w.heap.size<=w'.heap.size/\Below B w w'/\
  ∀ b,b<w.heap.size->b≠g->(∀ v,w.cell? ⟨g,0,none⟩=some v->v.ownBlock≠some b)->(∀ r∈rs,r.gh≠b)->w'.heap[b]?=w.heap[b]?
theorem z2I {w:World} {B gr n m cap:Nat} {xs ys:List Value} {v:Value} (h1:w.ownsRow B 139 3 (.slice (some ⟨gr,0,none⟩) n cap) n xs) (h2:w.ownsRow B 25 32 v m ys):v.ownBlock≠some gr:=fun e=>by
 obtain ⟨c1,e1,_⟩:=z0B h1 (b:=gr) rfl;obtain ⟨c2,e2,_⟩:=z0B h2 e;rw [e1] at e2;cases e2
theorem z35 {w w':World} {B s n:Nat} {t:TypeId} {v:Value} {xs:List Value} (h:w.ownsRow B t s v n xs) (hb:∀ b,v.ownBlock=some b->w'.heap[b]?=w.heap[b]?):w'.ownsRow B t s v n xs:=
 ⟨h.1,h.2.imp id fun ⟨g,c,cur,a,b,r,rest⟩=>⟨g,c,cur,a,b,(hb g (by rw [a];rfl)).trans r,rest⟩⟩
theorem z36 {rs:List ROW} {i q k gh ch live:Nat} {hs:List (Nat->Nat)} {h:Nat->Nat} {r:ROW} (hr:r∈MORE rs i q k gh ch live hs h):r∈rs.take i\/r=⟨q,live ||| 2 ^ k,gh,ch,hs ++ [h]⟩:=by
 rcases List.mem_append.1 hr with h | h
 ·exact .inl h
 ·exact .inr (by simpa using h)
theorem CHUNK.more {w w':World} {B g i p q k gr cap gh ch live:Nat} {rs:List ROW} {hs:List (Nat->Nat)} {h:Nat->Nat} (hC:CHUNK w B g rs) (hR:REST rs i q live hs) (hlow:∀ s∈rs.take i,s.num<q) (hq:p / 64=q) (hk:p % 64=k) (hp:p<2 ^ 64) (hlive:live<2 ^ 64) (hfew:rs.length+1<2 ^ 40) (h8:∀ x∈hs ++ [h],∀ i,x i<256)
  (hbits:∀ j,j<64->live.testBit j=true->j<k) (hlen:hs.length=POP live) (hil:i<=rs.length)
  (b1:Has w' g #[.slice (some ⟨gr,0,none⟩) (i+1) cap] 128) (b2:w'.ownsRow B 139 3 (.slice (some ⟨gr,0,none⟩) (i+1) cap) (i+1) (RC (MORE rs i q k gh ch live hs h)))
  (b3:w'.ownsRow B 25 32 (.slice (some ⟨gh,0,none⟩) (hs.length+1) ch) (hs.length+1) (HL (hs ++ [h]))) (b4:∀ r∈rs.take i,w'.heap[r.gh]?=w.heap[r.gh]?) (b5:∀ r∈rs.take i,r.gh≠gh):CHUNK w' B g (MORE rs i q k gh ch live hs h):=by
 have hk64:k<64:=by rw [<-hk];exact Nat.mod_lt _ (by decide)
 have hno:live.testBit k=false:=by
  cases hb:live.testBit k
  ·rfl
  ·have:=hbits k hk64 hb;omega
 have hlt:(rs.take i).length=i:=by rw [List.length_take];omega
 have hml:(MORE rs i q k gh ch live hs h).length=i+1:=by rw [MORE,List.length_append,hlt];rfl
 have hget:∀ j r,(MORE rs i q k gh ch live hs h)[j]?=some r->(j<i/\rs[j]?=some r/\r∈rs.take i)\/(j=i/\r=⟨q,live ||| 2 ^ k,gh,ch,hs ++ [h]⟩):=fun j r hr=>by
  unfold MORE at hr;by_cases hj:j<i
  ·rw [List.getElem?_append_left (by omega)] at hr
   refine .inl ⟨hj,?_,List.mem_of_getElem? hr⟩;rw [List.getElem?_take_of_lt hj] at hr;exact hr
  ·rw [List.getElem?_append_right (by omega),hlt] at hr
   have hj0:j - i=0:=by
    have:=(List.getElem?_eq_some_iff.1 hr).1;simp at this;omega
   rw [hj0] at hr;simp at hr;exact .inr ⟨by omega,hr.symm⟩
 refine ⟨⟨_,b1,by rw [hml];exact b2⟩,hC.far,by rw [hml];omega,fun a b r s hab ha hb=>?_,fun r hr=>?_,fun a b r s hab ha hb=>?_,fun r hr=>?_⟩
 ·rcases hget a r ha with ⟨h1,h2,h3⟩ | ⟨rfl,rfl⟩
  ·rcases hget b s hb with ⟨h4,h5,h6⟩ | ⟨rfl,rfl⟩
   ·exact hC.rise a b r s hab h2 h5
   ·exact hlow r h3
  ·rcases hget b s hb with ⟨h4,h5,h6⟩ | ⟨h4,rfl⟩ <;> omega
 ·rcases z36 hr with h1 | rfl
  ·obtain ⟨c1,c2,c3,c4,c5⟩:=hC.row r (List.mem_of_mem_take h1)
   exact ⟨c1,c2,c3,c4,z35 c5 fun b hb=>by cases hb;exact b4 r h1⟩
  ·exact ⟨by show q<2 ^ 58;omega,zhZ hlive hk64,by show (hs ++ [h]).length=_;rw [List.length_append,hlen,zdm hno hk64];rfl,h8,by show w'.ownsRow B 25 32 (.slice (some ⟨gh,0,none⟩) (hs ++ [h]).length ch) (hs ++ [h]).length (HL (hs ++ [h]));rw [List.length_append];exact b3⟩
 ·rcases hget a r ha with ⟨h1,h2,h3⟩ | ⟨rfl,rfl⟩
  ·rcases hget b s hb with ⟨h4,h5,h6⟩ | ⟨rfl,rfl⟩
   ·exact hC.apart a b r s hab h2 h5
   ·exact b5 r h3
  ·rcases hget b s hb with ⟨h4,h5,h6⟩ | ⟨h4,rfl⟩
   ·exact fun e=>b5 s h6 e.symm
   ·omega
 ·rcases z36 hr with h1 | rfl
  ·exact hC.lives r (List.mem_of_mem_take h1)
  ·exact ⟨k,hk64,by rw [z4E];simp⟩
end Go.Proofs.YtlbcnaenhghieaaGreatDoor.HX
