/- ManyClashes: part 35. -/
import Derived.Test.YtobaogpomcocpaaGreatDoorRows
import Derived.ProofKit
import Derived.LaidMore
import Derived.Stop.Joined
import Derived.Deep.Strs
import Derived.Test.YtobaogpomcocpaaGreatDoorManyClashesP34
set_option maxRecDepth 100000
set_option maxHeartbeats 16000000
open Go.RowKit
namespace Go.Proofs.YtobaogpomcocpaaGreatDoor
theorem z0Q(g n cap:Nat)(b:Option Addr)(cb:Nat)(L:List Nat)(hl:L.length=n)(hn:n<=2 ^ 20)(hc:n+1<=cap)(w:World)(hA:NUML w (some ⟨g,0,none⟩) L)(hB:NUML w b L)(hg:g<w.heap.size)(hm:w.cell? ⟨g,n,none⟩=some (.int .u64 171)):
  Calls Tryz.prog 14 #[.slice (some ⟨g,0,none⟩) n cap,.slice b n cb] w fun e w'=>e=.returned (.bool true)/\Below w.heap.size w w':=by
 have cs:=KG (some ⟨g,0,none⟩) b n cap cb L hl (by omega) w hA hB;have e1:wrap64 ((n:Int)+1)=((n+1:Nat):Int):=by unfold wrap64;omega
 have k1:(n:Int)+1<=(cap:Int):=by omega
 have k2:(n:Int)<(n:Int)+1:=by omega
 have HM:Aside (g<w.heap.size/\w.cell? ⟨g,n,none⟩=some (.int .u64 171)):=⟨hg,hm⟩
 clear hl hn hA hB hg hm;go_enter Tryz.func14,Tryz.ntmps14;go_wp2_with fail
 refine cs.mono ?_;rintro e w1 ⟨rfl,hb1⟩;have x0:w1.cell? ⟨g,n,none⟩=some (.int .u64 171):=(hb1.cell (p:=⟨g,n,none⟩) HM.out.1).trans HM.out.2;have FN:Aside (Below w.heap.size w w1):=hb1;clear cs hb1 HM;go_wp2_with fail
 go_ret;exact⟨rfl,FN.out⟩
theorem uc(a:Option Addr)(n c:Nat)(hn:n<=1000)(hc:a=none->c=0)(l:List Int)(w:World)(hF:Flat w a n l):Calls Tryz.prog 7 #[.slice a n c] w (z2U w n l):=by
 have HA:Aside (n<=1000/\(a=none->c=0)/\Flat w a n l):=⟨hn,hc,hF⟩
 clear hn hc hF;go_enter Tryz.func7,Tryz.ntmps7
 go_wp2_with (first
  | (at_builtin;refine Gd _ rfl (.tmp 3) (.tmp 4) rfl w.heap.size (.slice (some ⟨w.heap.size,0,none⟩) 0 0) 0 [] rfl (Kl w) a n c l rfl (HA.out.2.2.below ((Below.refl _ _).alloc (Nat.le_refl _) _)) HA.out.2.1 (by have:=HA.out.1;omega) (by simp) ?_;rw[Nat.zero_add,List.nil_append];intro a1 c1 w1 hown1 hgrow1
     have R1:Aside (w1.ownsRow w.heap.size 23 32 (.slice a1 n c1) n (za l)/\Below w.heap.size w w1):=⟨hown1,((Below.refl _ w).alloc (Nat.le_refl _) _).grown hgrow1 (by simp) (fun k e=>by cases e;exact Nat.le_refl _)⟩
     clear hown1 hgrow1)
  | (rw[<-uK];refine yM _ rfl 26 23 (.tmp 6) rfl (za MRK).toArray rfl 32 _ _ Tryz.underlying26 yQ (by rfl) rfl (by decide) (by decide) ?_)
  | (at_builtin;refine jz _ rfl (.tmp 5) (.tmp 7) rfl w.heap.size (.slice a1 n c1) n (za l) rfl (R1.out.1.alloc _) w1.heap.size 1 MRK rfl rfl (Has.new _ _ _) (by have:=HA.out.1;omega) (by have:=R1.out.2.size;simp;omega) ?_;intro g2 c2 w2 hown2 hgrow2 hat2 hg2
     obtain⟨f1,f2,f3,f4⟩:=Kk hown2 HA.out.2.2.1 rfl;have hcap:(n:Int)<=(c2:Int):=by omega
     have R2:Aside (w2.ownsRow w.heap.size 23 32 (.slice (some ⟨g2,0,none⟩) n c2) n (za l)/\n+1<=c2/\w2.rangeAt g2 (n*32) (za MRK)/\g2<w2.heap.size/\Below w.heap.size w w2):=⟨f1,f2,f3,f4,(R1.out.2.alloc R1.out.2.size _).grown hgrow2 (by have:=R1.out.2.size;simp;omega) (fun k e=>(R1.out.1.lt k e).1)⟩
     clear hown2 hgrow2 hat2 hg2 f1 f2 f3 f4))
 go_ret;exact⟨_,_,rfl,R2.out⟩
theorem Vi(a:Option Addr)(n c:Nat)(hn:n<=1000000)(hc:a=none->c=0)(l:List Int)(w:World)(hB:Bytes w a n l):Calls Tryz.prog 8 #[.slice a n c] w (z2q w n l):=by
 have HA:Aside (n<=1000000/\(a=none->c=0)/\Bytes w a n l):=⟨hn,hc,hB⟩
 clear hn hc hB;go_enter Tryz.func8,Tryz.ntmps8
 go_wp2_with (at_builtin;first
  | (refine jF _ rfl (.tmp 3) (.tmp 4) rfl w.heap.size (.slice (some ⟨w.heap.size,0,none⟩) 0 0) 0 [] rfl (YR w _ (Nat.le_refl _)) a n c l rfl (HA.out.2.2.below ((Below.refl _ _).alloc (Nat.le_refl _) _)) HA.out.2.1 n l (Nat.zero_add n) rfl (by have:=HA.out.1;omega) (by simp) ?_;intro a1 c1 w1 hown1 hgrow1
     have R1:Aside (w1.ownsRow w.heap.size 5 1 (.slice a1 n c1) n (za l)/\Below w.heap.size w w1):=⟨hown1,((Below.refl _ w).alloc (Nat.le_refl _) _).grown hgrow1 (by simp) (fun k e=>by cases e;exact Nat.le_refl _)⟩
     clear hown1 hgrow1)
  | (refine zM _ rfl (.tmp 5) (.tmp 6) rfl w.heap.size (.slice a1 n c1) n l rfl (R1.out.1.alloc _) w1.heap.size 0 1 1 [171] rfl (qE w1 171 (by decide) (by decide)) (by decide) (by have:=HA.out.1;omega) (by have:=R1.out.2.size;simp;omega) ?_;intro g2 c2 w2 hown2 hgrow2 hg2
     obtain⟨f1,f2,f3⟩:=mE hown2 HA.out.2.2.1;have hcap:(n:Int)<=(c2:Int):=by omega
     have R2:Aside (w2.ownsRow w.heap.size 5 1 (.slice (some ⟨g2,0,none⟩) n c2) n (za l)/\n+1<=c2/\w2.cell? ⟨g2,n,none⟩=some (.int .u8 171)/\g2<w2.heap.size/\Below w.heap.size w w2):=⟨f1,f2,f3,hg2,(R1.out.2.alloc R1.out.2.size _).grown hgrow2 (by have:=R1.out.2.size;simp;omega) (fun k e=>(R1.out.1.lt k e).1)⟩
     clear hown2 hgrow2 hg2 f1 f2 f3))
 go_ret;exact⟨_,_,rfl,R2.out⟩
theorem Vj(g n cap:Nat)(y:Option Addr)(cy:Nat)(l:List Int)(hn:n<=1000)(hc:n+1<=cap)(w:World)(hA:Flat w (some ⟨g,0,none⟩) n l)(hB:Flat w y n l)(hg:g<w.heap.size)(hm:w.rangeAt g (n*32) (za MRK)):
  Calls Tryz.prog 15 #[.slice (some ⟨g,0,none⟩) n cap,.slice y n cy] w fun e w'=>e=.returned (.bool true)/\Below w.heap.size w w':=by
 have cs:=Jp (some ⟨g,0,none⟩) y n n cap cy l l w hA hB (by omega);rw[decide_eq_true rfl] at cs;have e1:wrap64 ((n:Int)+1)=((n+1:Nat):Int):=by unfold wrap64;omega
 have k0:((n+1:Nat):Int)<=(cap:Int):=by omega
 have k1:(n:Int)+1<=(cap:Int):=by omega
 have k2:(n:Int)<(n:Int)+1:=by omega
 have HM:Aside (g<w.heap.size/\w.rangeAt g (n*32) (za MRK)):=⟨hg,hm⟩
 have hnq:∀ x y (W:World),(do eqGuard .eql 23 x y (.agg (za MRK).toArray) (.agg (za MRK).toArray);binOp .eql 23 (.agg (za MRK).toArray) (.agg (za MRK).toArray):Sem Value).run Tryz.prog W=.ok (.bool true) W:=fun x y W=>by
  have:=gI (h:=MRK) (g:=MRK) rfl rfl x y W;rw[this];simp
 clear hn hA hB hg hm;go_enter Tryz.func15,Tryz.ntmps15;go_wp2_with fail
 refine cs.mono ?_;rintro e w1 ⟨rfl,hb1⟩;have hr1:w1.rangeAt g (n*32) (za MRK):=xo HM.out.2 hb1 HM.out.1;have FN:Aside (Below w.heap.size w w1):=hb1;clear cs hb1 HM
 go_wp2_with (first
  | (refine KF (by rfl) 23 (.tmp 16) rfl g (n*32) rfl (za MRK) _ hr1 Tryz.underlying23 rfl (zo rfl) ?_)
  | (rw[<-uK];refine z0P (by rfl) (xS (hnq _ _ _)) ?_))
 go_ret;exact⟨rfl,FN.out⟩
theorem vB(g n cap:Nat)(y:Option Addr)(cy:Nat)(l:List Int)(hn:n<=100000)(hc:n+1<=cap)(w:World)(hA:Bytes w (some ⟨g,0,none⟩) n l)(hB:Bytes w y n l)(hg:g<w.heap.size)(hm:w.cell? ⟨g,n,none⟩=some (.int .u8 171)):
  Calls Tryz.prog 16 #[.slice (some ⟨g,0,none⟩) n cap,.slice y n cy] w fun e w'=>e=.returned (.bool true)/\Below w.heap.size w w':=by
 have cs:=qm (some ⟨g,0,none⟩) y n n cap cy l l w hA hB (by omega);rw[decide_eq_true rfl] at cs;have e1:wrap64 ((n:Int)+1)=((n+1:Nat):Int):=by unfold wrap64;omega
 have k1:(n:Int)+1<=(cap:Int):=by omega
 have k2:(n:Int)<(n:Int)+1:=by omega
 have HM:Aside (g<w.heap.size/\w.cell? ⟨g,n,none⟩=some (.int .u8 171)):=⟨hg,hm⟩
 clear hn hA hB hg hm;go_enter Tryz.func16,Tryz.ntmps16;go_wp2_with fail
 refine cs.mono ?_;rintro e w1 ⟨rfl,hb1⟩;have x0:w1.cell? ⟨g,n,none⟩=some (.int .u8 171):=(hb1.cell (p:=⟨g,n,none⟩) HM.out.1).trans HM.out.2;have FN:Aside (Below w.heap.size w w1):=hb1;clear cs hb1 HM;go_wp2_with fail
 go_ret;exact⟨rfl,FN.out⟩
structure BPAIR (w0 w:World) (B:Nat) (a:Value) (na:Nat) (xa:List Value) (b:Value) (nb:Nat) (xb:List Value):Prop where
 ra:w.ownsRow B 5 1 a na xa
 rb:w.ownsRow B 5 1 b nb xb
 ap:∀ g,a.ownBlock=some g->b.ownBlock≠some g
 bl:Below B w0 w
 bs:B<=w0.heap.size
structure MCIN (w:World) (ai:Option Addr) (n ci:Nat) (L:List Nat) (ax:Option Addr) (kx cx:Nat) (lx:List Int) (ap:Option Addr) (np cp:Nat) (p:List Int) (ay:Option Addr) (ky cy:Nat) (ly:List Int) (aq:Option Addr) (nq cq:Nat) (q:List Int):Prop where
 ln:L.length=n
 n2:n<=200
 iz:ai=none->ci=0
 il:NUML w ai L
 ix:∀ x∈L,x<2 ^ 64
 k2:kx<=200
 fx:Flat w ax kx lx
 xz:ax=none->cx=0
 xc:kx<=cx
 j2:ky<=200
 fy:Flat w ay ky ly
 yz:ay=none->cy=0
 yc:ky<=cy
 p2:np<=6400
 bp:Bytes w ap np p
 pz:ap=none->cp=0
 pc:np<=cp
 q2:nq<=6400
 bq:Bytes w aq nq q
 qz:aq=none->cq=0
 qc:nq<=cq
 tb:Tabled w
 hx:HX.Tabled w
 h0:0<w.heap.size
structure MCOWN (W:World) (g1 n q1:Nat) (L:List Nat) (gx kx qx:Nat) (lx:List Int) (gp np qp:Nat) (p:List Int) (gy ky qy:Nat) (ly:List Int) (gq nq qq:Nat) (q:List Int):Prop where
 a1:NUML W (some ⟨g1,0,none⟩) L
 m1:W.cell? ⟨g1,n,none⟩=some (.int .u64 171)
 r1:n+1<=q1
 l1:g1<W.heap.size
 ax:Flat W (some ⟨gx,0,none⟩) kx lx
 mx:W.rangeAt gx (kx*32) (za MRK)
 rx:kx+1<=qx
 lx9:gx<W.heap.size
 ap:Bytes W (some ⟨gp,0,none⟩) np p
 mp:W.cell? ⟨gp,np,none⟩=some (.int .u8 171)
 rp:np+1<=qp
 lp:gp<W.heap.size
 ay:Flat W (some ⟨gy,0,none⟩) ky ly
 my:W.rangeAt gy (ky*32) (za MRK)
 ry:ky+1<=qy
 ly9:gy<W.heap.size
 aq:Bytes W (some ⟨gq,0,none⟩) nq q
 mq:W.cell? ⟨gq,nq,none⟩=some (.int .u8 171)
 rq:nq+1<=qq
 lq:gq<W.heap.size
theorem MCOWN.below{W W':World}{g1 n q1:Nat}{L:List Nat}{gx kx qx:Nat}{lx:List Int}{gp np qp:Nat}{p:List Int}{gy ky qy:Nat}{ly:List Int}{gq nq qq:Nat}{q:List Int}(h:MCOWN W g1 n q1 L gx kx qx lx gp np qp p gy ky qy ly gq nq qq q)(hb:Below W.heap.size W W'):MCOWN W' g1 n q1 L gx kx qx lx gp np qp p gy ky qy ly gq nq qq q:=by
 have hs:=hb.size;exact⟨h.a1.keep hb,(hb.cell (p:=⟨g1,n,none⟩) h.l1).trans h.m1,h.r1,Nat.lt_of_lt_of_le h.l1 hs,h.ax.below hb,fun j v hv=>(hb.cell (p:=⟨gx,kx*32+j,none⟩) h.lx9).trans (h.mx j v hv),h.rx,Nat.lt_of_lt_of_le h.lx9 hs,h.ap.below hb,(hb.cell (p:=⟨gp,np,none⟩) h.lp).trans h.mp,h.rp,Nat.lt_of_lt_of_le h.lp hs,h.ay.below hb,fun j v hv=>(hb.cell (p:=⟨gy,ky*32+j,none⟩) h.ly9).trans (h.my j v hv),h.ry,Nat.lt_of_lt_of_le h.ly9 hs,h.aq.below hb,(hb.cell (p:=⟨gq,nq,none⟩) h.lq).trans h.mq,h.rq,Nat.lt_of_lt_of_le h.lq hs⟩
theorem z2A{w:World}{d:Int}{root:List Int}(hroot:IsH root){N:Nat}{ai:Option Addr}{n ci:Nat}{L:List Nat}{ax:Option Addr}{kx cx:Nat}{lx:List Int}{ap:Option Addr}{np cp:Nat}{p:List Int}{ay:Option Addr}{ky cy:Nat}{ly:List Int}{aq:Option Addr}{nq cq:Nat}{q:List Int}(H:MCIN w ai n ci L ax kx cx lx ap np cp p ay ky cy ly aq nq cq q){w1 W:World}(h1:Below w.heap.size w w1)(hb:Below w1.heap.size w1 W):
  (Calls Tryz.prog 4 #[.slice ax kx cx,.slice ay ky cy] W fun e w'=>e=.returned (.bool (decide (lx=ly)))/\Below w1.heap.size w1 w')
  /\ (Calls Tryz.prog 5 #[.int .i64 d,.agg (za root).toArray,.int .u64 (N:Int),.slice ai n ci,.slice ax kx cx,.slice ap np cp] W fun e w'=>e=.returned (.int .i64 (MVA d root N L kx lx p))/\Below w1.heap.size w1 w')
  /\ (Calls Tryz.prog 5 #[.int .i64 d,.agg (za root).toArray,.int .u64 (N:Int),.slice ai n ci,.slice ay ky cy,.slice aq nq cq] W fun e w'=>e=.returned (.int .i64 (MVA d root N L ky ly q))/\Below w1.heap.size w1 w'):=by
 have hw:Below w.heap.size w W:=h1.trans (hb.mono h1.size);refine⟨?_,?_,?_⟩
 ·exact(Jp ax ay kx ky cx cy lx ly W (H.fx.below hw) (H.fy.below hw) (by have:=H.k2;omega)).mono fun e w' h=>⟨h.1,hb.trans (h.2.mono hb.size)⟩
 ·exact(Jn d root hroot N ai n ci L ax kx cx lx ap np cp p W H.ln H.n2 (H.il.keep hw) (H.fx.below hw) H.xc (H.bp.below hw) H.pc H.p2 H.ix).mono fun e w' h=>⟨h.1,hb.trans (h.2.mono hb.size)⟩
 ·exact(Jn d root hroot N ai n ci L ay ky cy ly aq nq cq q W H.ln H.n2 (H.il.keep hw) (H.fy.below hw) H.yc (H.bq.below hw) H.qc H.q2 H.ix).mono fun e w' h=>⟨h.1,hb.trans (h.2.mono hb.size)⟩
theorem z1X{w:World}{d:Int}{root:List Int}{N:Nat}{ai:Option Addr}{n ci:Nat}{L:List Nat}{ax:Option Addr}{kx cx:Nat}{lx:List Int}{ap:Option Addr}{np cp:Nat}{p:List Int}{ay:Option Addr}{ky cy:Nat}{ly:List Int}{aq:Option Addr}{nq cq:Nat}{q:List Int}(H:MCIN w ai n ci L ax kx cx lx ap np cp p ay ky cy ly aq nq cq q):
  (MCLA d root N L kx lx p ky ly q).isSome=decide (lx≠ly/\MVA d root N L kx lx p=0/\MVA d root N L ky ly q=0):=by
 by_cases h:lx≠ly/\MVA d root N L kx lx p=0/\MVA d root N L ky ly q=0
 ·obtain⟨s,t,e⟩:=Ma ⟨H.fx.1,H.fx.2.2⟩ ⟨H.fy.1,H.fy.2.2⟩ H.bp.2.2 H.bq.2.2 h.1 h.2.1 h.2.2
  rw[decide_eq_true h,e];rfl
 ·rw[decide_eq_false h]
  unfold MCLA;rw[if_pos]
  ·rfl
  ·by_cases h1:lx=ly
   ·exact .inl h1
   ·by_cases h2:MVA d root N L kx lx p=0
    ·exact .inr (.inr fun h3=>h ⟨h1,h2,h3⟩)
    ·exact .inr (.inl h2)
theorem z0R{w:World}{d:Int}{root:List Int}{N:Nat}{ai:Option Addr}{n ci:Nat}{L:List Nat}{ax:Option Addr}{kx cx:Nat}{lx:List Int}{ap:Option Addr}{np cp:Nat}{p:List Int}{ay:Option Addr}{ky cy:Nat}{ly:List Int}{aq:Option Addr}{nq cq:Nat}{q:List Int}(H:MCIN w ai n ci L ax kx cx lx ap np cp p ay ky cy ly aq nq cq q):
 ∀ s t,MCLA d root N L kx lx p ky ly q=some (s,t)->s≠t/\HSHT d s=HSHT d t:=fun _ _ h=>Gs ⟨H.fx.1,H.fx.2.2⟩ ⟨H.fy.1,H.fy.2.2⟩ H.bp.2.2 H.bq.2.2 h
theorem z0S{w:World}(d:Int){root:List Int}(hroot:IsH root)(N:Nat){ai:Option Addr}{n ci:Nat}{L:List Nat}{ax:Option Addr}{kx cx:Nat}{lx:List Int}{ap:Option Addr}{np cp:Nat}{p:List Int}{ay:Option Addr}{ky cy:Nat}{ly:List Int}{aq:Option Addr}{nq cq:Nat}{q:List Int}(H:MCIN w ai n ci L ax kx cx lx ap np cp p ay ky cy ly aq nq cq q){W:World}(hb:Below w.heap.size w W){g1 q1 gx qx gp qp gy qy gq qq:Nat}(O:MCOWN W g1 n q1 L gx kx qx lx gp np qp p gy ky qy ly gq nq qq q):
  Calls Tryz.prog 9 #[.int .i64 d,.agg (za root).toArray,.int .u64 (N:Int),.slice (some ⟨g1,0,none⟩) n q1,.slice (some ⟨gx,0,none⟩) kx qx,.slice (some ⟨gp,0,none⟩) np qp,.slice (some ⟨gy,0,none⟩) ky qy,.slice (some ⟨gq,0,none⟩) nq qq] W (CLASHED W (MCLA d root N L kx lx p ky ly q)):=
 kj d root hroot N _ n q1 L _ kx qx lx _ np qp p _ ky qy ly _ nq qq q W H.ln H.n2 O.a1 O.ax (by have:=O.rx;omega) (fun x e=>by cases e;exact O.lx9) H.k2 O.ap (by have:=O.rp;omega) (by have:=H.p2;omega) O.ay (by have:=O.ry;omega) (fun x e=>by cases e;exact O.ly9) H.j2 O.aq (by have:=O.rq;omega) (by have:=H.q2;omega) (H.tb.below H.h0 hb) (H.hx.below hb) (by have:=H.h0;have:=hb.size;omega)
theorem uZ{w:World}{ai:Option Addr}{n ci:Nat}{L:List Nat}{ax:Option Addr}{kx cx:Nat}{lx:List Int}{ap:Option Addr}{np cp:Nat}{p:List Int}{ay:Option Addr}{ky cy:Nat}{ly:List Int}{aq:Option Addr}{nq cq:Nat}{q:List Int}(H:MCIN w ai n ci L ax kx cx lx ap np cp p ay ky cy ly aq nq cq q){W0 W:World}(h0:Below w.heap.size w W0)(h1:Below W0.heap.size W0 W){g1 q1 gx qx gp qp gy qy gq qq:Nat}(O:MCOWN W0 g1 n q1 L gx kx qx lx gp np qp p gy ky qy ly gq nq qq q):
  (Calls Tryz.prog 14 #[.slice (some ⟨g1,0,none⟩) n q1,.slice ai n ci] W fun e w'=>e=.returned (.bool true)/\Below W0.heap.size W0 w')
  /\ (Calls Tryz.prog 15 #[.slice (some ⟨gx,0,none⟩) kx qx,.slice ax kx cx] W fun e w'=>e=.returned (.bool true)/\Below W0.heap.size W0 w')
  /\ (Calls Tryz.prog 15 #[.slice (some ⟨gy,0,none⟩) ky qy,.slice ay ky cy] W fun e w'=>e=.returned (.bool true)/\Below W0.heap.size W0 w')
  /\ (Calls Tryz.prog 16 #[.slice (some ⟨gp,0,none⟩) np qp,.slice ap np cp] W fun e w'=>e=.returned (.bool true)/\Below W0.heap.size W0 w')
  /\ (Calls Tryz.prog 16 #[.slice (some ⟨gq,0,none⟩) nq qq,.slice aq nq cq] W fun e w'=>e=.returned (.bool true)/\Below W0.heap.size W0 w')
  /\ (Calls Tryz.prog 11 #[] W fun e w'=>e=.returned (.bool true)/\Below W0.heap.size W0 w'):=by
 have hw:Below w.heap.size w W:=h0.trans (h1.mono h0.size);have o:=O.below h1;have go:∀ {f:FuncId} {vs:Array Value},Calls Tryz.prog f vs W (fun e w'=>e=.returned (.bool true)/\Below W.heap.size W w')->Calls Tryz.prog f vs W (fun e w'=>e=.returned (.bool true)/\Below W0.heap.size W0 w'):=fun h=>h.mono fun e w' h=>⟨h.1,h1.trans (h.2.mono h1.size)⟩
 refine⟨go ?_,go ?_,go ?_,go ?_,go ?_,go ?_⟩
 ·exact z0Q g1 n q1 ai ci L H.ln (by have:=H.n2;omega) o.r1 W o.a1 (H.il.keep hw) o.l1 o.m1
 ·exact Vj gx kx qx ax cx lx (by have:=H.k2;omega) o.rx W o.ax (H.fx.below hw) o.lx9 o.mx
 ·exact Vj gy ky qy ay cy ly (by have:=H.j2;omega) o.ry W o.ay (H.fy.below hw) o.ly9 o.my
 ·exact vB gp np qp ap cp p (by have:=H.p2;omega) o.rp W o.ap (H.bp.below hw) o.lp o.mp
 ·exact vB gq nq qq aq cq q (by have:=H.q2;omega) o.rq W o.aq (H.bq.below hw) o.lq o.mq
 ·exact Gx W (H.tb.below H.h0 hw) (by have:=H.h0;have:=hw.size;omega)
theorem kl(d:Int)(root:List Int)(N:Nat)(ai:Option Addr)(n ci:Nat)(ax:Option Addr)(kx cx:Nat)(ap:Option Addr)(np cp:Nat)(ay:Option Addr)(ky cy:Nat)(aq:Option Addr)(nq cq:Nat)(w:World)(h:¬ (n<=200/\kx<=200/\ky<=200/\np<=6400/\nq<=6400)):
  Calls Tryz.prog 3 #[.int .i64 d,.agg (za root).toArray,.int .u64 (N:Int),.slice ai n ci,.slice ax kx cx,.slice ap np cp,.slice ay ky cy,.slice aq nq cq] w fun e w'=>e=.returned (.bool true)/\Below w.heap.size w w':=by
 have FN:Aside (Below w.heap.size w (w.alloc (.cells (za root).toArray 23))):=(Below.refl _ _).alloc (Nat.le_refl _) _;by_cases h1:(200:Int)<(n:Int)
 ·clear h
  go_enter Tryz.func3,Tryz.ntmps3;go_wp2_with fail
  go_ret;exact⟨rfl,FN.out⟩
 by_cases h2:(200:Int)<(kx:Int)
 ·clear h
  go_enter Tryz.func3,Tryz.ntmps3;go_wp2_with fail
  go_ret;exact⟨rfl,FN.out⟩
 by_cases h3:(200:Int)<(ky:Int)
 ·clear h
  go_enter Tryz.func3,Tryz.ntmps3;go_wp2_with fail
  go_ret;exact⟨rfl,FN.out⟩
 by_cases h4:(6400:Int)<(np:Int)
 ·clear h
  go_enter Tryz.func3,Tryz.ntmps3;go_wp2_with fail
  go_ret;exact⟨rfl,FN.out⟩
 have h5:(6400:Int)<(nq:Int):=by omega
 clear h;go_enter Tryz.func3,Tryz.ntmps3;go_wp2_with fail
 go_ret;exact⟨rfl,FN.out⟩
theorem kn(d:Int)(root:List Int)(hroot:IsH root)(N:Nat)(ai:Option Addr)(n ci:Nat)(L:List Nat)(ax:Option Addr)(kx cx:Nat)(lx:List Int)(ap:Option Addr)(np cp:Nat)(p:List Int)(ay:Option Addr)(ky cy:Nat)(ly:List Int)(aq:Option Addr)(nq cq:Nat)(q:List Int)(w:World)(H:MCIN w ai n ci L ax kx cx lx ap np cp p ay ky cy ly aq nq cq q):
    Calls Tryz.prog 3 #[.int .i64 d,.agg (za root).toArray,.int .u64 (N:Int),.slice ai n ci,.slice ax kx cx,.slice ap np cp,.slice ay ky cy,.slice aq nq cq] w fun e w'=>e=.returned (.bool true)/\Below w.heap.size w w':=by
  obtain⟨w1,e1⟩:∃ w1,w.alloc (.cells (za root).toArray 23)=w1:=⟨_,rfl⟩
  obtain⟨b9,hb9⟩:∃ b,w.heap.size=b:=⟨_,rfl⟩
  have hb1:Below w.heap.size w w1:=by rw[<-e1];exact(Below.refl _ _).alloc (Nat.le_refl _) _
  have hR1:Has w1 b9 (za root).toArray 23:=by rw[<-e1,<-hb9];exact Has.new _ _ _
  have i1:¬ (200:Int)<(n:Int):=by have:=H.n2;omega
  have i2:¬ (200:Int)<(kx:Int):=by have:=H.k2;omega
  have i3:¬ (200:Int)<(ky:Int):=by have:=H.j2;omega
  have i4:¬ (6400:Int)<(np:Int):=by have:=H.p2;omega
  have i5:¬ (6400:Int)<(nq:Int):=by have:=H.q2;omega
  have CR:Aside (∀ W,Below w1.heap.size w1 W->Has W b9 (za root).toArray 23/\(Calls Tryz.prog 4 #[.slice ax kx cx,.slice ay ky cy] W fun e w'=>e=.returned (.bool (decide (lx=ly)))/\Below w1.heap.size w1 w')
    /\ (Calls Tryz.prog 5 #[.int .i64 d,.agg (za root).toArray,.int .u64 (N:Int),.slice ai n ci,.slice ax kx cx,.slice ap np cp] W fun e w'=>e=.returned (.int .i64 (MVA d root N L kx lx p))/\Below w1.heap.size w1 w')
    /\ (Calls Tryz.prog 5 #[.int .i64 d,.agg (za root).toArray,.int .u64 (N:Int),.slice ai n ci,.slice ay ky cy,.slice aq nq cq] W fun e w'=>e=.returned (.int .i64 (MVA d root N L ky ly q))/\Below w1.heap.size w1 w')):=fun W h=>⟨hR1.keep h,z2A hroot H hb1 h⟩
  have HV:Aside ((MCLA d root N L kx lx p ky ly q).isSome=decide (lx≠ly/\MVA d root N L kx lx p=0/\MVA d root N L ky ly q=0)):=z1X H;have HH:Aside (∀ s t,MCLA d root N L kx lx p ky ly q=some (s,t)->s≠t/\HSHT d s=HSHT d t):=z0R H;have CC:Aside (∀ W g1 q1 gx qx gp qp gy qy gq qq,Below w.heap.size w W->MCOWN W g1 n q1 L gx kx qx lx gp np qp p gy ky qy ly gq nq qq q->Calls Tryz.prog 9 #[.int .i64 d,.agg (za root).toArray,.int .u64 (N:Int),.slice (some ⟨g1,0,none⟩) n q1,.slice (some ⟨gx,0,none⟩) kx qx,.slice (some ⟨gp,0,none⟩) np qp,.slice (some ⟨gy,0,none⟩) ky qy,.slice (some ⟨gq,0,none⟩) nq qq] W (CLASHED W (MCLA d root N L kx lx p ky ly q))):=fun W g1 q1 gx qx gp qp gy qy gq qq hb O=>z0S d hroot N H hb O;have HI:Aside (MCIN w ai n ci L ax kx cx lx ap np cp p ay ky cy ly aq nq cq q):=H;have W1:Aside (Below w.heap.size w w1):=hb1;have r32:=hroot.1;generalize MCLA d root N L kx lx p ky ly q=X at *
  generalize MVA d root N L kx lx p=U1 at *
  generalize MVA d root N L ky ly q=U2 at *
  clear H hb1 hR1 hroot;go_enter Tryz.func3,Tryz.ntmps3;go_upto_region 3 with fail
  clear e1 hb9 i1 i2 i3 i4 i5;go_cut [17] from 51 to 74 (fun s17 W=>s17=.bool X.isSome/\Aside (Below w1.heap.size w1 W))
  case first=>
    clear CC HH HI;obtain⟨-,c3, -⟩:=CR.out w1 (Below.refl _ _);by_cases hxy:lx=ly
    · have hwant:X.isSome=false:=HV.out.trans (decide_eq_false (fun h=>h.1 hxy))
      rw[decide_eq_true hxy] at c3;clear hxy HV;go_wp2_with fail
      refine c3.mono ?_;rintro e w2 ⟨rfl,hb2⟩;clear c3 CR;go_wp2_with fail
      go_meet
      case rel=>exact⟨by rw[hwant],hb2⟩
    · rw[decide_eq_false hxy] at c3
      go_wp2_with fail
      refine c3.mono ?_;rintro e w2 ⟨rfl,hb2⟩;clear c3;obtain⟨k9, -,c4, -⟩:=CR.out w2 hb2;clear hb2
      go_wp2_with (first
        | (refine ye (by rfl) 23 (.tmp 9) rfl 32 5 b9 rfl 23 (za root).toArray (0,0) k9 Tryz.underlying23 (zd r32) ?_)
        | fail)
      refine c4.mono ?_;rintro e w3 ⟨rfl,hb3⟩;clear c4 k9;obtain⟨k9, -, -,c5⟩:=CR.out w3 hb3;by_cases hU1:U1=0
      · subst hU1
        clear hb3
        go_wp2_with (first
          | (refine ye (by rfl) 23 (.tmp 9) rfl 32 5 b9 rfl 23 (za root).toArray (0,0) k9 Tryz.underlying23 (zd r32) ?_)
          | fail)
        refine c5.mono ?_;rintro e w4 ⟨rfl,hb4⟩;clear c5 k9 CR;by_cases hU2:U2=0
        · subst hU2
          have hwant:X.isSome=true:=HV.out.trans (decide_eq_true ⟨hxy,by first | rfl | trivial,by first | rfl | trivial⟩);clear hxy HV;go_wp2_with fail
          go_meet
          case rel=>exact⟨by rw[hwant],hb4⟩
        · have hwant:X.isSome=false:=HV.out.trans (decide_eq_false (fun h=>hU2 h.2.2))
          have hE2:(U2 == 0)=false:=beq_eq_false_iff_ne.2 hU2;clear hxy HV hU2;go_wp2_with fail
          go_meet
          case rel=>exact⟨by rw[hwant],hb4⟩
      · have hwant:X.isSome=false:=HV.out.trans (decide_eq_false (fun h=>hU1 h.2.1))
        have hE1:(U1 == 0)=false:=beq_eq_false_iff_ne.2 hU1;clear hxy HV hU1 c5 k9 CR;go_wp2_with fail
        go_meet
        case rel=>exact⟨by rw[hwant],hb3⟩
  case rest=>
    obtain⟨rfl,hwc⟩:=hcut;clear HV;have hw0:Below w.heap.size w wc:=W1.out.trans (hwc.out.mono W1.out.size);have R0:Aside (Has wc b9 (za root).toArray 23):=(CR.out wc hwc.out).1;have cg:=kk ai n ci L HI.out.ln (by have:=HI.out.n2;omega) HI.out.iz wc (HI.out.il.keep hw0);have W0:Aside (Below w.heap.size w wc):=hw0;clear CR hwc W1 hw0;go_wp2_with fail
    refine cg.mono ?_;rintro e w2 ⟨g1,q1,rfl,G⟩;clear cg;have W2:Aside (Below w.heap.size w w2/\NUMD wc w2 g1 n q1 L):=⟨W0.out.trans (G.below.mono W0.out.size),G⟩
    clear G;have cr:=uc ax kx cx (by have:=HI.out.k2;omega) HI.out.xz lx w2 (HI.out.fx.below W2.out.1);go_wp2_with fail
    refine cr.mono ?_;rintro e w3 ⟨gx,qx,rfl,x1,x2,x3,x4,x5⟩;clear cr;have W3:Aside (Below w.heap.size w w3/\Below w2.heap.size w2 w3/\w3.ownsRow w2.heap.size 23 32 (.slice (some ⟨gx,0,none⟩) kx qx) kx (za lx)/\kx+1<=qx/\w3.rangeAt gx (kx*32) (za MRK)/\gx<w3.heap.size):=⟨W2.out.1.trans (x5.mono W2.out.1.size),x5,x1,x2,x3,x4⟩
    clear x1 x2 x3 x4 x5;have cr:=uc ay ky cy (by have:=HI.out.j2;omega) HI.out.yz ly w3 (HI.out.fy.below W3.out.1);go_wp2_with fail
    refine cr.mono ?_;rintro e w4 ⟨gy,qy,rfl,x1,x2,x3,x4,x5⟩;clear cr;have W4:Aside (Below w.heap.size w w4/\Below w3.heap.size w3 w4/\w4.ownsRow w3.heap.size 23 32 (.slice (some ⟨gy,0,none⟩) ky qy) ky (za ly)/\ky+1<=qy/\w4.rangeAt gy (ky*32) (za MRK)/\gy<w4.heap.size):=⟨W3.out.1.trans (x5.mono W3.out.1.size),x5,x1,x2,x3,x4⟩
    clear x1 x2 x3 x4 x5;have ct:=Vi ap np cp (by have:=HI.out.p2;omega) HI.out.pz p w4 (HI.out.bp.below W4.out.1);go_wp2_with fail
    refine ct.mono ?_;rintro e w5 ⟨gp,qp,rfl,x1,x2,x3,x4,x5⟩;clear ct;have W5:Aside (Below w.heap.size w w5/\Below w4.heap.size w4 w5/\w5.ownsRow w4.heap.size 5 1 (.slice (some ⟨gp,0,none⟩) np qp) np (za p)/\np+1<=qp/\w5.cell? ⟨gp,np,none⟩=some (.int .u8 171)/\gp<w5.heap.size):=⟨W4.out.1.trans (x5.mono W4.out.1.size),x5,x1,x2,x3,x4⟩
    clear x1 x2 x3 x4 x5;have ct:=Vi aq nq cq (by have:=HI.out.q2;omega) HI.out.qz q w5 (HI.out.bq.below W5.out.1);go_wp2_with fail
    refine ct.mono ?_;rintro e w6 ⟨gq,qq,rfl,x1,x2,x3,x4,x5⟩;clear ct
    have O6:Aside (Below w.heap.size w w6/\MCOWN w6 g1 n q1 L gx kx qx lx gp np qp p gy ky qy ly gq nq qq q/\Has w6 b9 (za root).toArray 23):=by
      have h46:Below w4.heap.size w4 w6:=W5.out.2.1.trans (x5.mono W5.out.2.1.size);have h36:Below w3.heap.size w3 w6:=W4.out.2.1.trans (h46.mono W4.out.2.1.size);have h26:Below w2.heap.size w2 w6:=W3.out.2.1.trans (h36.mono W3.out.2.1.size);have G:=W2.out.2;have hs5:=x5.size;have hs4:=h46.size;have hs3:=h36.size;have hs2:=h26.size;refine⟨W5.out.1.trans (x5.mono W5.out.1.size),⟨(G.lies HI.out.ln).keep h26,(h26.cell (p:=⟨g1,n,none⟩) G.lt).trans G.mark,G.room,Nat.lt_of_lt_of_le G.lt hs2,(xg W3.out.2.2.1 HI.out.fx.2.2).below h36,fun j v hv=>(h36.cell (p:=⟨gx,kx*32+j,none⟩) W3.out.2.2.2.2.2).trans (W3.out.2.2.2.2.1 j v hv),W3.out.2.2.2.1,Nat.lt_of_lt_of_le W3.out.2.2.2.2.2 hs3,(yL W5.out.2.2.1 W5.out.2.2.2.2.2 HI.out.bp.2.2).below x5,(x5.cell (p:=⟨gp,np,none⟩) W5.out.2.2.2.2.2).trans W5.out.2.2.2.2.1,W5.out.2.2.2.1,Nat.lt_of_lt_of_le W5.out.2.2.2.2.2 hs5,(xg W4.out.2.2.1 HI.out.fy.2.2).below h46,fun j v hv=>(h46.cell (p:=⟨gy,ky*32+j,none⟩) W4.out.2.2.2.2.2).trans (W4.out.2.2.2.2.1 j v hv),W4.out.2.2.2.1,Nat.lt_of_lt_of_le W4.out.2.2.2.2.2 hs4,yL x1 x4 HI.out.bq.2.2,x3,x2,x4⟩,?_⟩;exact R0.out.keep (G.below.trans (h26.mono G.below.size))
    clear x1 x2 x3 x4 x5 W0 W2 W3 W4 W5 R0;have c7:=CC.out w6 g1 q1 gx qx gp qp gy qy gq qq O6.out.1 O6.out.2.1;have hR:=O6.out.2.2
    go_wp2_with (first
      | (refine wpList_load_row rfl 23 (.tmp 9) rfl b9 rfl 23 (za root).toArray (0,0) _ hR Tryz.underlying23 rfl (zd r32) ?_)
      | fail)
    refine c7.mono ?_;intro e w7 hcl;obtain⟨a1,n1,z1,a2,n2,z2,o1,rfl,t1,hb7⟩:=hcl.told;clear hcl c7;have hR:=hR.keep hb7;go_upto_region 6 with fail
    obtain⟨w8,hw8⟩:∃ w8,w7.alloc (.cells #[.slice a1 n1 z1,.slice a2 n2 z2] 35)=w8:=⟨_,rfl⟩
    obtain⟨b23,hb23⟩:∃ b,w7.heap.size=b:=⟨_,rfl⟩
    rw[hw8,hb23];have hb78:Below w7.heap.size w7 w8:=by rw[<-hw8];exact(Below.refl _ _).alloc (Nat.le_refl _) _
    have hb68:Below w6.heap.size w6 w8:=hb7.trans (hb78.mono hb7.size);have k23:Has w8 b23 #[.slice a1 n1 z1,.slice a2 n2 z2] 35:=by rw[<-hw8,<-hb23];exact Has.new _ _ _
    have t1':=t1.below hb78;have hR:=hR.keep hb78;have c8:=CC.out w8 g1 q1 gx qx gp qp gy qy gq qq (O6.out.1.trans (hb68.mono O6.out.1.size)) (O6.out.2.1.below hb68);have R8:Aside (Below w6.heap.size w6 w8/\Has w8 b23 #[.slice a1 n1 z1,.slice a2 n2 z2] 35/\TOLD1 w8 w6.heap.size X (.slice a1 n1 z1) (.slice a2 n2 z2) o1):=⟨hb68,k23,t1'⟩
    clear hw8 hb23 hb78 hb68 k23 t1 t1' hb7 CC
    go_wp2_with (first
      | (refine wpList_load_row rfl 23 (.tmp 9) rfl b9 rfl 23 (za root).toArray (0,0) _ hR Tryz.underlying23 rfl (zd r32) ?_)
      | fail)
    refine c8.mono ?_;intro e w9 hcl;obtain⟨a3,n3,z3,a4,n4,z4,o2,rfl,t2,hb9⟩:=hcl.told;clear hcl c8 hR;go_upto_region 7 with fail
    obtain⟨w10,hw10⟩:∃ w10,w9.alloc (.cells #[.slice a3 n3 z3,.slice a4 n4 z4] 35)=w10:=⟨_,rfl⟩
    obtain⟨b25,hb25⟩:∃ b,w9.heap.size=b:=⟨_,rfl⟩
    rw[hw10,hb25];have hb910:Below w9.heap.size w9 w10:=by rw[<-hw10];exact(Below.refl _ _).alloc (Nat.le_refl _) _
    have hb810:Below w8.heap.size w8 w10:=hb9.trans (hb910.mono hb9.size);have hb610:Below w6.heap.size w6 w10:=R8.out.1.trans (hb810.mono R8.out.1.size);have k25:Has w10 b25 #[.slice a3 n3 z3,.slice a4 n4 z4] 35:=by rw[<-hw10,<-hb25];exact Has.new _ _ _
    have k23:=R8.out.2.1.keep hb810;have tt:TOLD2 w10 w6.heap.size X (.slice a1 n1 z1) (.slice a2 n2 z2) (.slice a3 n3 z3) (.slice a4 n4 z4) o1 o2:=(R8.out.2.2.two hb9 (Nat.le_refl _) t2 R8.out.1.size).below hb910;have TT:Aside (TOLD2 w10 w6.heap.size X (.slice a1 n1 z1) (.slice a2 n2 z2) (.slice a3 n3 z3) (.slice a4 n4 z4) o1 o2):=tt;have XC:Aside (∀ W,Below w10.heap.size w10 W->W.cell? ⟨b23,0,none⟩=some (.slice a1 n1 z1)/\W.cell? ⟨b23,1,none⟩=some (.slice a2 n2 z2)/\W.cell? ⟨b25,0,none⟩=some (.slice a3 n3 z3)/\W.cell? ⟨b25,1,none⟩=some (.slice a4 n4 z4)/\Has W b23 #[.slice a1 n1 z1,.slice a2 n2 z2] 35):=fun W hb=>⟨(k23.keep hb).cell 0,(k23.keep hb).cell 1,(k25.keep hb).cell 0,(k25.keep hb).cell 1,k23.keep hb⟩
    have hw10b:Below w.heap.size w w10:=O6.out.1.trans (hb610.mono O6.out.1.size);have CK:Aside (Below w.heap.size w w10/\MCOWN w10 g1 n q1 L gx kx qx lx gp np qp p gy ky qy ly gq nq qq q/\MCIN w ai n ci L ax kx cx lx ap np cp p ay ky cy ly aq nq cq q):=⟨hw10b,O6.out.2.1.below hb610,HI.out⟩
    clear hw10 hb25 hb910 hb810 hb610 k25 k23 tt hb9 t2 R8 O6 HI hw10b;cases X with
    | none=>
      obtain⟨v1,v2,v3,v4,rfl,rfl⟩:=TT.out.no rfl;cases v1;cases v2;cases v3;cases v4;have CS:Aside (∀ W,Below w10.heap.size w10 W->Calls Tryz.prog 10 #[.slice none 0 0,.slice none 0 0] W fun e w'=>e=.returned (.bool true)/\Below w10.heap.size w10 w'):=fun W hb=>(HX.qm none none 0 0 0 0 [] [] W ⟨rfl,fun h=>absurd h (Nat.lt_irrefl _),fun x hx=>by cases hx⟩ ⟨rfl,fun h=>absurd h (Nat.lt_irrefl _),fun x hx=>by cases hx⟩ (by omega)).mono fun e w' h=>⟨h.1.trans (by rw[decide_eq_true rfl]),hb.trans (h.2.1.mono hb.size)⟩
      rw[show (none:Option (List Nat × List Nat)).isSome=false from rfl];obtain⟨x0,x1,x2,x3, -⟩:=XC.out w10 (Below.refl _ _);have cs:=CS.out w10 (Below.refl _ _);clear HH TT;go_wp2_with fail
      refine cs.mono ?_;rintro e w11 ⟨rfl,hb11⟩;clear cs x0 x1 x2 x3;obtain⟨x0,x1,x2,x3, -⟩:=XC.out w11 hb11;have cs:=CS.out w11 hb11;clear hb11;go_wp2_with fail
      refine cs.mono ?_;rintro e w12 ⟨rfl,hb12⟩;clear cs x0 x1 x2 x3 CS;obtain⟨x0,x1,x2,x3, -⟩:=XC.out w12 hb12;obtain⟨-, -, -, -, -,ca⟩:=uZ CK.out.2.2 CK.out.1 hb12 CK.out.2.1;clear hb12 XC;go_wp2_with fail
      refine ca.mono ?_;rintro e w13 ⟨rfl,hb13⟩;have FN:Aside (Below w.heap.size w w13):=CK.out.1.trans (hb13.mono CK.out.1.size);clear ca x0 x1 x2 x3 hb13 CK;go_wp2_with fail
      go_ret;exact⟨rfl,FN.out⟩
    | some st=>
      obtain⟨s,t⟩:=st;obtain⟨rfl,rfl,gA,cA,gB,cB,gC,cC,gD,cD,v1,v2,v3,v4,r1,r2,r3,r4, -⟩:=TT.out.yes s t rfl;cases v1;cases v2;cases v3;cases v4;obtain⟨hne,hhs⟩:=HH.out s t rfl;have OO:Aside (∀ W,Below w10.heap.size w10 W->OWNT W w6.heap.size gA z1 s/\OWNT W w6.heap.size gB z2 t/\OWNT W w6.heap.size gC z3 s/\OWNT W w6.heap.size gD z4 t):=fun W hb=>⟨r1.at (hb.block _ r1.lt.2),r2.at (hb.block _ r2.lt.2),r3.at (hb.block _ r3.lt.2),r4.at (hb.block _ r4.lt.2)⟩
      have NE:Aside (s≠t/\HSHT d s=HSHT d t):=⟨hne,hhs⟩
      have CS:Aside (∀ W,Below w10.heap.size w10 W->(Calls Tryz.prog 10 #[.slice (some ⟨gA,0,none⟩) s.length z1,.slice (some ⟨gC,0,none⟩) s.length z3] W fun e w'=>e=.returned (.bool true)/\Below w10.heap.size w10 w')/\(Calls Tryz.prog 10 #[.slice (some ⟨gB,0,none⟩) t.length z2,.slice (some ⟨gD,0,none⟩) t.length z4] W fun e w'=>e=.returned (.bool true)/\Below w10.heap.size w10 w')/\(Calls Tryz.prog 10 #[.slice (some ⟨gA,0,none⟩) s.length z1,.slice (some ⟨gB,0,none⟩) t.length z2] W fun e w'=>e=.returned (.bool false)/\Below w10.heap.size w10 w')):=fun W hb=>by
        obtain⟨p1,p2,p3,p4⟩:=OO.out W hb;have l1:=p1.2.2.2;have l2:=p2.2.2.2;refine⟨(HX.qm _ _ _ _ _ _ s s W p1.text p3.text (by omega)).mono fun e w' h=>⟨h.1.trans (by rw[decide_eq_true rfl]),hb.trans (h.2.1.mono hb.size)⟩,(HX.qm _ _ _ _ _ _ t t W p2.text p4.text (by omega)).mono fun e w' h=>⟨h.1.trans (by rw[decide_eq_true rfl]),hb.trans (h.2.1.mono hb.size)⟩,(HX.qm _ _ _ _ _ _ s t W p1.text p2.text (by omega)).mono fun e w' h=>⟨h.1.trans (by rw[decide_eq_false hne]),hb.trans (h.2.1.mono hb.size)⟩⟩
      rw[show (some (s,t):Option (List Nat × List Nat)).isSome=true from rfl];obtain⟨x0,x1,x2,x3, -⟩:=XC.out w10 (Below.refl _ _);have cs:=(CS.out w10 (Below.refl _ _)).1;clear HH TT hne hhs r1 r2 r3 r4;go_wp2_with fail
      refine cs.mono ?_;rintro e w11 ⟨rfl,hb11⟩;clear cs x0 x1 x2 x3;obtain⟨x0,x1,x2,x3, -⟩:=XC.out w11 hb11;have cs:=(CS.out w11 hb11).2.1;clear hb11;go_wp2_with fail
      refine cs.mono ?_;rintro e w12 ⟨rfl,hb12⟩;clear cs x0 x1 x2 x3;have W12:Aside (Below w10.heap.size w10 w12):=hb12;clear hb12;go_upto_region 11 with fail
      have TX:Aside (HX.Tabled w):=CK.out.2.2.hx;refine Gt w12 d b23 (some ⟨gA,0,none⟩) s.length z1 (some ⟨gB,0,none⟩) t.length z2 (HX.UARR .u8 32 (HX.zu d s)) (HX.UARR .u8 32 (HX.zu d t)) true (fun W=>Below w10.heap.size w10 W) W12.out.drew (fun W hb=>⟨(XC.out W hb).1,(XC.out W hb).2.1⟩) (fun W o hb=>hb.alloc hb.size _) (by have:=(OO.out w10 (Below.refl _ _)).1.2.2.2;omega) (by have:=(OO.out w10 (Below.refl _ _)).2.1.2.2.2;omega) (fun W=>(HX.YG _ _ W).trans (by rw[<-HX.Xv d NE.out.1,ua NE.out.1 NE.out.2])) (fun W hb=>(CS.out W hb).2.2) (fun W g hb hg=>?_) (fun W g hb hg=>?_) (fun _ _ _ _ _ h=>h) ?_
      · have l1:=(OO.out W hb).1
        exact(HX.uT d W g _ _ _ s hg l1.text (fun e=>by cases e) (by have:=l1.2.2.2;omega)).mono fun e w' h=>⟨h.1,hb.trans (h.2.mono hb.size),HX.Yl h.2⟩
      · have l1:=(OO.out W hb).2.1
        exact(HX.uT d W g _ _ _ t hg l1.text (fun e=>by cases e) (by have:=l1.2.2.2;omega)).mono fun e w' h=>⟨h.1,hb.trans (h.2.mono hb.size),HX.Yl h.2⟩
      rintro g g2 w13 ⟨hb13, -⟩;dsimp only;have hK:=(XC.out w13 hb13).2.2.2.2;have hw13:Below w.heap.size w w13:=CK.out.1.trans (hb13.mono CK.out.1.size)
      have KP:Aside (∀ W,Below w10.heap.size w10 W->(Calls Tryz.prog 14 #[.slice (some ⟨g1,0,none⟩) n q1,.slice ai n ci] W fun e w'=>e=.returned (.bool true)/\Below w10.heap.size w10 w')
        /\ (Calls Tryz.prog 15 #[.slice (some ⟨gx,0,none⟩) kx qx,.slice ax kx cx] W fun e w'=>e=.returned (.bool true)/\Below w10.heap.size w10 w')
        /\ (Calls Tryz.prog 15 #[.slice (some ⟨gy,0,none⟩) ky qy,.slice ay ky cy] W fun e w'=>e=.returned (.bool true)/\Below w10.heap.size w10 w')
        /\ (Calls Tryz.prog 16 #[.slice (some ⟨gp,0,none⟩) np qp,.slice ap np cp] W fun e w'=>e=.returned (.bool true)/\Below w10.heap.size w10 w')
        /\ (Calls Tryz.prog 16 #[.slice (some ⟨gq,0,none⟩) nq qq,.slice aq nq cq] W fun e w'=>e=.returned (.bool true)/\Below w10.heap.size w10 w')
        /\ (Calls Tryz.prog 11 #[] W fun e w'=>e=.returned (.bool true)/\Below w10.heap.size w10 w')):=fun W hb=>uZ CK.out.2.2 CK.out.1 hb CK.out.2.1
      have FN:Aside (∀ W,Below w10.heap.size w10 W->Below w.heap.size w W):=fun W hb=>CK.out.1.trans (hb.mono CK.out.1.size)
      have ch:Calls Tryz.prog 13 #[.int .i64 d,.agg #[.slice (some ⟨gA,0,none⟩) s.length z1,.slice (some ⟨gB,0,none⟩) t.length z2]] w13 fun e w'=>e=.returned (.bool true)/\Below w10.heap.size w10 w':=by
        obtain⟨p1,p2, -, -⟩:=OO.out w13 hb13;have l1:=p1.2.2.2;have l2:=p2.2.2.2;refine(HX.m9 d _ _ z1 s _ _ z2 t w13 p1.text p1.cap (fun x e=>by cases e;exact p1.lt.2) (by omega) p2.text p2.cap (fun x e=>by cases e;exact p2.lt.2) (by omega) (TX.out.below hw13)).mono fun e w' h=>⟨h.1.trans (by rw[ua NE.out.1 NE.out.2]),hb13.trans (h.2.mono hb13.size)⟩
      clear hb13 hw13 CK OO NE CS TX XC W12
      go_wp2_with (first
        | (refine xN (by rfl) 35 (.tmp 23) rfl b23 rfl 35 #[.slice (some ⟨gA,0,none⟩) s.length z1,.slice (some ⟨gB,0,none⟩) t.length z2] (0,0) _ hK Tryz.underlying35 (by kernel_rfl) ?_)
        | fail)
      refine ch.mono ?_;rintro e w14 ⟨rfl,hb⟩;clear ch hK;have c:=(KP.out w14 hb).1;clear hb;go_wp2_with fail
      refine c.mono ?_;rintro e w15 ⟨rfl,hb⟩;clear c;have c:=(KP.out w15 hb).2.1;clear hb;go_wp2_with fail
      refine c.mono ?_;rintro e w16 ⟨rfl,hb⟩;clear c;have c:=(KP.out w16 hb).2.2.1;clear hb;go_wp2_with fail
      refine c.mono ?_;rintro e w17 ⟨rfl,hb⟩;clear c;have c:=(KP.out w17 hb).2.2.2.1;clear hb;go_wp2_with fail
      refine c.mono ?_;rintro e w18 ⟨rfl,hb⟩;clear c;have c:=(KP.out w18 hb).2.2.2.2.1;clear hb;go_wp2_with fail
      refine c.mono ?_;rintro e w19 ⟨rfl,hb⟩;clear c;have c:=(KP.out w19 hb).2.2.2.2.2;clear hb;go_wp2_with fail
      refine c.mono ?_;rintro e w20 ⟨rfl,hb⟩;have F9:Aside (Below w.heap.size w w20):=FN.out w20 hb;clear c hb KP FN;go_wp2_with fail
      go_ret;exact⟨rfl,F9.out⟩
theorem Us(d:Int)(root:List Int)(hroot:IsH root)(N:Nat)(ai:Option Addr)(n ci:Nat)(L:List Nat)(ax:Option Addr)(kx cx:Nat)(lx:List Int)(ap:Option Addr)(np cp:Nat)(p:List Int)(ay:Option Addr)(ky cy:Nat)(ly:List Int)(aq:Option Addr)(nq cq:Nat)(q:List Int)(w:World)(hl:L.length=n)(hiz:ai=none->ci=0)(hL:NUML w ai L)(hx:∀ x∈L,x<2 ^ 64)(hFx:Flat w ax kx lx)(hzx:ax=none->cx=0)(hcx:kx<=cx)(hBp:Bytes w ap np p)(hzp:ap=none->cp=0)(hcp:np<=cp)(hFy:Flat w ay ky ly)(hzy:ay=none->cy=0)(hcy:ky<=cy)(hBq:Bytes w aq nq q)(hzq:aq=none->cq=0)(hcq:nq<=cq)(hT:Tabled w)(hX:HX.Tabled w)(h0:0<w.heap.size):
  Calls Tryz.prog 3 #[.int .i64 d,.agg (za root).toArray,.int .u64 (N:Int),.slice ai n ci,.slice ax kx cx,.slice ap np cp,.slice ay ky cy,.slice aq nq cq] w fun e w'=>e=.returned (.bool true)/\Below w.heap.size w w':=by
 by_cases h:n<=200/\kx<=200/\ky<=200/\np<=6400/\nq<=6400
 ·exact kn d root hroot N ai n ci L ax kx cx lx ap np cp p ay ky cy ly aq nq cq q w ⟨hl,h.1,hiz,hL,hx,h.2.1,hFx,hzx,hcx,h.2.2.1,hFy,hzy,hcy,h.2.2.2.1,hBp,hzp,hcp,h.2.2.2.2,hBq,hzq,hcq,hT,hX,h0⟩
 ·exact kl d root N ai n ci ax kx cx ap np cp ay ky cy aq nq cq w h
end Go.Proofs.YtobaogpomcocpaaGreatDoor
namespace Go.Proofs.YtobaogpomcocpaaGreatDoor
open Go.ChangeShapes Go.WideShapes Go.ChangeAt Go.WideMaps Go.WideElems
theorem own:ownKnob Tryz.prog.godebug=none:=by kernel_rfl
theorem qV:laidOutB Tryz.prog=true:=by kernel_rfl
theorem gTab:Tryz.prog.globalNamed "math/bits.deBruijn64tab"=some 2:=by kernel_rfl
theorem tTab:(Tryz.prog.globals[2]?).map (·.type)=some 97:=by kernel_rfl
theorem z1Y{H:Type}:(Rows.laid_math_bits_deBruijn64tab:DataW H)=.agg (TAB.map fun n=>.lit (.int .u8 (n:Nat))):=rfl
end Go.Proofs.YtobaogpomcocpaaGreatDoor
namespace Go.Proofs.YtobaogpomcocpaaGreatDoor
open Go.ChangeShapes Go.WideShapes Go.ChangeAt Go.WideMaps Go.WideElems Go.Deep
theorem Vk{H:Type}{enc:TypeId × Value->H}{W:World}{fuel:Nat}{cs:List Value}{x:DataW H × List MemPlace}(hf:DataW.trod enc Tryz.prog W 0 (fun _=>true) true fuel 23 cs=some x):∃ h:List Int,h.length=32/\(∀ x∈h,0<=x/\x<=255)/\cs=za h:=by
 obtain⟨xs,m,rfl,_,hl,hn,hel⟩:=DataW.trod_array Tryz.underlying23 hf;have c5:Tryz.prog.cellsOf 5=1:=by kernel_rfl
 have c32:Tryz.prog.cellsOf 23=32:=by kernel_rfl
 rw[c32] at hl
 have hx:∀ i,i<32->∃ k:Int,cs[i]?=some (.int .u8 k)/\0<=k/\k<=255:=fun i hi=>by
  have h0:=hel i hi;rw[List.getElem?_eq_getElem (by omega),c5,Nat.mul_one] at h0;obtain⟨k,e1,_,e3⟩:=DataW.trod_int Tryz.underlying5 h0;have hb:=bounds_u8 e3;refine⟨k,?_,by omega,by omega⟩;have:=congrArg (fun l=>l[0]?) e1;simpa using this
 have F:∃ f:Nat->Int,∀ i,i<32->cs[i]?=some (.int .u8 (f i))/\0<=f i/\f i<=255:=by
  refine⟨fun i=>if hi:i<32 then (hx i hi).choose else 0,fun i hi=>?_⟩;simp only[hi,dif_pos];exact(hx i hi).choose_spec
 obtain⟨f,hf1⟩:=F;refine⟨(List.range 32).map f,by simp,fun x hx=>?_,?_⟩
 ·simp only[List.mem_map,List.mem_range] at hx
  obtain⟨i,hi,rfl⟩:=hx;exact(hf1 i hi).2
 ·apply List.ext_getElem?
  intro i;by_cases hi:i<32
  ·rw[(hf1 i hi).1,zN _ i (by simp;exact hi),List.getD_eq_getElem?_getD,List.getElem?_map,List.getElem?_range hi]
   rfl
  ·rw[List.getElem?_eq_none (by omega),List.getElem?_eq_none (by simp[za];omega)]
theorem z0T{H:Type}{enc:TypeId × Value->H}{W:World}{r:Reach}{b0:Nat}{v:Value}{d:DataW H}{ps:List MemPlace}(hval:Value.okWide Tryz.prog W r b0 23 v)(hd:DataW.Trod enc Tryz.prog W 0 (fun _=>true) true 23 v d ps):∃ h:List Int,h.length=32/\(∀ x∈h,0<=x/\x<=255)/\v=.agg (za h).toArray:=by
 simp only[Value.okWide,Tryz.underlying23] at hval;obtain⟨cs,rfl,hsz,_⟩:=hval;obtain⟨fuel,hf⟩:=hd;obtain⟨h,h1,h2,h3⟩:=Vk hf;refine⟨h,h1,h2,?_⟩;congr 1
 apply Array.ext';simpa[Value.cells] using h3
theorem Mb{H:Type}{enc:TypeId × Value->H}{W:World}{fuel:Nat}{a:Option Addr}{k c:Nat}{x:DataW H × List MemPlace}(hf:DataW.trod enc Tryz.prog W 0 (fun _=>true) true fuel 26 [.slice a k c]=some x):
  ∃ l:List Int,Flat W a k l/\(a=none->c=0)/\k<=c:=by
 rcases DataW.trod_slice Tryz.underlying26 hf with ⟨h0,_⟩ | ⟨ad,len,cap,elems,rest,n,_,h0,hx,_,hl,hm,hlen,hel,_,_⟩
 ·simp at h0
  obtain⟨rfl,rfl,rfl⟩:=h0;exact⟨[],⟨rfl,fun h=>absurd h (by omega),by simp⟩,fun _=>rfl,Nat.le_refl _⟩
 ·simp at h0
  obtain⟨rfl,rfl,rfl⟩:=h0;have c32:Tryz.prog.cellsOf 23=32:=by kernel_rfl
  have each:∀ i,i<k->∃ h:List Int,h.length=32/\(∀ x∈h,0<=x/\x<=255)/\∀ j,j<32->W.cell? ((ad.add (i*32)).add j)=some (.int .u8 (h.getD j 0)):=fun i hi=>by
   have h:=hel i hi;rw[List.getElem?_eq_getElem (by omega),c32,Option.bind_eq_some_iff] at h;obtain⟨cs,hcs,ht⟩:=h;obtain⟨f,h1,h2,rfl⟩:=Vk ht;have hs:=(World.cells?_some hcs).2.2;refine⟨f,h1,h2,fun j hj=>?_⟩;have s:=hs j hj;rw[s];exact zN f j (by omega)
  have F:∃ f:Nat->List Int,∀ i,i<k->(f i).length=32/\(∀ x∈f i,0<=x/\x<=255)/\∀ j,j<32->W.cell? ((ad.add (i*32)).add j)=some (.int .u8 ((f i).getD j 0)):=by
   refine⟨fun i=>if hi:i<k then (each i hi).choose else [],fun i hi=>?_⟩;simp only[hi,dif_pos];exact(each i hi).choose_spec
  obtain⟨f,hf2⟩:=F
  have hrange:∀ i,i<k->∀ j,j<32->0<=(f i).getD j 0/\(f i).getD j 0<=255:=fun i hi j hj=>by
   rw[List.getD_eq_getElem?_getD,List.getElem?_eq_getElem (by rw[(hf2 i hi).1];exact hj)];exact(hf2 i hi).2.1 _ (List.getElem_mem _)
  refine⟨(List.range (32*k)).map fun m=>(f (m / 32)).getD (m % 32) 0,⟨by simp,fun h0k=>?_,fun x hx=>?_⟩,(fun e=>by cases e),by omega⟩
  ·obtain⟨b,off,spot⟩:=ad
   have hc:=(hf2 0 h0k).2.2 0 (by decide);have hspot:spot=none:=by simpa[Addr.add] using World.cell?_spot hc
   subst hspot;refine⟨b,off,rfl,?_,fun m hm=>?_⟩
   ·have:=World.block_lt_of_cell? W _ hc
    simpa[Addr.add] using this
   ·have h1:=(hf2 (m / 32) (by omega)).2.2 (m % 32) (by omega)
    rw[zY,zY] at h1;rw[List.getD_eq_getElem?_getD,List.getElem?_map,List.getElem?_range hm];simp only[Option.map_some,Option.getD_some];rw[<-h1];congr 2
    omega
  ·simp only[List.mem_map,List.mem_range] at hx
   obtain⟨m,hm,rfl⟩:=hx;exact hrange _ (by omega) _ (by omega)
theorem Vl{H:Type}{enc:TypeId × Value->H}{W:World}{a:Option Addr}{k c:Nat}{d:DataW H}{ps:List MemPlace}(hd:DataW.Trod enc Tryz.prog W 0 (fun _=>true) true 26 (.slice a k c) d ps):∃ l:List Int,Flat W a k l/\(a=none->c=0)/\k<=c:=by
 obtain⟨fuel,hf⟩:=hd;exact Mb (by simpa[Value.cells] using hf)
theorem Vm{H:Type}{enc:TypeId × Value->H}{W:World}{a:Option Addr}{len cap:Nat}{d:DataW H}{ps:List MemPlace}(hd:DataW.Trod enc Tryz.prog W 0 (fun _=>true) true 27 (.slice a len cap) d ps):
  ∃ l:List Int,Bytes W a len l/\(a=none->cap=0)/\len<=cap:=by
 obtain⟨fuel,hf⟩:=hd;rcases open_ints Tryz.underlying27 Tryz.underlying5 (by kernel_rfl) hf with ⟨hcs,_⟩ | ⟨x,l,c,zs,hcs,_,hl,hm,hz,hx,hcell,hwz⟩
 ·simp[Value.cells] at hcs
  obtain⟨rfl,rfl,rfl⟩:=hcs;exact⟨[],⟨rfl,fun h=>by omega,by simp⟩,fun _=>rfl,Nat.le_refl _⟩
 ·simp[Value.cells] at hcs
  obtain⟨rfl,rfl,rfl⟩:=hcs;have hr:IsRow .u8 W (some x) len cap zs:=.inr ⟨_,rfl,hl,hm,by simpa using hz,hcell,hwz⟩;exact⟨_,hr.bytes,(fun e=>by cases e),hl⟩
end Go.Proofs.YtobaogpomcocpaaGreatDoor
namespace Go.Proofs.YtobaogpomcocpaaGreatDoor
open Go.ChangeShapes Go.WideShapes Go.ChangeAt Go.WideMaps Go.WideElems
namespace HX
theorem gRounds:Tryz.prog.globalNamed "massif/hash.rounds"=some 1:=by kernel_rfl
theorem gBegin:Tryz.prog.globalNamed "massif/hash.begin"=some 0:=by kernel_rfl
theorem tRounds:(Tryz.prog.globals[1]?).map (·.type)=some 158:=by kernel_rfl
theorem tBegin:(Tryz.prog.globals[0]?).map (·.type)=some 156:=by kernel_rfl
theorem Gz{H:Type}:(Rows.laid_massif_hash_rounds:DataW H)=.agg (KLIST.map fun n=>.lit (.int .u32 (n:Nat))):=rfl
theorem Mc{H:Type}:(Rows.laid_massif_hash_begin:DataW H)=.agg (BEGIN.map fun n=>.lit (.int .u32 (n:Nat))):=rfl
theorem ud{H:Type}{enc:TypeId × Value->H}{W:World}{base fuel n:Nat}{sp:Nat->Bool}{held:Bool}{t:TypeId}{cs:List Value}{ps:List MemPlace}(L:List Nat)(hL:L.length=n)(ht:Tryz.prog.underlying t=some (.array n 155))
  (hd:DataW.trod enc Tryz.prog W base sp held fuel t cs=some (.agg (L.map fun n=>.lit (.int .u32 (n:Nat))),ps))(i:Nat)(hi:i<n):cs[i]?=some (.int .u32 (L.getD i 0:Nat)):=by
 obtain⟨xs,m1,rfl,hx1,hlen,hn,hel⟩:=DataW.trod_array ht hd;have c5:Tryz.prog.cellsOf 155=1:=by kernel_rfl
 simp only[Prod.mk.injEq,DataW.agg.injEq] at hx1;have hx:=hx1.1;have h0:=hel i hi;have hi':i<xs.length:=by omega
 rw[List.getElem?_eq_getElem hi',c5,Nat.mul_one] at h0;obtain⟨k,e1,e2,_⟩:=DataW.trod_int Tryz.underlying155 h0
 have hk:(k:Int)=((L.getD i 0:Nat):Int):=by
  have hz:=congrArg (fun l=>l[i]?) hx;have hT:i<L.length:=by omega
  simp only[List.getElem?_map,List.getElem?_eq_getElem hi',List.getElem?_eq_getElem hT,Option.map_some,e2] at hz;simp at hz;rw[List.getD_eq_getElem?_getD,List.getElem?_eq_getElem hT];simpa using hz.symm
 rw[<-hk];have:=congrArg (fun l=>l[0]?) e1;simpa using this
end HX
end Go.Proofs.YtobaogpomcocpaaGreatDoor
