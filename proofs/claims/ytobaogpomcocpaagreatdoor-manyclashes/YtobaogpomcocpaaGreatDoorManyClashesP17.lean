/- ManyClashes: part 17. -/
import Derived.Test.YtobaogpomcocpaaGreatDoorManyClashesP11
import Derived.Test.YtobaogpomcocpaaGreatDoorManyClashesP13
import Derived.Test.YtobaogpomcocpaaGreatDoorManyClashesP16
set_option maxRecDepth 100000
set_option maxHeartbeats 8000000
open Go.RowKit
namespace Go.Proofs.YtobaogpomcocpaaGreatDoor
theorem Kg(d:Int)(l r:List Int)(hl:IsH l)(hr:IsH r)(w:World):Calls Tryz.prog 68 #[.int .i64 d,.agg (za l).toArray,.agg (za r).toArray] w fun e w'=>e=.returned (.agg (za (zp d l r)).toArray)/\Below w.heap.size w w':=by
 rw[zX hl,zX hr];refine(HX.gT d (FNC l) (FNC r) (yl hl) (yl hr) w).mono ?_;rintro e w' ⟨rfl,hb⟩;exact⟨by rw[xq];rfl,hb⟩
theorem RISES.pair{L:List Nat}:RISES L↔L.Pairwise (·<·):=by
 rw[List.pairwise_iff_getElem];constructor
 ·intro h i j hi hj hij
  exact h i j _ _ hij (List.getElem?_eq_getElem hi) (List.getElem?_eq_getElem hj)
 ·intro h i j x y hij hx hy
  obtain⟨hi,rfl⟩:=List.getElem?_eq_some_iff.1 hx;obtain⟨hj,rfl⟩:=List.getElem?_eq_some_iff.1 hy;exact h i j hi hj hij
theorem RISES.und{L:List Nat}(h:RISES L)(h' k:Nat):RISES (UND h' k L):=RISES.pair.2 ((RISES.pair.1 h).filter _)
theorem ZX{L:List Nat}(hR:RISES L)(h k:Nat):UNR h k (UND h k L):=by
 refine⟨hR.und h k,fun x hx=>?_⟩;have e:=(qS hx).2;have hp:=Nat.two_pow_pos h;have h1:=Nat.div_add_mod x (2 ^ h);have h2:=Nat.mod_lt x hp;rw[e,Nat.mul_comm] at h1;rw[Nat.succ_mul];omega
theorem qO(h k:Nat)(L:List Nat):(UND (h+1) k L).filter (fun y=>decide (y<(2*k+1)*2 ^ h))=UND h (2*k) (UND (h+1) k L)/\(UND (h+1) k L).filter (fun y=>!decide (y<(2*k+1)*2 ^ h))=UND h (2*k+1) (UND (h+1) k L):=by
 constructor
 ·refine List.filter_congr fun y hy=>?_
  have:=ZV (h:=h) (qS hy).2;exact decide_eq_decide.2 this.1
 ·refine List.filter_congr fun y hy=>?_
  have:=ZV (h:=h) (qS hy).2;rw[<-decide_not];exact decide_eq_decide.2 this.2
theorem z1I{d:Int}{h k:Nat}{L:List Nat}{lv nd:List Int}(hL:UND (h+1) k L≠[]):MUP d (h+1) k (UND (h+1) k L) lv nd=(zp d (MUP d h (2*k) (UND h (2*k) (UND (h+1) k L)) lv nd).1 (MUP d h (2*k+1) (UND h (2*k+1) (UND (h+1) k L)) (MUP d h (2*k) (UND h (2*k) (UND (h+1) k L)) lv nd).2.1 (MUP d h (2*k) (UND h (2*k) (UND (h+1) k L)) lv nd).2.2).1,(MUP d h (2*k+1) (UND h (2*k+1) (UND (h+1) k L)) (MUP d h (2*k) (UND h (2*k) (UND (h+1) k L)) lv nd).2.1 (MUP d h (2*k) (UND h (2*k) (UND (h+1) k L)) lv nd).2.2).2):=by
 rw[<-(qO h k L).1,<-(qO h k L).2];generalize UND (h+1) k L=M at *
 cases M with
 | nil=>exact absurd rfl hL
 | cons x l=>rfl
theorem z0i{h k:Nat}{L:List Nat}(hL:UND (h+1) k L≠[]):NEED (h+1) k (UND (h+1) k L)=NEED h (2*k) (UND h (2*k) (UND (h+1) k L)) ++ NEED h (2*k+1) (UND h (2*k+1) (UND (h+1) k L)):=by
 rw[<-(qO h k L).1,<-(qO h k L).2];generalize UND (h+1) k L=M at *
 cases M with
 | nil=>exact absurd rfl hL
 | cons x l=>rfl
theorem z1J(h k:Nat)(L:List Nat):(UND h (2*k) (UND (h+1) k L)).length+(UND h (2*k+1) (UND (h+1) k L)).length=(UND (h+1) k L).length:=by
 rw[<-(qO h k L).1,<-(qO h k L).2];exact jd _ _
theorem Yq{fn:Func}{p q:Tmp}{ty ty2:TypeId}(h:fn.results=#[.cell p ty,.cell q ty2])(tmps:Array Value)(w:World)(g g2:Nat)(v v2:Value)
  (hp:tmps.getD p undef=.pointer (some ⟨g,0,none⟩))(hq:tmps.getD q undef=.pointer (some ⟨g2,0,none⟩))(h1:(loadVar ty ⟨g,0,none⟩).run Tryz.prog w=.ok v w)(h2:(loadVar ty2 ⟨g2,0,none⟩).run Tryz.prog w=.ok v2 w):
  (results fn tmps).run Tryz.prog w=.ok (.tuple #[v,v2]) w:=by
 have hp':tmps[p]?.getD undef=.pointer (some ⟨g,0,none⟩):=by simpa using hp
 have hq':tmps[q]?.getD undef=.pointer (some ⟨g2,0,none⟩):=by simpa using hq
 simp[results,h,hp',hq',asAddr,h1,h2]
def LFT(w:World)(a:Option Addr)(n c:Nat)(l:List Int):Prop:=Flat w a n l/\n<=c
def OVR(w0 w:World)(Y lv nd:List Int)(i j:Nat)(e:Ending)(w':World):Prop:=∃ ya yc xa xc,e=.returned (.tuple #[.agg (za Y).toArray,.agg #[.slice ya i yc,.slice xa j xc]])/\LFT w0 ya i yc lv/\LFT w0 xa j xc nd/\Below w.heap.size w w'
theorem LFT.rest{w:World}{b o n c:Nat}{l:List Int}(h:LFT w (some ⟨b,o,none⟩) n c l)(hn:0<n):LFT w (SLA (some ⟨b,o,none⟩) c 1) (n - 1) (c - 1) (l.drop 32):=⟨h.1.behind 1 hn h.2,by have:=h.2;omega⟩
structure OVB (w W:World) (h k:Nat) (R:Array Value) (b5 b7 b8 b9:Nat):Prop where
 below:Below w.heap.size w W
 spot:Has W b5 #[.int .u8 (h:Int),.int .u64 (k:Int)] 77
 row:Has W b7 R 71
 hash:Has W b8 (za ZND).toArray 23
 left:Has W b9 #[.slice none 0 0,.slice none 0 0] 71
 n:w.heap.size<=b5/\b5<b7/\b7<b8/\b8<b9
theorem OVB.still{w W W':World}{h k b5 b7 b8 b9:Nat}{R:Array Value}(H:OVB w W h k R b5 b7 b8 b9)(hb:Below W.heap.size W W'):OVB w W' h k R b5 b7 b8 b9:=
 ⟨H.below.trans (hb.mono H.below.size),H.spot.keep hb,H.row.keep hb,H.hash.keep hb,H.left.keep hb,H.n⟩
theorem OVB.turn{w W:World}{h k b5 b7 b8 b9:Nat}{R:Array Value}(H:OVB w W h k R b5 b7 b8 b9)(R2:Array Value):OVB w (W.setRow b7 R2) h k R2 b5 b7 b8 b9:=by
 have hn:=H.n;exact⟨zm H.below (by omega) _,H.spot.row_other (by omega) _,H.row.row _,H.hash.row_other (by omega) _,H.left.row_other (by omega) _,H.n⟩
theorem YZ{w W:World}{h k b5 b7 b8 b9:Nat}{R R2:Array Value}{Y:List Int}(H:OVB w W h k R b5 b7 b8 b9):Below w.heap.size w ((W.setRow b8 (za Y).toArray).setRow b9 R2)/\Has ((W.setRow b8 (za Y).toArray).setRow b9 R2) b8 (za Y).toArray 23/\Has ((W.setRow b8 (za Y).toArray).setRow b9 R2) b9 R2 71:=by
 have hn:=H.n;exact⟨zm (zm H.below (by omega) _) (by omega) _,(H.hash.row _).row_other (by omega) _,(H.left.row_other (by omega) _).row _⟩
theorem vp(d:Int)(h k:Nat)(L:List Nat)(a:Option Addr)(n c:Nat)(lv nd:List Int)(ya xa:Option Addr)(i j yc xc:Nat)(w0 w:World)(hb0:Below w0.heap.size w0 w)(hU:(UND h k L)=[])
  (cu:∀ W,Below w.heap.size w W->Calls Tryz.prog 67 #[SPOT h k,.slice a n c] W fun e w'=>∃ a' c',e=.returned (.slice a' (UND h k L).length c')/\w'.ownsRow W.heap.size 24 1 (.slice a' (UND h k L).length c') (UND h k L).length (ze (UND h k L))/\Below W.heap.size W w')
  (hY:LFT w0 ya i yc lv)(hX:LFT w0 xa j xc nd)(hp:0<j):
  Calls Tryz.prog 37 #[.int .i64 d,SPOT h k,.slice a n c,.agg #[.slice ya i yc,.slice xa j xc]] w (OVR w0 w (HSH nd 0) lv (nd.drop 32) i (j - 1)):=by
 obtain⟨g,o,rfl,hg,_⟩:=hX.1.2.1 hp;have lY:=yq hX.1.1 hp;have hpp:(0:Int)<(j:Int):=by omega
 have hsl:=YW g o j xc hp hX.2;have RS:Aside (LFT w0 (SLA (some ⟨g,o,none⟩) xc 1) (j - 1) (xc - 1) (nd.drop 32)):=hX.rest hp
 have hat:w.rangeAt g o (za (HSH nd 0)):=by
  have:=(hX.1.below hb0).at hp;rwa [Nat.zero_mul,Nat.add_zero] at this
 obtain⟨W0,hW0⟩:∃ W0,(((w.alloc (.cells #[.int .u8 (h:Int),.int .u64 (k:Int)] 77)).alloc (.cells #[.slice ya i yc,.slice (some ⟨g,o,none⟩) j xc] 71)).alloc (.cells ZARR 23)).alloc (.cells #[.slice none 0 0,.slice none 0 0] 71)=W0:=⟨_,rfl⟩
 obtain⟨b5,hb5⟩:∃ b,w.heap.size=b:=⟨_,rfl⟩
 obtain⟨b7,hb7⟩:∃ b,b5+1=b:=⟨_,rfl⟩
 obtain⟨b8,hb8⟩:∃ b,b7+1=b:=⟨_,rfl⟩
 obtain⟨b9,hb9⟩:∃ b,b8+1=b:=⟨_,rfl⟩
 have H0:OVB w W0 h k #[.slice ya i yc,.slice (some ⟨g,o,none⟩) j xc] b5 b7 b8 b9:=by
  rw[<-hW0,<-hb9,<-hb8,<-hb7,<-hb5];refine⟨((((Below.refl _ _).alloc (Nat.le_refl _) _).alloc (by simp) _).alloc (by simp;omega) _).alloc (by simp;omega) _,(((Has.new _ _ _).alloc _).alloc _).alloc _,((Has.at _ _ _ (by simp)).alloc _).alloc _,by rw[zQ];exact(Has.at _ _ _ (by simp)).alloc _,Has.at _ _ _ (by simp),by omega,by omega,by omega,by omega⟩
 have x0:=H0.spot.cell 0;have x1:=H0.spot.cell 1;have ck:=cu W0 H0.below;have hsp:SPOT h k=.agg #[.int .u8 (h:Int),.int .u64 (k:Int)]:=rfl;have hgl:g<w.heap.size:=Nat.lt_of_lt_of_le hg hb0.size;have HA:Aside (OVB w W0 h k #[.slice ya i yc,.slice (some ⟨g,o,none⟩) j xc] b5 b7 b8 b9/\LFT w0 ya i yc lv/\w.rangeAt g o (za (HSH nd 0))/\g<w.heap.size):=⟨H0,hY,hat,hgl⟩
 have hm0:(UND h k L).length=0:=by rw[hU];rfl
 rw[hm0,hsp] at ck;rw[hsp];clear cu hY hX hp H0 hg hU hsp hat hgl hb0;generalize HSH nd 0=Y at *
 generalize nd.drop 32=l1 at *
 generalize SLA (some ⟨g,o,none⟩) xc 1=a1 at *
 generalize j - 1=n1 at *
 generalize xc - 1=c1 at *
 go_enter Tryz.func37,Tryz.ntmps37;go_upto_region 1 with fail
 clear hW0 hb5 hb7 hb8 hb9;go_wp2_with fail
 refine ck.mono ?_;rintro e w1 ⟨am,cm,rfl,hom,hb1⟩;clear ck x0 x1;have H1:=HA.out.1.still hb1;have y0:=H1.spot.cell 0;have hrg:w1.rangeAt g o (za Y):=fun q v hv=>(H1.below.cell (p:=⟨g,o+q,none⟩) HA.out.2.2.2).trans (HA.out.2.2.1 q v hv);have B1:Aside (OVB w w1 h k #[.slice ya i yc,.slice (some ⟨g,o,none⟩) j xc] b5 b7 b8 b9/\w1.rangeAt g o (za Y)):=⟨H1,hrg⟩
 clear hom hb1 H1 hrg;go_upto_region 3 with fail
 refine z2P w1 b7 b8 b9 g o j xc n1 c1 i yc a1 ya Y lY hpp hsl (fun W=>W=w1.drew) (fun W=>W=w1.drew.setRow b8 (za Y).toArray) (fun W=>W=(w1.drew.setRow b8 (za Y).toArray).setRow b9 #[.slice ya i yc,.slice a1 n1 c1]) rfl ?_ ?_ ?_ ?_ ?_ ?_ ?_ (fun _ _ _ _ _ h=>h) ?_
 ·rintro _ rfl
  exact⟨B1.out.2,B1.out.1.row.cell 1,B1.out.1.row.cell 0⟩
 ·rintro _ rfl
  have hn:=B1.out.1.n;have hgl:=HA.out.2.2.2;exact⟨fun q v hv=>(World.cell?_of_block (w:=w1) (by exact setRow_other _ b8 g _ (by omega))).trans (B1.out.2 q v hv),(B1.out.1.row.row_other (by omega) _).cell 1,(B1.out.1.row.row_other (by omega) _).cell 0⟩
 ·rintro _ rfl
  have hn:=B1.out.1.n;have hgl:=HA.out.2.2.2;exact⟨fun q v hv=>(World.cell?_of_block (w:=w1) (by exact(setRow_other _ b9 g _ (by omega)).trans (setRow_other _ b8 g _ (by omega)))).trans (B1.out.2 q v hv),((B1.out.1.row.row_other (by omega) _).row_other (by omega) _).cell 1,((B1.out.1.row.row_other (by omega) _).row_other (by omega) _).cell 0⟩
 ·rintro _ rfl
  exact B1.out.1.hash
 ·rintro _ rfl
  rfl
 ·rintro _ rfl
  have hn:=B1.out.1.n;exact B1.out.1.left.row_other (by omega) _
 ·rintro _ rfl
  rfl
 ·rintro w2 rfl
  dsimp only;have hbd:Below w1.heap.size w1 w1.drew:=(Below.refl _ w1).drew;have h8:=YZ (Y:=Y) (R2:=#[.slice ya i yc,.slice a1 n1 c1]) (B1.out.1.still hbd);clear B1;generalize (w1.drew.setRow b8 (za Y).toArray).setRow b9 #[.slice ya i yc,.slice a1 n1 c1]=w3 at *
  go_wp2_with fail
  exact bodyPost_ret (v:=.tuple #[.agg (za Y).toArray,.agg #[.slice ya i yc,.slice a1 n1 c1]]) (Yq rfl _ _ b8 b9 _ _ rfl rfl (run_loadVar_row _ b8 23 23 _ (0,0) _ h8.2.1 Tryz.underlying23 rfl (zd lY)) (run_loadVar_row _ b9 71 71 _ (0,0) _ h8.2.2 Tryz.underlying71 rfl (by kernel_rfl))) rfl ⟨_,_,_,_,rfl,HA.out.2.1,RS.out,h8.1⟩
theorem gW(d:Int)(h k:Nat)(hh:h=0)(L:List Nat)(a:Option Addr)(n c:Nat)(lv nd:List Int)(ya xa:Option Addr)(i j yc xc:Nat)(w0 w:World)(hb0:Below w0.heap.size w0 w)(hU:(UND h k L)≠[])
  (cu:∀ W,Below w.heap.size w W->Calls Tryz.prog 67 #[SPOT h k,.slice a n c] W fun e w'=>∃ a' c',e=.returned (.slice a' (UND h k L).length c')/\w'.ownsRow W.heap.size 24 1 (.slice a' (UND h k L).length c') (UND h k L).length (ze (UND h k L))/\Below W.heap.size W w')
  (hY:LFT w0 ya i yc lv)(hX:LFT w0 xa j xc nd)(hp:0<i):
  Calls Tryz.prog 37 #[.int .i64 d,SPOT h k,.slice a n c,.agg #[.slice ya i yc,.slice xa j xc]] w (OVR w0 w (HSH lv 0) (lv.drop 32) nd (i - 1) j):=by
 obtain⟨g,o,rfl,hg,_⟩:=hY.1.2.1 hp;have lY:=yq hY.1.1 hp;have hpp:(0:Int)<(i:Int):=by omega
 have hsl:=YW g o i yc hp hY.2;have RS:Aside (LFT w0 (SLA (some ⟨g,o,none⟩) yc 1) (i - 1) (yc - 1) (lv.drop 32)):=hY.rest hp
 have hat:w.rangeAt g o (za (HSH lv 0)):=by
  have:=(hY.1.below hb0).at hp;rwa [Nat.zero_mul,Nat.add_zero] at this
 obtain⟨W0,hW0⟩:∃ W0,(((w.alloc (.cells #[.int .u8 (h:Int),.int .u64 (k:Int)] 77)).alloc (.cells #[.slice (some ⟨g,o,none⟩) i yc,.slice xa j xc] 71)).alloc (.cells ZARR 23)).alloc (.cells #[.slice none 0 0,.slice none 0 0] 71)=W0:=⟨_,rfl⟩
 obtain⟨b5,hb5⟩:∃ b,w.heap.size=b:=⟨_,rfl⟩
 obtain⟨b7,hb7⟩:∃ b,b5+1=b:=⟨_,rfl⟩
 obtain⟨b8,hb8⟩:∃ b,b7+1=b:=⟨_,rfl⟩
 obtain⟨b9,hb9⟩:∃ b,b8+1=b:=⟨_,rfl⟩
 have H0:OVB w W0 h k #[.slice (some ⟨g,o,none⟩) i yc,.slice xa j xc] b5 b7 b8 b9:=by
  rw[<-hW0,<-hb9,<-hb8,<-hb7,<-hb5];refine⟨((((Below.refl _ _).alloc (Nat.le_refl _) _).alloc (by simp) _).alloc (by simp;omega) _).alloc (by simp;omega) _,(((Has.new _ _ _).alloc _).alloc _).alloc _,((Has.at _ _ _ (by simp)).alloc _).alloc _,by rw[zQ];exact(Has.at _ _ _ (by simp)).alloc _,Has.at _ _ _ (by simp),by omega,by omega,by omega,by omega⟩
 have x0:=H0.spot.cell 0;have x1:=H0.spot.cell 1;have ck:=cu W0 H0.below;have hsp:SPOT h k=.agg #[.int .u8 (h:Int),.int .u64 (k:Int)]:=rfl;have hgl:g<w.heap.size:=Nat.lt_of_lt_of_le hg hb0.size;have HA:Aside (OVB w W0 h k #[.slice (some ⟨g,o,none⟩) i yc,.slice xa j xc] b5 b7 b8 b9/\LFT w0 xa j xc nd/\w.rangeAt g o (za (HSH lv 0))/\g<w.heap.size):=⟨H0,hX,hat,hgl⟩
 have hm0:(((UND h k L).length:Int) == 0)=false:=beq_eq_false_iff_ne.2 (by have:=List.length_pos_iff.2 hU;omega);rw[hsp] at ck;rw[hsp];generalize (UND h k L).length=mm at *
 have HZ:Aside ((h:Int)=0):=by show (h:Int)=0;omega
 clear cu hY hX hp H0 hg hU hsp hat hgl hb0 hh;generalize HSH lv 0=Y at *
 generalize lv.drop 32=l1 at *
 generalize SLA (some ⟨g,o,none⟩) yc 1=a1 at *
 generalize i - 1=n1 at *
 generalize yc - 1=c1 at *
 go_enter Tryz.func37,Tryz.ntmps37;go_upto_region 1 with fail
 clear hW0 hb5 hb7 hb8 hb9;go_wp2_with fail
 refine ck.mono ?_;rintro e w1 ⟨am,cm,rfl,hom,hb1⟩;clear ck x0 x1;have H1:=HA.out.1.still hb1;have y0:w1.cell? ⟨b5,0,none⟩=some (.int .u8 0):=by rw[H1.spot.cell 0,<-HZ.out];rfl
 have hrg:w1.rangeAt g o (za Y):=fun q v hv=>(H1.below.cell (p:=⟨g,o+q,none⟩) HA.out.2.2.2).trans (HA.out.2.2.1 q v hv);have B1:Aside (OVB w w1 h k #[.slice (some ⟨g,o,none⟩) i yc,.slice xa j xc] b5 b7 b8 b9/\w1.rangeAt g o (za Y)):=⟨H1,hrg⟩
 clear hom hb1 H1 hrg;go_upto_region 5 with fail
 refine z2Q w1 b7 b8 b9 g o i yc n1 c1 j xc a1 xa Y lY hpp hsl (fun W=>W=w1.drew) (fun W=>W=w1.drew.setRow b8 (za Y).toArray) (fun W=>W=(w1.drew.setRow b8 (za Y).toArray).setRow b9 #[.slice a1 n1 c1,.slice xa j xc]) rfl ?_ ?_ ?_ ?_ ?_ ?_ ?_ (fun _ _ _ _ _ h=>h) ?_
 ·rintro _ rfl
  exact⟨B1.out.2,B1.out.1.row.cell 0,B1.out.1.row.cell 1⟩
 ·rintro _ rfl
  have hn:=B1.out.1.n;have hgl:=HA.out.2.2.2;exact⟨fun q v hv=>(World.cell?_of_block (w:=w1) (by exact setRow_other _ b8 g _ (by omega))).trans (B1.out.2 q v hv),(B1.out.1.row.row_other (by omega) _).cell 0,(B1.out.1.row.row_other (by omega) _).cell 1⟩
 ·rintro _ rfl
  have hn:=B1.out.1.n;have hgl:=HA.out.2.2.2;exact⟨fun q v hv=>(World.cell?_of_block (w:=w1) (by exact(setRow_other _ b9 g _ (by omega)).trans (setRow_other _ b8 g _ (by omega)))).trans (B1.out.2 q v hv),((B1.out.1.row.row_other (by omega) _).row_other (by omega) _).cell 0,((B1.out.1.row.row_other (by omega) _).row_other (by omega) _).cell 1⟩
 ·rintro _ rfl
  exact B1.out.1.hash
 ·rintro _ rfl
  rfl
 ·rintro _ rfl
  have hn:=B1.out.1.n;exact B1.out.1.left.row_other (by omega) _
 ·rintro _ rfl
  rfl
 ·rintro w2 rfl
  dsimp only;have hbd:Below w1.heap.size w1 w1.drew:=(Below.refl _ w1).drew;have h8:=YZ (Y:=Y) (R2:=#[.slice a1 n1 c1,.slice xa j xc]) (B1.out.1.still hbd);clear B1;generalize (w1.drew.setRow b8 (za Y).toArray).setRow b9 #[.slice a1 n1 c1,.slice xa j xc]=w3 at *
  go_wp2_with fail
  exact bodyPost_ret (v:=.tuple #[.agg (za Y).toArray,.agg #[.slice a1 n1 c1,.slice xa j xc]]) (Yq rfl _ _ b8 b9 _ _ rfl rfl (run_loadVar_row _ b8 23 23 _ (0,0) _ h8.2.1 Tryz.underlying23 rfl (zd lY)) (run_loadVar_row _ b9 71 71 _ (0,0) _ h8.2.2 Tryz.underlying71 rfl (by kernel_rfl))) rfl ⟨_,_,_,_,rfl,RS.out,HA.out.2.1,h8.1⟩
theorem xD{w:World}{B n c:Nat}{a:Option Addr}{L:List Nat}(h:w.ownsRow B 24 1 (.slice a n c) n (ze L))(hl:L.length=n):NUML w a L:=fun h0=>by
 rcases h.2 with ⟨e,h1⟩ | ⟨g,cap,cur,e,hb,hg,_⟩
 ·omega
 ·cases e
  refine⟨g,0,rfl,(Array.getElem?_eq_some_iff.1 hg).1,fun i x hx=>?_⟩;have hi:i<L.length:=(List.getElem?_eq_some_iff.1 hx).1;rw[Nat.zero_add,h.cellAt i (by omega),ze,List.getElem?_map,hx];rfl
theorem NUML.keep{w w':World}{a:Option Addr}{L:List Nat}(h:NUML w a L)(hb:Below w.heap.size w w'):NUML w' a L:=fun h0=>by
 obtain⟨b,o,e,hl,hc⟩:=h h0;exact⟨b,o,e,Nat.lt_of_lt_of_le hl hb.size,fun i x hx=>(hb.cell (p:=⟨b,o+i,none⟩) hl).trans (hc i x hx)⟩
theorem gX(d:Int)(h k:Nat)(hh:h<62)(hk:2*k+1<2 ^ 64)(M:List Nat)(a:Option Addr)(n c:Nat)(lv1 nd1 lv2 nd2 A B:List Int)(ya xa:Option Addr)(i j yc xc i1 j1 i2 j2:Nat)(w0 w:World)(hb0:Below w0.heap.size w0 w)(hU:M≠[])(hA:IsH A)(hB:IsH B)
  (cu:∀ W,Below w.heap.size w W->Calls Tryz.prog 67 #[SPOT (h+1) k,.slice a n c] W fun e w'=>∃ a' c',e=.returned (.slice a' M.length c')/\w'.ownsRow W.heap.size 24 1 (.slice a' M.length c') M.length (ze M)/\Below W.heap.size W w')
  (c1:∀ W a' c',Below w0.heap.size w0 W->NUML W a' M->Calls Tryz.prog 37 #[.int .i64 d,SPOT h (2*k),.slice a' M.length c',.agg #[.slice ya i yc,.slice xa j xc]] W (OVR w0 W A lv1 nd1 i1 j1))
  (c2:∀ W a' c' ya' yc' xa' xc',Below w0.heap.size w0 W->NUML W a' M->LFT w0 ya' i1 yc' lv1->LFT w0 xa' j1 xc' nd1->Calls Tryz.prog 37 #[.int .i64 d,SPOT h (2*k+1),.slice a' M.length c',.agg #[.slice ya' i1 yc',.slice xa' j1 xc']] W (OVR w0 W B lv2 nd2 i2 j2)):
  Calls Tryz.prog 37 #[.int .i64 d,SPOT (h+1) k,.slice a n c,.agg #[.slice ya i yc,.slice xa j xc]] w (OVR w0 w (zp d A B) lv2 nd2 i2 j2):=by
 obtain⟨H,hH⟩:∃ H,h+1=H:=⟨_,rfl⟩
 rw[hH] at cu ⊢;have e1:IntKind.u8.wrap ((H:Int) - 1)=(h:Int):=by subst hH;simp[IntKind.wrap,IntKind.bits,IntKind.signed];omega
 have e2:IntKind.u64.wrap (2*(k:Int))=((2*k:Nat):Int):=by rw[IntKind.wrap_u64];omega
 have e3:IntKind.u64.wrap (((2*k:Nat):Int)+1)=((2*k+1:Nat):Int):=by rw[IntKind.wrap_u64];omega
 have hz:((H:Int) == 0)=false:=beq_eq_false_iff_ne.2 (by omega);have hm0:((M.length:Int) == 0)=false:=beq_eq_false_iff_ne.2 (by have:=List.length_pos_iff.2 hU;omega);have lA:=hA.1;have lB:=hB.1;have hY:=xC d A B;have CN:Aside (∀ W,Calls Tryz.prog 68 #[.int .i64 d,.agg (za A).toArray,.agg (za B).toArray] W fun e w'=>e=.returned (.agg (za (zp d A B)).toArray)/\Below W.heap.size W w'):=fun W=>Kg d A B hA hB W;generalize zp d A B=Y at *
 have lY:=hY.1;obtain⟨W0,hW0⟩:∃ W0,(((w.alloc (.cells #[.int .u8 (H:Int),.int .u64 (k:Int)] 77)).alloc (.cells #[.slice ya i yc,.slice xa j xc] 71)).alloc (.cells ZARR 23)).alloc (.cells #[.slice none 0 0,.slice none 0 0] 71)=W0:=⟨_,rfl⟩
 obtain⟨b5,hb5⟩:∃ b,w.heap.size=b:=⟨_,rfl⟩
 obtain⟨b7,hb7⟩:∃ b,b5+1=b:=⟨_,rfl⟩
 obtain⟨b8,hb8⟩:∃ b,b7+1=b:=⟨_,rfl⟩
 obtain⟨b9,hb9⟩:∃ b,b8+1=b:=⟨_,rfl⟩
 have H0:OVB w W0 H k #[.slice ya i yc,.slice xa j xc] b5 b7 b8 b9:=by
  rw[<-hW0,<-hb9,<-hb8,<-hb7,<-hb5];refine⟨((((Below.refl _ _).alloc (Nat.le_refl _) _).alloc (by simp) _).alloc (by simp;omega) _).alloc (by simp;omega) _,(((Has.new _ _ _).alloc _).alloc _).alloc _,((Has.at _ _ _ (by simp)).alloc _).alloc _,by rw[zQ];exact(Has.at _ _ _ (by simp)).alloc _,Has.at _ _ _ (by simp),by omega,by omega,by omega,by omega⟩
 have x0:=H0.spot.cell 0;have x1:=H0.spot.cell 1;have ck:=cu W0 H0.below;have hsp:SPOT H k=.agg #[.int .u8 (H:Int),.int .u64 (k:Int)]:=rfl;have hs1:SPOT h (2*k)=.agg #[.int .u8 (h:Int),.int .u64 ((2*k:Nat):Int)]:=rfl;have hs2:SPOT h (2*k+1)=.agg #[.int .u8 (h:Int),.int .u64 ((2*k+1:Nat):Int)]:=rfl;rw[hsp] at ck;rw[hsp];rw[hs1] at c1;rw[hs2] at c2;have HA:Aside (OVB w W0 H k #[.slice ya i yc,.slice xa j xc] b5 b7 b8 b9/\Below w0.heap.size w0 w/\b9<W0.heap.size):=⟨H0,hb0,H0.left.lt⟩
 have HS:Aside (w0.heap.size<=w.heap.size):=hb0.size;have C1:Aside _:=c1;have C2:Aside _:=c2;have E12:Aside (IntKind.u8.wrap ((H:Int) - 1)=(h:Int)/\IntKind.u64.wrap (2*(k:Int))=((2*k:Nat):Int)/\IntKind.u64.wrap (((2*k:Nat):Int)+1)=((2*k+1:Nat):Int)):=⟨e1,e2,e3⟩
 have HZ:Aside (((H:Int) == 0)=false/\((M.length:Int) == 0)=false):=⟨hz,hm0⟩
 clear cu hsp hs1 hs2 H0 hU hb0 c1 c2 hH hh hk hA hB hY e1 e2 e3 hz hm0;generalize 2*k=k2 at *
 go_enter Tryz.func37,Tryz.ntmps37;go_upto_region 1 with fail
 clear hW0 hb5 hb7 hb8 hb9;go_wp2_with fail
 refine ck.mono ?_;rintro e w1 ⟨am,cm,rfl,hom,hb1⟩;clear ck x0 x1;have H1:=HA.out.1.still hb1
 have B1:Aside (OVB w w1 H k #[.slice ya i yc,.slice xa j xc] b5 b7 b8 b9/\NUML w1 am M/\(∀ x,am=some x->b9<x.block)/\Below w0.heap.size w0 w1):=by
  refine⟨H1,xD hom rfl,fun x hx=>?_,HA.out.2.1.trans (H1.below.mono HA.out.2.1.size)⟩;subst hx;rcases hom.2 with ⟨e,_⟩ | ⟨g,cap,cur,e,hb,_⟩
  ·cases e
  ·cases e
   exact Nat.lt_of_lt_of_le HA.out.2.2 hb
 have y0:=H1.spot.cell 0;have y1:=H1.spot.cell 1;have z0:=H1.row.cell 0;have z1:=H1.row.cell 1;have hz:=HZ.out.1;have hm0:=HZ.out.2;have e1:=E12.out.1;have e2:=E12.out.2.1;have e3:=E12.out.2.2;have co:=C1.out w1 am cm B1.out.2.2.2 B1.out.2.1;clear hom hb1 H1 C1 HA;go_upto_region 6 with fail
 go_wp2_with fail
 refine co.mono ?_;rintro e w2 ⟨ya1,yc1,xa1,xc1,rfl,l1,l2,hb2⟩;clear co y0 y1 z0 z1;have H2:=B1.out.1.still hb2;have hr2:=H2.row.alloc (.cells (za A).toArray 23)
 go_upto_region 7 with (first
  | (refine wpList_store_row rfl 23 (.tmp 11) (.tmp 54) rfl _ _ rfl rfl 23 _ (Has.new w2 _ _) (zd lA) (by simp[za,lA]) (zx A) ?_;rw[World.setRow_alloc_new])
  | (refine wpList_store_row rfl 71 (.tmp 7) (.tmp 55) rfl _ _ rfl rfl 71 _ hr2 (by kernel_rfl) rfl (by simp[Value.oneCell']) ?_))
 have B3:Aside (OVB w ((w2.alloc (.cells (za A).toArray 23)).setRow b7 #[.slice ya1 i1 yc1,.slice xa1 j1 xc1]) H k #[.slice ya1 i1 yc1,.slice xa1 j1 xc1] b5 b7 b8 b9/\NUML ((w2.alloc (.cells (za A).toArray 23)).setRow b7 #[.slice ya1 i1 yc1,.slice xa1 j1 xc1]) am M/\Below w0.heap.size w0 ((w2.alloc (.cells (za A).toArray 23)).setRow b7 #[.slice ya1 i1 yc1,.slice xa1 j1 xc1])/\Has ((w2.alloc (.cells (za A).toArray 23)).setRow b7 #[.slice ya1 i1 yc1,.slice xa1 j1 xc1]) w2.heap.size (za A).toArray 23/\LFT w0 ya1 i1 yc1 lv1/\LFT w0 xa1 j1 xc1 nd1/\b9<w2.heap.size/\∀ x,am=some x->b9<x.block):=by
  have hba:Below w2.heap.size w2 (w2.alloc (.cells (za A).toArray 23)):=(Below.refl _ _).alloc (Nat.le_refl _) _;have H3:=H2.still hba;have hn:=H2.n;have hlt:=H2.left.lt;refine⟨H3.turn _,fun h0=>?_,zm ((B1.out.2.2.2.trans (hb2.mono B1.out.2.2.2.size)).trans (hba.mono (Nat.le_trans B1.out.2.2.2.size hb2.size))) ?_ _,(Has.new _ _ _).row_other (by omega) _,l1,l2,hlt,B1.out.2.2.1⟩
  ·obtain⟨b,o,e,hl,hc⟩:=B1.out.2.1 h0
   have hbb:b9<b:=B1.out.2.2.1 _ e;refine⟨b,o,e,?_,fun q x hx=>?_⟩
   ·have h1:=hb2.size
    have h2:=hba.size;have h3:((w2.alloc (.cells (za A).toArray 23)).setRow b7 #[.slice ya1 i1 yc1,.slice xa1 j1 xc1]).heap.size=(w2.alloc (.cells (za A).toArray 23)).heap.size:=by simp[World.setRow]
    omega
   ·refine(World.cell?_of_block (w:=w1) (by exact(setRow_other _ b7 b _ (by omega)).trans ((hba.block b (by have:=hb2.size;omega)).trans (hb2.block b hl)))).trans (hc q x hx)
  ·have h1:=B1.out.1.below.size
   have:=HS.out;omega
 clear B1 H2 hr2 hb2 l1 l2;generalize (w2.alloc (.cells (za A).toArray 23)).setRow b7 #[.slice ya1 i1 yc1,.slice xa1 j1 xc1]=w3 at *
 generalize w2.heap.size=bl at *
 have co:=C2.out w3 am cm ya1 yc1 xa1 xc1 B3.out.2.2.1 B3.out.2.1 B3.out.2.2.2.2.1 B3.out.2.2.2.2.2.1;have y0:=B3.out.1.spot.cell 0;have y1:=B3.out.1.spot.cell 1;have z0:=B3.out.1.row.cell 0;have z1:=B3.out.1.row.cell 1;clear C2;go_wp2_with fail
 refine co.mono ?_;rintro e w4 ⟨ya2,yc2,xa2,xc2,rfl,l1,l2,hb4⟩;clear co y0 y1 z0 z1;have H4:=B3.out.1.still hb4;have hr4:=H4.row.alloc (.cells (za B).toArray 23)
 go_upto_region 8 with (first
  | (refine wpList_store_row rfl 23 (.tmp 12) (.tmp 69) rfl _ _ rfl rfl 23 _ (Has.new w4 _ _) (zd lB) (by simp[za,lB]) (zx B) ?_;rw[World.setRow_alloc_new])
  | (refine wpList_store_row rfl 71 (.tmp 7) (.tmp 70) rfl _ _ rfl rfl 71 _ hr4 (by kernel_rfl) rfl (by simp[Value.oneCell']) ?_))
 have B5:Aside (OVB w ((w4.alloc (.cells (za B).toArray 23)).setRow b7 #[.slice ya2 i2 yc2,.slice xa2 j2 xc2]) H k #[.slice ya2 i2 yc2,.slice xa2 j2 xc2] b5 b7 b8 b9/\Has ((w4.alloc (.cells (za B).toArray 23)).setRow b7 #[.slice ya2 i2 yc2,.slice xa2 j2 xc2]) bl (za A).toArray 23/\Has ((w4.alloc (.cells (za B).toArray 23)).setRow b7 #[.slice ya2 i2 yc2,.slice xa2 j2 xc2]) w4.heap.size (za B).toArray 23/\LFT w0 ya2 i2 yc2 lv2/\LFT w0 xa2 j2 xc2 nd2/\b9<bl/\b9<w4.heap.size):=by
  have hba:Below w4.heap.size w4 (w4.alloc (.cells (za B).toArray 23)):=(Below.refl _ _).alloc (Nat.le_refl _) _;have hn:=H4.n;have hlt:=H4.left.lt;have hbl:=B3.out.2.2.2.2.2.2.1;exact⟨(H4.still hba).turn _,((B3.out.2.2.2.1.keep hb4).alloc _).row_other (by omega) _,(Has.new _ _ _).row_other (by omega) _,l1,l2,hbl,hlt⟩
 clear B3 H4 hr4 hb4 l1 l2;generalize (w4.alloc (.cells (za B).toArray 23)).setRow b7 #[.slice ya2 i2 yc2,.slice xa2 j2 xc2]=w5 at *
 generalize w4.heap.size=br at *
 have hran:∀ {W:World} {g:Nat} {X:List Int},Has W g (za X).toArray 23->W.rangeAt g 0 (za X):=fun h q v hv=>by rw[Nat.zero_add,h.cell,List.getElem?_toArray];exact hv
 refine z2R w5 d b7 b8 b9 bl br i2 yc2 j2 xc2 ya2 xa2 A B Y lA lB lY (fun W=>W=w5.drew) (fun W=>Below w5.heap.size w5 W) (fun W=>∃ w6,Below w5.heap.size w5 w6/\W=w6.setRow b8 (za Y).toArray) (fun W=>∃ w6,Below w5.heap.size w5 w6/\W=(w6.setRow b8 (za Y).toArray).setRow b9 #[.slice ya2 i2 yc2,.slice xa2 j2 xc2]) rfl ?_ ?_ ?_ ?_ ?_ ?_ ?_ ?_ ?_ (fun _ _ _ _ _ h=>h) ?_
 ·rintro _ rfl
  exact⟨hran B5.out.2.1,hran B5.out.2.2.1,B5.out.1.row.cell 0,B5.out.1.row.cell 1⟩
 ·intro W hW
  exact⟨hran (B5.out.2.1.keep hW),hran (B5.out.2.2.1.keep hW),(B5.out.1.row.keep hW).cell 0,(B5.out.1.row.keep hW).cell 1⟩
 ·rintro _ ⟨w6,hW,rfl⟩
  have hn:=B5.out.1.n;have h1:=B5.out.2.2.2.2.2;exact⟨hran ((B5.out.2.1.keep hW).row_other (by omega) _),hran ((B5.out.2.2.1.keep hW).row_other (by omega) _),((B5.out.1.row.keep hW).row_other (by omega) _).cell 0,((B5.out.1.row.keep hW).row_other (by omega) _).cell 1⟩
 ·rintro _ ⟨w6,hW,rfl⟩
  have hn:=B5.out.1.n;have h1:=B5.out.2.2.2.2.2;exact⟨hran (((B5.out.2.1.keep hW).row_other (by omega) _).row_other (by omega) _),hran (((B5.out.2.2.1.keep hW).row_other (by omega) _).row_other (by omega) _),(((B5.out.1.row.keep hW).row_other (by omega) _).row_other (by omega) _).cell 0,(((B5.out.1.row.keep hW).row_other (by omega) _).row_other (by omega) _).cell 1⟩
 ·rintro _ rfl
  refine(CN.out w5.drew).mono ?_;rintro e w' ⟨rfl,hb⟩;exact⟨rfl,(Below.refl _ w5).drew.trans hb⟩
 ·intro W hW
  exact B5.out.1.hash.keep hW
 ·intro W hW
  exact⟨W,hW,rfl⟩
 ·rintro _ ⟨w6,hW,rfl⟩
  have hn:=B5.out.1.n;exact(B5.out.1.left.keep hW).row_other (by omega) _
 ·rintro _ ⟨w6,hW,rfl⟩
  exact⟨w6,hW,rfl⟩
 ·rintro w7 ⟨w6,hW,rfl⟩
  dsimp only;have h8:=YZ (Y:=Y) (R2:=#[.slice ya2 i2 yc2,.slice xa2 j2 xc2]) (B5.out.1.still hW);have LL:Aside (LFT w0 ya2 i2 yc2 lv2/\LFT w0 xa2 j2 xc2 nd2):=⟨B5.out.2.2.2.1,B5.out.2.2.2.2.1⟩
  clear B5 hW CN;generalize (w6.setRow b8 (za Y).toArray).setRow b9 #[.slice ya2 i2 yc2,.slice xa2 j2 xc2]=w7 at *
  go_wp2_with fail
  exact bodyPost_ret (v:=.tuple #[.agg (za Y).toArray,.agg #[.slice ya2 i2 yc2,.slice xa2 j2 xc2]]) (Yq rfl _ _ b8 b9 _ _ rfl rfl (run_loadVar_row _ b8 23 23 _ (0,0) _ h8.2.1 Tryz.underlying23 rfl (zd lY)) (run_loadVar_row _ b9 71 71 _ (0,0) _ h8.2.2 Tryz.underlying71 rfl (by kernel_rfl))) rfl ⟨_,_,_,_,rfl,LL.out.1,LL.out.2,h8.1⟩
theorem z0j(d:Int)(w0:World):∀ (h k:Nat),Node h k->∀ (L:List Nat) (a:Option Addr) (n c:Nat) (lv nd:List Int) (ya xa:Option Addr) (i j yc xc:Nat) (w:World),L.length=n->n<2 ^ 20->(∀ x∈L,x<2 ^ 64)->RISES L->NUML w a L->Below w0.heap.size w0 w->LFT w0 ya i yc lv->LFT w0 xa j xc nd->(UND h k L).length<=i->(NEED h k (UND h k L)).length<=j->
   Calls Tryz.prog 37 #[.int .i64 d,SPOT h k,.slice a n c,.agg #[.slice ya i yc,.slice xa j xc]] w (OVR w0 w (MUP d h k (UND h k L) lv nd).1 (MUP d h k (UND h k L) lv nd).2.1 (MUP d h k (UND h k L) lv nd).2.2 (i - (UND h k L).length) (j - (NEED h k (UND h k L)).length)):=by
 intro h;induction h with
 | zero=>
   intro k hN L a n c lv nd ya xa i j yc xc w hl hn hx hR hL hb hY hX hi hj;have cu:∀ W,Below w.heap.size w W->_:=fun W hW=>jm 0 k (by decide) L a n c hl hn hx W (hL.keep hW);by_cases hU:UND 0 k L=[]
   ·rw[hU] at hi hj
    have:=vp d 0 k L a n c lv nd ya xa i j yc xc w0 w hb hU cu hY hX hj;rw[hU];exact this
   ·have hu:=ZX hR 0 k
    obtain⟨x,l,e⟩:∃ x l,UND 0 k L=x :: l:=by
     cases hM:UND 0 k L with
     | nil=>exact absurd hM hU
     | cons x l=>exact⟨x,l,rfl⟩
    rw[e] at hu;obtain rfl:=hu.leaf;have:=gW d 0 k rfl L a n c lv nd ya xa i j yc xc w0 w hb hU cu hY hX (by rw[e] at hi;exact hi);rw[e];exact this
 | succ h ih=>
   intro k hN L a n c lv nd ya xa i j yc xc w hl hn hx hR hL hb hY hX hi hj;have hh:h<62:=by have:=hN.1;omega
   have cu:∀ W,Below w.heap.size w W->_:=fun W hW=>jm (h+1) k (by omega) L a n c hl hn hx W (hL.keep hW);by_cases hU:UND (h+1) k L=[]
   ·rw[hU] at hi hj
    have:=vp d (h+1) k L a n c lv nd ya xa i j yc xc w0 w hb hU cu hY hX hj;rw[hU];exact this
   ·obtain⟨hNl,hNr⟩:=hN.kid
    have hs:=z1J h k L;have hN':=z0i hU;have hM':=z1I (d:=d) (lv:=lv) (nd:=nd) hU;have hU1:=ZX (hR.und (h+1) k) h (2*k);have hU2:=ZX (hR.und (h+1) k) h (2*k+1);have hxM:∀ x∈UND (h+1) k L,x<2 ^ 64:=fun x hx'=>hx x (qS hx').1;have hRM:=hR.und (h+1) k;have hlM:=xQ (h+1) k L;rw[hN',List.length_append] at hj ⊢;rw[hM'];clear hM' hN';generalize hMM:UND (h+1) k L=M at *
    have s1:=yj d h (2*k) (UND h (2*k) M) lv nd i j hU1 ⟨hY.1.1,hY.1.2.2⟩ ⟨hX.1.1,hX.1.2.2⟩ (by omega) (by omega);have s2:=yj d h (2*k+1) (UND h (2*k+1) M) _ _ _ _ hU2 s1.2.1 s1.2.2 (by omega) (by omega)
    have co:=gX d h k hh (by have:=hNr.index_lt;omega) M a n c _ _ _ _ _ _ ya xa i j yc xc _ _ _ _ w0 w hb hU s1.1 s2.1 cu
     (fun W a' c' hW hLW=>ih (2*k) hNl M a' M.length c' lv nd ya xa i j yc xc W rfl (by omega) hxM hRM hLW hW hY hX (by omega) (by omega))
     (fun W a' c' ya' yc' xa' xc' hW hLW hY' hX'=>ih (2*k+1) hNr M a' M.length c' _ _ ya' xa' _ _ yc' xc' W rfl (by omega) hxM hRM hLW hW hY' hX' (by omega) (by omega))
    rw[show i - (UND h (2*k) M).length - (UND h (2*k+1) M).length=i - M.length by omega,Nat.sub_sub] at co;exact co
theorem ms{w:World}{B s n:Nat}{t:TypeId}{v:Value}{xs:List Value}(h:w.ownsRow B t s v n xs)(o:Obj):(w.alloc o).ownsRow B t s v n xs:=yx h fun k e=>Below.heap_alloc w o k (h.lt k e).2
@[go_sem] def RN7OPSq0:Oper:=⟨some 27,.buildSlice 72 0 #[],72,"ref.go:35",#[],none⟩
@[go_sem] def RN7OPSq1:Oper:=⟨some 28,.move (.tmp 6),72,"ref.go:35",#[],none⟩
@[go_sem] def RN7OPSq2:Oper:=⟨some 29,.call {callee:=.builtin .append,args:=#[.tmp 27,.tmp 28],argTypes:=#[72,72]},72,"ref.go:35",#[⟨0,.data⟩,⟨1,.data⟩],none⟩
@[go_sem] def RN7OPSq3:Oper:=⟨some 30,.fieldAddr 77 (.tmp 2) 0,0,"ref.go:35",#[],none⟩
@[go_sem] def RN7OPSq4:Oper:=⟨some 31,.load 5 (.tmp 30),5,"ref.go:35",#[⟨3,.data⟩],none⟩
@[go_sem] def RN7OPSq5:Oper:=⟨some 32,.binOp .sub 5 (.tmp 31) (.const (.int .u8 1)) 5,5,"ref.go:35",#[⟨4,.data⟩],none⟩
@[go_sem] def RN7OPSq6:Oper:=⟨some 33,.fieldAddr 77 (.tmp 2) 1,0,"ref.go:35",#[],none⟩
@[go_sem] def RN7OPSq7:Oper:=⟨some 34,.load 24 (.tmp 33),24,"ref.go:35",#[⟨6,.data⟩],none⟩
@[go_sem] def RN7OPSq8:Oper:=⟨some 35,.binOp .mul 24 (.const (.int .u64 2)) (.tmp 34) 24,24,"ref.go:35",#[⟨7,.data⟩],none⟩
@[go_sem] def RN7OPSq9:Oper:=⟨some 36,.binOp .add 24 (.tmp 35) (.const (.int .u64 1)) 24,24,"ref.go:35",#[⟨8,.data⟩],none⟩
@[go_sem] def RN7OPSq10:Oper:=⟨some 37,.build 77 #[(0,.tmp 32),(1,.tmp 36)],77,"ref.go:35",#[⟨5,.data⟩,⟨9,.data⟩],none⟩
@[go_sem] def RN7OPSq11:Oper:=⟨some 38,.move (.tmp 5),25,"ref.go:35",#[],none⟩
@[go_sem] def RN7OPSq12:Oper:=⟨some 39,.call {callee:=.value (.func 62),args:=#[.tmp 37,.tmp 38],argTypes:=#[77,25]},72,"ref.go:35",#[⟨10,.data⟩,⟨11,.data⟩,⟨2,.chain⟩],none⟩
@[go_sem] def RN7OPSq13:Oper:=⟨some 40,.call {callee:=.builtin .append,args:=#[.tmp 29,.tmp 39],argTypes:=#[72,72]},72,"ref.go:35",#[⟨2,.data⟩,⟨12,.data⟩,⟨12,.chain⟩],none⟩
@[go_sem] def RN7OPSq14:Oper:=⟨some 4,.assign (.tmp 40),72,"ref.go:35",#[⟨13,.data⟩,⟨13,.chain⟩,⟨0,.phase⟩,⟨1,.phase⟩,⟨2,.phase⟩,⟨3,.phase⟩,⟨4,.phase⟩,⟨5,.phase⟩,⟨6,.phase⟩,⟨7,.phase⟩,⟨8,.phase⟩,⟨9,.phase⟩,⟨10,.phase⟩,⟨11,.phase⟩,⟨12,.phase⟩,⟨13,.phase⟩],none⟩
def xG:Array Oper:=#[RN7OPSq0,RN7OPSq1,RN7OPSq2,RN7OPSq3,RN7OPSq4,RN7OPSq5,RN7OPSq6,RN7OPSq7,RN7OPSq8,RN7OPSq9,RN7OPSq10,RN7OPSq11,RN7OPSq12,RN7OPSq13,RN7OPSq14]
theorem z2p{Q:Exit->Act->World->Prop}{d f g i j l m n q r s u x y C D E F G I J L M N O P R T U V X Y Z aa ab ac ad ae:Value}(W:World)(b H h kx k2 k3:Nat)(al:Option Addr)(ml cl:Nat)(Bo:Nat)(ao:Option Addr)(mo co m2:Nat)(A B:List (Nat × Nat))(hb:b<W.heap.size)(hc0:W.cell? ⟨b,0,none⟩=some (.int .u8 (H:Int)))(hc1:W.cell? ⟨b,1,none⟩=some (.int .u64 (kx:Int)))(e1:IntKind.u8.wrap ((H:Int) - 1)=(h:Int))(e2:IntKind.u64.wrap (2*(kx:Int))=(k2:Int))(e3:IntKind.u64.wrap ((k2:Int)+1)=(k3:Int))
  (hO:W.ownsRow Bo 77 2 (.slice ao mo co) mo (zl A))(hmm:mo+m2<=2 ^ 26)
  (c1:∀ w,Below W.heap.size W w->Calls Tryz.prog 62 #[.agg #[.int .u8 (h:Int),.int .u64 (k3:Int)],.slice al ml cl] w fun e w'=>∃ a2 q2,e=.returned (.slice a2 m2 q2)/\w'.ownsRow w.heap.size 77 2 (.slice a2 m2 q2) m2 (zl B)/\Below w.heap.size w w')(hQ:∀ c (a:Act) (t:Tmp) (v:Value) w,Q (.panic c) (a.put (some t) v) w->Q (.panic c) a w)
  (hfin:∀ (z:Nat) (a1:Option Addr) (q1:Nat) (a2:Option Addr) (q2:Nat) (a3:Option Addr) (q3:Nat) (w:World),(Below W.heap.size W w/\w.ownsRow W.heap.size 77 2 (.slice a3 (mo+m2) q3) (mo+m2) (zl (A ++ B)))->Q .normal ⟨#[d,f,.pointer (some ⟨b,0,none⟩),g,.slice a3 (mo+m2) q3,.slice al ml cl,.slice ao mo co,j,l,m,n,q,r,s,u,x,y,C,D,E,F,G,I,J,L,M,N,.slice (some ⟨z,0,none⟩) 0 0,.slice ao mo co,.slice a1 mo q1,.pointer (some ⟨b,0,none⟩),.int .u8 (H:Int),.int .u8 (h:Int),.pointer (some ⟨b,1,none⟩),.int .u64 (kx:Int),.int .u64 (k2:Int),.int .u64 (k3:Int),.agg #[.int .u8 (h:Int),.int .u64 (k3:Int)],.slice al ml cl,.slice a2 m2 q2,.slice a3 (mo+m2) q3],[]⟩ w):(Code.region 7 xG true).wp Tryz.prog Q ⟨#[d,f,.pointer (some ⟨b,0,none⟩),g,i,.slice al ml cl,.slice ao mo co,j,l,m,n,q,r,s,u,x,y,C,D,E,F,G,I,J,L,M,N,O,P,R,T,U,V,X,Y,Z,aa,ab,ac,ad,ae],[]⟩ W:=by
 have k0_2_12_13:∀ (z:Nat) (a1:Option Addr) (q1:Nat) (a2:Option Addr) (q2:Nat) (a3:Option Addr) (q3:Nat) (w:World),(Below W.heap.size W w/\w.ownsRow W.heap.size 77 2 (.slice a3 (mo+m2) q3) (mo+m2) (zl (A ++ B)))->wpAnyH Tryz.prog .any xG Q (fun w:World=>w.cell? ⟨b,0,none⟩=some (.int .u8 (H:Int))/\w.cell? ⟨b,1,none⟩=some (.int .u64 (kx:Int))) 0 #[tt,tt,tt,tt,tt,tt,tt,tt,tt,tt,tt,tt,tt,tt,tt] ⟨#[d,f,.pointer (some ⟨b,0,none⟩),g,.slice a3 (mo+m2) q3,.slice al ml cl,.slice ao mo co,j,l,m,n,q,r,s,u,x,y,C,D,E,F,G,I,J,L,M,N,.slice (some ⟨z,0,none⟩) 0 0,.slice ao mo co,.slice a1 mo q1,.pointer (some ⟨b,0,none⟩),.int .u8 (H:Int),.int .u8 (h:Int),.pointer (some ⟨b,1,none⟩),.int .u64 (kx:Int),.int .u64 (k2:Int),.int .u64 (k3:Int),.agg #[.int .u8 (h:Int),.int .u64 (k3:Int)],.slice al ml cl,.slice a2 m2 q2,.slice a3 (mo+m2) q3],[]⟩ w:=fun z a1 q1 a2 q2 a3 q3 w hp=>by
  exact wpAnyH_done (by kernel_rfl) (hfin z a1 q1 a2 q2 a3 q3 w hp) _
 have ek0_2_12_13:∀ (z:Nat) (a1:Option Addr) (q1:Nat) (a2:Option Addr) (q2:Nat) (a3:Option Addr) (q3:Nat) (w:World),(Below W.heap.size W w/\w.ownsRow W.heap.size 77 2 (.slice a3 (mo+m2) q3) (mo+m2) (zl (A ++ B)))->wpAnyH Tryz.prog .any xG Q (fun w:World=>w.cell? ⟨b,0,none⟩=some (.int .u8 (H:Int))/\w.cell? ⟨b,1,none⟩=some (.int .u64 (kx:Int))) 1 #[tt,tt,tt,tt,tt,tt,tt,tt,tt,tt,tt,tt,tt,tt,ff] ⟨#[d,f,.pointer (some ⟨b,0,none⟩),g,i,.slice al ml cl,.slice ao mo co,j,l,m,n,q,r,s,u,x,y,C,D,E,F,G,I,J,L,M,N,.slice (some ⟨z,0,none⟩) 0 0,.slice ao mo co,.slice a1 mo q1,.pointer (some ⟨b,0,none⟩),.int .u8 (H:Int),.int .u8 (h:Int),.pointer (some ⟨b,1,none⟩),.int .u64 (kx:Int),.int .u64 (k2:Int),.int .u64 (k3:Int),.agg #[.int .u8 (h:Int),.int .u64 (k3:Int)],.slice al ml cl,.slice a2 m2 q2,.slice a3 (mo+m2) q3],[]⟩ w:=fun z a1 q1 a2 q2 a3 q3 w hp=>by
  have hww:(fun w:World=>w.cell? ⟨b,0,none⟩=some (.int .u8 (H:Int))/\w.cell? ⟨b,1,none⟩=some (.int .u64 (kx:Int))) w:=⟨(hp.1.cell (p:=⟨b,0,none⟩) hb).trans hc0,(hp.1.cell (p:=⟨b,1,none⟩) hb).trans hc1⟩
  have last:=k0_2_12_13 z a1 q1 a2 q2 a3 q3 w hp;refine tkP RN7OPSq14 (.slice a3 (mo+m2) q3) 14 hQ hww ?_;simp only[List.set];exact last
 have k0_2_12:∀ (z:Nat) (a1:Option Addr) (q1:Nat) (a2:Option Addr) (q2:Nat) (w:World),(Below W.heap.size W w/\w.ownsRow W.heap.size 77 2 (.slice a1 mo q1) mo (zl A)/\w.ownsRow W.heap.size 77 2 (.slice a2 m2 q2) m2 (zl B))->wpAnyH Tryz.prog .any xG Q (fun w:World=>w.cell? ⟨b,0,none⟩=some (.int .u8 (H:Int))/\w.cell? ⟨b,1,none⟩=some (.int .u64 (kx:Int))) 2 #[tt,tt,tt,tt,tt,tt,tt,tt,tt,tt,tt,tt,tt,ff,ff] ⟨#[d,f,.pointer (some ⟨b,0,none⟩),g,i,.slice al ml cl,.slice ao mo co,j,l,m,n,q,r,s,u,x,y,C,D,E,F,G,I,J,L,M,N,.slice (some ⟨z,0,none⟩) 0 0,.slice ao mo co,.slice a1 mo q1,.pointer (some ⟨b,0,none⟩),.int .u8 (H:Int),.int .u8 (h:Int),.pointer (some ⟨b,1,none⟩),.int .u64 (kx:Int),.int .u64 (k2:Int),.int .u64 (k3:Int),.agg #[.int .u8 (h:Int),.int .u64 (k3:Int)],.slice al ml cl,.slice a2 m2 q2,ae],[]⟩ w:=fun z a1 q1 a2 q2 w hp=>by
  refine wpAnyH_ready (rs:=[13]) (by kernel_rfl) (by simp) ?_;refine AllReadyH.cons (o:=RN7OPSq13) rfl (fun K hK=>?_) ?_
  ·exact xM (by rfl) (JP w rfl (.tmp 29) (.tmp 39) rfl W.heap.size (.slice a1 mo q1) mo A rfl hp.2.1 W.heap.size a2 m2 q2 B rfl hp.2.2 hmm hp.1.size (fun a3 q3 w' h1 h2=>⟨rfl,(have hp:(fun(z:Nat) (a1:Option Addr) (q1:Nat) (a2:Option Addr) (q2:Nat) (a3:Option Addr) (q3:Nat) (w:World)=>(Below W.heap.size W w/\w.ownsRow W.heap.size 77 2 (.slice a3 (mo+m2) q3) (mo+m2) (zl (A ++ B)))) z a1 q1 a2 q2 a3 q3 w':=⟨hp.1.grown h2 hp.1.size (fun k e=>(hp.2.1.lt k e).1),h1⟩;hK.out _ _ (⟨(hp.1.cell (p:=⟨b,0,none⟩) hb).trans hc0,(hp.1.cell (p:=⟨b,1,none⟩) hb).trans hc1⟩) (fun _=>ek0_2_12_13 z a1 q1 a2 q2 a3 q3 _ hp))⟩))
  exact AllReadyH.nil
 have k0_2:∀ (z:Nat) (a1:Option Addr) (q1:Nat) (w:World),(Below W.heap.size W w/\w.ownsRow W.heap.size 77 2 (.slice a1 mo q1) mo (zl A))->wpAnyH Tryz.prog .any xG Q (fun w:World=>w.cell? ⟨b,0,none⟩=some (.int .u8 (H:Int))/\w.cell? ⟨b,1,none⟩=some (.int .u64 (kx:Int))) 3 #[tt,tt,tt,tt,tt,tt,tt,tt,tt,tt,tt,tt,ff,ff,ff] ⟨#[d,f,.pointer (some ⟨b,0,none⟩),g,i,.slice al ml cl,.slice ao mo co,j,l,m,n,q,r,s,u,x,y,C,D,E,F,G,I,J,L,M,N,.slice (some ⟨z,0,none⟩) 0 0,.slice ao mo co,.slice a1 mo q1,.pointer (some ⟨b,0,none⟩),.int .u8 (H:Int),.int .u8 (h:Int),.pointer (some ⟨b,1,none⟩),.int .u64 (kx:Int),.int .u64 (k2:Int),.int .u64 (k3:Int),.agg #[.int .u8 (h:Int),.int .u64 (k3:Int)],.slice al ml cl,ad,ae],[]⟩ w:=fun z a1 q1 w hp=>by
  refine wpAnyH_ready (rs:=[12]) (by kernel_rfl) (by simp) ?_;refine AllReadyH.cons (o:=RN7OPSq12) rfl (fun K hK=>?_) ?_
  ·rw[if_pos (by rfl)]
   go_simp;refine(show Calls _ _ _ w (fun e w'=>∃ (a2:Option Addr) (q2:Nat),e=.returned (.slice a2 m2 q2)/\(Below W.heap.size W w'/\w'.ownsRow W.heap.size 77 2 (.slice a1 mo q1) mo (zl A)/\w'.ownsRow W.heap.size 77 2 (.slice a2 m2 q2) m2 (zl B))) from (c1 w hp.1).mono fun e w' ⟨a2,q2,he,h⟩=>⟨a2,q2,he,hp.1.trans (h.2.mono hp.1.size),zG hp.2 h.2,zq h.1 hp.1.size⟩).mono ?_;rintro e w' ⟨a2,q2,rfl,hp⟩;exact hK.out _ _ (⟨(hp.1.cell (p:=⟨b,0,none⟩) hb).trans hc0,(hp.1.cell (p:=⟨b,1,none⟩) hb).trans hc1⟩) (fun _=>k0_2_12 z a1 q1 a2 q2 w' hp)
  exact AllReadyH.nil
 have k0:∀ (z:Nat) (w:World),(Below W.heap.size W w/\w.ownsRow W.heap.size 77 2 (.slice (some ⟨z,0,none⟩) 0 0) 0 (zl []))->wpAnyH Tryz.prog .any xG Q (fun w:World=>w.cell? ⟨b,0,none⟩=some (.int .u8 (H:Int))/\w.cell? ⟨b,1,none⟩=some (.int .u64 (kx:Int))) 4 #[tt,tt,ff,tt,tt,tt,tt,tt,tt,tt,tt,tt,ff,ff,ff] ⟨#[d,f,.pointer (some ⟨b,0,none⟩),g,i,.slice al ml cl,.slice ao mo co,j,l,m,n,q,r,s,u,x,y,C,D,E,F,G,I,J,L,M,N,.slice (some ⟨z,0,none⟩) 0 0,.slice ao mo co,R,.pointer (some ⟨b,0,none⟩),.int .u8 (H:Int),.int .u8 (h:Int),.pointer (some ⟨b,1,none⟩),.int .u64 (kx:Int),.int .u64 (k2:Int),.int .u64 (k3:Int),.agg #[.int .u8 (h:Int),.int .u64 (k3:Int)],.slice al ml cl,ad,ae],[]⟩ w:=fun z w hp=>by
  refine wpAnyH_ready (rs:=[2]) (by kernel_rfl) (by simp) ?_;refine AllReadyH.cons (o:=RN7OPSq2) rfl (fun K hK=>?_) ?_
  ·exact xM (by rfl) (JP w rfl (.tmp 27) (.tmp 28) rfl W.heap.size (.slice (some ⟨z,0,none⟩) 0 0) 0 [] rfl hp.2 Bo ao mo co A rfl (zG hO (hp.1.mono (Nat.le_refl _))) (by omega) hp.1.size (by rw[Nat.zero_add,List.nil_append];exact fun a1 q1 w' h1 h2=>⟨rfl,(have hp:(fun(z:Nat) (a1:Option Addr) (q1:Nat) (w:World)=>(Below W.heap.size W w/\w.ownsRow W.heap.size 77 2 (.slice a1 mo q1) mo (zl A))) z a1 q1 w':=⟨hp.1.grown h2 hp.1.size (fun k e=>(hp.2.lt k e).1),h1⟩;hK.out _ _ (⟨(hp.1.cell (p:=⟨b,0,none⟩) hb).trans hc0,(hp.1.cell (p:=⟨b,1,none⟩) hb).trans hc1⟩) (fun _=>k0_2 z a1 q1 _ hp))⟩))
  exact AllReadyH.nil
 have k:∀ (w:World),(Below W.heap.size W w/\True)->wpAnyH Tryz.prog .any xG Q (fun w:World=>w.cell? ⟨b,0,none⟩=some (.int .u8 (H:Int))/\w.cell? ⟨b,1,none⟩=some (.int .u64 (kx:Int))) 5 #[ff,tt,ff,tt,tt,tt,tt,tt,tt,tt,tt,tt,ff,ff,ff] ⟨#[d,f,.pointer (some ⟨b,0,none⟩),g,i,.slice al ml cl,.slice ao mo co,j,l,m,n,q,r,s,u,x,y,C,D,E,F,G,I,J,L,M,N,O,.slice ao mo co,R,.pointer (some ⟨b,0,none⟩),.int .u8 (H:Int),.int .u8 (h:Int),.pointer (some ⟨b,1,none⟩),.int .u64 (kx:Int),.int .u64 (k2:Int),.int .u64 (k3:Int),.agg #[.int .u8 (h:Int),.int .u64 (k3:Int)],.slice al ml cl,ad,ae],[]⟩ w:=fun  w hp=>by
  refine wpAnyH_ready (rs:=[0]) (by kernel_rfl) (by simp) ?_;refine AllReadyH.cons (o:=RN7OPSq0) rfl (fun K hK=>?_) ?_
  ·exact zP (by rfl) (by go_simp) (have hp:(fun(z:Nat) (w:World)=>(Below W.heap.size W w/\w.ownsRow W.heap.size 77 2 (.slice (some ⟨z,0,none⟩) 0 0) 0 (zl []))) w.heap.size _:=⟨hp.1.alloc hp.1.size _,zq (gL w) hp.1.size⟩;hK.out _ _ (⟨(hp.1.cell (p:=⟨b,0,none⟩) hb).trans hc0,(hp.1.cell (p:=⟨b,1,none⟩) hb).trans hc1⟩) (fun _=>k0 w.heap.size _ hp))
  exact AllReadyH.nil
 have hp:=(⟨(Below.refl W.heap.size W).drew,trivial⟩:Below W.heap.size W W.drew/\True)
 have hww:(fun w:World=>w.cell? ⟨b,0,none⟩=some (.int .u8 (H:Int))/\w.cell? ⟨b,1,none⟩=some (.int .u64 (kx:Int))) W.drew:=⟨(hp.1.cell (p:=⟨b,0,none⟩) hb).trans hc0,(hp.1.cell (p:=⟨b,1,none⟩) hb).trans hc1⟩
 have last:=k W.drew hp
 have z:wpAnyH Tryz.prog .any xG Q (fun w:World=>w.cell? ⟨b,0,none⟩=some (.int .u8 (H:Int))/\w.cell? ⟨b,1,none⟩=some (.int .u64 (kx:Int))) 15 #[ff,ff,ff,ff,ff,ff,ff,ff,ff,ff,ff,ff,ff,ff,ff] ⟨#[d,f,.pointer (some ⟨b,0,none⟩),g,i,.slice al ml cl,.slice ao mo co,j,l,m,n,q,r,s,u,x,y,C,D,E,F,G,I,J,L,M,N,O,P,R,T,U,V,X,Y,Z,aa,ab,ac,ad,ae],[]⟩ W.drew:=by
  refine tkP RN7OPSq1 (.slice ao mo co) 1 hQ hww ?_;simp only[List.set];refine tkP RN7OPSq3 (.pointer (some ⟨b,0,none⟩)) 3 hQ hww ?_;simp only[List.set];refine tkH RN7OPSq4 (.int .u8 (H:Int)) 4 hQ (Or.inl ⟨by rfl,fun w hw=>by have hx:=hw.1;go_simp⟩) hww ?_;simp only[List.set];refine tkH RN7OPSq5 (.int .u8 (h:Int)) 5 hQ (Or.inl ⟨by rfl,fun w hw=>by have hx:=e1;go_simp⟩) hww ?_;simp only[List.set];refine tkP RN7OPSq6 (.pointer (some ⟨b,1,none⟩)) 6 hQ hww ?_;simp only[List.set];refine tkH RN7OPSq7 (.int .u64 (kx:Int)) 7 hQ (Or.inl ⟨by rfl,fun w hw=>by have hx:=hw.2;go_simp⟩) hww ?_;simp only[List.set];refine tkH RN7OPSq8 (.int .u64 (k2:Int)) 8 hQ (Or.inl ⟨by rfl,fun w hw=>by have hx:=e2;go_simp⟩) hww ?_;simp only[List.set];refine tkH RN7OPSq9 (.int .u64 (k3:Int)) 9 hQ (Or.inl ⟨by rfl,fun w hw=>by have hx:=e3;go_simp⟩) hww ?_;simp only[List.set];refine tkP RN7OPSq10 (.agg #[.int .u8 (h:Int),.int .u64 (k3:Int)]) 10 hQ hww ?_;simp only[List.set];refine tkP RN7OPSq11 (.slice al ml cl) 11 hQ hww ?_;simp only[List.set];exact last
 exact wp_region_held_drew (S:=(fun w:World=>w.cell? ⟨b,0,none⟩=some (.int .u8 (H:Int))/\w.cell? ⟨b,1,none⟩=some (.int .u64 (kx:Int)))) (by kernel_rfl) hww (fun _=>z)
end Go.Proofs.YtobaogpomcocpaaGreatDoor
