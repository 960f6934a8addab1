/- ManyClashes: part 24. -/
import Derived.Test.YtobaogpomcocpaaGreatDoorManyClashesP23
set_option maxRecDepth 100000
set_option maxHeartbeats 4000000
open Go.RowKit
namespace Go.Proofs.YtobaogpomcocpaaGreatDoor
@[go_sem] def RBGOPSq0:Oper:=⟨some 39,.move (.tmp 0),3,"ref.go:24",#[],none⟩
@[go_sem] def RBGOPSq1:Oper:=⟨some 40,.move (.tmp 2),26,"ref.go:24",#[],none⟩
@[go_sem] def RBGOPSq2:Oper:=⟨some 41,.move (.tmp 9),3,"ref.go:24",#[],none⟩
@[go_sem] def RBGOPSq3:Oper:=⟨some 42,.indexAddr 26 (.tmp 40) (.tmp 41),0,"ref.go:24",#[⟨1,.data⟩,⟨2,.data⟩],none⟩
@[go_sem] def RBGOPSq4:Oper:=⟨some 43,.load 23 (.tmp 42),23,"ref.go:24",#[⟨3,.data⟩],none⟩
@[go_sem] def RBGOPSq5:Oper:=⟨some 44,.load 23 (.tmp 8),23,"ref.go:24",#[],none⟩
@[go_sem] def RBGOPSq6:Oper:=⟨some 45,.call {callee:=.value (.func 39),args:=#[.tmp 39,.tmp 43,.tmp 44],argTypes:=#[3,23,23]},23,"ref.go:24",#[⟨0,.data⟩,⟨4,.data⟩,⟨5,.data⟩],none⟩
@[go_sem] def RBGOPSq7:Oper:=⟨none,.store 23 (.tmp 8) (.tmp 45),0,"ref.go:24",#[⟨6,.data⟩,⟨6,.chain⟩,⟨0,.phase⟩,⟨1,.phase⟩,⟨2,.phase⟩,⟨3,.phase⟩,⟨4,.phase⟩,⟨5,.phase⟩,⟨6,.phase⟩],none⟩
def qZ:Array Oper:=#[RBGOPSq0,RBGOPSq1,RBGOPSq2,RBGOPSq3,RBGOPSq4,RBGOPSq5,RBGOPSq6,RBGOPSq7]
theorem U7{Q:Exit->Act->World->Prop}{f g i j l m p r s u x y A B C D E F G H J M N O P R T U V Z aa ab ac ad ae af ag ah ai aj ak al am an ao ap:Value}(W:World)(gn o n c b q:Nat)(d:Int)(L X Y:List Int)(hL:L.length=32)(hX:X.length=32)(hY:Y.length=32)(hq:(q:Int)<(n:Int))(I:World->Prop)(h0:I W.drew)(hI:∀ w,I w->w.rangeAt gn (o+q*32) (za L)/\Has w b (za X).toArray 23)(hRow:∀ w,I w->(w.setRow b (za Y).toArray).rangeAt gn (o+q*32) (za L))
  (q1:∀ w,I w->Calls Tryz.prog 39 #[.int .i64 d,.agg (za L).toArray,.agg (za X).toArray] w fun e w'=>e=.returned (.agg (za Y).toArray)/\I w')(hQ:∀ c (a:Act) (t:Tmp) (v:Value) w,Q (.panic c) (a.put (some t) v) w->Q (.panic c) a w)
  (hfin:∀ (w:World),(∃ w0:World,I w0/\w=w0.setRow b (za Y).toArray)->Q .normal ⟨#[.int .i64 d,f,.slice (some ⟨gn,o,none⟩) n c,g,i,j,l,m,.pointer (some ⟨b,0,none⟩),.int .i64 (q:Int),p,r,s,u,x,y,A,B,C,D,E,F,G,H,J,M,N,O,P,R,T,U,V,Z,aa,ab,ac,ad,ae,.int .i64 d,.slice (some ⟨gn,o,none⟩) n c,.int .i64 (q:Int),.pointer (some ⟨gn,(o+q*32),none⟩),.agg (za L).toArray,.agg (za X).toArray,.agg (za Y).toArray,am,an,ao,ap],[]⟩ w):(Code.region 11 qZ true).wp Tryz.prog Q ⟨#[.int .i64 d,f,.slice (some ⟨gn,o,none⟩) n c,g,i,j,l,m,.pointer (some ⟨b,0,none⟩),.int .i64 (q:Int),p,r,s,u,x,y,A,B,C,D,E,F,G,H,J,M,N,O,P,R,T,U,V,Z,aa,ab,ac,ad,ae,af,ag,ah,ai,aj,ak,al,am,an,ao,ap],[]⟩ W:=by
 have k5_6_7:∀ (w:World),(∃ w0:World,I w0/\w=w0.setRow b (za Y).toArray)->wpAnyH Tryz.prog .any qZ Q (fun w:World=>w.rangeAt gn (o+q*32) (za L)) 0 #[tt,tt,tt,tt,tt,tt,tt,tt] ⟨#[.int .i64 d,f,.slice (some ⟨gn,o,none⟩) n c,g,i,j,l,m,.pointer (some ⟨b,0,none⟩),.int .i64 (q:Int),p,r,s,u,x,y,A,B,C,D,E,F,G,H,J,M,N,O,P,R,T,U,V,Z,aa,ab,ac,ad,ae,.int .i64 d,.slice (some ⟨gn,o,none⟩) n c,.int .i64 (q:Int),.pointer (some ⟨gn,(o+q*32),none⟩),.agg (za L).toArray,.agg (za X).toArray,.agg (za Y).toArray,am,an,ao,ap],[]⟩ w:=fun  w hp=>by
  exact wpAnyH_done (by kernel_rfl) (hfin  w hp) _
 have k5_6:∀ (w:World),(I w)->wpAnyH Tryz.prog .any qZ Q (fun w:World=>w.rangeAt gn (o+q*32) (za L)) 1 #[tt,tt,tt,tt,tt,tt,tt,ff] ⟨#[.int .i64 d,f,.slice (some ⟨gn,o,none⟩) n c,g,i,j,l,m,.pointer (some ⟨b,0,none⟩),.int .i64 (q:Int),p,r,s,u,x,y,A,B,C,D,E,F,G,H,J,M,N,O,P,R,T,U,V,Z,aa,ab,ac,ad,ae,.int .i64 d,.slice (some ⟨gn,o,none⟩) n c,.int .i64 (q:Int),.pointer (some ⟨gn,(o+q*32),none⟩),.agg (za L).toArray,.agg (za X).toArray,.agg (za Y).toArray,am,an,ao,ap],[]⟩ w:=fun  w hp=>by
  refine wpAnyH_ready (rs:=[7]) (by kernel_rfl) (by simp) ?_;refine AllReadyH.cons (o:=RBGOPSq7) rfl (fun K hK=>?_) ?_
  ·exact xM (by rfl) (wpList_store_row rfl 23 (.tmp 8) (.tmp 45) rfl _ _ rfl rfl 23 _ (hI _ hp).2 (zd hY) (by simp[za,hX,hY]) (zx Y) ⟨rfl,(have hp:(fun(w:World)=>(∃ w0:World,I w0/\w=w0.setRow b (za Y).toArray))  _:=⟨w,hp,rfl⟩;hK.out _ _ ((by obtain⟨w0,h1,h2⟩:=hp; (first | rw[h2] | skip);exact hRow _ h1)) (fun _=>k5_6_7  _ hp))⟩)
  exact AllReadyH.nil
 have k5:∀ (w:World),(I w)->wpAnyH Tryz.prog .any qZ Q (fun w:World=>w.rangeAt gn (o+q*32) (za L)) 2 #[tt,tt,tt,tt,tt,tt,ff,ff] ⟨#[.int .i64 d,f,.slice (some ⟨gn,o,none⟩) n c,g,i,j,l,m,.pointer (some ⟨b,0,none⟩),.int .i64 (q:Int),p,r,s,u,x,y,A,B,C,D,E,F,G,H,J,M,N,O,P,R,T,U,V,Z,aa,ab,ac,ad,ae,.int .i64 d,.slice (some ⟨gn,o,none⟩) n c,.int .i64 (q:Int),.pointer (some ⟨gn,(o+q*32),none⟩),.agg (za L).toArray,.agg (za X).toArray,al,am,an,ao,ap],[]⟩ w:=fun  w hp=>by
  refine wpAnyH_ready (rs:=[6]) (by kernel_rfl) (by simp) ?_;refine AllReadyH.cons (o:=RBGOPSq6) rfl (fun K hK=>?_) ?_
  ·rw[if_pos (by rfl)]
   go_simp;refine(show Calls _ _ _ w (fun e w'=>e=.returned (.agg (za Y).toArray)/\(I w')) from q1 w hp).mono ?_;rintro e w' ⟨rfl,hp⟩;exact hK.out _ _ ((hI _ hp).1) (fun _=>k5_6  w' hp)
  exact AllReadyH.nil
 have k:∀ (w:World),(I w)->wpAnyH Tryz.prog .any qZ Q (fun w:World=>w.rangeAt gn (o+q*32) (za L)) 3 #[tt,tt,tt,tt,tt,ff,ff,ff] ⟨#[.int .i64 d,f,.slice (some ⟨gn,o,none⟩) n c,g,i,j,l,m,.pointer (some ⟨b,0,none⟩),.int .i64 (q:Int),p,r,s,u,x,y,A,B,C,D,E,F,G,H,J,M,N,O,P,R,T,U,V,Z,aa,ab,ac,ad,ae,.int .i64 d,.slice (some ⟨gn,o,none⟩) n c,.int .i64 (q:Int),.pointer (some ⟨gn,(o+q*32),none⟩),.agg (za L).toArray,ak,al,am,an,ao,ap],[]⟩ w:=fun  w hp=>by
  refine wpAnyH_ready (rs:=[5]) (by kernel_rfl) (by simp) ?_;refine AllReadyH.cons (o:=RBGOPSq5) rfl (fun K hK=>?_) ?_
  ·exact xM (by rfl) (wpList_load_row rfl 23 (.tmp 8) rfl b rfl 23 (za X).toArray (0,0) _ (hI _ hp).2 Tryz.underlying23 rfl (zd hX) ⟨rfl,(have hp:(fun(w:World)=>(I w))  w:=hp;hK.out _ _ ((hI _ hp).1) (fun _=>k5  _ hp))⟩)
  exact AllReadyH.nil
 have hp:=h0;have hww:(fun w:World=>w.rangeAt gn (o+q*32) (za L)) W.drew:=(hI _ hp).1;have last:=k W.drew hp
 have z:wpAnyH Tryz.prog .any qZ Q (fun w:World=>w.rangeAt gn (o+q*32) (za L)) 8 #[ff,ff,ff,ff,ff,ff,ff,ff] ⟨#[.int .i64 d,f,.slice (some ⟨gn,o,none⟩) n c,g,i,j,l,m,.pointer (some ⟨b,0,none⟩),.int .i64 (q:Int),p,r,s,u,x,y,A,B,C,D,E,F,G,H,J,M,N,O,P,R,T,U,V,Z,aa,ab,ac,ad,ae,af,ag,ah,ai,aj,ak,al,am,an,ao,ap],[]⟩ W.drew:=by
  refine tkP RBGOPSq0 (.int .i64 d) 0 hQ hww ?_;simp only[List.set];refine tkP RBGOPSq1 (.slice (some ⟨gn,o,none⟩) n c) 1 hQ hww ?_;simp only[List.set];refine tkP RBGOPSq2 (.int .i64 (q:Int)) 2 hQ hww ?_;simp only[List.set];refine tkP RBGOPSq3 (.pointer (some ⟨gn,(o+q*32),none⟩)) 3 hQ hww ?_;simp only[List.set];refine tkH RBGOPSq4 (.agg (za L).toArray) 4 hQ (yieldsIf_load_mid (by rfl) 23 (.tmp 42) rfl gn (o+q*32) rfl (za L) _ (fun w h=>h) Tryz.underlying23 rfl (zo hL)) hww ?_;simp only[List.set];exact last
 exact wp_region_held_drew (S:=(fun w:World=>w.rangeAt gn (o+q*32) (za L))) (by kernel_rfl) hww (fun _=>z)
theorem Ko(d:Int)(l r:List Int)(hl:IsH l)(hr:IsH r)(w:World):Calls Tryz.prog 39 #[.int .i64 d,.agg (za l).toArray,.agg (za r).toArray] w fun e w'=>e=.returned (.agg (za (zW d l r)).toArray)/\Below w.heap.size w w':=by
 rw[zX hl,zX hr];refine(HX.gU d (FNC l) (FNC r) (yl hl) (yl hr) w).mono ?_;rintro e w' ⟨rfl,hb⟩;exact⟨by rw[xq];rfl,hb⟩
theorem JY(d:Int)(n:Nat)(hn:n<2 ^ 64)(r:List Int)(hr:IsH r)(w:World):Calls Tryz.prog 38 #[.int .i64 d,.int .u64 (n:Int),.agg (za r).toArray] w fun e w'=>e=.returned (.agg (za (zy d n r)).toArray)/\Below w.heap.size w w':=by
 rw[zX hr];refine(HX.gV d n hn (FNC r) (yl hr) w).mono ?_;rintro e w' ⟨rfl,hb⟩;exact⟨by rw[xq];rfl,hb⟩
theorem Gi(d:Int)(n:Nat)(hn:n<=4611686018427387904)(a:Option Addr)(k c:Nat)(hk:k=PC n)(h0:k≠0)(l:List Int)(w:World)(hF:Flat w a k l):
  Calls Tryz.prog 20 #[.int .i64 d,.int .u64 (n:Int),.slice a k c] w fun e w'=>e=.returned (.tuple #[.agg (za (zy d n (FLD d l k))).toArray,.int .i64 0])/\Below w.heap.size w w':=by
 obtain⟨w0,hw0⟩:∃ w0,w.alloc (.cells ZARR 23)=w0:=⟨_,rfl⟩
 have hb0:Below w.heap.size w w0:=by rw[<-hw0];exact(Below.refl _ _).alloc (Nat.le_refl _) _
 have h40:Has w0 w.heap.size (za ZND).toArray 23:=by rw[<-hw0,<-zQ];exact Has.new w _ _
 have h1':¬ (4611686018427387904:Int)<(n:Int):=by omega
 have hk64:k<=64:=by rw[hk];exact yC 64 n (by omega)
 have co:=XG n hn w0;generalize zl (TOPS 0 n)=SC at co;rw[<-hk] at co;obtain⟨m,hm⟩:∃ m,k=m+1:=⟨k - 1,by omega⟩
 obtain⟨gn,o,rfl,hgn, -⟩:=hF.2.1 (by omega);have hz0:((k:Int) == 0)=false:=beq_eq_false_iff_ne.2 (by omega);have e1:wrap64 ((k:Int) - 1)=(m:Int):=by unfold wrap64;omega
 have e2:wrap64 ((k:Int) - 2)=(m:Int) - 1:=by unfold wrap64;omega
 have hml:(m:Int)<(k:Int):=by omega
 have e:FLD d l k=FA d l k m:=by unfold FLD;rw[if_neg h0,show k - 1=m by omega]
 have hFA:=ja (d:=d) hF.1 hF.2.2 (by omega)
 have CR:Aside (∀ W,Calls Tryz.prog 38 #[.int .i64 d,.int .u64 (n:Int),.agg (za (FA d l k m)).toArray] W fun e w'=>e=.returned (.agg (za (zy d n (FLD d l k))).toArray)/\Below W.heap.size W w'):=fun W=>by
  rw[e];exact JY d n (by omega) (FA d l k m) (hFA m) W
 have hYH:IsH (zy d n (FLD d l k)):=qM _ _ _;generalize zy d n (FLD d l k)=Y at *
 have HA:Aside (k=m+1/\k<=64/\Flat w (some ⟨gn,o,none⟩) k l/\gn<w.heap.size/\(∀ i,IsH (FA d l k i))/\FA d l k 0=HSH l m/\Y.length=32):=⟨hm,hk64,hF,hgn,hFA,by rw[FA,show k - 1=m by omega],hYH.1⟩
 have R0:Aside (Below w.heap.size w w0/\Has w0 w.heap.size (za ZND).toArray 23):=⟨hb0,h40⟩
 clear hm hn hgn h0 e hF hk hk64 hb0 h40 hFA hYH;go_enter Tryz.func20,Tryz.ntmps20;go_upto_region 1 with fail
 go_wp2_with fail
 refine co.mono ?_;rintro e w1 ⟨v,rfl,hown,hb1⟩
 obtain⟨a',c',rfl,_⟩:∃ a' c',v=.slice a' k c'/\True:=by
  rcases hown.2 with ⟨e,h⟩ | ⟨g,cap,cur,e,_⟩
  ·exact⟨none,0,by rw[e,h],trivial⟩
  ·exact⟨_,_,e,trivial⟩
 clear co hown;have R1:Aside (Below w.heap.size w w1/\Has w1 w.heap.size (za ZND).toArray 23):=⟨R0.out.1.trans (hb1.mono R0.out.1.size),R0.out.2.keep hb1⟩
 clear hb1 hw0;have hat:w1.rangeAt gn (o+m*32) (za (FA d l k 0)):=by rw[HA.out.2.2.2.2.2.1];exact(HA.out.2.2.1.below R1.out.1).at (show m<k by have:=HA.out.1;omega)
 have h32:=(HA.out.2.2.2.2.1 0).1;generalize hA0:FA d l k 0=A0 at *
 go_wp2_with (first
  | (refine wpList_load_mid rfl 23 (.tmp 30) rfl gn (o+m*32) rfl (za A0) _ hat Tryz.underlying23 rfl (zo h32) ?_)
  | (refine wpList_store_row rfl 23 (.tmp 8) (.tmp 31) rfl _ _ rfl rfl 23 _ (Has.new w1 _ _) (zd h32) (by simp[za,h32]) (zx A0) ?_;rw[World.setRow_alloc_new]))
 have R2:Aside (Below w.heap.size w (w1.alloc (.cells (za A0).toArray 23))/\Has (w1.alloc (.cells (za A0).toArray 23)) w.heap.size (za ZND).toArray 23/\Has (w1.alloc (.cells (za A0).toArray 23)) w1.heap.size (za (FA d l k 0)).toArray 23/\w.heap.size<w1.heap.size):=⟨R1.out.1.alloc R1.out.1.size _,R1.out.2.alloc _,by rw[hA0];exact Has.new _ _ _,R1.out.2.lt⟩
 clear hat h32 hA0 R0 R1;generalize w1.alloc (.cells (za A0).toArray 23)=W1 at *
 generalize w1.heap.size=b8 at *
 have K:Aside (w.heap.size<b8):=R2.out.2.2.2;go_loopg [9] m (fun q s9 wx=>∃ x:Int,s9=.int .i64 x/\Aside (q<=m/\x=(q:Int) - 1/\Below w.heap.size w wx/\Has wx w.heap.size (za ZND).toArray 23/\Has wx b8 (za (FA d l k (m - q))).toArray 23))
 case atStart=>exact⟨_,rfl,Nat.le_refl _,by first | rfl | exact e2,R2.out.1,R2.out.2.1,by rw[Nat.sub_self];exact R2.out.2.2.1⟩
 case round=>
  obtain⟨x,rfl,A⟩:=hrel;clear R2 e1 e2;cases gk with
  | zero=>
    obtain rfl:x = -1:=by have:=A.out.2.1;omega
    have hH8:Has wr b8 (za (FA d l k m)).toArray 23:=A.out.2.2.2.2;have A2:Aside (Below w.heap.size w wr/\Has wr w.heap.size (za ZND).toArray 23):=⟨A.out.2.2.1,A.out.2.2.2.1⟩
    have x32:=(HA.out.2.2.2.2.1 m).1;have y32:=HA.out.2.2.2.2.2.2;have cr:=CR.out wr;clear A HA CR;generalize FA d l k m=X at *
    go_wp2_with (refine wpList_load_row rfl 23 (.tmp 8) rfl b8 rfl 23 (za X).toArray (0,0) _ hH8 Tryz.underlying23 rfl (zd x32) ?_)
    refine cr.mono ?_;rintro e w2 ⟨rfl,hb2⟩;clear cr;have h42:=A2.out.2.keep hb2;have hb3:Below w.heap.size w w2:=A2.out.1.trans (hb2.mono A2.out.1.size);clear hb2 A2;go_wp2_with (refine wpList_store_row rfl 23 (.tmp 6) (.tmp 49) rfl _ _ rfl rfl 23 _ h42 (zd y32) (by simp[za,y32];rfl) (zx Y) ?_)
    refine bodyPost_ret (v:=.tuple #[.agg (za Y).toArray,.int .i64 0]) (jf rfl _ _ w.heap.size 23 _ (0,0) _ _ _ rfl rfl (Has.row h42 _) Tryz.underlying23 (zd y32)) rfl ⟨rfl,zm hb3 (Nat.le_refl _) _⟩
  | succ q=>
    obtain rfl:x=(q:Int):=by have:=A.out.2.1;omega
    have hq0:(0:Int)<=(q:Int):=by omega
    obtain⟨h1,h2,h3,h5,h6,_,_⟩:=HA.out;have hqm:q+1<=m:=A.out.1;have hb1:(q:Int)<(k:Int):=by omega
    have eY:FA d l k (m - q)=zW d (HSH l q) (FA d l k (m - (q+1))):=by
     rw[show m - q=(m - (q+1))+1 by omega,FA,show k - 2 - (m - (q+1))=q by omega]
    have hE1:Aside (wrap64 ((q:Int) - 1)=(q:Int) - 1):=by show wrap64 ((q:Int) - 1)=(q:Int) - 1;unfold wrap64;omega
    have H2:Aside (w.rangeAt gn (o+q*32) (za (HSH l q))/\gn<w.heap.size/\IsH (HSH l q)/\(∀ i,IsH (FA d l k i))/\FA d l k (m - q)=zW d (HSH l q) (FA d l k (m - (q+1)))/\Below w.heap.size w wr/\Has wr w.heap.size (za ZND).toArray 23/\Has wr b8 (za (FA d l k (m - (q+1)))).toArray 23/\q<=m):=⟨h3.at (by omega),h5,qd h3.1 h3.2.2 (by omega),h6,eY,A.out.2.2.1,A.out.2.2.2.1,A.out.2.2.2.2,by omega⟩
    clear h1 h2 h3 h5 h6 eY A HA hqm CR;go_upto_region 11 with fail
    refine U7 wr gn o k c b8 q d (HSH l q) (FA d l k (m - (q+1))) (FA d l k (m - q)) H2.out.2.2.1.1 (H2.out.2.2.2.1 _).1 (H2.out.2.2.2.1 _).1 hb1 (fun V=>Below wr.heap.size wr V) (Below.refl _ _).drew (fun V hV=>?_) (fun V hV=>?_) (fun V hV=>?_) (fun _ _ _ _ _ h=>h) ?_
    ·exact⟨xo H2.out.1 (H2.out.2.2.2.2.2.1.trans (hV.mono H2.out.2.2.2.2.2.1.size)) H2.out.2.1,H2.out.2.2.2.2.2.2.2.1.keep hV⟩
    ·exact xo H2.out.1 (zm (H2.out.2.2.2.2.2.1.trans (hV.mono H2.out.2.2.2.2.2.1.size)) (Nat.le_of_lt K.out) _) H2.out.2.1
    ·refine(Ko d (HSH l q) (FA d l k (m - (q+1))) H2.out.2.2.1 (H2.out.2.2.2.1 _) V).mono ?_
     rintro e V' ⟨rfl,hb⟩;exact⟨by rw[H2.out.2.2.2.2.1],hV.trans (hb.mono hV.size)⟩
    ·rintro W3 ⟨w0',hw0',hW3⟩
     have Z:Aside (q<=m/\Below w.heap.size w W3/\Has W3 w.heap.size (za ZND).toArray 23/\Has W3 b8 (za (FA d l k (m - q))).toArray 23):=by
      have hV2:Below w.heap.size w w0':=H2.out.2.2.2.2.2.1.trans (hw0'.mono H2.out.2.2.2.2.2.1.size);rw[hW3];exact⟨H2.out.2.2.2.2.2.2.2.2,zm hV2 (Nat.le_of_lt K.out) _,(H2.out.2.2.2.2.2.2.1.keep hw0').row_other (by have:=K.out;omega) _,(H2.out.2.2.2.2.2.2.2.1.keep hw0').row _⟩
     clear hW3 hw0' H2;have e1:=hE1.out;go_wp2_with fail
     go_roundg q
     case measure=>exact Nat.lt_succ_self _
     case rel=>exact⟨_,rfl,Z.out.1,by first | rfl | exact hE1.out,Z.out.2⟩
theorem U8(d:Int)(a:Option Addr)(c:Nat)(w:World):
  Calls Tryz.prog 20 #[.int .i64 d,.int .u64 ((0:Nat):Int),.slice a 0 c] w fun e w'=>e=.returned (.tuple #[.agg (za (zy d 0 ZND)).toArray,.int .i64 0])/\Below w.heap.size w w':=by
 obtain⟨w0,hw0⟩:∃ w0,w.alloc (.cells ZARR 23)=w0:=⟨_,rfl⟩
 have hb0:Below w.heap.size w w0:=by rw[<-hw0];exact(Below.refl _ _).alloc (Nat.le_refl _) _
 have h40:Has w0 w.heap.size (za ZND).toArray 23:=by rw[<-hw0,<-zQ];exact Has.new w _ _
 have co:=VW 0 (by omega) w0;rw[show PC 0=0 from rfl] at co;have CR:Aside (∀ W,Calls Tryz.prog 38 #[.int .i64 d,.int .u64 0,.agg (za ZND).toArray] W fun e w'=>e=.returned (.agg (za (zy d 0 ZND)).toArray)/\Below W.heap.size W w'):=fun W=>JY d 0 (by omega) ZND jR W;have hYH:IsH (zy d 0 ZND):=qM _ _ _;generalize zy d 0 ZND=Y at *
 have y32:=hYH.1;have R0:Aside (Below w.heap.size w w0/\Has w0 w.heap.size (za ZND).toArray 23):=⟨hb0,h40⟩
 clear hb0 h40 hYH;go_enter Tryz.func20,Tryz.ntmps20;go_upto_region 1 with fail
 go_wp2_with fail
 refine co.mono ?_;rintro e w1 ⟨a1,c1,rfl,_,_,hb1⟩;have R1:Aside (Below w.heap.size w w1/\Has w1 w.heap.size (za ZND).toArray 23):=⟨R0.out.1.trans (hb1.mono R0.out.1.size),R0.out.2.keep hb1⟩
 clear co hb1 R0 hw0;have cr:=CR.out w1;go_wp2_with fail
 refine cr.mono ?_;rintro e w2 ⟨rfl,hb2⟩;have h42:=R1.out.2.keep hb2;have hb3:Below w.heap.size w w2:=R1.out.1.trans (hb2.mono R1.out.1.size);clear hb2 R1 cr CR;go_wp2_with (refine wpList_store_row rfl 23 (.tmp 6) (.tmp 25) rfl _ _ rfl rfl 23 _ h42 (zd y32) (by simp[za,y32];rfl) (zx Y) ?_)
 refine bodyPost_ret (v:=.tuple #[.agg (za Y).toArray,.int .i64 0]) (jf rfl _ _ w.heap.size 23 _ (0,0) _ _ _ rfl rfl (Has.row h42 _) Tryz.underlying23 (zd y32)) rfl ⟨rfl,zm hb3 (Nat.le_refl _) _⟩
theorem Gj(d:Int)(n:Nat)(hn:n<=4611686018427387904)(a:Option Addr)(k c:Nat)(hk:k=PC n)(l:List Int)(w:World)(hF:Flat w a k l):
  Calls Tryz.prog 20 #[.int .i64 d,.int .u64 (n:Int),.slice a k c] w fun e w'=>e=.returned (.tuple #[.agg (za (zy d n (FLD d l k))).toArray,.int .i64 0])/\Below w.heap.size w w':=by
 by_cases h0:k=0
 ·have hn0:n=0:=Zf (by omega)
  subst h0 hn0;have e:FLD d l 0=ZND:=by unfold FLD;rw[if_pos rfl]
  rw[e];exact U8 d a c w
 ·exact Gi d n hn a k c hk h0 l w hF
theorem X6(d:Int)(n:Nat)(hn:n<2 ^ 64)(a:Option Addr)(k c:Nat)(l:List Int)(w:World)(hF:Flat w a k l)(hX:HX.Tabled w):
  Calls Tryz.prog 43 #[.int .i64 d,.int .u64 (n:Int),.slice a k c] w fun e w'=>e=.returned (.tuple #[.agg (za (BAGA d n k l).2).toArray,.int .i64 (BAGA d n k l).1])/\Below w.heap.size w w':=by
 have R0:Aside (Below w.heap.size w (w.alloc (.cells ZARR 23))/\Has (w.alloc (.cells ZARR 23)) w.heap.size (za ZND).toArray 23):=⟨(Below.refl _ _).alloc (Nat.le_refl _) _,by rw[zQ];exact Has.new _ _ _⟩
 have HA:Aside (Flat w a k l/\HX.Tabled w/\n<2 ^ 64):=⟨hF,hX,hn⟩
 clear hF hX;by_cases h1:4611686018427387904<n
 ·have e:BAGA d n k l=(30,ZND):=if_pos h1
  rw[e];have h1':(4611686018427387904:Int)<(n:Int):=by omega
  clear e HA hn;go_enter Tryz.func43,Tryz.ntmps43;go_upto_region 2 with fail
  rw[show (#[.int .u8 0,.int .u8 0,.int .u8 0,.int .u8 0,.int .u8 0,.int .u8 0,.int .u8 0,.int .u8 0,.int .u8 0,.int .u8 0,.int .u8 0,.int .u8 0,.int .u8 0,.int .u8 0,.int .u8 0,.int .u8 0,.int .u8 0,.int .u8 0,.int .u8 0,.int .u8 0,.int .u8 0,.int .u8 0,.int .u8 0,.int .u8 0,.int .u8 0,.int .u8 0,.int .u8 0,.int .u8 0,.int .u8 0,.int .u8 0,.int .u8 0,.int .u8 0]:Array Value)=ZARR from rfl];generalize w.alloc (.cells ZARR 23)=W0 at *
  go_wp2_with (rw[show (#[.int .u8 0,.int .u8 0,.int .u8 0,.int .u8 0,.int .u8 0,.int .u8 0,.int .u8 0,.int .u8 0,.int .u8 0,.int .u8 0,.int .u8 0,.int .u8 0,.int .u8 0,.int .u8 0,.int .u8 0,.int .u8 0,.int .u8 0,.int .u8 0,.int .u8 0,.int .u8 0,.int .u8 0,.int .u8 0,.int .u8 0,.int .u8 0,.int .u8 0,.int .u8 0,.int .u8 0,.int .u8 0,.int .u8 0,.int .u8 0,.int .u8 0,.int .u8 0]:Array Value)=(za ZND).toArray from rfl];refine wpList_store_row rfl 23 (.tmp 6) (.tmp 10) rfl _ _ rfl rfl 23 _ R0.out.2 (zd rfl) rfl (zx ZND) ?_)
  refine bodyPost_ret (v:=.tuple #[.agg (za ZND).toArray,.int .i64 30]) (jf rfl _ _ w.heap.size 23 _ (0,0) _ _ _ rfl rfl (Has.row R0.out.2 _) Tryz.underlying23 (zd rfl)) rfl ⟨rfl,zm R0.out.1 (Nat.le_refl _) _⟩
 have h1':¬ (4611686018427387904:Int)<(n:Int):=by omega
 have hpop:=Uc hn;by_cases h2:k=PC n
 ·have e:BAGA d n k l=(0,zy d n (FLD d l k)):=by unfold BAGA;rw[if_neg h1,if_neg (by simpa using h2)]
  rw[e];have hk:Aside (k<=64):=by have:=yC 64 n hn;show k<=64;omega
  have e2:(k:Int)=((POP n:Nat):Int):=by rw[hpop,h2]
  clear e h2 hpop h1;go_enter Tryz.func43,Tryz.ntmps43;go_upto_region 3 with fail
  rw[show (#[.int .u8 0,.int .u8 0,.int .u8 0,.int .u8 0,.int .u8 0,.int .u8 0,.int .u8 0,.int .u8 0,.int .u8 0,.int .u8 0,.int .u8 0,.int .u8 0,.int .u8 0,.int .u8 0,.int .u8 0,.int .u8 0,.int .u8 0,.int .u8 0,.int .u8 0,.int .u8 0,.int .u8 0,.int .u8 0,.int .u8 0,.int .u8 0,.int .u8 0,.int .u8 0,.int .u8 0,.int .u8 0,.int .u8 0,.int .u8 0,.int .u8 0,.int .u8 0]:Array Value)=ZARR from rfl];generalize w.alloc (.cells ZARR 23)=W0 at *
  go_wp2_with fail
  refine(Yo n hn W0).mono ?_;rintro e w1 ⟨rfl,rfl⟩;go_wp2_with fail
  refine(mL d a k c (by have:=hk.out;omega) l W0 (HA.out.1.below R0.out.1) (HA.out.2.1.below R0.out.1)).mono ?_;rintro e w1 ⟨rfl,hb⟩;have R1:Aside (Below w.heap.size w w1/\Has w1 w.heap.size (za ZND).toArray 23):=⟨R0.out.1.trans (hb.mono R0.out.1.size),R0.out.2.keep hb⟩
  clear hb R0;have hI:=X5 (d:=d) HA.out.1.1 HA.out.1.2.2;go_wp2_with fail
  refine(M7 d n hn (FLD d l k) hI w1 (HA.out.2.1.below R1.out.1)).mono ?_;rintro e w2 ⟨rfl,hb⟩;have R2:Aside (Below w.heap.size w w2/\Has w2 w.heap.size (za ZND).toArray 23):=⟨R1.out.1.trans (hb.mono R1.out.1.size),R1.out.2.keep hb⟩
  clear hb R1 hI;have y32:=(qM d n (FLD d l k)).1;generalize hY:zy d n (FLD d l k)=Y at *
  go_wp2_with (refine wpList_store_row rfl 23 (.tmp 6) (.tmp 22) rfl _ _ rfl rfl 23 _ R2.out.2 (zd y32) (by simp[za,y32];rfl) (zx Y) ?_)
  refine bodyPost_ret (v:=.tuple #[.agg (za Y).toArray,.int .i64 0]) (jf rfl _ _ w.heap.size 23 _ (0,0) _ _ _ rfl rfl (Has.row R2.out.2 _) Tryz.underlying23 (zd y32)) rfl ⟨by rw[hY],zm R2.out.1 (Nat.le_refl _) _⟩
 ·have e:BAGA d n k l=(70,ZND):=by unfold BAGA;rw[if_neg h1,if_pos h2]
  rw[e];exact mM d n hn a k c w h1' (by rw[hpop];exact h2)
theorem Un{a b:List Int}(ha:IsH a)(hb:IsH b)(w:World):(Op.equalIn 10000 23 (.agg (za a).toArray) (.agg (za b).toArray)).run Tryz.prog w=.ok (decide (a=b)) w:=by
 rw[zX ha,zX hb,HX.YG];congr 1
 by_cases e:a=b
 ·subst e
  simp
 ·rw[decide_eq_false e]
  refine Bool.eq_false_iff.2 fun h=>e ?_;have h':∀ i∈List.range 32,FNC a i=FNC b i:=fun i hi=>by simpa using List.all_eq_true.1 h i hi
  have h2:LST (FNC a)=LST (FNC b):=by
   unfold LST;exact List.map_congr_left fun i hi=>by rw[h' i hi]
  rwa [XH ha,XH hb] at h2
theorem ye{ops:Array Oper}{rest:List Oper}{o:Oper}{a:Act}{w:World}{Q:Exit->Act->World->Prop}(hw:Region.wanted o (yielded ops a.tmps)=true)(ty:TypeId)(x:Operand)(ho:o.op=.load ty x)(n:Nat)(e:TypeId)
  (b:Nat)(hx:a.eval x=.pointer (some ⟨b,0,none⟩))(t:TypeId)(cs:Array Value)(fr:Nat × Nat)(hb:w.heap[b]?=some (.cells cs t fr))(hu:Tryz.prog.underlying ty=some (.array n e))(hi:(Tryz.prog.info? ty).map (·.size)=some cs.size)
  (h:wpList Tryz.prog ops Q rest (a.put o.dst (.agg cs)) w):wpList Tryz.prog ops Q (o :: rest) a w:=by
 simp only[wpList];rw[if_pos hw];exact .inl (wp_load_row ty x ho b hx t cs fr (.array n e) hb hu rfl hi h)
theorem U9(a b:Option Addr)(n m ca cb:Nat)(L M:List Nat)(hl:L.length=n)(hm:M.length=m)(hn:n<=2 ^ 24)(w:World)(hA:NUML w a L)(hB:NUML w b M):
  Calls Tryz.prog 41 #[.slice a n ca,.slice b m cb] w fun e w'=>e=.returned (.bool (decide (L=M)))/\Below w.heap.size w w':=by
 by_cases hnm:n=m
 ·subst hnm
  rcases Nat.eq_zero_or_pos n with h | h
  ·subst h
   have hd:decide (L=M)=true:=by
    rw[List.eq_nil_of_length_eq_zero hl,List.eq_nil_of_length_eq_zero hm];rfl
   rw[hd];clear hA hB hl hm hd;go_enter Tryz.func41,Tryz.ntmps41;go_wp2;refine wp_loop_rounds 1 ?_;rw[rounds_succ];go_wp2;go_ret;exact⟨rfl,Below.refl _ _⟩
  ·obtain⟨ga,oa,rfl,la,hca⟩:=hA (by omega)
   obtain⟨gb,ob,rfl,lb,hcb⟩:=hB (by omega);obtain⟨D,hD⟩:∃ D,D=decide (L=M):=⟨_,rfl⟩
   rw[<-hD];have HC:Aside ((∀ (i x:Nat),L[i]?=some x->w.cell? ⟨ga,oa+i,none⟩=some (.int .u64 (x:Int)))/\(∀ (i x:Nat),M[i]?=some x->w.cell? ⟨gb,ob+i,none⟩=some (.int .u64 (x:Int)))/\ga<w.heap.size/\gb<w.heap.size/\L.length=n/\M.length=n/\n<=2 ^ 24/\D=decide (L=M)):=⟨hca,hcb,la,lb,hl,hm,hn,hD⟩
   clear hA hB hca hcb la lb hl hm hn hD;go_enter Tryz.func41,Tryz.ntmps41;go_wp2;go_loopg [13] n (fun g s5 wx=>∃ k:Nat,k+g=n/\s5=.int .i64 k/\Aside (Below w.heap.size w wx/\∀ j,j<k->L[j]?=M[j]?))
   case atStart=>exact⟨0,by omega,rfl,Below.refl _ _,fun j hj=>by omega⟩
   case round=>
    obtain⟨k,hkg,rfl,A⟩:=hrel;cases gk with
    | zero=>
      obtain rfl:k=n:=by omega
      have hlt:¬ (k:Int)<(k:Int):=by omega
      have hd:Aside (D=true):=by
       show D=true;rw[HC.out.2.2.2.2.2.2.2,decide_eq_true_iff];apply List.ext_getElem?;intro j;by_cases hj:j<k
       ·exact A.out.2 j hj
       ·rw[List.getElem?_eq_none (by have:=HC.out.2.2.2.2.1;omega),List.getElem?_eq_none (by have:=HC.out.2.2.2.2.2.1;omega)]
      clear HC;go_wp2;go_ret;exact⟨by rw[hd.out];rfl,A.out.1⟩
    | succ g=>
      have hlt:(k:Int)<(n:Int):=by omega
      obtain⟨x,ex⟩:∃ x,L[k]?=some x:=⟨_,List.getElem?_eq_getElem (by have:=HC.out.2.2.2.2.1;omega)⟩
      obtain⟨y,ey⟩:∃ y,M[k]?=some y:=⟨_,List.getElem?_eq_getElem (by have:=HC.out.2.2.2.2.2.1;omega)⟩
      have h1:wr.cell? ⟨ga,oa+k,none⟩=some (.int .u64 (x:Int)):=(A.out.1.cell (by exact HC.out.2.2.1)).trans (HC.out.1 k x ex);have h2:wr.cell? ⟨gb,ob+k,none⟩=some (.int .u64 (y:Int)):=(A.out.1.cell (by exact HC.out.2.2.2.1)).trans (HC.out.2.1 k y ey);have hk24:k<2 ^ 24:=by have:=HC.out.2.2.2.2.2.2.1;omega
      by_cases hxy:x=y
      ·subst hxy
       have Z:Aside (Below w.heap.size w wr/\∀ j,j<k+1->L[j]?=M[j]?):=by
        refine⟨A.out.1,fun j hj=>?_⟩;rcases Nat.lt_or_ge j k with hj' | hj'
        ·exact A.out.2 j hj'
        ·obtain rfl:j=k:=by omega
         rw[ex,ey]
       clear ex ey A HC;go_wp2;go_quiet (fail)
       go_wp2;go_roundg g
       case measure=>omega
       case rel=>exact⟨k+1,by omega,by go_num,below_drewN Z.out.1 _,Z.out.2⟩
      ·have hd:Aside (D=false/\Below w.heap.size w wr):=by
        refine⟨?_,A.out.1⟩;rw[HC.out.2.2.2.2.2.2.2,decide_eq_false_iff_not];intro e;rw[e,ey] at ex;exact hxy (by simpa using ex.symm)
       have hne:((x:Int) == (y:Int))=false:=beq_eq_false_iff_ne.2 (by omega);clear ex ey A HC hxy;go_wp2;go_quiet (fail)
       go_wp2;go_ret;exact⟨by rw[hd.out.1];rfl,below_drewN hd.out.2 _⟩
 ·have hd:decide (L=M)=false:=by
   rw[decide_eq_false_iff_not];intro e;exact hnm (by rw[<-hl,<-hm,e])
  have hne:((n:Int) == (m:Int))=false:=beq_eq_false_iff_ne.2 (by omega);rw[hd];clear hA hB hl hm hd hnm;go_enter Tryz.func41,Tryz.ntmps41;go_wp2;go_ret;exact⟨rfl,Below.refl _ _⟩
theorem UK(a b:Option Addr)(n m ca cb:Nat)(L M:List Nat)(hl:L.length=n)(hm:M.length=m)(hn:n<=2 ^ 24)(w:World)(hA:NUML w a L)(hB:NUML w b M):
  Calls Tryz.prog 18 #[.slice a n ca,.slice b m cb] w fun e w'=>e=.returned (.bool (decide (L=M)))/\Below w.heap.size w w':=by
 by_cases hnm:n=m
 ·subst hnm
  rcases Nat.eq_zero_or_pos n with h | h
  ·subst h
   have hd:decide (L=M)=true:=by
    rw[List.eq_nil_of_length_eq_zero hl,List.eq_nil_of_length_eq_zero hm];rfl
   rw[hd];clear hA hB hl hm hd;go_enter Tryz.func18,Tryz.ntmps18;go_wp2;refine wp_loop_rounds 1 ?_;rw[rounds_succ];go_wp2;go_ret;exact⟨rfl,Below.refl _ _⟩
  ·obtain⟨ga,oa,rfl,la,hca⟩:=hA (by omega)
   obtain⟨gb,ob,rfl,lb,hcb⟩:=hB (by omega);obtain⟨D,hD⟩:∃ D,D=decide (L=M):=⟨_,rfl⟩
   rw[<-hD];have HC:Aside ((∀ (i x:Nat),L[i]?=some x->w.cell? ⟨ga,oa+i,none⟩=some (.int .u64 (x:Int)))/\(∀ (i x:Nat),M[i]?=some x->w.cell? ⟨gb,ob+i,none⟩=some (.int .u64 (x:Int)))/\ga<w.heap.size/\gb<w.heap.size/\L.length=n/\M.length=n/\n<=2 ^ 24/\D=decide (L=M)):=⟨hca,hcb,la,lb,hl,hm,hn,hD⟩
   clear hA hB hca hcb la lb hl hm hn hD;go_enter Tryz.func18,Tryz.ntmps18;go_wp2;go_loopg [5] n (fun g s5 wx=>∃ k:Nat,k+g=n/\s5=.int .i64 k/\Aside (Below w.heap.size w wx/\∀ j,j<k->L[j]?=M[j]?))
   case atStart=>exact⟨0,by omega,rfl,Below.refl _ _,fun j hj=>by omega⟩
   case round=>
    obtain⟨k,hkg,rfl,A⟩:=hrel;cases gk with
    | zero=>
      obtain rfl:k=n:=by omega
      have hlt:¬ (k:Int)<(k:Int):=by omega
      have hd:Aside (D=true):=by
       show D=true;rw[HC.out.2.2.2.2.2.2.2,decide_eq_true_iff];apply List.ext_getElem?;intro j;by_cases hj:j<k
       ·exact A.out.2 j hj
       ·rw[List.getElem?_eq_none (by have:=HC.out.2.2.2.2.1;omega),List.getElem?_eq_none (by have:=HC.out.2.2.2.2.2.1;omega)]
      clear HC;go_wp2;go_ret;exact⟨by rw[hd.out];rfl,A.out.1⟩
    | succ g=>
      have hlt:(k:Int)<(n:Int):=by omega
      obtain⟨x,ex⟩:∃ x,L[k]?=some x:=⟨_,List.getElem?_eq_getElem (by have:=HC.out.2.2.2.2.1;omega)⟩
      obtain⟨y,ey⟩:∃ y,M[k]?=some y:=⟨_,List.getElem?_eq_getElem (by have:=HC.out.2.2.2.2.2.1;omega)⟩
      have h1:wr.cell? ⟨ga,oa+k,none⟩=some (.int .u64 (x:Int)):=(A.out.1.cell (by exact HC.out.2.2.1)).trans (HC.out.1 k x ex);have h2:wr.cell? ⟨gb,ob+k,none⟩=some (.int .u64 (y:Int)):=(A.out.1.cell (by exact HC.out.2.2.2.1)).trans (HC.out.2.1 k y ey);have hk24:k<2 ^ 24:=by have:=HC.out.2.2.2.2.2.2.1;omega
      by_cases hxy:x=y
      ·subst hxy
       have Z:Aside (Below w.heap.size w wr/\∀ j,j<k+1->L[j]?=M[j]?):=by
        refine⟨A.out.1,fun j hj=>?_⟩;rcases Nat.lt_or_ge j k with hj' | hj'
        ·exact A.out.2 j hj'
        ·obtain rfl:j=k:=by omega
         rw[ex,ey]
       clear ex ey A HC;go_wp2;go_quiet (fail)
       go_wp2;go_roundg g
       case measure=>omega
       case rel=>exact⟨k+1,by omega,by go_num,below_drewN Z.out.1 _,Z.out.2⟩
      ·have hd:Aside (D=false/\Below w.heap.size w wr):=by
        refine⟨?_,A.out.1⟩;rw[HC.out.2.2.2.2.2.2.2,decide_eq_false_iff_not];intro e;rw[e,ey] at ex;exact hxy (by simpa using ex.symm)
       have hne:((x:Int) == (y:Int))=false:=beq_eq_false_iff_ne.2 (by omega);clear ex ey A HC hxy;go_wp2;go_quiet (fail)
       go_wp2;go_ret;exact⟨by rw[hd.out.1];rfl,below_drewN hd.out.2 _⟩
 ·have hd:decide (L=M)=false:=by
   rw[decide_eq_false_iff_not];intro e;exact hnm (by rw[<-hl,<-hm,e])
  have hne:((n:Int) == (m:Int))=false:=beq_eq_false_iff_ne.2 (by omega);rw[hd];clear hA hB hl hm hd hnm;go_enter Tryz.func18,Tryz.ntmps18;go_wp2;go_ret;exact⟨rfl,Below.refl _ _⟩
def z2s(v:Value)(X Y:Nat)(nv:Value):Array Value:=#[v,.int .u64 (X:Int),.int .u64 (Y:Int),nv]
structure FRM (w0 w:World) (rb gl:Nat) (t:TypeId) (v:Value) (X Y:Nat) (nv:Value) (fl:Array Value) (tf:TypeId):Prop where
 bel:Below w0.heap.size w0 w
 rd:Has w rb (z2s v X Y nv) t
 fl:Has w gl fl tf
 ne:gl≠rb
 lb:w0.heap.size<=rb
 lg:w0.heap.size<=gl
def SRC(w0:World)(a:Option Addr)(c:Nat)(t:List Int):Prop:=Bytes w0 a t.length t/\t.length<=c/\t.length<=1000000
theorem SRC.drop{w0:World}{b off c:Nat}{t:List Int}(h:SRC w0 (some ⟨b,off,none⟩) c t)(k:Nat)(hk:k<=t.length):SRC w0 (REST b off c k) (c - k) (t.drop k):=by
 obtain⟨h1,h2,h3⟩:=h;have:=h1.behind k hk h2;refine⟨?_,by rw[List.length_drop];omega,by rw[List.length_drop];omega⟩;rw[List.length_drop];exact this
theorem SRC.addr{w0:World}{a:Option Addr}{c:Nat}{t:List Int}(h:SRC w0 a c t)(h0:0<t.length):∃ b off,a=some ⟨b,off,none⟩/\b<w0.heap.size/\∀ i,i<t.length->w0.cell? ⟨b,off+i,none⟩=some (.int .u8 (t.getD i 0)):=h.1.2.1 h0
structure RDR (w0 w:World) (rb:Nat) (t:List Int):Prop where
 rd:∃ a c,Has w rb #[.slice a t.length c] 112/\SRC w0 a c t
 bel:Below w0.heap.size w0 w
 lb:w0.heap.size<=rb
structure STAY (w w':World) (rb:Nat):Prop where
 kp:∀ k,k<w.heap.size->k≠rb->w'.heap[k]?=w.heap[k]?
 bl:Below rb w w'
theorem STAY.refl(w:World)(rb:Nat):STAY w w rb:=⟨fun _ _ _=>rfl,Below.refl _ _⟩
theorem STAY.trans{w w' w'':World}{rb:Nat}(h:STAY w w' rb)(h':STAY w' w'' rb):STAY w w'' rb:=⟨fun k hk hne=>(h'.kp k (Nat.lt_of_lt_of_le hk h.bl.size) hne).trans (h.kp k hk hne),h.bl.trans h'.bl⟩
theorem STAY.set(w:World)(rb i:Nat)(v:Value):STAY w (w.setCell ⟨rb,i,none⟩ v) rb:=⟨fun k _ hne=>Below.heap_setCell w ⟨rb,i,none⟩ v k hne,(Below.refl _ _).setCell (p:=⟨rb,i,none⟩) (Nat.le_refl _) _⟩
theorem STAY.of{w w':World}{rb:Nat}(h:Below w.heap.size w w')(hr:rb<=w.heap.size):STAY w w' rb:=⟨fun k hk _=>h.block k hk,h.mono hr⟩
theorem STAY.has{w w':World}{rb g:Nat}{c:Array Value}{t:TypeId}(h:STAY w w' rb)(hg:Has w g c t)(hne:g≠rb):Has w' g c t:=(h.kp g hg.lt hne).trans hg
theorem RDR.lt{w0 w:World}{rb:Nat}{t:List Int}(h:RDR w0 w rb t):rb<w.heap.size:=by
 obtain⟨_,_,h1,_⟩:=h.rd;exact h1.lt
theorem RDR.keep{w0 w w':World}{rb:Nat}{t:List Int}(h:RDR w0 w rb t)(hb:Below w.heap.size w w'):RDR w0 w' rb t:=by
 obtain⟨a,c,h1,h2⟩:=h.rd;exact⟨⟨a,c,h1.keep hb,h2⟩,h.bel.trans (hb.mono h.bel.size),h.lb⟩
theorem RDR.other{w0 w w':World}{rb pb:Nat}{t:List Int}(h:RDR w0 w rb t)(hs:STAY w w' pb)(hne:rb≠pb)(hp:w0.heap.size<=pb):RDR w0 w' rb t:=by
 obtain⟨a,c,h1,h2⟩:=h.rd;exact⟨⟨a,c,hs.has h1 hne,h2⟩,h.bel.trans (hs.bl.mono hp),h.lb⟩
theorem RDR.moved{w0 w:World}{rb b off c k:Nat}{t:List Int}(h:RDR w0 w rb t)(hh:Has w rb #[.slice (some ⟨b,off,none⟩) t.length c] 112)(hs:SRC w0 (some ⟨b,off,none⟩) c t)(hk:k<=t.length):RDR w0 (w.setCell ⟨rb,0,none⟩ (.slice (REST b off c k) (t.length - k) (c - k))) rb (t.drop k):=by
 refine⟨⟨_,_,?_,hs.drop k hk⟩,h.bel.setCell (p:=⟨rb,0,none⟩) h.lb _,h.lb⟩;rw[List.length_drop];exact hh.set 0 _
theorem Kp(rb:Nat)(r1 r2 r3:Int)(v:Value)(w:World)(hr:¬ r3=0)(h0:w.cell? ⟨rb,0,none⟩=some v)
  (c:Calls Tryz.prog 141 #[v] w fun e w'=>e=.returned (.tuple #[.int .u64 r1,.int .i64 r2,.int .i64 r3])/\w=w'):
  Calls Tryz.prog 128 #[.pointer (some ⟨rb,0,none⟩)] w fun e w'=>e=.panicked (zE r3)/\w=w':=by
 have hr':(r3 != 0)=true:=by simp[hr]
 go_enter Tryz.func128,Tryz.ntmps128;go_wp2_with fail
 refine c.mono ?_;rintro e w' ⟨rfl,rfl⟩;clear c;go_wp2_with fail
 exact⟨rfl,rfl,rfl⟩
theorem Kq(rb:Nat)(r1:Int)(b off n c m:Nat)(hm:m<=n)(hcap:n<=c)(w:World)(h0:w.cell? ⟨rb,0,none⟩=some (.slice (some ⟨b,off,none⟩) n c))(z0:w.frozen? ⟨rb,0,none⟩=false)
  (cl:Calls Tryz.prog 141 #[.slice (some ⟨b,off,none⟩) n c] w fun e w'=>e=.returned (.tuple #[.int .u64 r1,.int .i64 (m:Int),.int .i64 0])/\w=w'):
  Calls Tryz.prog 128 #[.pointer (some ⟨rb,0,none⟩)] w fun e w'=>e=.returned (.int .u64 r1)/\w'=w.setCell ⟨rb,0,none⟩ (.slice (REST b off c m) (n - m) (c - m)):=by
 have k1:(m:Int)<=(n:Int):=by omega
 have k2:(n:Int)<=(c:Int):=by omega
 have k4:(m:Int)<=(c:Int):=by omega
 obtain⟨a',ha'⟩:∃ a',REST b off c m=a':=⟨_,rfl⟩
 rw[ha'];by_cases h1:c=m
 ·have HA:Aside (some ⟨b,off,none⟩=a'):=by rw[<-ha'];simp[REST,h1,Aside]
  have hn:n=m:=by omega
  subst h1 hn;clear ha';go_enter Tryz.func128,Tryz.ntmps128;go_wp2_with fail
  refine cl.mono ?_;rintro e w' ⟨rfl,rfl⟩;clear cl;go_wp2_with fail
  go_ret;rw[<-HA.out];exact⟨rfl,by simp⟩
 ·have HA:Aside (some ⟨b,off+m,none⟩=a'):=by rw[<-ha'];simp[REST,h1,Aside]
  have hc1:¬ c - m=0:=by omega
  clear ha';go_enter Tryz.func128,Tryz.ntmps128;go_wp2_with fail
  refine cl.mono ?_;rintro e w' ⟨rfl,rfl⟩;clear cl;go_wp2_with fail
  go_ret;rw[<-HA.out];exact⟨rfl,rfl⟩
theorem Yy{w0 w:World}{rb:Nat}{t:List Int}(R:RDR w0 w rb t)(hl:(LNG t).2.2≠0):Calls Tryz.prog 128 #[.pointer (some ⟨rb,0,none⟩)] w fun e w'=>e=.panicked (zE (LNG t).2.2)/\w=w':=by
 obtain⟨a,c,h1,h2⟩:=R.rd;exact Kp rb _ _ _ _ w hl (h1.cell 0) (uJ a t.length c t w (h2.1.below R.bel) h2.2.1 (by have:=h2.2.2;omega))
theorem YK{w0 w:World}{rb:Nat}{t:List Int}(R:RDR w0 w rb t)(hl:(LNG t).2.2=0):
  ∃ Z m:Nat,Z<2 ^ 64/\1<=m/\m<=t.length/\LNG t=((Z:Int),(m:Int),0)/\Calls Tryz.prog 128 #[.pointer (some ⟨rb,0,none⟩)] w fun e w'=>e=.returned (.int .u64 (Z:Int))/\RDR w0 w' rb (t.drop m)/\STAY w w' rb:=by
 obtain⟨a,c,h1,h2⟩:=R.rd;obtain⟨Z,m,q1,q2,q3,q4,q5⟩:=qP h2.1.2.2 hl;obtain⟨b,off,rfl,hb,hcs⟩:=h2.addr (by omega);have cl:=uJ (some ⟨b,off,none⟩) t.length c t w (h2.1.below R.bel) h2.2.1 (by have:=h2.2.2;omega);rw[show LG t t.length 10 0 0=LNG t from rfl,q4] at cl;refine⟨Z,m,q1,q2,q3,q4,(Kq rb (Z:Int) b off t.length c m q3 h2.2.1 w (h1.cell 0) (h1.frozen 0) cl).mono ?_⟩;rintro e w' ⟨rfl,rfl⟩;exact⟨rfl,R.moved h1 h2 q3,STAY.set _ _ _ _⟩
theorem Gk{w0 w:World}{rb:Nat}(R:RDR w0 w rb []):Calls Tryz.prog 102 #[.pointer (some ⟨rb,0,none⟩)] w fun e w'=>e=.panicked (zE 11)/\w=w':=by
 obtain⟨a,c,h1,h2⟩:=R.rd;have x0:w.cell? ⟨rb,0,none⟩=some (.slice a 0 c):=h1.cell 0;clear R h1 h2;go_enter Tryz.func102,Tryz.ntmps102;go_wp2_with fail
 exact⟨rfl,rfl,rfl⟩
theorem Kr{w0 w:World}{rb:Nat}{x:Int}{l:List Int}(R:RDR w0 w rb (x :: l))(hx:¬ x=78):Calls Tryz.prog 102 #[.pointer (some ⟨rb,0,none⟩)] w fun e w'=>e=.panicked (zE 14)/\w=w':=by
 obtain⟨a,c,h1,h2⟩:=R.rd;obtain⟨b,off,rfl,hb,hcs⟩:=h2.addr (by simp);obtain⟨n,hn⟩:∃ n,(x :: l).length=n:=⟨_,rfl⟩
 rw[hn] at h1;have x0:w.cell? ⟨rb,0,none⟩=some (.slice (some ⟨b,off,none⟩) n c):=h1.cell 0;have x1:w.cell? ⟨b,off,none⟩=some (.int .u8 x):=(R.bel.cell (p:=⟨b,off,none⟩) hb).trans (by have:=hcs 0 (by simp);simpa using this);have hn1:(0:Int)<(n:Int):=by simp at hn;omega
 have hn2:0<n:=by omega
 have hn3:¬ (n:Int)=0:=by omega
 clear R h1 h2 hcs hn hb;go_enter Tryz.func102,Tryz.ntmps102;go_wp2_with fail
 exact⟨rfl,rfl,rfl⟩
theorem mN(rb b off n c:Nat)(hcap:n+1<=c)(w:World)(h0:w.cell? ⟨rb,0,none⟩=some (.slice (some ⟨b,off,none⟩) (n+1) c))(hf:w.frozen? ⟨rb,0,none⟩=false)(hc:w.cell? ⟨b,off,none⟩=some (.int .u8 78)):
  Calls Tryz.prog 102 #[.pointer (some ⟨rb,0,none⟩)] w fun e w'=>e=.returned (.tuple #[])/\w'=w.setCell ⟨rb,0,none⟩ (.slice (REST b off c 1) n (c - 1)):=by
 have hn1:(0:Int)<(n:Int)+1:=by omega
 have hn2:¬ (n:Int)+1=0:=by omega
 have hcap':(n:Int)+1<=(c:Int):=by omega
 obtain⟨a',ha'⟩:∃ a',REST b off c 1=a':=⟨_,rfl⟩
 rw[ha'];by_cases h1:c=1
 ·have HA:Aside (some ⟨b,off,none⟩=a'):=by rw[<-ha'];simp[REST,h1,Aside]
  have hn0:n=0:=by omega
  subst h1 hn0;clear ha' hcap;go_enter Tryz.func102,Tryz.ntmps102;go_wp2_with fail
  refine bodyPost_end (v:=.tuple #[]) (by simp[results,Tryz.f102]) rfl ?_;rw[<-HA.out];exact⟨rfl,rfl⟩
 ·have HA:Aside (some ⟨b,off+1,none⟩=a'):=by rw[<-ha'];simp[REST,h1,Aside]
  have hc1:¬ c - 1=0:=by omega
  clear ha' hcap;go_enter Tryz.func102,Tryz.ntmps102;go_wp2_with fail
  refine bodyPost_end (v:=.tuple #[]) (by simp[results,Tryz.f102]) rfl ?_;rw[<-HA.out];exact⟨rfl,rfl⟩
theorem mO{w0 w:World}{rb:Nat}{l:List Int}(R:RDR w0 w rb (78 :: l)):Calls Tryz.prog 102 #[.pointer (some ⟨rb,0,none⟩)] w fun e w'=>e=.returned (.tuple #[])/\RDR w0 w' rb l/\STAY w w' rb:=by
 obtain⟨a,c,h1,h2⟩:=R.rd;obtain⟨b,off,rfl,hb,hcs⟩:=h2.addr (by simp);refine(mN rb b off l.length c (by have:=h2.2.1;simpa using this) w (h1.cell 0) (h1.frozen 0) ((R.bel.cell (p:=⟨b,off,none⟩) hb).trans (by have:=hcs 0 (by simp);simpa using this))).mono ?_;rintro e w' ⟨rfl,rfl⟩;have:=R.moved h1 h2 (k:=1) (by simp);exact⟨rfl,by simpa using this,STAY.set _ _ _ _⟩
theorem mP{w0 w:World}{rb:Nat}{t:List Int}(R:RDR w0 w rb t)(hl:(LNG t).2.2≠0):Calls Tryz.prog 103 #[.pointer (some ⟨rb,0,none⟩)] w fun e w'=>e=.panicked (zE (LNG t).2.2)/\w=w':=by
 have cn:=Yy R hl;clear R;go_enter Tryz.func103,Tryz.ntmps103;go_wp2_with fail
 refine cn.mono ?_;rintro e w' ⟨rfl,rfl⟩;exact⟨rfl,rfl,rfl⟩
theorem mQ(rb:Nat)(Z:Int)(w:World)(D:World->Prop)(hZ:4611686018427387904<Z)(cn:Calls Tryz.prog 128 #[.pointer (some ⟨rb,0,none⟩)] w fun e w'=>e=.returned (.int .u64 Z)/\D w'):Calls Tryz.prog 103 #[.pointer (some ⟨rb,0,none⟩)] w fun e w'=>e=.panicked (zE 30)/\D w':=by
 go_enter Tryz.func103,Tryz.ntmps103;go_wp2_with fail
 refine cn.mono ?_;rintro e w' ⟨rfl,h⟩;have FN:Aside (D w'):=h;clear cn h;go_wp2_with fail
 exact⟨rfl,rfl,FN.out⟩
theorem Gl(rb:Nat)(Z:Int)(w:World)(D:World->Prop)(hZ:¬ 4611686018427387904<Z)(cn:Calls Tryz.prog 128 #[.pointer (some ⟨rb,0,none⟩)] w fun e w'=>e=.returned (.int .u64 Z)/\D w'):Calls Tryz.prog 103 #[.pointer (some ⟨rb,0,none⟩)] w fun e w'=>e=.returned (.int .u64 Z)/\D w':=by
 go_enter Tryz.func103,Tryz.ntmps103;go_wp2_with fail
 refine cn.mono ?_;rintro e w' ⟨rfl,h⟩;have FN:Aside (D w'):=h;clear cn h;go_wp2_with fail
 go_ret;exact⟨rfl,FN.out⟩
theorem z1O{w0 w:World}{rb:Nat}{t:List Int}(R:RDR w0 w rb t):Calls Tryz.prog 107 #[.pointer (some ⟨rb,0,none⟩)] w fun e w'=>((t=[]/\e=.returned (.tuple #[]))\/(t≠[]/\e=.panicked (zE 13)))/\w=w':=by
 obtain⟨a,c,h1,h2⟩:=R.rd;cases t with
 | nil=>
   have x0:w.cell? ⟨rb,0,none⟩=some (.slice a 0 c):=h1.cell 0;clear R h1 h2;go_enter Tryz.func107,Tryz.ntmps107;go_wp2_with fail
   exact bodyPost_end (v:=.tuple #[]) (by simp[results,Tryz.f107]) rfl ⟨.inl ⟨(by first | trivial | rfl),rfl⟩,rfl⟩
 | cons x l=>
   obtain⟨n,hn⟩:∃ n,(x :: l).length=n:=⟨_,rfl⟩
   rw[hn] at h1;have x0:w.cell? ⟨rb,0,none⟩=some (.slice a n c):=h1.cell 0;have hn1:(0:Int)<(n:Int):=by simp at hn;omega
   have hn2:0<n:=by omega
   clear R h1 h2 hn;go_enter Tryz.func107,Tryz.ntmps107;go_wp2_with fail
   exact⟨rfl,.inr ⟨by simp,rfl⟩,rfl⟩
end Go.Proofs.YtobaogpomcocpaaGreatDoor
