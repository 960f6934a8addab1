/- ManyClashes: part 21. -/
import Derived.Test.YtobaogpomcocpaaGreatDoorManyClashesP20
set_option maxRecDepth 100000
set_option maxHeartbeats 4000000
open Go.RowKit
namespace Go.Proofs.YtobaogpomcocpaaGreatDoor
theorem mF{l k:List Int}{n:Nat}(hl:l.length=n)(hk:k.length=n)(h:∀ j,j<n->l.getD j 0=k.getD j 0):l=k:=by
 apply List.ext_getElem (by omega);intro i h1 h2;have:=h i (by omega);simpa[List.getD,h1,h2] using this
theorem qm(a b:Option Addr)(n m ca cb:Nat)(l k:List Int)(w:World)(hA:Bytes w a n l)(hB:Bytes w b m k)(hn:n<=1000000):Calls Tryz.prog 10 #[.slice a n ca,.slice b m cb] w fun e w'=>e=.returned (.bool (decide (l=k)))/\Below w.heap.size w w':=by
 by_cases hnm:n=m
 ·subst hnm
  rcases Nat.eq_zero_or_pos n with h | h
  ·subst h
   have hd:decide (l=k)=true:=by
    rw[List.eq_nil_of_length_eq_zero hA.1,List.eq_nil_of_length_eq_zero hB.1];rfl
   rw[hd];clear hA hB hd;go_enter Tryz.func10,Tryz.ntmps10;go_wp2;refine wp_loop_rounds 1 ?_;rw[rounds_succ];go_wp2;go_ret;exact⟨rfl,Below.refl _ _⟩
  ·obtain⟨ba,oa,rfl,la,hca⟩:=hA.2.1 h
   obtain⟨bb,ob,rfl,lb,hcb⟩:=hB.2.1 h;have HC:Aside ((∀ i,i<n->w.cell? ⟨ba,oa+i,none⟩=some (.int .u8 (l.getD i 0)))/\(∀ i,i<n->w.cell? ⟨bb,ob+i,none⟩=some (.int .u8 (k.getD i 0)))/\ba<w.heap.size/\bb<w.heap.size/\l.length=n/\k.length=n/\n<=1000000):=⟨hca,hcb,la,lb,hA.1,hB.1,hn⟩
   clear hA hB hca hcb la lb hn;obtain⟨D,hD⟩:∃ D,D=decide (l=k):=⟨_,rfl⟩
   rw[<-hD];have HD:Aside (D=decide (l=k)):=hD;clear hD;go_enter Tryz.func10,Tryz.ntmps10;go_wp2;go_loopg [5] n (fun g s5 wx=>∃ i:Nat,s5=.int .i64 i/\Aside (i+g=n/\Below w.heap.size w wx/\∀ j,j<i->l.getD j 0=k.getD j 0))
   case atStart=>exact⟨0,rfl,by omega,Below.refl _ _,fun j hj=>by omega⟩
   case round=>
    obtain⟨i,rfl,A⟩:=hrel;cases gk with
    | zero=>
      obtain rfl:i=n:=by have:=A.out.1;omega
      have hlt:¬ (i:Int)<(i:Int):=by omega
      have hd:Aside (D=true):=by
       show D=true;rw[HD.out,decide_eq_true_iff];exact mF HC.out.2.2.2.2.1 HC.out.2.2.2.2.2.1 A.out.2.2
      clear HD HC;go_wp2;go_ret;exact⟨by rw[hd.out];rfl,A.out.2.1⟩
    | succ g=>
      obtain⟨hig,hbel,hbef⟩:=A.out;have hlt:(i:Int)<(n:Int):=by omega
      have h1:wr.cell? ⟨ba,oa+i,none⟩=some (.int .u8 (l.getD i 0)):=(hbel.cell (by exact HC.out.2.2.1)).trans (HC.out.1 i (by omega));have h2:wr.cell? ⟨bb,ob+i,none⟩=some (.int .u8 (k.getD i 0)):=(hbel.cell (by exact HC.out.2.2.2.1)).trans (HC.out.2.1 i (by omega));have E1:Aside (wrap64 ((i:Int)+1)=((i+1:Nat):Int)):=by have:=HC.out.2.2.2.2.2.2;show wrap64 ((i:Int)+1)=((i+1:Nat):Int);unfold wrap64;omega
      by_cases he:l.getD i 0=k.getD i 0
      ·have B:Aside (i+1+g=n/\Below w.heap.size w wr/\∀ j,j<i+1->l.getD j 0=k.getD j 0):=⟨by omega,hbel,fun j hj=>by
        by_cases e:j=i
        ·rw[e];exact he
        ·exact hbef j (by omega)⟩
       rw[<-he] at h2;clear he hig hbel hbef A HD HC;generalize l.getD i 0=v at h1 h2;have e1:=E1.out;go_wp2;go_quiet (fail)
       go_wp2;go_roundg g
       case measure=>exact Nat.lt_succ_self _
       case rel=>exact⟨i+1,by first | rfl | (rw[E1.out]),B.out.1,below_drewN B.out.2.1 _,B.out.2.2⟩
      ·have hd:Aside (D=false):=by
        show D=false;rw[HD.out,decide_eq_false_iff_not];intro e;rw[e] at he;exact he rfl
       have Z:Aside (Below w.heap.size w wr):=hbel;clear hig hbel hbef A HD HC E1;generalize l.getD i 0=v1 at h1 he;generalize k.getD i 0=v2 at h2 he;go_wp2;go_quiet (fail)
       go_wp2;go_ret;exact⟨by rw[hd.out];rfl,below_drewN Z.out _⟩
 ·have hne:¬ (n:Int)=(m:Int):=by omega
  have hd:decide (l=k)=false:=by
   rw[decide_eq_false_iff_not];intro e;rw[e] at hA;exact hnm (hA.1.symm.trans hB.1)
  rw[hd];clear hA hB hd;go_enter Tryz.func10,Tryz.ntmps10;go_wp2;go_ret;exact⟨rfl,Below.refl _ _⟩
theorem Flat.none_nil{w:World}{n:Nat}{l:List Int}(h:Flat w none n l):n=0/\l=[]:=by
 have h0:n=0:=by
  rcases Nat.eq_zero_or_pos n with h0 | h0
  ·exact h0
  ·obtain⟨_,_,e,_⟩:=h.2.1 h0
   cases e
 subst h0;exact⟨rfl,List.eq_nil_of_length_eq_zero h.1⟩
theorem vr{w:World}{B n:Nat}{v:Value}{xs:List Value}(h:w.ownsRow B 23 32 v n xs):∃ a c,v=.slice a n c/\n<=c/\(0<n->∃ g,a=some ⟨g,0,none⟩):=by
 rcases h.2 with ⟨rfl,h0⟩ | ⟨g,cap,cur,rfl,_,_,h1,_⟩
 ·subst h0
  exact⟨none,0,rfl,Nat.le_refl _,fun h=>by omega⟩
 ·exact⟨_,_,rfl,h1,fun _=>⟨g,rfl⟩⟩
theorem Gd{ops:Array Oper}{rest:List Oper}{o:Oper}{a:Act}{Q:Exit->Act->World->Prop}(w:World)(hgd:o.guard=none)(s x:Operand)
   (ho:o.op=.call {callee:=.builtin .append,args:=#[s,x],argTypes:=#[26,26]})
   (base:Nat) (v:Value) (n:Nat) (xs:List Value) (hs:a.eval s=v) (hown:w.ownsRow base 23 32 v n xs)
   (ad:Option Addr) (m c:Nat) (l:List Int) (hx:a.eval x=.slice ad m c) (hL:Flat w ad m l) (hc:ad=none->c=0)
   (hb:n+m<=100000) (hbase:base<=w.heap.size)
   (hh:∀ a' c' w',w'.ownsRow base 23 32 (.slice a' (n+m) c') (n+m) (xs ++ za l)->w.grownBy w' v.ownBlock->wpList Tryz.prog ops Q rest (a.put o.dst (.slice a' (n+m) c')) w'):wpList Tryz.prog ops Q (o :: rest) a w:=by
 obtain⟨i,hi,hz,hs1,hby⟩:=info_parts yQ;cases ad with
 | none=>
   obtain rfl:=hc rfl;obtain⟨rfl,rfl⟩:=hL.none_nil;refine wpList_append_own_none hgd s x 26 ho base 23 i 32 Tryz.underlying26 hi v n xs hs hown hx ?_;obtain⟨a',c',rfl,_,_⟩:=vr hown;have:=hh a' c' w (by simpa[za] using hown) (Ze _ _);simpa using this
 | some ad=>
   have hcells:∀ j u,(za l)[j]?=some u->w.cell? (ad.add j)=some u:=by
    intro j u hu
    have hj:j<l.length:=by
     have:=(List.getElem?_eq_some_iff.1 hu).1;simpa[za] using this
    have hl:=hL.1;obtain⟨g,o',e,_,hc'⟩:=hL.2.1 (by omega);cases e;rw[zY,hc' j (by omega),<-hu,zN l j hj]
   refine wpList_append_own w hgd s x 26 ho base 23 i _ 32 32 Tryz.underlying26 hi hz hs1 hby rfl (by decide) v n xs hs hown ad m c (za l) hx (by rw[za,List.length_map,hL.1];omega) hcells (yf l) (by simp only[maxLen];omega) (by omega) hbase ?_;intro v' w' h1 h2 _;obtain⟨a',c',rfl,_,_⟩:=vr h1;exact hh a' c' w' h1 h2
def MRK:List Int:=171 :: List.replicate 31 0
theorem uK:(za MRK).toArray=#[.int .u8 171,.int .u8 0,.int .u8 0,.int .u8 0,.int .u8 0,.int .u8 0,.int .u8 0,.int .u8 0,.int .u8 0,.int .u8 0,.int .u8 0,.int .u8 0,.int .u8 0,.int .u8 0,.int .u8 0,.int .u8 0,.int .u8 0,.int .u8 0,.int .u8 0,.int .u8 0,.int .u8 0,.int .u8 0,.int .u8 0,.int .u8 0,.int .u8 0,.int .u8 0,.int .u8 0,.int .u8 0,.int .u8 0,.int .u8 0,.int .u8 0,.int .u8 0]:=rfl
theorem Kk{w:World}{base g n cap:Nat}{l m:List Int}(h:w.ownsRow base 23 32 (.slice (some ⟨g,0,none⟩) (n+1) cap) (n+1) (za l ++ za m))(hl:l.length=32*n)(hm:m.length=32):w.ownsRow base 23 32 (.slice (some ⟨g,0,none⟩) n cap) n (za l)/\n+1<=cap/\w.rangeAt g (n*32) (za m)/\g<w.heap.size:=by
 have hr:w.rangeAt g (n*32) (za m):=by
  intro j v hv
  have hj:j<32:=by
   have:=(List.getElem?_eq_some_iff.1 hv).1;simpa[za,hm] using this
  have:=h.cellAt (n*32+j) (by omega);rw[this,List.getElem?_append_right (by simp[za];omega),show n*32+j - (za l).length=j by simp[za];omega];exact hv
 rcases h.2 with ⟨e,_⟩ | ⟨g',cap',cur,e,hb,hg,h1,h2,h3,h4⟩
 ·cases e
 ·cases e
  refine⟨⟨by rw[za,List.length_map,hl,Nat.mul_comm],.inr ⟨g,cap,cur,rfl,hb,hg,by omega,h2,h3,?_⟩⟩,h1,hr,(Array.getElem?_eq_some_iff.1 hg).1⟩;have h5:=congrArg (List.take (n*32)) h4;rw[List.take_take,show min (n*32) ((n+1)*32)=n*32 by omega] at h5;rw[h5,List.take_left' (by rw[za,List.length_map,hl,Nat.mul_comm])]
def z2U(w:World)(n:Nat)(l:List Int)(e:Ending)(w':World):Prop:=
 ∃ g cap,e=.returned (.slice (some ⟨g,0,none⟩) n cap)/\w'.ownsRow w.heap.size 23 32 (.slice (some ⟨g,0,none⟩) n cap) n (za l)/\n+1<=cap/\w'.rangeAt g (n*32) (za MRK)/\g<w'.heap.size/\Below w.heap.size w w'
theorem Kl(w:World):(w.alloc (.cells #[] 23)).ownsRow w.heap.size 23 32 (.slice (some ⟨w.heap.size,0,none⟩) 0 0) 0 []:=
 World.ownsRow_lit w #[] 0 (Nat.le_refl _) (by simp[maxLen]) rfl
theorem Zc(X:Nat)(hX:X<2 ^ 64)(w:World):Calls Tryz.prog 64 #[.int .u64 (X:Int)] w fun e w'=>
  ∃ g cap,e=.returned (.slice (some ⟨g,0,none⟩) (NTOP X+1) cap)/\w'.ownsRow w.heap.size 5 1 (.slice (some ⟨g,0,none⟩) (NTOP X+1) cap) (NTOP X+1) (za (zr X))/\g<w'.heap.size/\Below w.heap.size w w':=by
 have HX:Aside (X<2 ^ 64):=hX;clear hX;go_enter Tryz.func64,Tryz.ntmps64;go_wp2;go_loopg [0,3] 10 (fun g s0 s3 wx=>∃ (j x:Nat),j+g=10/\Aside (x=X / 128 ^ j/\(∀ i,i<j->128<=X / 128 ^ i)/\wx.ownsRow w.heap.size 5 1 s3 j (za (zR X j))/\Below w.heap.size w wx)/\s0=.int .u64 (x:Int))
 case atStart=>exact⟨0,X,by omega,⟨by simp,fun i hi=>by omega,World.ownsRow_nil _ _ _ _,Below.refl _ _⟩,rfl⟩
 case round=>
  obtain⟨j,x,hjg,A,rfl⟩:=hrel
  have hxl:(x:Int)<=18446744073709551615:=by
   have:=Nat.div_le_self X (128 ^ j);have h1:=A.out.1;have h2:=HX.out;omega
  have HXL:Aside ((x:Int)<=18446744073709551615):=hxl;clear hxl;by_cases hx:128<=(x:Int)
  ·go_wp2_with (at_builtin;refine zM _ rfl (.tmp 6) (.tmp 11) rfl w.heap.size u3 j (zR X j) rfl (A.out.2.2.1.alloc _) wr.heap.size 0 1 1 [(x:Int) % 128+128] rfl (qE wr _ (by omega) (by omega)) (by omega) (by omega) (by have:=A.out.2.2.2.size;simp;omega) ?_;intro g cap w1 hown hgrow hg)
   have R:(x / 128=X / 128 ^ (j+1))/\(∀ i,i<j+1->128<=X / 128 ^ i)/\w1.ownsRow w.heap.size 5 1 (.slice (some ⟨g,0,none⟩) (j+1) cap) (j+1) (za (zR X (j+1)))/\Below w.heap.size w w1:=by
    obtain⟨hxe,hall,hown0,hb⟩:=A.out;refine⟨by rw[hxe,Nat.div_div_eq_div_mul,<-Nat.pow_succ],fun i hi=>?_,?_,?_⟩
    ·by_cases e:i=j
     ·rw[e,<-hxe];omega
     ·exact hall i (by omega)
    ·rw[JI,show ((X / 128 ^ j % 128+128:Nat):Int)=(x:Int) % 128+128 by rw[<-hxe];omega]
     exact hown
    ·exact(hb.alloc hb.size _).grown hgrow (by have:=hb.size;simp;omega) (fun k e=>(hown0.lt k e).1)
   have HR:Aside ((x / 128=X / 128 ^ (j+1))/\(∀ i,i<j+1->128<=X / 128 ^ i)/\w1.ownsRow w.heap.size 5 1 (.slice (some ⟨g,0,none⟩) (j+1) cap) (j+1) (za (zR X (j+1)))/\Below w.heap.size w w1):=R
   have hj9:j<9:=by
    obtain⟨hxe,hall,_,_⟩:=A.out;rcases Nat.lt_or_ge j 9 with h | h
    ·exact h
    ·have h1:=VD X h
     have h2:X / 128 ^ 9<2:=Nat.div_lt_of_lt_mul (Nat.lt_of_lt_of_le HX.out (by decide));omega
   clear hown hgrow hg R A;go_wp2;go_roundg (gk - 1)
   case measure=>omega
   case rel=>exact⟨j+1,x / 128,by omega,HR,by have:=HXL.out;rw[show IntKind.u64.wrap ((x:Int) / 128)=((x / 128:Nat):Int) by rw[zh];omega]⟩
  ·go_wp2_with (at_builtin;refine zM _ rfl (.tmp 15) (.tmp 18) rfl w.heap.size u3 j (zR X j) rfl (A.out.2.2.1.alloc _) wr.heap.size 0 1 1 [(x:Int)] rfl (qE wr _ (by omega) (by omega)) (by omega) (by omega) (by have:=A.out.2.2.2.size;simp;omega) ?_;intro g cap w1 hown hgrow hg)
   obtain⟨hxe,hall,hown0,hb⟩:=A.out;have hN:NTOP X=j:=XF HX.out hall (by rw[<-hxe];omega)
   have R:w1.ownsRow w.heap.size 5 1 (.slice (some ⟨g,0,none⟩) (NTOP X+1) cap) (NTOP X+1) (za (zr X))/\g<w1.heap.size/\Below w.heap.size w w1:=by
    refine⟨?_,hg,(hb.alloc hb.size _).grown hgrow (by have:=hb.size;simp;omega) (fun k e=>(hown0.lt k e).1)⟩;unfold zr;rw[hN,<-hxe];exact hown
   have HR:Aside (w1.ownsRow w.heap.size 5 1 (.slice (some ⟨g,0,none⟩) (NTOP X+1) cap) (NTOP X+1) (za (zr X))/\g<w1.heap.size/\Below w.heap.size w w1):=R;have HN:Aside (NTOP X=j):=hN;clear hown hgrow hg R A hxe hall hown0 hb hN;go_wp2;go_ret;obtain⟨h1,h2,h3⟩:=HR.out;refine⟨g,cap,?_,h1,h2,h3⟩;rw[HN.out];rfl
theorem UH(a:Option Addr)(c:Nat)(w:World):Calls Tryz.prog 32 #[.slice a 0 c] w fun e w'=>e=.returned (.tuple #[.int .u64 0,.int .i64 0,.int .i64 11])/\w=w':=by
 go_enter Tryz.func32,Tryz.ntmps32;go_wp2;refine wp_loop_rounds 1 ?_;rw[rounds_succ];go_wp2;go_ret3
 exact⟨rfl,rfl⟩
def Tops(d:Nat->Nat)(j:Nat)(x:Int)(V:Nat):Prop:=∃ y:Nat,x=(y:Int)/\VAL d j+y*128 ^ j=V
theorem Tops.down{d:Nat->Nat}{j V:Nat}{x v:Int}(A:Tops d (j+1) x V)(hV:V<2 ^ 64)(hv:(v % 128).toNat=d j):Tops d j (IntKind.u64.wrap (IntKind.u64.wrap (128*x)+v % 128)) V:=by
 obtain⟨y,rfl,hy⟩:=A
 have e:VAL d j+(128*y+d j)*128 ^ j=V:=by
  rw[<-hy,VAL,Nat.add_mul,Nat.pow_succ,Nat.mul_comm 128 y,Nat.mul_assoc,Nat.mul_comm 128 (128 ^ j)];omega
 have hl:128*y+d j<=V:=by
  have h1:(128*y+d j)*1<=(128*y+d j)*128 ^ j:=Nat.mul_le_mul_left _ (Nat.pow_pos (by decide));omega
 refine⟨128*y+d j,?_,e⟩;rw[zh,zh,<-hv];omega
theorem Um{l:List Int}{n:Nat}(hn:10<=n)(h:∀ i,i<10->128<=l.getD i 0):LG l n 10 0 0=(0,0,10):=by
 have:=jQ 10 0 h (fun i hi=>by omega) (n:=n);simpa[LG] using this
theorem mG{l:List Int}{n:Nat}(hn:n<10)(h:∀ i,i<n->128<=l.getD i 0):LG l n 10 0 0=(0,0,11):=by
 have:=jQ n (9 - n+1) h (fun i hi=>by omega) (n:=n);rw[show 9 - n+1+n=10 by omega,XZ rfl] at this;exact this
theorem z1M{l:List Int}{n m:Nat}(hm:m<=9)(hmn:m<n)(h:∀ i,i<m->128<=l.getD i 0)(h1:¬ 128<=l.getD m 0):
  LG l n 10 0 0=if m=9/\1<l.getD m 0 then (0,0,10) else if l.getD m 0=0/\0<m then (0,0,12) else ((VAL (DIG l) m:Nat)+l.getD m 0*128 ^ m,(m:Int)+1,0):=by
 rw[show 10=9 - m+1+m by omega,jQ m (9 - m+1) h (fun i hi=>by omega),Yf (by omega) h1]
theorem X4{l:List Int}{k:Nat}{v r1:Int}(hr:∀ i,0<=l.getD i 0/\l.getD i 0<=255)(hv:l.getD k 0=v)(hk:k<=9)(h1:v<128)(h9:k=9->v<=1)(he:r1=(VAL (DIG l) k:Nat)+v*128 ^ k):
  Tops (DIG l) (k+1) 0 (VAL (DIG l) (k+1))/\VAL (DIG l) (k+1)<2 ^ 64/\r1=((VAL (DIG l) (k+1):Nat):Int):=by
 have hd:((DIG l k:Nat):Int)=v:=by
  have:=hr k;unfold DIG;rw[hv] at this ⊢;omega
 have hvl:=jP (X0 l) k;refine⟨⟨0,rfl,by simp⟩,?_,?_⟩
 ·rw[VAL]
  by_cases h:k=9
  ·subst h
   have:=h9 rfl;have hd1:DIG l 9<=1:=by omega
   have h3:DIG l 9*128 ^ 9<=1*128 ^ 9:=Nat.mul_le_mul_right _ hd1;omega
  ·have h8:=Nat.pow_le_pow_right (n:=128) (by decide) (show k<=8 by omega)
   have h5:DIG l k*128 ^ k<=127*128 ^ 8:=Nat.mul_le_mul (by have:=X0 l k;omega) h8;omega
 ·rw[he,VAL,Int.natCast_add,Int.natCast_mul,Int.natCast_pow,hd]
  rfl
theorem Km (b off n c:Nat) (l:List Int) (r1 r2 r3:Int) (hR:Aside (LG l n 10 0 0=(r1,r2,r3))) (w:World) (hB:Bytes w (some ⟨b,off,none⟩) n l) (h0:0<n) (hmax:n<=140737488355328):
    Calls Tryz.prog 32 #[.slice (some ⟨b,off,none⟩) n c] w fun e w'=>e=.returned (.tuple #[.int .u64 r1,.int .i64 r2,.int .i64 r3])/\w=w':=by
  obtain⟨b',off',e,_,hc0⟩:=hB.2.1 h0;simp only[Option.some.injEq,Addr.mk.injEq] at e;obtain⟨rfl,rfl,_⟩:=e;have HC:Aside ((∀ i,i<n->w.cell? ⟨b,off+i,none⟩=some (.int .u8 (l.getD i 0)))/\∀ i,0<=l.getD i 0/\l.getD i 0<=255):=⟨hc0,hB.get⟩
  clear hB hc0;go_enter Tryz.func32,Tryz.ntmps32;go_wp2;go_loop [5] (fun s5=>∃ k:Nat,k<=n/\k<=10/\Aside (∀ i,i<k->128<=l.getD i 0)/\s5=.int .i64 k) (fun i=>10 - (intOf i).toNat)
  case atStart=>exact⟨0,by omega,by omega,fun i hi=>by omega,rfl⟩
  case round=>
    obtain⟨k,hkn,hk10,A,rfl⟩:=hrel;by_cases hlt:(k:Int)<(n:Int)
    · by_cases h10:(k:Int)<10
      · have hc := HC.out.1 k (by omega)
        have hcb:=HC.out.2 k;generalize hv:l.getD k 0=v at hc hcb;have Hv:Aside (l.getD k 0=v):=hv;clear hv;have hv0:=hcb.1;have hv1:=hcb.2;clear hcb;by_cases h128:128<=v
        · go_wp2
          go_round
          case rel=>
            refine⟨k+1,by omega,by omega,fun i hi=>?_,by go_num⟩;by_cases e:i=k
            · rw[e,Hv.out];exact h128
            · exact A.out i (by omega)
          case measure=>first | (simp[intOf];done) | (simp[intOf];omega)
        · have hst := z1M (l:=l) (n:=n) (m:=k) (by omega) (by omega) A.out (by rw[Hv.out];exact h128)
          rw[Hv.out,hR.out] at hst;have hk10':((k:Int) == 10)=false:=by simp;omega
          have hkn':((k:Int) == (n:Int))=false:=by simp;omega
          by_cases h9:k=9
          · subst h9
            by_cases hr:1<v
            · rw[if_pos ⟨rfl,hr⟩] at hst
              simp only[Prod.mk.injEq] at hst;obtain⟨rfl,rfl,rfl⟩:=hst;clear A;go_wp2;go_ret3
              exact⟨rfl,rfl⟩
            · rw[if_neg (fun h=>hr h.2)] at hst
              by_cases hz:v=0
              · subst hz
                rw[if_pos ⟨rfl,by decide⟩] at hst;simp only[Prod.mk.injEq] at hst;obtain⟨rfl,rfl,rfl⟩:=hst;clear A;go_wp2;go_ret3
                exact⟨rfl,rfl⟩
              · rw[if_neg (fun h=>hz h.1)] at hst
                simp only[Prod.mk.injEq] at hst;have hvb:(v == 0)=false:=by simp[hz]
                clear hz;have HV:Aside (Tops (DIG l) (9+1) 0 (VAL (DIG l) (9+1))/\VAL (DIG l) (9+1)<2 ^ 64/\r1=((VAL (DIG l) (9+1):Nat):Int)):=X4 (HC.out.2) Hv.out (by omega) (by omega) (by omega) hst.1;obtain⟨_,rfl,rfl⟩:=hst;clear A;go_wp2;go_loop [6,7] (fun s6 s7=>∃ (j:Nat) (x:Int),j<=9+1/\Aside (Tops (DIG l) j x (VAL (DIG l) (9+1)))/\s6=.int .u64 x/\s7=.int .i64 ((j:Int) - 1)) (fun _ s=>(intOf s+1).toNat)
                case atStart=>exact⟨9+1,0,Nat.le_refl _,HV.out.1,rfl,by first | rfl | go_num⟩
                case round=>
                  obtain⟨j,x,hj,B,rfl,rfl⟩:=hrel;cases j with
                  | zero=>
                    obtain rfl:x=r1:=by
                      obtain⟨y,rfl,hy⟩:=B.out;rw[HV.out.2.2,<-hy];simp[VAL]
                    clear B HV;go_wp2;go_ret3
                    exact⟨rfl,rfl⟩
                  | succ i=>
                    have hi1:((i+1:Nat):Int) - 1=(i:Int):=by omega
                    rw[hi1];have hi0:(0:Int)<=(i:Int):=by omega
                    have hin:(i:Int)<(n:Int):=by omega
                    have hci:=HC.out.1 i (by omega);have hcbi:=HC.out.2 i;generalize hvi:l.getD i 0=u at hci hcbi;have Hu:Aside (l.getD i 0=u):=hvi;clear hvi hi1;have hu0:=hcbi.1;have hu1:=hcbi.2;clear hcbi;go_wp2;go_round
                    case rel=>exact⟨i,_,by omega,B.out.down HV.out.2.1 (by unfold DIG;rw[Hu.out]),rfl,by go_num⟩
                    case measure=>first | (simp[intOf];done) | (simp[intOf];omega)
          · rw[if_neg (fun h=>h9 h.1)] at hst
            have h9':((k:Int) == 9)=false:=by simp;omega
            by_cases hk0:k=0
            · subst hk0
              rw[if_neg (fun h=>by omega)] at hst;rw[Nat.add_zero] at hc;simp only[Prod.mk.injEq] at hst;have HV:Aside (Tops (DIG l) (0+1) 0 (VAL (DIG l) (0+1))/\VAL (DIG l) (0+1)<2 ^ 64/\r1=((VAL (DIG l) (0+1):Nat):Int)):=X4 (HC.out.2) Hv.out (by omega) (by omega) (by omega) hst.1;obtain⟨_,rfl,rfl⟩:=hst;clear A;go_wp2;go_loop [6,7] (fun s6 s7=>∃ (j:Nat) (x:Int),j<=0+1/\Aside (Tops (DIG l) j x (VAL (DIG l) (0+1)))/\s6=.int .u64 x/\s7=.int .i64 ((j:Int) - 1)) (fun _ s=>(intOf s+1).toNat)
              case atStart=>exact⟨0+1,0,Nat.le_refl _,HV.out.1,rfl,by first | rfl | go_num⟩
              case round=>
                obtain⟨j,x,hj,B,rfl,rfl⟩:=hrel;cases j with
                | zero=>
                  obtain rfl:x=r1:=by
                    obtain⟨y,rfl,hy⟩:=B.out;rw[HV.out.2.2,<-hy];simp[VAL]
                  clear B HV;go_wp2;go_ret3
                  exact⟨rfl,rfl⟩
                | succ i=>
                  have hi1:((i+1:Nat):Int) - 1=(i:Int):=by omega
                  rw[hi1];have hi0:(0:Int)<=(i:Int):=by omega
                  have hin:(i:Int)<(n:Int):=by omega
                  have hci:=HC.out.1 i (by omega);have hcbi:=HC.out.2 i;generalize hvi:l.getD i 0=u at hci hcbi;have Hu:Aside (l.getD i 0=u):=hvi;clear hvi hi1;have hu0:=hcbi.1;have hu1:=hcbi.2;clear hcbi;go_wp2;go_round
                  case rel=>exact⟨i,_,by omega,B.out.down HV.out.2.1 (by unfold DIG;rw[Hu.out]),rfl,by go_num⟩
                  case measure=>first | (simp[intOf];done) | (simp[intOf];omega)
            · have hkp:0<(k:Int):=by omega
              by_cases hz:v=0
              · subst hz
                rw[if_pos ⟨rfl,by omega⟩] at hst;simp only[Prod.mk.injEq] at hst;obtain⟨rfl,rfl,rfl⟩:=hst;clear A;go_wp2;go_ret3
                exact⟨rfl,rfl⟩
              · rw[if_neg (fun h=>hz h.1)] at hst
                simp only[Prod.mk.injEq] at hst;have hvb:(v == 0)=false:=by simp[hz]
                clear hz;have HV:Aside (Tops (DIG l) (k+1) 0 (VAL (DIG l) (k+1))/\VAL (DIG l) (k+1)<2 ^ 64/\r1=((VAL (DIG l) (k+1):Nat):Int)):=X4 (HC.out.2) Hv.out (by omega) (by omega) (by omega) hst.1;obtain⟨_,rfl,rfl⟩:=hst;clear A;go_wp2;go_loop [6,7] (fun s6 s7=>∃ (j:Nat) (x:Int),j<=k+1/\Aside (Tops (DIG l) j x (VAL (DIG l) (k+1)))/\s6=.int .u64 x/\s7=.int .i64 ((j:Int) - 1)) (fun _ s=>(intOf s+1).toNat)
                case atStart=>exact⟨k+1,0,Nat.le_refl _,HV.out.1,rfl,by first | rfl | go_num⟩
                case round=>
                  obtain⟨j,x,hj,B,rfl,rfl⟩:=hrel;cases j with
                  | zero=>
                    obtain rfl:x=r1:=by
                      obtain⟨y,rfl,hy⟩:=B.out;rw[HV.out.2.2,<-hy];simp[VAL]
                    clear B HV;go_wp2;go_ret3
                    exact⟨rfl,rfl⟩
                  | succ i=>
                    have hi1:((i+1:Nat):Int) - 1=(i:Int):=by omega
                    rw[hi1];have hi0:(0:Int)<=(i:Int):=by omega
                    have hin:(i:Int)<(n:Int):=by omega
                    have hci:=HC.out.1 i (by omega);have hcbi:=HC.out.2 i;generalize hvi:l.getD i 0=u at hci hcbi;have Hu:Aside (l.getD i 0=u):=hvi;clear hvi hi1;have hu0:=hcbi.1;have hu1:=hcbi.2;clear hcbi;go_wp2;go_round
                    case rel=>exact⟨i,_,by omega,B.out.down HV.out.2.1 (by unfold DIG;rw[Hu.out]),rfl,by go_num⟩
                    case measure=>first | (simp[intOf];done) | (simp[intOf];omega)
      · obtain rfl:k=10:=by omega
        have hall:=Um (n:=n) (by omega) A.out;rw[hR.out] at hall;simp only[Prod.mk.injEq] at hall;obtain⟨rfl,rfl,rfl⟩:=hall;clear A;go_wp2;go_ret3
        exact⟨rfl,rfl⟩
    · obtain rfl:k=n:=by omega
      by_cases h10:k=10
      · subst h10
        have hall:=Um (n:=10) (by omega) A.out;rw[hR.out] at hall;simp only[Prod.mk.injEq] at hall;obtain⟨rfl,rfl,rfl⟩:=hall;clear A;go_wp2;go_ret3
        exact⟨rfl,rfl⟩
      · have hall:=mG (l:=l) (n:=k) (by omega) A.out
        rw[hR.out] at hall;simp only[Prod.mk.injEq] at hall;obtain⟨rfl,rfl,rfl⟩:=hall;have hk10':((k:Int) == 10)=false:=by simp;omega
        clear A;go_wp2;go_ret3
        exact⟨rfl,rfl⟩
theorem Ge(a:Option Addr)(n c:Nat)(l:List Int)(w:World)(hB:Bytes w a n l)(hmax:n<=140737488355328):
  Calls Tryz.prog 32 #[.slice a n c] w fun e w'=>e=.returned (.tuple #[.int .u64 (LG l n 10 0 0).1,.int .i64 (LG l n 10 0 0).2.1,.int .i64 (LG l n 10 0 0).2.2])/\w=w':=by
 rcases Nat.eq_zero_or_pos n with h | h
 ·subst h
  exact UH a c w
 ·obtain⟨b,off,rfl,_,_⟩:=hB.2.1 h
  exact Km b off n c l _ _ _ rfl w hB h hmax
def yo(h:List Int)(k:Nat):List Int:=h.take k ++ List.replicate (32 - k) 0
theorem Gf(h:List Int):yo h 0=ZND:=rfl
theorem mH{h:List Int}(hl:h.length=32):yo h 32=h:=by
 unfold yo;rw[List.take_of_length_le (by omega)];simp
theorem qn{h:List Int}(hl:h.length=32){k:Nat}(hk:k<=32):(yo h k).length=32:=by
 unfold yo;simp;omega
theorem Gg{h:List Int}(hl:h.length=32){k:Nat}(hk:k<32):(za (yo h k)).toArray.setIfInBounds k (.int .u8 (h.getD k 0))=(za (yo h (k+1))).toArray:=by
 apply Array.ext_getElem?;intro j;rw[Array.getElem?_setIfInBounds];by_cases hj:j<32
 ·rw[List.getElem?_toArray,List.getElem?_toArray,zN _ j (by rw[qn hl (by omega)];exact hj),zN _ j (by rw[qn hl (by omega)];exact hj)]
  have hs:(za (yo h k)).toArray.size=32:=by simp[za,qn hl (show k<=32 by omega)]
  by_cases e:k=j
  ·subst e
   rw[if_pos rfl,if_pos (by omega)];unfold yo;rw[List.getD_eq_getElem?_getD (l:=h.take (k+1) ++ _),List.getElem?_append_left (by simp;omega),List.getElem?_take,if_pos (by omega),List.getD_eq_getElem?_getD]
  ·rw[if_neg e]
   unfold yo;congr 2
   rw[List.getD_eq_getElem?_getD,List.getD_eq_getElem?_getD];by_cases e2:j<k
   ·rw[List.getElem?_append_left (by simp;omega),List.getElem?_append_left (by simp;omega),List.getElem?_take,if_pos e2,List.getElem?_take,if_pos (by omega)]
   ·rw[List.getElem?_append_right (by simp;omega),List.getElem?_append_right (by simp;omega),List.getElem?_replicate,List.getElem?_replicate]
    simp only[List.length_take];rw[if_pos (by omega),if_pos (by omega)]
 ·rw[if_neg (by omega),Array.getElem?_eq_none (by simp[za,qn hl (show k<=32 by omega)];omega),Array.getElem?_eq_none (by simp[za,qn hl (show k+1<=32 by omega)];omega)]
def TAKN(t:List Int)(N:Nat):Int × Nat × List Int:=if t.length<32*N then (11,0,[]) else if 32*N<t.length then (13,0,[]) else (0,N,t)
theorem ji(w:World)(b:Nat):w.ownsRow b 23 32 (.slice none 0 0) 0 (za []):=World.ownsRow_nil _ _ _ _
theorem z1N (a:Option Addr) (m c N:Nat) (hm:m<=1000000) (hN:N<=1000) (t:List Int) (w:World) (hB:Bytes w a m t):
  Calls Tryz.prog 34 #[.slice a m c,.int .i64 (N:Int)] w fun e w'=>∃ v,e=.returned (.tuple #[v,.int .i64 (TAKN t N).1])/\w'.ownsRow w.heap.size 23 32 v (TAKN t N).2.1 (za (TAKN t N).2.2)/\Below w.heap.size w w':=by
 have hlm:t.length=m:=hB.1;have e32:wrap64 (32*(N:Int))=32*(N:Int):=by unfold wrap64;omega
 have q1:IntKind.i64.wrap ((m:Int) / 32)=(m:Int) / 32:=by rw[IntKind.wrap_i64];omega
 have q2:(m:Int).tdiv 32=(m:Int) / 32:=Int.tdiv_eq_ediv_of_nonneg (by omega);unfold TAKN;rw[hlm];by_cases h1:m<32*N
 ·rw[if_pos h1]
  have k1:(m:Int) / 32<(N:Int):=by omega
  clear hB hm hN h1 hlm;go_enter Tryz.func34,Tryz.ntmps34;go_wp2;go_ret2;exact⟨_,rfl,ji _ _,Below.refl _ _⟩
 ·rw[if_neg h1]
  have k1:¬ (m:Int) / 32<(N:Int):=by omega
  by_cases h2:32*N<m
  ·rw[if_pos h2]
   have k2:32*(N:Int)<(m:Int):=by omega
   clear hB hm hN h1 h2 hlm;go_enter Tryz.func34,Tryz.ntmps34;go_wp2;go_ret2;exact⟨_,rfl,ji _ _,Below.refl _ _⟩
  ·rw[if_neg h2]
   dsimp only;have k2:¬ 32*(N:Int)<(m:Int):=by omega
   have HA:Aside (m=32*N/\t.length=32*N/\N<=1000/\Bytes w a m t):=⟨by omega,by omega,hN,hB⟩
   clear hB hm hN h1 h2 hlm;go_enter Tryz.func34,Tryz.ntmps34;go_wp2;clear k1 k2 q1 q2 e32;go_loopg [6,7] N (fun q s6 s7 wx=>∃ i:Nat,s7=.int .i64 (i:Int)/\Aside (i+q=N/\wx.ownsRow w.heap.size 23 32 s6 i (za (t.take (32*i)))/\Below w.heap.size w wx))
   case atStart=>exact⟨0,rfl,by omega,ji _ _,Below.refl _ _⟩
   case round=>
    obtain⟨i,rfl,A⟩:=hrel;cases gk with
    | zero=>
      obtain rfl:i=N:=by have:=A.out.1;omega
      have hlt:¬ (i:Int)<(i:Int):=by omega
      have R:Aside (wr.ownsRow w.heap.size 23 32 u6 i (za t)/\Below w.heap.size w wr):=by
       have:=A.out.2.1;rw[List.take_of_length_le (by have:=HA.out;omega)] at this;exact⟨this,A.out.2.2⟩
      clear A HA;go_wp2;go_ret2;exact⟨_,rfl,R.out.1,R.out.2⟩
    | succ q=>
      have hlt:(i:Int)<(N:Int):=by have:=A.out.1;omega
      go_wp2;generalize wr=wo at *
      have R0:Aside (i+1+q=N/\(wo.alloc (.cells ZARR 23)).ownsRow w.heap.size 23 32 u6 i (za (t.take (32*i)))/\Below w.heap.size w (wo.alloc (.cells ZARR 23))/\Has (wo.alloc (.cells ZARR 23)) wo.heap.size (za (yo (HSH t i) 0)).toArray 23/\(HSH t i).length=32):=by
       obtain⟨a1,a2,a3⟩:=A.out;exact⟨by omega,a2.alloc _,a3.alloc a3.size _,by rw[Gf,zQ];exact Has.new _ _ _,yq HA.out.2.1 (by omega)⟩
      have BB:Aside (w.heap.size<=wo.heap.size/\∀ k,u6.ownBlock=some k->k≠wo.heap.size):=⟨A.out.2.2.size,fun k e=>by have:=(A.out.2.1.lt k e).2;omega⟩
      clear A;obtain⟨hb,hhb⟩:∃ hb,hb=wo.heap.size:=⟨_,rfl⟩
      rw[<-hhb] at R0 BB ⊢;clear hhb;rw[show (#[.int .u8 0,.int .u8 0,.int .u8 0,.int .u8 0,.int .u8 0,.int .u8 0,.int .u8 0,.int .u8 0,.int .u8 0,.int .u8 0,.int .u8 0,.int .u8 0,.int .u8 0,.int .u8 0,.int .u8 0,.int .u8 0,.int .u8 0,.int .u8 0,.int .u8 0,.int .u8 0,.int .u8 0,.int .u8 0,.int .u8 0,.int .u8 0,.int .u8 0,.int .u8 0,.int .u8 0,.int .u8 0,.int .u8 0,.int .u8 0,.int .u8 0,.int .u8 0]:Array Value)=ZARR from rfl];generalize wo.alloc (.cells ZARR 23)=w1 at *
      go_loopg [9] 32 (fun p s9 wx=>∃ k:Nat,s9=.int .i64 (k:Int)/\Aside (k+p=32/\wx.ownsRow w.heap.size 23 32 u6 i (za (t.take (32*i)))/\Below w.heap.size w wx/\Has wx hb (za (yo (HSH t i) k)).toArray 23))
      case atStart=>exact⟨0,rfl,by omega,R0.out.2.1,R0.out.2.2.1,R0.out.2.2.2.1⟩
      case round=>
       obtain⟨k,rfl,A⟩:=hrel;cases gk with
       | zero=>
         obtain rfl:k=32:=by have:=A.out.1;omega
         have hlt2:¬ (((32:Nat):Int))<32:=by omega
         have R:Aside (i+1+q=N/\wr.ownsRow w.heap.size 23 32 u6 i (za (t.take (32*i)))/\Below w.heap.size w wr/\Has wr hb (za (HSH t i)).toArray 23/\t.take (32*(i+1))=t.take (32*i) ++ HSH t i/\N<=1000):=by
          obtain⟨a1,a2,a3,a4⟩:=A.out;rw[mH R0.out.2.2.2.2] at a4;exact⟨R0.out.1,a2,a3,a4,ZE t i,HA.out.2.2.1⟩
         have h32:=R0.out.2.2.2.2;have E1:Aside (wrap64 ((i:Int)+1)=((i+1:Nat):Int)):=by have:=R.out;show wrap64 ((i:Int)+1)=((i+1:Nat):Int);unfold wrap64;omega
         clear A R0 HA;generalize HSH t i=H at *
         go_wp2_with (first
          | (refine wpList_load_row rfl 23 (.tmp 8) rfl hb rfl 23 (za H).toArray (0,0) _ R.out.2.2.2.1 Tryz.underlying23 rfl (zd h32) ?_)
          | (refine yM _ rfl 26 23 (.tmp 39) rfl (za H).toArray rfl 32 _ _ Tryz.underlying26 yQ (by simp[za,h32]) rfl (by decide) (by decide) ?_)
          | (at_builtin;refine jz _ rfl (.tmp 38) (.tmp 40) rfl w.heap.size u6 i _ rfl (R.out.2.1.alloc _) _ 1 H h32 rfl (Has.new _ _ _) (by have:=R.out;omega) (by have:=R.out.2.2.1.size;simp;omega) ?_;intro g2 c2 w2 hown hgrow hat hg))
         have R2:Aside (i+1+q=N/\w2.ownsRow w.heap.size 23 32 (.slice (some ⟨g2,0,none⟩) (i+1) c2) (i+1) (za (t.take (32*(i+1))))/\Below w.heap.size w w2):=by
          obtain⟨r1,r2,r3,r4,r5,r6⟩:=R.out;refine⟨r1,by rw[r5,yp];exact hown,(r3.alloc r3.size _).grown hgrow (by have:=r3.size;simp;omega) (fun k e=>(r2.lt k e).1)⟩
         clear hown hgrow hat hg R h32;have e1:=E1.out;go_wp2;go_roundg q
         case measure=>exact Nat.lt_succ_self _
         case rel=>exact⟨i+1,by first | rfl | (rw[E1.out]),R2.out⟩
       | succ p=>
         obtain⟨a1,a2,a3,a4⟩:=A.out;have hk:k<32:=by omega
         have hlt2:(k:Int)<32:=by omega
         obtain⟨h1,h2,h3,h4⟩:=HA.out;have hiN:i<N:=by have:=R0.out.1;omega
         obtain⟨b,o,rfl,hbl,hc⟩:=h4.2.1 (by omega);obtain⟨J,hJ⟩:∃ J,32*i+k=J:=⟨_,rfl⟩
         have hx:wr.cell? ⟨b,o+J,none⟩=some (.int .u8 ((HSH t i).getD k 0)):=by
          rw[Uk hk,hJ];exact(a3.cell (p:=⟨b,o+J,none⟩) hbl).trans (hc J (by omega))
         have M1:Aside (wrap64 (32*(i:Int))=32*(i:Int)):=by show wrap64 (32*(i:Int))=32*(i:Int);unfold wrap64;omega
         have M2:Aside (wrap64 (32*(i:Int)+(k:Int))=(J:Int)):=by show wrap64 (32*(i:Int)+(k:Int))=(J:Int);unfold wrap64;omega
         have m3:(J:Int)<(m:Int):=by omega
         have y0:wr.cell? ⟨hb,k,none⟩=some (.int .u8 ((yo (HSH t i) k).getD k 0)):=by
          rw[a4.cell,List.getElem?_toArray,zN _ k (by rw[qn R0.out.2.2.2.2 (by omega)];exact hk)]
         have y1:wr.frozen? ⟨hb,k,none⟩=false:=a4.frozen k;have hst:=a4.set k (.int .u8 ((HSH t i).getD k 0));rw[Gg R0.out.2.2.2.2 hk] at hst
         have R:Aside (k+1+p=32/\(wr.setCell ⟨hb,k,none⟩ (.int .u8 ((HSH t i).getD k 0))).ownsRow w.heap.size 23 32 u6 i (za (t.take (32*i)))/\Below w.heap.size w (wr.setCell ⟨hb,k,none⟩ (.int .u8 ((HSH t i).getD k 0)))/\Has (wr.setCell ⟨hb,k,none⟩ (.int .u8 ((HSH t i).getD k 0))) hb (za (yo (HSH t i) (k+1))).toArray 23):=
          ⟨by omega,Xf a2 fun j hj=>Below.heap_setCell _ _ _ j (BB.out.2 j hj),a3.setCell (p:=⟨hb,k,none⟩) BB.out.1 _,hst⟩
         have E1:Aside (wrap64 ((k:Int)+1)=((k+1:Nat):Int)):=by show wrap64 ((k:Int)+1)=((k+1:Nat):Int);unfold wrap64;omega
         clear a1 a2 a3 a4 hk h1 h2 h3 h4 hbl hc hJ hst A HA R0 BB;generalize (HSH t i).getD k 0=v at *
         generalize (yo (HSH t i) k).getD k 0=v0 at *
         have e1:=E1.out;have m1:=M1.out;have m2:=M2.out;go_wp2;go_roundg p
         case measure=>exact Nat.lt_succ_self _
         case rel=>exact⟨k+1,by first | rfl | (rw[E1.out]),R.out⟩
theorem xo{w w':World}{g o:Nat}{cs:List Value}(h:w.rangeAt g o cs)(hb:Below w.heap.size w w')(hg:g<w.heap.size):w'.rangeAt g o cs:=fun j v hv=>(hb.cell (p:=⟨g,o+j,none⟩) hg).trans (h j v hv)
theorem xp{w:World}{g o:Nat}{cs:List Value}(h:w.rangeAt g o cs){a:Addr}(ha:g≠a.block)(u:Value):(w.setCell a u).rangeAt g o cs:=fun j v hv=>(World.cell?_setCell_other w _ _ u (fun e=>ha (congrArg Addr.block e).symm)).trans (h j v hv)
theorem xg{w:World}{B n:Nat}{a:Option Addr}{c:Nat}{l:List Int}(h:w.ownsRow B 23 32 (.slice a n c) n (za l))(hr:∀ x∈l,0<=x/\x<=255):Flat w a n l:=by
 have hl:l.length=32*n:=by have:=h.1;simpa[za,Nat.mul_comm] using this
 refine⟨hl,fun hn=>?_,hr⟩;rcases h.2 with ⟨e,h0⟩ | ⟨g,cap,cur,e,_,hg,_⟩
 ·omega
 ·cases e
  refine⟨g,0,rfl,(Array.getElem?_eq_some_iff.1 hg).1,fun j hj=>?_⟩;have:=h.cellAt j (by omega);rw[Nat.zero_add,this,zN l j (by omega)]
theorem mI{l:List Int}{J:Nat}(h:J<l.length):l.take (J+1)=l.take J ++ [l.getD J 0]:=by
 rw[List.take_add_one,List.getElem?_eq_getElem h,List.getD_eq_getElem?_getD,List.getElem?_eq_getElem h];rfl
theorem z2r(B:Nat)(v:Value)(np:Nat)(PRE:List Int)(hnp:np<=1000000)(a:Option Addr)(n c:Nat)(hn:n<=1000)(l:List Int)(w:World)(hB:B<=w.heap.size)(hv:w.ownsRow B 5 1 v np (za PRE))(hF:Flat w a n l)(hFa:0<n->∀ b o,a=some ⟨b,o,none⟩->b<B):
  Calls Tryz.prog 65 #[v,.slice a n c] w fun e w'=>∃ v',e=.returned v'/\w'.ownsRow B 5 1 v' (np+32*n) (za (PRE ++ l))/\Below B w w':=by
 have HA:Aside (np<=1000000/\n<=1000/\l.length=32*n/\Flat w a n l/\(0<n->∀ b o,a=some ⟨b,o,none⟩->b<B)/\B<=w.heap.size):=⟨hnp,hn,hF.1,hF,hFa,hB⟩
 have V0:Aside (w.ownsRow B 5 1 v np (za PRE)):=hv;clear hnp hn hF hFa hB hv;go_enter Tryz.func65,Tryz.ntmps65;go_wp2;go_loopg [0,5] n (fun q s0 s5 wx=>∃ i:Nat,s5=.int .i64 (i:Int)/\Aside (i+q=n/\wx.ownsRow B 5 1 s0 (np+32*i) (za (PRE ++ l.take (32*i)))/\Below B w wx))
 case atStart=>exact⟨0,rfl,by omega,by simpa using V0.out,Below.refl _ _⟩
 case round=>
  obtain⟨i,rfl,A⟩:=hrel;clear V0;cases gk with
  | zero=>
    obtain rfl:i=n:=by have:=A.out.1;omega
    have hlt:¬ (i:Int)<(i:Int):=by omega
    have R:Aside (wr.ownsRow B 5 1 u0 (np+32*i) (za (PRE ++ l))/\Below B w wr):=by
     have:=A.out.2.1;rw[List.take_of_length_le (by have:=HA.out;omega)] at this;exact⟨this,A.out.2.2⟩
    clear A HA;go_wp2;go_ret;exact⟨_,rfl,R.out⟩
  | succ q=>
    have hlt:(i:Int)<(n:Int):=by have:=A.out.1;omega
    have R0:Aside (i+1+q=n/\wr.ownsRow B 5 1 u0 (np+(32*i+0)) (za (PRE ++ l.take (32*i+0)))/\Below B w wr):=⟨by have:=A.out.1;omega,A.out.2.1,A.out.2.2⟩
    clear A;go_wp2;generalize wr=wo at *
    generalize u0=vo at *
    go_loopg [0,6] 32 (fun p s0 s6 wx=>∃ k:Nat,s6=.int .i64 (k:Int)/\Aside (k+p=32/\wx.ownsRow B 5 1 s0 (np+(32*i+k)) (za (PRE ++ l.take (32*i+k)))/\Below B w wx))
    case atStart=>exact⟨0,rfl,by omega,R0.out.2.1,R0.out.2.2⟩
    case round=>
     obtain⟨k,rfl,A⟩:=hrel;cases gk with
     | zero=>
       obtain rfl:k=32:=by have:=A.out.1;omega
       have hlt2:¬ (((32:Nat):Int))<32:=by omega
       have R:Aside (i+1+q=n/\wr.ownsRow B 5 1 u0 (np+32*(i+1)) (za (PRE ++ l.take (32*(i+1))))/\Below B w wr):=⟨R0.out.1,by rw[show 32*(i+1)=32*i+32 by omega];exact A.out.2.1,A.out.2.2⟩
       have E1:Aside (wrap64 ((i:Int)+1)=((i+1:Nat):Int)):=by have:=HA.out;show wrap64 ((i:Int)+1)=((i+1:Nat):Int);unfold wrap64;omega
       clear A R0 HA;have e1:=E1.out;go_wp2;go_roundg q
       case measure=>exact Nat.lt_succ_self _
       case rel=>exact⟨i+1,by first | rfl | (rw[E1.out]),R.out⟩
     | succ p=>
       obtain⟨a1,a2,a3⟩:=A.out;obtain⟨h1,h2,h3,h4,h5,h6⟩:=HA.out;have hiN:i<n:=by have:=R0.out.1;omega
       have hk:k<32:=by omega
       have hlt2:(k:Int)<32:=by omega
       obtain⟨b,o,rfl,hbl,hc⟩:=h4.2.1 (by omega)
       have hx:wr.cell? ⟨b,o+i*32+k,none⟩=some (.int .u8 (l.getD (32*i+k) 0)):=by
        rw[show o+i*32+k=o+(32*i+k) by omega];exact(a3.cell (p:=⟨b,o+(32*i+k),none⟩) (h5 (by omega) b o rfl)).trans (hc _ (by omega))
       have hrng:=h4.2.2 (l.getD (32*i+k) 0) (by rw[List.getD_eq_getElem?_getD,List.getElem?_eq_getElem (by omega)];exact List.getElem_mem _);have htk:=mI (l:=l) (J:=32*i+k) (by omega);have R:Aside (k+1+p=32/\np+(32*i+k)+1<=140737488355328/\wr.ownsRow B 5 1 u0 (np+(32*i+k)) (za (PRE ++ l.take (32*i+k)))/\Below B w wr/\B<=wr.heap.size/\(0<=l.getD (32*i+k) 0/\l.getD (32*i+k) 0<=255)/\PRE ++ l.take (32*i+(k+1))=PRE ++ l.take (32*i+k) ++ [l.getD (32*i+k) 0]):=⟨by omega,by omega,a2,a3,Nat.le_trans h6 a3.size,hrng,by rw[<-Nat.add_assoc,htk,List.append_assoc]⟩
       have E1:Aside (wrap64 ((k:Int)+1)=((k+1:Nat):Int)):=by show wrap64 ((k:Int)+1)=((k+1:Nat):Int);unfold wrap64;omega
       clear a1 a2 a3 h1 h2 h3 h4 h5 h6 hiN hk hbl hc hrng htk A R0 HA;generalize l.getD (32*i+k) 0=x at *
       go_wp2_with (at_builtin;refine zM _ rfl (.tmp 17) (.tmp 24) rfl B u0 (np+(32*i+k)) _ rfl (R.out.2.2.1.alloc _) wr.heap.size 0 1 1 [x] rfl (qE wr x R.out.2.2.2.2.2.1.1 R.out.2.2.2.2.2.1.2) (by decide) R.out.2.1 (by have:=R.out.2.2.2.2.1;simp;omega) ?_;intro g2 c2 w2 hown hgrow hg)
       have R2:Aside (k+1+p=32/\w2.ownsRow B 5 1 (.slice (some ⟨g2,0,none⟩) (np+(32*i+k)+1) c2) (np+(32*i+(k+1))) (za (PRE ++ l.take (32*i+(k+1))))/\Below B w w2):=by
        obtain⟨r1,r2,r3,r4,r5,r6,r7⟩:=R.out;refine⟨r1,by rw[r7,show np+(32*i+(k+1))=np+(32*i+k)+1 by omega];exact hown,(r4.alloc r5 _).grown hgrow (by simp;omega) (fun k e=>(r3.lt k e).1)⟩
       clear hown hgrow hg R hx;have e1:=E1.out;go_wp2;go_roundg p
       case measure=>exact Nat.lt_succ_self _
       case rel=>exact⟨k+1,by first | rfl | (rw[E1.out]),R2.out⟩
end Go.Proofs.YtobaogpomcocpaaGreatDoor
