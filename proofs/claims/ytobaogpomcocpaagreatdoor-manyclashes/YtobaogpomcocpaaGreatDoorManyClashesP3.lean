/- ManyClashes: part 3. -/
import Derived.Laws.BitsAllLaws
import Derived.Deep.WholeRow
import Derived.Laws.ResultCell
import Derived.Laws.Rows
import Derived.Laws.Tables
import Derived.Deep.RegionWith
import Derived.Test.YtobaogpomcocpaaGreatDoorManyClashesP2
set_option maxRecDepth 100000
set_option maxHeartbeats 1000000
open Go.RowKit
namespace Go.Proofs.YtobaogpomcocpaaGreatDoor
def NUML(w:World)(a:Option Addr)(L:List Nat):Prop:=0<L.length->∃ b o,a=some ⟨b,o,none⟩/\b<w.heap.size/\∀ i x,L[i]?=some x->w.cell? ⟨b,o+i,none⟩=some (.int .u64 ((x:Nat):Int))
theorem NUML.below{w w':World}{a:Option Addr}{L:List Nat}{B:Nat}(h:NUML w a L)(hb:Below B w w')(hB:∀ x,a=some x->x.block<B):NUML w' a L:=fun h0=>by
 obtain⟨b,o,e,hl,hc⟩:=h h0;have h1:b<B:=hB _ e;exact⟨b,o,e,by have:=hb.size;omega,fun i x hx=>(hb.cell (p:=⟨b,o+i,none⟩) h1).trans (hc i x hx)⟩
def RISES(L:List Nat):Prop:=∀ (i j x y:Nat),i<j->L[i]?=some x->L[j]?=some y->x<y
theorem z2b{i j:Nat}(h:i<j):∃ m,i<=m/\m<j/\m=(i+j) / 2:=⟨(i+j) / 2,by omega,by omega,rfl⟩
theorem US(i j S m:Nat)(hj:j<2 ^ 40)(hi:i<j)(hS:i+j=S)(hm:m=(i+j) / 2):wrap64 ((i:Int)+(j:Int))=(S:Int)/\IntKind.u64.wrap ((i:Int)+(j:Int))=(S:Int)/\(S:Int) / 2=(m:Int)/\wrap64 (m:Int)=(m:Int)/\wrap64 ((m:Int)+1)=((m+1:Nat):Int)/\IntKind.u64.wrap (S:Int)=(S:Int):=by
 rw[zh,zh];unfold wrap64;omega
theorem MD(x:Int)(w:World):Calls Tryz.prog 135 #[.int .u64 x] w fun e w'=>e=.returned (.bool false)/\w=w':=by
 go_enter Tryz.func135,Tryz.ntmps135;go_wp2;go_ret;exact⟨rfl,rfl⟩
theorem GS(x:Int)(w:World):Calls Tryz.prog 144 #[.int .u64 x] w fun e w'=>e=.returned (.bool false)/\w=w':=by
 go_enter Tryz.func144,Tryz.ntmps144;go_wp2;go_ret;exact⟨rfl,rfl⟩
theorem up(x y:Nat)(w:World):Calls Tryz.prog 134 #[.int .u64 (x:Int),.int .u64 (y:Int)] w fun e w'=>e=.returned (.bool (decide (x<y)))/\w=w':=by
 have c:=GS (x:Int) w;go_enter Tryz.func134,Tryz.ntmps134;go_wp2_with fail
 refine c.mono ?_;rintro e w' ⟨rfl,rfl⟩;clear c;go_wp2_with fail
 go_ret;exact⟨rfl,rfl⟩
theorem ME(x y:Nat)(h:x<y)(w:World):Calls Tryz.prog 134 #[.int .u64 (x:Int),.int .u64 (y:Int)] w fun e w'=>e=.returned (.bool true)/\w=w':=by
 have:=up x y w;rwa [decide_eq_true h] at this
theorem z1h(x y:Nat)(h:¬ x<y)(w:World):Calls Tryz.prog 134 #[.int .u64 (x:Int),.int .u64 (y:Int)] w fun e w'=>e=.returned (.bool false)/\w=w':=by
 have:=up x y w;rwa [decide_eq_false h] at this
structure RANKS (L:List Nat) (t k:Nat):Prop where
 le:k<=L.length
 lo:∀ i x,i<k->L[i]?=some x->x<t
 hi:∀ i x,k<=i->L[i]?=some x->t<=x
def z2c(L:List Nat)(t:Nat)(w:World)(e:Ending)(w':World):Prop:=∃ (k:Nat) (b:Bool),e=.returned (.tuple #[.int .i64 (k:Int),.bool b])/\RANKS L t k/\w=w'
theorem GT(a:Option Addr)(n cap:Nat)(L:List Nat)(t:Nat)(hl:L.length=n)(hn:n<2 ^ 40)(hR:RISES L)(w:World)(hL:NUML w a L):Calls Tryz.prog 113 #[.slice a n cap,.int .u64 (t:Int)] w fun e w'=>z2c L t w e w':=by
 have H:Aside (L.length=n/\n<2 ^ 40/\RISES L/\NUML w a L):=⟨hl,hn,hR,hL⟩
 clear hl hn hR hL;go_enter Tryz.func113,Tryz.ntmps113;go_wp2;go_loopg [7,8] n (fun gg s7 s8 wx=>∃ i j:Nat,s7=.int .i64 (i:Int)/\s8=.int .i64 (j:Int)/\Aside (i+gg=j/\j<=n/\(∀ (k:Nat) (x:Nat),k<i->L[k]?=some x->x<t)/\(∀ (k:Nat) (x:Nat),j<=k->L[k]?=some x->t<=x))/\wx=w)
 case atStart=>exact⟨0,n,rfl,rfl,⟨by omega,Nat.le_refl _,fun k x h=>by omega,fun k x h e=>by have:=(List.getElem?_eq_some_iff.1 e).1;have:=H.out.1;omega⟩,rfl⟩
 case round=>
  obtain⟨i,j,rfl,rfl,I,rfl⟩:=hrel;cases gk with
  | zero=>
    obtain⟨i1,i2,i3,i4⟩:=I.out;obtain rfl:i=j:=by omega
    have hlt:¬ (i:Int)<(i:Int):=by omega
    rcases Nat.lt_or_ge i n with hin | hin
    ·have hi2:(i:Int)<(n:Int):=by omega
     have hi0:(0:Int)<=(i:Int):=by omega
     obtain⟨h1,h2,h3,h4⟩:=H.out;obtain⟨x,ex⟩:∃ x,L[i]?=some x:=⟨_,List.getElem?_eq_getElem (by omega)⟩
     obtain⟨g,o,rfl,hg,hc⟩:=h4 (by omega);have x0:=hc i x ex;have cc:=MD (x:Int);have R:Aside (RANKS L t i):=⟨by omega,i3,i4⟩
     clear i1 i2 i3 i4 h1 h2 h3 h4 hc ex I H;by_cases hx:x=t
     ·subst hx
      go_wp2_with fail
      go_ret2;exact⟨i,_,rfl,R.out,rfl⟩
     ·have hx':¬ (x:Int)=(t:Int):=by omega
      go_wp2_with fail
      refine(cc _).mono ?_;rintro e w2 ⟨rfl,rfl⟩;clear cc;go_wp2_with fail
      go_ret2;exact⟨i,_,rfl,R.out,rfl⟩
    ·have hi2:¬ (i:Int)<(n:Int):=by omega
     have R:Aside (RANKS L t i):=⟨by have:=H.out.1;omega,i3,i4⟩
     clear i1 i2 i3 i4 I H;go_wp2;go_ret2;exact⟨i,false,rfl,R.out,rfl⟩
  | succ gg=>
    obtain⟨i1,i2,i3,i4⟩:=I.out;have hij:(i:Int)<(j:Int):=by omega
    obtain⟨h1,h2,h3,h4⟩:=H.out;obtain⟨m,m1,m2,m3⟩:=z2b (i:=i) (j:=j) (by omega);obtain⟨S,hS⟩:∃ S,i+j=S:=⟨_,rfl⟩
    have HW:Aside _:=US i j S m (by omega) (by omega) hS m3;clear hS;have hm2:(m:Int)<(n:Int):=by omega
    have hm0:(0:Int)<=(m:Int):=by omega
    obtain⟨x,ex⟩:∃ x,L[m]?=some x:=⟨_,List.getElem?_eq_getElem (by omega)⟩
    obtain⟨g,o,rfl,hg,hc⟩:=h4 (by omega);have x0:=hc m x ex
    have LO:Aside (x<t->∀ (k:Nat) (y:Nat),k<m+1->L[k]?=some y->y<t):=fun h k y hk e=>by
     rcases Nat.lt_or_ge k m with hkm | hkm
     ·have:=h3 k m y x hkm e ex
      omega
     ·obtain rfl:k=m:=by omega
      rw[ex] at e;cases e;exact h
    have HI:Aside (¬ x<t->∀ (k:Nat) (y:Nat),m<=k->L[k]?=some y->t<=y):=fun h k y hk e=>by
     rcases Nat.lt_or_ge m k with hkm | hkm
     ·have:=h3 m k x y hkm ex e
      omega
     ·obtain rfl:k=m:=by omega
      rw[ex] at e;cases e;omega
    have R:Aside (i<=m/\m<j/\j<=n/\i+(gg+1)=j/\(∀ (k:Nat) (y:Nat),k<i->L[k]?=some y->y<t)/\(∀ (k:Nat) (y:Nat),j<=k->L[k]?=some y->t<=y)):=⟨m1,m2,i2,i1,i3,i4⟩
    clear i1 i2 i3 i4 h1 h2 h3 h4 hc ex I m1 m2 m3;obtain⟨q1,q2,q3,q4,q5,q6⟩:=HW.out;by_cases hlt:x<t
    ·have cc:=ME x t hlt
     have LL:Aside (∀ (k:Nat) (y:Nat),k<m+1->L[k]?=some y->y<t):=LO.out hlt;clear hlt LO HI;go_wp2_with fail
     refine(cc _).mono ?_;rintro e w2 ⟨rfl,rfl⟩;clear cc x0;go_wp2;go_roundg (j - (m+1))
     case measure=>have:=R.out;clear q1 q2 q3 q4 q5 q6;omega
     case rel=>exact⟨m+1,j,by first | rfl | (rw[q5]),rfl,⟨by have:=R.out;clear q1 q2 q3 q4 q5 q6;omega,R.out.2.2.1,LL.out,R.out.2.2.2.2.2⟩,rfl⟩
    ·have cc:=z1h x t hlt
     have LL:Aside (∀ (k:Nat) (y:Nat),m<=k->L[k]?=some y->t<=y):=HI.out hlt;clear hlt LO HI;go_wp2_with fail
     refine(cc _).mono ?_;rintro e w2 ⟨rfl,rfl⟩;clear cc x0;go_wp2;go_roundg (m - i)
     case measure=>have:=R.out;clear q1 q2 q3 q4 q5 q6;omega
     case rel=>exact⟨i,m,rfl,by first | rfl | (rw[q4]),⟨by have:=R.out;clear q1 q2 q3 q4 q5 q6;omega,by have:=R.out;clear q1 q2 q3 q4 q5 q6;omega,R.out.2.2.2.2.1,LL.out⟩,rfl⟩
def NEED:Nat->Nat->List Nat->List Nat
 | h,k,[]=>[PLC h k]
 | 0,_,_ :: _=>[]
 | h+1,k,x :: l=>NEED h (2*k) ((x :: l).filter fun y=>decide (y<(2*k+1)*2 ^ h)) ++ NEED h (2*k+1) ((x :: l).filter fun y=>!decide (y<(2*k+1)*2 ^ h))
theorem yh(h k:Nat):NEED h k []=[PLC h k]:=by cases h <;> rfl
theorem YO(h k x:Nat)(l:List Nat):NEED (h+1) k (x :: l)=NEED h (2*k) ((x :: l).filter fun y=>decide (y<(2*k+1)*2 ^ h)) ++ NEED h (2*k+1) ((x :: l).filter fun y=>!decide (y<(2*k+1)*2 ^ h)):=rfl
theorem RANKS.take:∀ {L:List Nat} {t r:Nat},RANKS L t r->L.take r=L.filter fun y=>decide (y<t)
 | [],t,r,_=>by simp
 | x :: l,t,0,h=>by
   rw[List.take_zero];symm;rw[List.filter_eq_nil_iff];intro y hy;obtain⟨i,hi⟩:=List.getElem?_of_mem hy;have:=h.hi i y (Nat.zero_le _) hi;simp;omega
 | x :: l,t,r+1,h=>by
   have hx:x<t:=h.lo 0 x (by omega) rfl;have h':RANKS l t r:=⟨by have:=h.le;simp at this;omega,fun i y hi hy=>h.lo (i+1) y (by omega) (by simpa using hy),fun i y hi hy=>h.hi (i+1) y (by omega) (by simpa using hy)⟩
   rw[List.take_succ_cons,List.filter_cons_of_pos (by simpa using hx),h'.take]
theorem RANKS.drop:∀ {L:List Nat} {t r:Nat},RANKS L t r->L.drop r=L.filter fun y=>!decide (y<t)
 | [],t,r,_=>by simp
 | x :: l,t,0,h=>by
   rw[List.drop_zero];symm;rw[List.filter_eq_self];intro y hy;obtain⟨i,hi⟩:=List.getElem?_of_mem hy;have:=h.hi i y (Nat.zero_le _) hi;simp;omega
 | x :: l,t,r+1,h=>by
   have hx:x<t:=h.lo 0 x (by omega) rfl;have h':RANKS l t r:=⟨by have:=h.le;simp at this;omega,fun i y hi hy=>h.lo (i+1) y (by omega) (by simpa using hy),fun i y hi hy=>h.hi (i+1) y (by omega) (by simpa using hy)⟩
   rw[List.drop_succ_cons,List.filter_cons_of_neg (by simpa using hx),h'.drop]
theorem RISES.take{L:List Nat}(h:RISES L)(r:Nat):RISES (L.take r):=fun i j x y hij hx hy=>by
 rw[List.getElem?_take] at hx hy;split at hx
 ·split at hy
  ·exact h i j x y hij hx hy
  ·cases hy
 ·cases hx
theorem RISES.drop{L:List Nat}(h:RISES L)(r:Nat):RISES (L.drop r):=fun i j x y hij hx hy=>by
 rw[List.getElem?_drop] at hx hy;exact h (r+i) (r+j) x y (by omega) hx hy
theorem xR{h k r:Nat}{L:List Nat}(hL:L≠[])(hr:RANKS L ((2*k+1)*2 ^ h) r):NEED (h+1) k L=NEED h (2*k) (L.take r) ++ NEED h (2*k+1) (L.drop r):=by
 cases L with
 | nil=>exact absurd rfl hL
 | cons x l=>rw[YO,hr.take,hr.drop]
def zc:List (Nat × Nat)->List Nat->List Nat
 | [],_=>[]
 | (h,k) :: ps,L=>NEED h k (L.filter fun y=>decide (y<(k+1)*2 ^ h)) ++ zc ps (L.filter fun y=>!decide (y<(k+1)*2 ^ h))
theorem y7{h k r:Nat}{L:List Nat}(ps:List (Nat × Nat))(hr:RANKS L ((k+1)*2 ^ h) r):zc ((h,k) :: ps) L=NEED h k (L.take r) ++ zc ps (L.drop r):=by
 rw[zc,hr.take,hr.drop]
theorem jd(p:Nat->Bool):∀ l:List Nat,(l.filter p).length+(l.filter fun y=>!p y).length=l.length
 | []=>rfl
 | x :: l=>by
   have:=jd p l;cases h:p x <;> simp[List.filter,h] <;> omega
theorem YC:∀ (h k:Nat) (L:List Nat),L≠[]->(NEED h k L).length<=L.length*h
 | _,_,[],hL=>absurd rfl hL
 | 0,_,_ :: _,_=>by simp[NEED]
 | h + 1,k,x :: l,_=>by
   rw[YO,List.length_append];generalize hA:((x :: l).filter fun y=>decide (y<(2*k+1)*2 ^ h))=A;generalize hB:((x :: l).filter fun y=>!decide (y<(2*k+1)*2 ^ h))=B
   have hAB:A.length+B.length=(x :: l).length:=by
    rw[<-hA,<-hB];exact jd _ _
   have h1:(NEED h (2*k) A).length<=A.length*h+(if A.length=0 then 1 else 0):=by
    cases A with
    | nil=>rw[yh];simp
    | cons y m=>exact Nat.le_trans (YC h (2*k) (y :: m) (by simp)) (Nat.le_add_right _ _)
   have h2:(NEED h (2*k+1) B).length<=B.length*h+(if B.length=0 then 1 else 0):=by
    cases B with
    | nil=>rw[yh];simp
    | cons y m=>exact Nat.le_trans (YC h (2*k+1) (y :: m) (by simp)) (Nat.le_add_right _ _)
   have h3:0<(x :: l).length:=by simp
   have h4:A.length*h+B.length*h=(x :: l).length*h:=by rw[<-Nat.add_mul,hAB]
   rw[Nat.mul_succ];generalize (NEED h (2*k) A).length=u at *
   generalize (NEED h (2*k+1) B).length=v at *
   generalize A.length*h=p at *
   generalize B.length*h=q at *
   generalize (x :: l).length*h=s at *
   generalize (x :: l).length=m at *
   split at h1 <;> split at h2 <;> omega
theorem vG(h k:Nat)(L:List Nat):(NEED h k L).length<=L.length*h+1:=by
 cases L with
 | nil=>rw[yh];simp
 | cons x l=>exact Nat.le_trans (YC h k (x :: l) (by simp)) (Nat.le_add_right _ _)
namespace HX
def ROTR(n x:Nat):Nat:=x / 2 ^ n+x % 2 ^ n*2 ^ (32 - n)
theorem zH{n x:Nat}(hn:n<=32)(hx:x<2 ^ 32):ROTR n x<2 ^ 32:=by
 unfold ROTR;have h1:(2:Nat) ^ 32=2 ^ n*2 ^ (32 - n):=by rw[<-Nat.pow_add];congr 1;omega
 have h2:x / 2 ^ n<2 ^ (32 - n):=by
  apply Nat.div_lt_of_lt_mul;rw[<-h1];exact hx
 have h3:x % 2 ^ n+1<=2 ^ n:=Nat.mod_lt _ (Nat.two_pow_pos n);have h4:=Nat.mul_le_mul_right (2 ^ (32 - n)) h3;rw[Nat.add_mul,Nat.one_mul,<-h1] at h4;omega
theorem z2d{n x:Nat}(hn:n<=32)(hx:x<2 ^ 32):x*2 ^ (32 - n) % 2 ^ 32 ||| x / 2 ^ n=ROTR n x:=by
 have h1:(2:Nat) ^ 32=2 ^ n*2 ^ (32 - n):=by rw[<-Nat.pow_add];congr 1;omega
 have h2:x / 2 ^ n<2 ^ (32 - n):=by
  apply Nat.div_lt_of_lt_mul;rw[<-h1];exact hx
 have h3:x*2 ^ (32 - n) % 2 ^ 32=x % 2 ^ n*2 ^ (32 - n):=by
  rw[h1,Nat.mul_mod_mul_right]
 rw[h3,nat_join (32 - n) _ _ (Nat.mul_mod_left _ _) h2];unfold ROTR;omega
def MIX(i j k x:Nat):Nat:=ROTR i x ^^^ ROTR j x ^^^ ROTR k x
def zV(i j k x:Nat):Nat:=ROTR i x ^^^ ROTR j x ^^^ x / 2 ^ k
def CHO(x y z:Nat):Nat:=(x &&& y) ^^^ ((4294967295 - x) &&& z)
def MAJ(x y z:Nat):Nat:=(x &&& y) ^^^ (x &&& z) ^^^ (y &&& z)
theorem Ud{i j k x:Nat}(hi:i<=32)(hj:j<=32)(hk:k<=32)(hx:x<2 ^ 32):MIX i j k x<2 ^ 32:=Nat.xor_lt_two_pow (Nat.xor_lt_two_pow (zH hi hx) (zH hj hx)) (zH hk hx)
theorem Vt{i j k x:Nat}(hi:i<=32)(hj:j<=32)(hx:x<2 ^ 32):zV i j k x<2 ^ 32:=Nat.xor_lt_two_pow (Nat.xor_lt_two_pow (zH hi hx) (zH hj hx)) (Nat.lt_of_le_of_lt (Nat.div_le_self _ _) hx)
theorem Ue{x y z:Nat}(hx:x<2 ^ 32)(hz:z<2 ^ 32):CHO x y z<2 ^ 32:=Nat.xor_lt_two_pow (Nat.lt_of_le_of_lt Nat.and_le_left hx) (Nat.lt_of_le_of_lt Nat.and_le_right hz)
theorem Uf{x y z:Nat}(hx:x<2 ^ 32)(hy:y<2 ^ 32):MAJ x y z<2 ^ 32:=Nat.xor_lt_two_pow (Nat.xor_lt_two_pow (Nat.lt_of_le_of_lt Nat.and_le_left hx) (Nat.lt_of_le_of_lt Nat.and_le_left hx)) (Nat.lt_of_le_of_lt Nat.and_le_left hy)
def zk(s:Nat->Nat)(o:Nat):Nat:=s o*16777216+s (o+1)*65536+s (o+2)*256+s (o+3)
theorem xe{s:Nat->Nat}(o:Nat)(h:∀ i,s i<256):zk s o<2 ^ 32:=by
 have h0:=h o;have h1:=h (o+1);have h2:=h (o+2);have h3:=h (o+3);unfold zk;omega
def SCHL(b:Nat->Nat):Nat->Nat->Nat
 | 0,t=>if t<16 then zk b (4*t) else 0
 | k+1,t=>if t=16+k then (zV 17 19 10 (SCHL b k (14+k))+SCHL b k (9+k)+zV 7 18 3 (SCHL b k (1+k))+SCHL b k k) % 4294967296 else SCHL b k t
def SCH(b:Nat->Nat):Nat->Nat:=SCHL b 48
theorem xF{b:Nat->Nat}(h:∀ i,b i<256):∀ k t,SCHL b k t<2 ^ 32
 | 0,t=>by
   unfold SCHL;split
   ·exact xe _ h
   ·decide
 | k+1,t=>by
   unfold SCHL;split
   ·exact Nat.mod_lt _ (by decide)
   ·exact xF h k t
theorem J6(b:Nat->Nat)(k:Nat):∀ m t,t<16+k->SCHL b (k+m) t=SCHL b k t
 | 0,_,_=>rfl
 | m+1,t,h=>by
   show SCHL b (k+m+1) t=_;rw[SCHL,if_neg (by omega)];exact J6 b k m t h
def KLIST:List Nat:=[1116352408,1899447441,3049323471,3921009573,961987163,1508970993,2453635748,2870763221,3624381080,310598401,607225278,1426881987,1925078388,2162078206,2614888103,3248222580,3835390401,4022224774,264347078,604807628,770255983,1249150122,1555081692,1996064986,2554220882,2821834349,2952996808,3210313671,3336571891,3584528711,113926993,338241895,666307205,773529912,1294757372,1396182291,1695183700,1986661051,2177026350,2456956037,2730485921,2820302411,3259730800,3345764771,3516065817,3600352804,4094571909,275423344,430227734,506948616,659060556,883997877,958139571,1322822218,1537002063,1747873779,1955562222,2024104815,2227730452,2361852424,2428436474,2756734187,3204031479,3329325298]
def KC(t:Nat):Nat:=KLIST.getD t 0
theorem z2K(t:Nat):KC t<2 ^ 32:=by
 by_cases h:t<64
 ·have:∀ i,i<64->KC i<2 ^ 32:=by decide
  exact this t h
 ·have:KLIST.length=64:=rfl
  unfold KC;rw[List.getD_eq_getElem?_getD,List.getElem?_eq_none (by omega)];decide
structure ST where
 a:Nat
 b:Nat
 c:Nat
 d:Nat
 e:Nat
 f:Nat
 g:Nat
 h:Nat
def T1(k x:Nat)(s:ST):Nat:=(s.h+MIX 6 11 25 s.e+CHO s.e s.f s.g+k+x) % 4294967296
def T2(s:ST):Nat:=(MIX 2 13 22 s.a+MAJ s.a s.b s.c) % 4294967296
def RND(k x:Nat)(s:ST):ST:={a:=(T1 k x s+T2 s) % 4294967296,b:=s.a,c:=s.b,d:=s.c,e:=(s.d+T1 k x s) % 4294967296,f:=s.e,g:=s.f,h:=s.g}
def Small(s:ST):Prop:=s.a<2 ^ 32/\s.b<2 ^ 32/\s.c<2 ^ 32/\s.d<2 ^ 32/\s.e<2 ^ 32/\s.f<2 ^ 32/\s.g<2 ^ 32/\s.h<2 ^ 32
theorem Small.rnd{s:ST}(h:Small s)(k x:Nat):Small (RND k x s):=by
 obtain⟨h1,h2,h3,h4,h5,h6,h7,h8⟩:=h;exact⟨Nat.mod_lt _ (by decide),h1,h2,h3,Nat.mod_lt _ (by decide),h5,h6,h7⟩
def RUN(x:Nat->Nat)(s:ST):Nat->ST
 | 0=>s
 | t+1=>RND (KC t) (x t) (RUN x s t)
theorem YP(x:Nat->Nat){s:ST}(h:Small s):∀ t,Small (RUN x s t)
 | 0=>h
 | t+1=>(YP x h t).rnd _ _
def STOF(s:Nat->Nat):ST:={a:=zk s 0,b:=zk s 4,c:=zk s 8,d:=zk s 12,e:=zk s 16,f:=zk s 20,g:=zk s 24,h:=zk s 28}
theorem J7{s:Nat->Nat}(h:∀ i,s i<256):Small (STOF s):=
 ⟨xe _ h,xe _ h,xe _ h,xe _ h,xe _ h,xe _ h,xe _ h,xe _ h⟩
def ST.at(s:ST):Nat->Nat
 | 0=>s.a
 | 1=>s.b
 | 2=>s.c
 | 3=>s.d
 | 4=>s.e
 | 5=>s.f
 | 6=>s.g
 | 7=>s.h
 | _=>0
def OUTW(s b:Nat->Nat)(i:Nat):Nat:=(zk s (4*i)+(RUN (SCH b) (STOF s) 64).at i) % 4294967296
def zj(x:Nat->Nat)(i:Nat):Nat:=x (i / 4) / 2 ^ (24 - 8*(i % 4)) % 256
def WID(w:Int):Nat:=(min (max w 1) 32).toNat
def zL(w:Int)(s:Nat->Nat)(i:Nat):Nat:=if i<WID w then s i else 0
def COMP(w:Int)(s b:Nat->Nat):Nat->Nat:=zL w (zj (OUTW s b))
theorem Vu(x:Nat->Nat)(i:Nat):zj x i<256:=Nat.mod_lt _ (by decide)
theorem vH{w:Int}{s:Nat->Nat}(h:∀ i,s i<256)(i:Nat):zL w s i<256:=by
 unfold zL;split
 ·exact h i
 ·decide
theorem z1i(w:Int)(s b:Nat->Nat)(i:Nat):COMP w s b i<256:=vH (Vu _) i
theorem KX(w:Int):1<=WID w/\WID w<=32:=by unfold WID;omega
end HX
def BARR(n:Nat)(f:Nat->Int):Array Value:=((List.range n).map fun i=>Value.int .u8 (f i)).toArray
theorem qD(n:Nat)(f:Nat->Int):(BARR n f).size=n:=by simp[BARR]
theorem qJ(n:Nat)(f:Nat->Int)(i:Nat)(h:i<n):(BARR n f)[i]?=some (.int .u8 (f i)):=by simp[BARR,h]
theorem MF{n:Nat}{f g:Nat->Int}(h:∀ i,i<n->f i=g i):BARR n f=BARR n g:=by
 unfold BARR;congr 1
 apply List.map_congr_left;intro i hi;rw[h i (by simpa using hi)]
theorem Vv(n:Nat)(f:Nat->Int)(i:Nat)(v:Int):(BARR n f).setIfInBounds i (.int .u8 v)=BARR n fun j=>if j=i then v else f j:=by
 apply Array.ext_getElem?;intro j;by_cases hj:j<n
 ·rw[qJ _ _ j hj,Array.getElem?_setIfInBounds]
  by_cases h:i=j
  ·subst h
   simp[qD,hj]
  ·have h':¬ j=i:=fun e=>h e.symm
   simp[h,h',qJ _ _ j hj]
 ·rw[Array.getElem?_eq_none (by simp[qD];omega),Array.getElem?_eq_none (by simp[qD];omega)]
theorem YQ(n:Nat):madeCells #[Value.int .u8 0] n=BARR n fun _=>0:=by
 apply Array.ext_getElem?;intro j;by_cases hj:j<n
 ·rw[qJ _ _ j hj]
  simp[madeCells,hj,Nat.mod_one]
 ·rw[Array.getElem?_eq_none (by simp[madeCells];omega),Array.getElem?_eq_none (by simp[qD];omega)]
theorem zU:(Tryz.prog.info? 5).map (fun i=>(i.zero,i.size,i.bytes))=some (some (.int .u8 0),1,1):=by kernel_rfl
theorem KY(n:Nat)(hn:n<=1000000)(w:World):(Instr.makeSlice 27 (.int .i64 (n:Int)) (.int .i64 (n:Int))).run Tryz.prog w=.ok (.slice (some ⟨w.heap.size,0,none⟩) n n) (w.alloc (.cells (BARR n fun _=>0) 5)):=by
 rw[run_make_row' 27 5 (.int .u8 0) 1 Tryz.underlying27 zU rfl .i64 .i64 n (by omega) (by omega) w,YQ]
def IsRow(k:IntKind)(w:World)(a:Option Addr)(len cap:Nat)(zs:List Int):Prop:=
 (a=none/\len=0/\cap=0/\zs=[])\/
 ∃ x,a=some x/\len<=cap/\cap<=maxLen/\zs.length=cap/\(∀ i,i<zs.length->w.cell? (x.add i)=some (.int k (zs.getD i 0)))/\∀ n∈zs,(Lit.int k n).wf=true
def Bytes(w:World)(a:Option Addr)(n:Nat)(l:List Int):Prop:=
 l.length=n/\(0<n->∃ b off,a=some ⟨b,off,none⟩/\b<w.heap.size/\∀ i,i<n->w.cell? ⟨b,off+i,none⟩=some (.int .u8 (l.getD i 0)))/\∀ x∈l,0<=x/\x<=255
theorem Bytes.below{w w':World}{a:Option Addr}{n:Nat}{l:List Int}(h:Bytes w a n l)(hb:Below w.heap.size w w'):Bytes w' a n l:=
 ⟨h.1,fun hn=>by
  obtain⟨b,off,e,hl,hc⟩:=h.2.1 hn;exact⟨b,off,e,Nat.lt_of_lt_of_le hl hb.size,fun i hi=>(hb.cell (by exact hl)).trans (hc i hi)⟩,h.2.2⟩
theorem Bytes.get{w:World}{a:Option Addr}{n:Nat}{l:List Int}(h:Bytes w a n l)(i:Nat):0<=l.getD i 0/\l.getD i 0<=255:=by
 by_cases hi:i<l.length
 ·rw[List.getD_eq_getElem?_getD,List.getElem?_eq_getElem hi]
  exact h.2.2 _ (List.getElem_mem hi)
 ·rw[List.getD_eq_getElem?_getD,List.getElem?_eq_none (by omega)]
  simp
theorem zY(b off i:Nat):(⟨b,off,none⟩:Addr).add i=⟨b,off+i,none⟩:=by unfold Addr.add;split <;> simp_all
theorem IsRow.bytes{w:World}{a:Option Addr}{n c:Nat}{zs:List Int}(h:IsRow .u8 w a n c zs):Bytes w a n (zs.take n):=by
 rcases h with ⟨rfl,rfl,rfl,rfl⟩ | ⟨x,rfl,hl,_,hz,hcell,hwf⟩
 ·exact⟨rfl,fun h=>by omega,fun x hx=>by simp at hx⟩
 ·refine⟨by simp[hz,hl],fun hn=>?_,fun y hy=>?_⟩
  ·obtain⟨b,off,spot⟩:=x
   have hc:=hcell 0 (by omega);have hspot:spot=none:=by simpa[Addr.add] using World.cell?_spot hc
   subst hspot;refine⟨b,off,rfl,block_lt_of_cell (by simpa[Addr.add] using hc),fun i hi=>?_⟩;have:=hcell i (by omega);rw[zY] at this;rw[this];congr 2
   simp[List.getD_eq_getElem?_getD,hi]
  ·have:=bounds_u8 (hwf y (List.mem_of_mem_take hy))
   exact this
namespace HX
theorem ZP(z:Int):IntKind.u32.wrap z=z % 2 ^ 32:=by rw[IntKind.wrap_u32];rfl
theorem xH{a b:Nat}(ha:a<2 ^ 32)(hb:b<2 ^ 32):bits .xor .u32 (a:Int) (b:Int)=((a ^^^ b:Nat):Int):=u32_xor_nat a b ha hb
theorem jT{a b:Nat}(ha:a<2 ^ 32)(hb:b<2 ^ 32):bits .and .u32 (a:Int) (b:Int)=((a &&& b:Nat):Int):=u32_and_nat a b ha hb
theorem or32{a b:Nat}(ha:a<2 ^ 32)(hb:b<2 ^ 32):bits .or .u32 (a:Int) (b:Int)=((a ||| b:Nat):Int):=u32_or_nat a b ha hb
theorem MG(x n s a b r:Int)(w:World)(hs:bits .and .u64 (IntKind.u64.wrap n) 31=s)(h0:0<=s)(h1:0<=IntKind.u64.wrap (32 - s))(ha:IntKind.u32.wrap (x*2 ^ min s.toNat 32)=a)(hb:x / 2 ^ min (IntKind.u64.wrap (32 - s)).toNat 32=b)(hr:bits .or .u32 a b=r):
  Calls Tryz.prog 146 #[.int .u32 x,.int .i64 n] w fun e w'=>e=.returned (.int .u32 r)/\w=w':=by
 go_enter Tryz.func146,Tryz.ntmps146;go_wp2;go_ret;exact⟨rfl,rfl⟩
theorem z2L(n:Nat)(h1:1<=n)(h2:n<32):bits .and .u64 (IntKind.u64.wrap (wrap64 (-(n:Int)))) 31=((32 - n:Nat):Int):=by
 have e:IntKind.u64.wrap (wrap64 (-(n:Int)))=((18446744073709551616 - n:Nat):Int):=by
  rw[zh];unfold wrap64;omega
 have f:(31:Int)=((31:Nat):Int):=rfl;rw[e,f,Z4 (by omega) (by decide)];congr 1
 have:(31:Nat)=2 ^ 5 - 1:=rfl;rw[this,Nat.and_two_pow_sub_one_eq_mod];omega
theorem z1j(X n:Nat)(hX:X<2 ^ 32)(h1:1<=n)(h2:n<32)(w:World):Calls Tryz.prog 146 #[.int .u32 (X:Int),.int .i64 (wrap64 (-(n:Int)))] w fun e w'=>e=.returned (.int .u32 ((ROTR n X:Nat):Int))/\w=w':=by
 have e:IntKind.u64.wrap (32 - ((32 - n:Nat):Int))=(n:Int):=by rw[zh];omega
 refine MG X _ ((32 - n:Nat):Int) ((X*2 ^ (32 - n) % 2 ^ 32:Nat):Int) ((X / 2 ^ n:Nat):Int) _ w (z2L n h1 h2) (by omega) (by rw[e];omega) ?_ ?_ ?_
 ·rw[Int.toNat_natCast,show min (32 - n) 32=32 - n by omega,ZP]
  simp
 ·rw[e,Int.toNat_natCast,show min n 32=n by omega,js]
 ·rw[or32 (Nat.mod_lt _ (by decide)) (Nat.lt_of_le_of_lt (Nat.div_le_self _ _) hX),z2d (by omega) hX]
theorem GU(x n r:Int)(w:World)(c:∀ w,Calls Tryz.prog 146 #[.int .u32 x,.int .i64 (wrap64 (-n))] w fun e w'=>e=.returned (.int .u32 r)/\w=w'):
  Calls Tryz.prog 140 #[.int .u32 x,.int .i64 n] w fun e w'=>e=.returned (.int .u32 r)/\w=w':=by
 go_enter Tryz.func140,Tryz.ntmps140;go_wp2_with fail
 refine(c _).mono ?_;rintro e w' ⟨rfl,rfl⟩;go_wp2;go_ret;exact⟨rfl,rfl⟩
theorem ZA(X n:Nat)(hX:X<2 ^ 32)(h1:1<=n)(h2:n<32)(w:World):Calls Tryz.prog 140 #[.int .u32 (X:Int),.int .i64 (n:Int)] w fun e w'=>e=.returned (.int .u32 ((ROTR n X:Nat):Int))/\w=w':=
 GU X n _ w (fun w=>z1j X n hX h1 h2 w)
theorem z1k(x i j k a b c p r:Int)(w:World)(e1:bits .xor .u32 a b=p)(e2:bits .xor .u32 p c=r)
  (ca:∀ w,Calls Tryz.prog 140 #[.int .u32 x,.int .i64 i] w fun e w'=>e=.returned (.int .u32 a)/\w=w')
  (cb:∀ w,Calls Tryz.prog 140 #[.int .u32 x,.int .i64 j] w fun e w'=>e=.returned (.int .u32 b)/\w=w')
  (cc:∀ w,Calls Tryz.prog 140 #[.int .u32 x,.int .i64 k] w fun e w'=>e=.returned (.int .u32 c)/\w=w'):
  Calls Tryz.prog 125 #[.int .u32 x,.int .i64 i,.int .i64 j,.int .i64 k] w fun e w'=>e=.returned (.int .u32 r)/\w=w':=by
 go_enter Tryz.func125,Tryz.ntmps125;go_wp2_with fail
 refine(ca _).mono ?_;rintro e w' ⟨rfl,rfl⟩;clear ca;go_wp2_with fail
 refine(cb _).mono ?_;rintro e w' ⟨rfl,rfl⟩;clear cb;go_wp2_with fail
 refine(cc _).mono ?_;rintro e w' ⟨rfl,rfl⟩;clear cc;go_wp2;go_ret;exact⟨rfl,rfl⟩
theorem Ug(X i j k:Nat)(hX:X<2 ^ 32)(hi:1<=i/\i<32)(hj:1<=j/\j<32)(hk:1<=k/\k<32)(w:World):Calls Tryz.prog 125 #[.int .u32 (X:Int),.int .i64 (i:Int),.int .i64 (j:Int),.int .i64 (k:Int)] w fun e w'=>e=.returned (.int .u32 ((MIX i j k X:Nat):Int))/\w=w':=
 z1k X i j k _ _ _ _ _ w (xH (zH (by omega) hX) (zH (by omega) hX)) (xH (Nat.xor_lt_two_pow (zH (by omega) hX) (zH (by omega) hX)) (zH (by omega) hX)) (fun w=>ZA X i hX hi.1 hi.2 w) (fun w=>ZA X j hX hj.1 hj.2 w) (fun w=>ZA X k hX hk.1 hk.2 w)
theorem MH{X:Nat}(hX:X<2 ^ 32):4294967295 ^^^ X=4294967295 - X:=by
 apply Nat.eq_of_testBit_eq;intro i;have e:(4294967295:Nat)=2 ^ 32 - 1:=rfl;have e2:4294967295 - X=2 ^ 32 - (X+1):=by omega
 rw[e2,Nat.testBit_two_pow_sub_succ hX,Nat.testBit_xor,e,Nat.testBit_two_pow_sub_one];by_cases h:i<32
 ·simp[h]
 ·have:X.testBit i=false:=Nat.testBit_lt_two_pow (Nat.lt_of_lt_of_le hX (Nat.pow_le_pow_right (by decide) (by omega)))
  simp[h,this]
theorem z2M{X:Nat}(hX:X<2 ^ 32):bits .xor .u32 IntKind.u32.max (X:Int)=((4294967295 - X:Nat):Int):=by
 rw[<-MH hX];exact xH (a:=4294967295) (by decide) hX
theorem KZ(x y z p q s r:Int)(w:World)(e1:bits .and .u32 x y=p)(e2:bits .xor .u32 IntKind.u32.max x=q)(e3:bits .and .u32 q z=s)(e4:bits .xor .u32 p s=r):
  Calls Tryz.prog 126 #[.int .u32 x,.int .u32 y,.int .u32 z] w fun e w'=>e=.returned (.int .u32 r)/\w=w':=by
 go_enter Tryz.func126,Tryz.ntmps126;go_wp2;go_ret;exact⟨rfl,rfl⟩
theorem GV(X Y Z:Nat)(hX:X<2 ^ 32)(hY:Y<2 ^ 32)(hZ:Z<2 ^ 32)(w:World):Calls Tryz.prog 126 #[.int .u32 (X:Int),.int .u32 (Y:Int),.int .u32 (Z:Int)] w fun e w'=>e=.returned (.int .u32 ((CHO X Y Z:Nat):Int))/\w=w':=
 KZ X Y Z _ ((4294967295 - X:Nat):Int) _ _ w (jT hX hY) (z2M hX) (jT (by omega) hZ) (xH (Nat.lt_of_le_of_lt Nat.and_le_left hX) (Nat.lt_of_le_of_lt Nat.and_le_right hZ))
theorem UT(x y z p q s t r:Int)(w:World)(e1:bits .and .u32 x y=p)(e2:bits .and .u32 x z=q)(e3:bits .xor .u32 p q=s)(e4:bits .and .u32 y z=t)(e5:bits .xor .u32 s t=r):
  Calls Tryz.prog 127 #[.int .u32 x,.int .u32 y,.int .u32 z] w fun e w'=>e=.returned (.int .u32 r)/\w=w':=by
 go_enter Tryz.func127,Tryz.ntmps127;go_wp2;go_ret;exact⟨rfl,rfl⟩
theorem kv(X Y Z:Nat)(hX:X<2 ^ 32)(hY:Y<2 ^ 32)(hZ:Z<2 ^ 32)(w:World):Calls Tryz.prog 127 #[.int .u32 (X:Int),.int .u32 (Y:Int),.int .u32 (Z:Int)] w fun e w'=>e=.returned (.int .u32 ((MAJ X Y Z:Nat):Int))/\w=w':=
 UT X Y Z _ _ _ _ _ w (jT hX hY) (jT hX hZ) (xH (Nat.lt_of_le_of_lt Nat.and_le_left hX) (Nat.lt_of_le_of_lt Nat.and_le_left hX)) (jT hY hZ) (xH (Nat.xor_lt_two_pow (Nat.lt_of_le_of_lt Nat.and_le_left hX) (Nat.lt_of_le_of_lt Nat.and_le_left hX)) (Nat.lt_of_le_of_lt Nat.and_le_left hY))
theorem yg{P:Program}{f:FuncId}{args:Array Value}{w:World}{n:Nat}{v:Value}
  (h:Calls P f args (w.drewN n) fun e w'=>e=.returned v/\w.drewN n=w'):Calls P f args (w.drewN n) fun e w''=>e=.returned v/\∃ m,w''=w.drewN m:=
 h.mono fun _ _ ⟨he,hm⟩=>⟨he,n,hm.symm⟩
theorem GW(x i j k c p r:Int)(R:Int->Int)(w:World)(hi:1<=i/\i<32)(hj:1<=j/\j<32)(hk:0<=k)(e1:bits .xor .u32 (R i) (R j)=p)(e2:bits .xor .u32 p c=r)(e3:x / 2 ^ min k.toNat 32=c)
  (ca:∀ n:Int,1<=n/\n<32->∀ w,Calls Tryz.prog 140 #[.int .u32 x,.int .i64 n] w fun e w'=>e=.returned (.int .u32 (R n))/\w=w'):
  Calls Tryz.prog 139 #[.int .u32 x,.int .i64 i,.int .i64 j,.int .i64 k] w fun e w'=>e=.returned (.int .u32 r)/\∃ m,w'=w.drewN m:=by
 go_enter Tryz.func139,Tryz.ntmps139;go_wp2;go_quiet ((go_at_call 140;exact yg (ca _ (by assumption) _)))
 go_wp2;go_ret;exact⟨rfl,_,rfl⟩
theorem Vw(X i j k:Nat)(hX:X<2 ^ 32)(hi:1<=i/\i<32)(hj:1<=j/\j<32)(hk:k<32)(w:World):Calls Tryz.prog 139 #[.int .u32 (X:Int),.int .i64 (i:Int),.int .i64 (j:Int),.int .i64 (k:Int)] w fun e w'=>e=.returned (.int .u32 ((zV i j k X:Nat):Int))/\∃ m,w'=w.drewN m:=by
 refine GW X i j k ((X / 2 ^ k:Nat):Int) ((ROTR i X ^^^ ROTR j X:Nat):Int) _ (fun n=>((ROTR n.toNat X:Nat):Int)) w (by omega) (by omega) (by omega) ?_ ?_ ?_ ?_
 ·simp only[Int.toNat_natCast]
  exact xH (zH (by omega) hX) (zH (by omega) hX)
 ·exact xH (Nat.xor_lt_two_pow (zH (by omega) hX) (zH (by omega) hX)) (Nat.lt_of_le_of_lt (Nat.div_le_self _ _) hX)
 ·rw[Int.toNat_natCast,show min k 32=k by omega,js]
 ·intro n hn w
  obtain⟨N,rfl⟩:∃ N:Nat,n=(N:Int):=⟨n.toNat,by omega⟩
  exact ZA X N hX (by omega) (by omega) w
theorem MI(b o n c:Nat)(v0 v1 v2 v3 x0 x1 x2 y1 y2 r:Int)(w:World)(hn:4<=n)(c0:w.cell? ⟨b,o,none⟩=some (.int .u8 v0))(c1:w.cell? ⟨b,o+1,none⟩=some (.int .u8 v1))(c2:w.cell? ⟨b,o+2,none⟩=some (.int .u8 v2))(c3:w.cell? ⟨b,o+3,none⟩=some (.int .u8 v3))
  (e0:v0 % 4294967296*16777216 % 4294967296=x0)(e1:v1 % 4294967296*65536 % 4294967296=x1)(e2:v2 % 4294967296*256 % 4294967296=x2)(f1:bits .or .u32 x0 x1=y1)(f2:bits .or .u32 y1 x2=y2)(f3:bits .or .u32 y2 (v3 % 4294967296)=r):
  Calls Tryz.prog 138 #[.slice (some ⟨b,o,none⟩) n c] w fun e w'=>e=.returned (.int .u32 r)/\∃ m,w'=w.drewN m:=by
 have h0:(0:Int)<(n:Int):=by omega
 have h1:(1:Int)<(n:Int):=by omega
 have h2:(2:Int)<(n:Int):=by omega
 have h3:(3:Int)<(n:Int):=by omega
 clear hn;go_enter Tryz.func138,Tryz.ntmps138;go_wp2;go_quiet (fail)
 go_wp2;go_ret;exact⟨rfl,_,rfl⟩
theorem Je{a b k:Nat}(ha:a % 2 ^ k=0)(hb:b<2 ^ k)(h1:a<2 ^ 32)(h2:b<2 ^ 32):bits .or .u32 (a:Int) (b:Int)=((a+b:Nat):Int):=by
 rw[or32 h1 h2,nat_join k a b ha hb]
theorem uq(b o n c:Nat)(s:Nat->Nat)(h:∀ i,s i<256)(i:Nat)(w:World)(hn:4<=n)(hc:∀ j,j<4->w.cell? ⟨b,o+j,none⟩=some (.int .u8 (s (i+j):Int))):
  Calls Tryz.prog 138 #[.slice (some ⟨b,o,none⟩) n c] w fun e w'=>e=.returned (.int .u32 ((zk s i:Nat):Int))/\∃ m,w'=w.drewN m:=by
 have h0:=h i;have h1:=h (i+1);have h2:=h (i+2);have h3:=h (i+3);have w3:((s (i+3):Nat):Int) % 4294967296=((s (i+3):Nat):Int):=by omega
 refine MI b o n c (s i:Nat) (s (i+1):Nat) (s (i+2):Nat) (s (i+3):Nat) ((s i*16777216:Nat):Int) ((s (i+1)*65536:Nat):Int) ((s (i+2)*256:Nat):Int) _ _ _ w hn (hc 0 (by omega)) (hc 1 (by omega)) (hc 2 (by omega)) (hc 3 (by omega)) ?_ ?_ ?_ (Je (k:=24) ?_ ?_ ?_ ?_) (Je (k:=16) ?_ ?_ ?_ ?_) (by rw[w3];exact Je (k:=8) (by omega) (by omega) (by omega) (by omega));all_goals omega
def UARR(k:IntKind)(n:Nat)(f:Nat->Nat):Array Value:=((List.range n).map fun i=>Value.int k ((f i:Nat):Int)).toArray
theorem zg(k:IntKind)(n:Nat)(f:Nat->Nat):(UARR k n f).size=n:=by simp[UARR]
theorem zt(k:IntKind)(n:Nat)(f:Nat->Nat)(i:Nat)(h:i<n):(UARR k n f)[i]?=some (.int k ((f i:Nat):Int)):=by simp[UARR,h]
theorem zB{k:IntKind}{n:Nat}{f g:Nat->Nat}(h:∀ i,i<n->f i=g i):UARR k n f=UARR k n g:=by
 unfold UARR;congr 1
 apply List.map_congr_left;intro i hi;rw[h i (by simpa using hi)]
theorem xB(k:IntKind)(n:Nat)(f:Nat->Nat)(i:Nat)(v:Nat):(UARR k n f).setIfInBounds i (.int k (v:Int))=UARR k n fun j=>if j=i then v else f j:=by
 apply Array.ext_getElem?;intro j;by_cases hj:j<n
 ·rw[zt _ _ _ j hj,Array.getElem?_setIfInBounds]
  by_cases h:i=j
  ·subst h
   simp[zg,hj]
  ·have h':¬ j=i:=fun e=>h e.symm
   simp[h,h',zt _ _ _ j hj]
 ·rw[Array.getElem?_eq_none (by simp[zg];omega),Array.getElem?_eq_none (by simp[zg];omega)]
theorem zA(k:IntKind)(n:Nat)(f:Nat->Nat):(UARR k n f).all (·.oneCell')=true:=by
 apply Array.all_eq_true_iff_forall_mem.2;intro v hv;simp[UARR] at hv;obtain⟨i,_,rfl⟩:=hv;rfl
theorem yr:(Tryz.prog.info? 23).map (·.size)=some 32:=by kernel_rfl
theorem YD:(Tryz.prog.info? 97).map (·.size)=some 64:=by kernel_rfl
theorem ur:(Tryz.prog.info? 156).map (·.size)=some 8:=by kernel_rfl
theorem MJ:(Tryz.prog.info? 158).map (·.size)=some 64:=by kernel_rfl
theorem zn(f:Nat->Nat):(Tryz.prog.info? 23).map (·.size)=some (UARR .u8 32 f).size:=by rw[zg];exact yr
theorem J8(f:Nat->Nat):(Tryz.prog.info? 97).map (·.size)=some (UARR .u8 64 f).size:=by rw[zg];exact YD
theorem qQ(f:Nat->Nat):(Tryz.prog.info? 156).map (·.size)=some (UARR .u32 8 f).size:=by rw[zg];exact ur
theorem ZB(f:Nat->Nat):(Tryz.prog.info? 158).map (·.size)=some (UARR .u32 64 f).size:=by rw[zg];exact MJ
def Has(w:World)(g:Nat)(c:Array Value)(t:TypeId):Prop:=w.heap[g]?=some (.cells c t)
theorem Has.cell{w:World}{g:Nat}{c:Array Value}{t:TypeId}(h:Has w g c t)(i:Nat):w.cell? ⟨g,i,none⟩=c[i]?:=cell_of_row w g i c t _ h
theorem Has.lt{w:World}{g:Nat}{c:Array Value}{t:TypeId}(h:Has w g c t):g<w.heap.size:=(Array.getElem?_eq_some_iff.1 h).1
theorem Has.frozen{w:World}{g:Nat}{c:Array Value}{t:TypeId}(h:Has w g c t)(i:Nat):w.frozen? ⟨g,i,none⟩=false:=by
 have e:w.heap[g]?=some (.cells c t):=h;simp[World.frozen?,e]
theorem Has.set{w:World}{g:Nat}{c:Array Value}{t:TypeId}(h:Has w g c t)(i:Nat)(v:Value):Has (w.setCell ⟨g,i,none⟩ v) g (c.setIfInBounds i v) t:=by
 have e:w.heap[g]?=some (.cells c t):=h;unfold Has;rw[setCell_eq_setRow w g i c t _ v e,setRow_heap w g c _ t _ e]
theorem Has.other{w:World}{g:Nat}{c:Array Value}{t:TypeId}(h:Has w g c t){a:Addr}(ha:g≠a.block)(v:Value):Has (w.setCell a v) g c t:=by
 have e:w.heap[g]?=some (.cells c t):=h;unfold Has;rw[Below.heap_setCell w a v g ha,e]
theorem Has.below{B:Nat}{w w':World}{g:Nat}{c:Array Value}{t:TypeId}(h:Has w g c t)(hb:Below B w w')(hg:g<B):Has w' g c t:=(hb.block g hg).trans h
theorem Has.keep{w w':World}{g:Nat}{c:Array Value}{t:TypeId}(h:Has w g c t)(hb:Below w.heap.size w w'):Has w' g c t:=h.below hb h.lt
theorem Has.alloc{w:World}{g:Nat}{c:Array Value}{t:TypeId}(h:Has w g c t)(o:Obj):Has (w.alloc o) g c t:=by
 have e:w.heap[g]?=some (.cells c t):=h;unfold Has;rw[Below.heap_alloc w o g h.lt,e]
theorem Has.new(w:World)(c:Array Value)(t:TypeId):Has (w.alloc (.cells c t)) w.heap.size c t:=heap_alloc_new w _
theorem Has.at(w:World)(c:Array Value)(t:TypeId){g:Nat}(hg:g=w.heap.size):Has (w.alloc (.cells c t)) g c t:=by subst hg;exact Has.new w c t
theorem Has.row{w:World}{g:Nat}{c:Array Value}{t:TypeId}(h:Has w g c t)(c':Array Value):Has (w.setRow g c') g c' t:=setRow_heap w g c c' t _ h
theorem Has.drewN{w:World}{g:Nat}{c:Array Value}{t:TypeId}(h:Has w g c t)(n:Nat):Has (w.drewN n) g c t:=h
theorem z1l{w:World}{b i j:Nat}(h:i≠j)(v:Value):(w.setCell ⟨b,i,none⟩ v).cell? ⟨b,j,none⟩=w.cell? ⟨b,j,none⟩:=World.cell?_setCell_other w _ _ v (fun e=>h (congrArg Addr.off e))
theorem zm{B g:Nat}{w0 w:World}(hb:Below B w0 w)(hBg:B<=g)(cs:Array Value):Below B w0 (w.setRow g cs):=
 ⟨hb.os,hb.tape,hb.output,by have:=hb.size;simpa[World.setRow] using this,fun k hk=>by rw[setRow_other w g k cs (by omega)];exact hb.block k hk⟩
theorem J9(b i:Nat)(h:i<32)(l:Int)(hl:l=(i:Int))(w:World):(Instr.sliceAt 23 (.pointer (some ⟨b,0,none⟩)) (some (.int .i64 l)) none none).run Tryz.prog w=.ok (.slice (some ⟨b,i,none⟩) (32 - i) (32 - i)) w:=by
 subst hl;have hn:Tryz.prog.arrayLen 23=32:=by kernel_rfl
 rw[run_sliceAt_array_l w 23 ⟨b,0,none⟩ (by kernel_rfl) .i64 (i:Int) (by omega) (by rw[hn];omega),hn];have he:Tryz.prog.elem 23=5:=by kernel_rfl
 obtain⟨i8,hi,h8⟩:=Option.map_eq_some_iff.1 zU;simp only[Prod.mk.injEq] at h8;rw[he];simp[sizeOf,typeInfo,hi,h8.2.1,slicedAt];rw[if_neg (by omega)];simp[Addr.add];omega
theorem kw(b i:Nat)(h:i<64)(l:Int)(hl:l=(i:Int))(w:World):(Instr.sliceAt 97 (.pointer (some ⟨b,0,none⟩)) (some (.int .i64 l)) none none).run Tryz.prog w=.ok (.slice (some ⟨b,i,none⟩) (64 - i) (64 - i)) w:=by
 subst hl;have hn:Tryz.prog.arrayLen 97=64:=by kernel_rfl
 rw[run_sliceAt_array_l w 97 ⟨b,0,none⟩ (by kernel_rfl) .i64 (i:Int) (by omega) (by rw[hn];omega),hn];have he:Tryz.prog.elem 97=5:=by kernel_rfl
 obtain⟨i8,hi,h8⟩:=Option.map_eq_some_iff.1 zU;simp only[Prod.mk.injEq] at h8;rw[he];simp[sizeOf,typeInfo,hi,h8.2.1,slicedAt];rw[if_neg (by omega)];simp[Addr.add];omega
theorem qh{k:IntKind}{n i:Nat}{F f:Nat->Nat}(hf:∀ j,f j=if j<i then F j else 0)(v:Nat)(hv:v=F i):(UARR k n f).setIfInBounds i (.int k (v:Int))=UARR k n fun j=>if j<i+1 then F j else 0:=by
 rw[xB];apply zB;intro j _;by_cases e:j=i
 ·subst e
  simp[hv]
 ·rw[if_neg e,hf j]
  by_cases e2:j<i
  ·rw[if_pos e2,if_pos (by omega)]
  ·rw[if_neg e2,if_neg (by omega)]
theorem MK(s:Nat->Nat)(h:∀ i,s i<256)(w:World):Calls Tryz.prog 123 #[.agg (UARR .u8 32 s)] w fun e w'=>e=.returned (.agg (UARR .u32 8 fun i=>zk s (4*i)))/\Below w.heap.size w w':=by
 have hz:(#[.int .u32 0,.int .u32 0,.int .u32 0,.int .u32 0,.int .u32 0,.int .u32 0,.int .u32 0,.int .u32 0]:Array Value)=UARR .u32 8 fun _=>0:=rfl;have H:Aside (∀ i,s i<256):=h;clear h;go_enter Tryz.func123,Tryz.ntmps123;go_wp2;go_loopg [5] 8 (fun g s5 wx=>∃ i:Nat,i+g=8/\s5=.int .i64 i/\Aside (Below w.heap.size w wx/\Has wx w.heap.size (UARR .u8 32 s) 23/\Has wx (w.heap.size+1) (UARR .u32 8 fun _=>0) 156/\Has wx (w.heap.size+2) (UARR .u32 8 fun j=>if j<i then zk s (4*j) else 0) 156))
 case atStart=>
  refine⟨0,by omega,rfl,?_⟩;have e:(UARR .u32 8 fun j=>if j<0 then zk s (4*j) else 0)=UARR .u32 8 fun _=>0:=zB fun j _=>if_neg (by omega);rw[e];exact⟨(((Below.refl _ _).alloc (Nat.le_refl _) _).alloc (by simp) _).alloc (by simp;omega) _,((Has.new w _ _).alloc _).alloc _,(Has.at _ _ _ (by simp)).alloc _,Has.at _ _ _ (by simp)⟩
 case round=>
  obtain⟨i,hig,rfl,A⟩:=hrel;cases gk with
  | zero=>
    obtain rfl:i=8:=by omega
    obtain⟨hb,h0,h1,h2⟩:=A.out
    go_wp2_with (first
     | (refine wpList_load_row rfl 156 _ rfl _ rfl _ _ (0,0) _ h2 Tryz.underlying156 rfl (qQ _) ?_)
     | (refine wpList_store_row rfl 156 _ _ rfl _ _ rfl rfl _ _ h1 (qQ _) (by rw[zg,zg]) (zA _ _ _) ?_))
    have e:(UARR .u32 8 fun j=>if j<8 then zk s (4*j) else 0)=UARR .u32 8 fun i=>zk s (4*i):=zB fun j hj=>by rw[if_pos hj]
    rw[e];refine bodyPost_ret (v:=.agg (UARR .u32 8 fun i=>zk s (4*i))) ?_ rfl ⟨rfl,zm hb (by omega) _⟩;exact results_cell_row rfl _ _ (w.heap.size+1) 156 _ (0,0) _ rfl (h1.row _) Tryz.underlying156 rfl (qQ _)
  | succ g=>
    obtain⟨hb,h0,h1,h2⟩:=A.out;have hi:(i:Int)<8:=by omega
    have hsl:=J9 w.heap.size (4*i) (by omega) (4*(i:Int)) (by omega);have hw:=uq w.heap.size (4*i) (32 - 4*i) (32 - 4*i) s H.out (4*i) wr (by omega) (fun j hj=>by rw[h0.cell,zt _ _ _ _ (by omega)]);have hc:wr.cell? ⟨w.heap.size+1+1,i,none⟩=some (.int .u32 0):=by rw[h2.cell,zt _ _ _ _ (by omega),if_neg (by omega)];rfl
    have hf:wr.frozen? ⟨w.heap.size+1+1,i,none⟩=false:=h2.frozen i;generalize hv:zk s (4*i)=v at hw;have R:Aside (Below w.heap.size w wr/\Has wr w.heap.size (UARR .u8 32 s) 23/\Has wr (w.heap.size+1) (UARR .u32 8 fun _=>0) 156/\Has wr (w.heap.size+2) (UARR .u32 8 fun j=>if j<i then zk s (4*j) else 0) 156/\zk s (4*i)=v):=⟨hb,h0,h1,h2,hv⟩
    clear hb h0 h1 h2 hv A;go_wp2_with fail
    refine hw.mono ?_;rintro e w' ⟨rfl,m,rfl⟩;clear hw;go_wp2;go_roundg g
    case measure=>omega
    case rel=>
     obtain⟨hb,h0,h1,h2,hv⟩:=R.out;refine⟨i+1,by omega,by go_num,?_⟩;rw[<-qh (F:=fun j=>zk s (4*j)) (fun j=>rfl) v hv.symm];exact⟨(below_drewN hb m).setCell (by show _<=w.heap.size+1+1;omega) _,(h0.drewN m).other (by show w.heap.size≠w.heap.size+1+1;omega) _,(h1.drewN m).other (by show w.heap.size+1≠w.heap.size+1+1;omega) _,(h2.drewN m).set i _⟩
theorem Uh:(#[.int .u32 0,.int .u32 0,.int .u32 0,.int .u32 0,.int .u32 0,.int .u32 0,.int .u32 0,.int .u32 0,.int .u32 0,.int .u32 0,.int .u32 0,.int .u32 0,.int .u32 0,.int .u32 0,.int .u32 0,.int .u32 0,.int .u32 0,.int .u32 0,.int .u32 0,.int .u32 0,.int .u32 0,.int .u32 0,.int .u32 0,.int .u32 0,.int .u32 0,.int .u32 0,.int .u32 0,.int .u32 0,.int .u32 0,.int .u32 0,.int .u32 0,.int .u32 0,.int .u32 0,.int .u32 0,.int .u32 0,.int .u32 0,.int .u32 0,.int .u32 0,.int .u32 0,.int .u32 0,.int .u32 0,.int .u32 0,.int .u32 0,.int .u32 0,.int .u32 0,.int .u32 0,.int .u32 0,.int .u32 0,.int .u32 0,.int .u32 0,.int .u32 0,.int .u32 0,.int .u32 0,.int .u32 0,.int .u32 0,.int .u32 0,.int .u32 0,.int .u32 0,.int .u32 0,.int .u32 0,.int .u32 0,.int .u32 0,.int .u32 0,.int .u32 0]:Array Value)=UARR .u32 64 fun _=>0:=rfl
theorem GY(b:Nat->Nat):(UARR .u32 64 fun j=>if j<16 then zk b (4*j) else 0)=UARR .u32 64 (SCHL b 0):=zB fun j _=>by rw[SCHL]
theorem kF(s:Nat->Nat)(h:∀ i,s i<256)(w:World):Calls Tryz.prog 124 #[.agg (UARR .u8 64 s)] w fun e w'=>e=.returned (.agg (UARR .u32 64 (SCH s)))/\Below w.heap.size w w':=by
 have hz:=Uh;have H:Aside (∀ i,s i<256):=h;clear h;go_enter Tryz.func124,Tryz.ntmps124;go_wp2;go_loopg [6] 16 (fun g s5 wx=>∃ i:Nat,i+g=16/\s5=.int .i64 i/\Aside (Below w.heap.size w wx/\Has wx w.heap.size (UARR .u8 64 s) 97/\Has wx (w.heap.size+1) (UARR .u32 64 fun _=>0) 158/\Has wx (w.heap.size+2) (UARR .u32 64 fun j=>if j<i then zk s (4*j) else 0) 158))
 case atStart=>
  refine⟨0,by omega,rfl,?_⟩;have e:(UARR .u32 64 fun j=>if j<0 then zk s (4*j) else 0)=UARR .u32 64 fun _=>0:=zB fun j _=>if_neg (by omega);rw[e];exact⟨(((Below.refl _ _).alloc (Nat.le_refl _) _).alloc (by simp) _).alloc (by simp;omega) _,((Has.new w _ _).alloc _).alloc _,(Has.at _ _ _ (by simp)).alloc _,Has.at _ _ _ (by simp)⟩
 case round=>
  obtain⟨i,hig,rfl,A⟩:=hrel;cases gk with
  | zero=>
    obtain rfl:i=16:=by omega
    rw[GY] at A;clear hz;go_wp2;go_loopg [5] 48 (fun g s5 wx=>∃ k:Nat,k+g=48/\s5=.int .i64 ((16+k:Nat):Int)/\Aside (Below w.heap.size w wx/\Has wx (w.heap.size+1) (UARR .u32 64 fun _=>0) 158/\Has wx (w.heap.size+2) (UARR .u32 64 (SCHL s k)) 158))
    case atStart=>exact⟨0,by omega,rfl,A.out.1,A.out.2.2.1,A.out.2.2.2⟩
    case round=>
     obtain⟨k,hkg,rfl,A⟩:=hrel;cases gk with
     | zero=>
       obtain rfl:k=48:=by omega
       obtain⟨hb,h1,h2⟩:=A.out
       go_wp2_with (first
        | (refine wpList_load_row rfl 158 _ rfl _ rfl _ _ (0,0) _ h2 Tryz.underlying158 rfl (ZB _) ?_)
        | (refine wpList_store_row rfl 158 _ _ rfl _ _ rfl rfl _ _ h1 (ZB _) (by rw[zg,zg]) (zA _ _ _) ?_))
       refine bodyPost_ret (v:=.agg (UARR .u32 64 (SCH s))) ?_ rfl ⟨rfl,zm hb (by omega) _⟩;exact results_cell_row rfl _ _ (w.heap.size+1) 158 _ (0,0) _ rfl (h1.row _) Tryz.underlying158 rfl (ZB _)
     | succ g=>
       obtain⟨hb,h1,h2⟩:=A.out;have hlt:(((16+k:Nat):Int))<64:=by omega
       have ca:wr.cell? ⟨w.heap.size+1+1,14+k,none⟩=some (.int .u32 (SCHL s k (14+k):Nat)):=by rw[h2.cell,zt _ _ _ _ (by omega)]
       have cb:wr.cell? ⟨w.heap.size+1+1,9+k,none⟩=some (.int .u32 (SCHL s k (9+k):Nat)):=by rw[h2.cell,zt _ _ _ _ (by omega)]
       have cc:wr.cell? ⟨w.heap.size+1+1,1+k,none⟩=some (.int .u32 (SCHL s k (1+k):Nat)):=by rw[h2.cell,zt _ _ _ _ (by omega)]
       have cd:wr.cell? ⟨w.heap.size+1+1,k,none⟩=some (.int .u32 (SCHL s k k:Nat)):=by rw[h2.cell,zt _ _ _ _ (by omega)]
       have ct:wr.cell? ⟨w.heap.size+1+1,16+k,none⟩=some (.int .u32 (SCHL s k (16+k):Nat)):=by rw[h2.cell,zt _ _ _ _ (by omega)]
       have hf:wr.frozen? ⟨w.heap.size+1+1,16+k,none⟩=false:=h2.frozen _;have la:=xF H.out k (14+k);have lc:=xF H.out k (1+k);have c1:∀ w,Calls Tryz.prog 139 #[.int .u32 (SCHL s k (14+k):Nat),.int .i64 17,.int .i64 19,.int .i64 10] w fun e w'=>e=.returned (.int .u32 (zV 17 19 10 (SCHL s k (14+k)):Nat))/\∃ m,w'=w.drewN m:=fun w=>Vw _ 17 19 10 la (by decide) (by decide) (by decide) w;have c2:∀ w,Calls Tryz.prog 139 #[.int .u32 (SCHL s k (1+k):Nat),.int .i64 7,.int .i64 18,.int .i64 3] w fun e w'=>e=.returned (.int .u32 (zV 7 18 3 (SCHL s k (1+k)):Nat))/\∃ m,w'=w.drewN m:=fun w=>Vw _ 7 18 3 lc (by decide) (by decide) (by decide) w;have R:Aside (Below w.heap.size w wr/\Has wr (w.heap.size+1) (UARR .u32 64 fun _=>0) 158/\Has wr (w.heap.size+2) (UARR .u32 64 (SCHL s k)) 158):=⟨hb,h1,h2⟩
       have V:Aside ((zV 17 19 10 (SCHL s k (14+k))+SCHL s k (9+k)+zV 7 18 3 (SCHL s k (1+k))+SCHL s k k) % 4294967296=SCHL s (k+1) (16+k)):=by rw[Aside,SCHL,if_pos rfl]
       generalize zV 17 19 10 (SCHL s k (14+k))=p at *
       generalize zV 7 18 3 (SCHL s k (1+k))=q at *
       generalize SCHL s k (14+k)=va at *
       generalize SCHL s k (9+k)=vb at *
       generalize SCHL s k (1+k)=vc at *
       generalize SCHL s k (16+k)=vt at *
       generalize hvd:SCHL s k k=vd at *
       obtain⟨T,hT⟩:∃ T,T=16+k:=⟨_,rfl⟩
       obtain⟨a,ha⟩:∃ a,a=14+k:=⟨_,rfl⟩
       obtain⟨b,hbb⟩:∃ b,b=9+k:=⟨_,rfl⟩
       obtain⟨c,hcc⟩:∃ c,c=1+k:=⟨_,rfl⟩
       have E:Aside (T=16+k/\k+(g+1)=48):=⟨hT,hkg⟩
       rw[<-hT] at hlt ct hf ⊢;rw[<-ha] at ca;rw[<-hbb] at cb;rw[<-hcc] at cc;have e1:(T:Int) - 2=(a:Int):=by omega
       have e2:(T:Int) - 7=(b:Int):=by omega
       have e3:(T:Int) - 15=(c:Int):=by omega
       have e4:(T:Int) - 16=(k:Int):=by omega
       have f1:IntKind.i64.wrap (a:Int)=(a:Int):=by rw[IntKind.wrap_i64];omega
       have f2:IntKind.i64.wrap (b:Int)=(b:Int):=by rw[IntKind.wrap_i64];omega
       have f3:IntKind.i64.wrap (c:Int)=(c:Int):=by rw[IntKind.wrap_i64];omega
       have f4:IntKind.i64.wrap (k:Int)=(k:Int):=by rw[IntKind.wrap_i64];omega
       have g1:(a:Int)<64:=by omega
       have g2:(b:Int)<64:=by omega
       have g3:(c:Int)<64:=by omega
       have g4:(k:Int)<64:=by omega
       have n1:¬ T=a/\¬ a=T:=by omega
       have n2:¬ T=b/\¬ b=T:=by omega
       have n3:¬ T=c/\¬ c=T:=by omega
       have n4:¬ T=k/\¬ k=T:=by omega
       clear hb h1 h2 la lc hvd A hkg hT ha hbb hcc;go_wp2_with fail
       go_region_held3 (fun W:World=>W.cell? ⟨w.heap.size+1+1,a,none⟩=some (.int .u32 (va:Int))/\W.cell? ⟨w.heap.size+1+1,b,none⟩=some (.int .u32 (vb:Int))/\W.cell? ⟨w.heap.size+1+1,c,none⟩=some (.int .u32 (vc:Int))/\W.cell? ⟨w.heap.size+1+1,k,none⟩=some (.int .u32 (vd:Int))) (first | go_keep | (refine⟨?_,?_,?_,?_⟩ <;> (rw[z1l (by omega)];simp only[World.cell?_drewN];assumption))) (first | (go_at_call_of 139 (va:Int);refine(c1 _).mono ?_;rintro e w5 ⟨rfl,m1,rfl⟩) | (go_at_call_of 139 (vc:Int);refine(c2 _).mono ?_;rintro e w6 ⟨rfl,m2,rfl⟩))
       have hx:IntKind.u32.wrap (IntKind.u32.wrap (IntKind.u32.wrap ((p:Int)+(vb:Int))+(q:Int))+(vd:Int))=((SCHL s (k+1) (16+k):Nat):Int):=by
        rw[<-V.out,ZP,ZP,ZP];omega
       rw[hx];clear hx;generalize hz2:SCHL s (k+1) (16+k)=z;have HZ:Aside (SCHL s (k+1) (16+k)=z):=hz2;clear hz2;go_wp2;go_roundg g
       case measure=>have:=E.out.2;omega
       case rel=>
        obtain⟨hb,h1,h2⟩:=R.out;obtain⟨hT,hkg⟩:=E.out;refine⟨k+1,by omega,by rw[hT];go_num,(below_drewN hb _).setCell (by show _<=w.heap.size+1+1;omega) _,(h1.drewN _).other (by show w.heap.size+1≠w.heap.size+1+1;omega) _,?_⟩;have h3:=(h2.drewN (1+m1+m2)).set T (.int .u32 (z:Int));rw[xB] at h3
        have e:(UARR .u32 64 fun j=>if j=T then z else SCHL s k j)=UARR .u32 64 (SCHL s (k+1)):=zB fun j _=>by
         rw[<-HZ.out,hT];by_cases e:j=16+k
         ·rw[if_pos e,e]
         ·rw[if_neg e,SCHL,if_neg e]
        rw[e] at h3;exact h3
  | succ g=>
    obtain⟨hb,h0,h1,h2⟩:=A.out;have hi:(i:Int)<16:=by omega
    have hi2:(i:Int)<64:=by omega
    have hsl:=kw w.heap.size (4*i) (by omega) (4*(i:Int)) (by omega);have hw:=uq w.heap.size (4*i) (64 - 4*i) (64 - 4*i) s H.out (4*i) wr (by omega) (fun j hj=>by rw[h0.cell,zt _ _ _ _ (by omega)]);have hc:wr.cell? ⟨w.heap.size+1+1,i,none⟩=some (.int .u32 0):=by rw[h2.cell,zt _ _ _ _ (by omega),if_neg (by omega)];rfl
    have hf:wr.frozen? ⟨w.heap.size+1+1,i,none⟩=false:=h2.frozen i;generalize hv:zk s (4*i)=v at hw;have R:Aside (Below w.heap.size w wr/\Has wr w.heap.size (UARR .u8 64 s) 97/\Has wr (w.heap.size+1) (UARR .u32 64 fun _=>0) 158/\Has wr (w.heap.size+2) (UARR .u32 64 fun j=>if j<i then zk s (4*j) else 0) 158/\zk s (4*i)=v):=⟨hb,h0,h1,h2,hv⟩
    clear hb h0 h1 h2 hv A hz;go_wp2_with fail
    refine hw.mono ?_;rintro e w' ⟨rfl,m,rfl⟩;clear hw;go_wp2;go_roundg g
    case measure=>omega
    case rel=>
     obtain⟨hb,h0,h1,h2,hv⟩:=R.out;refine⟨i+1,by omega,by go_num,?_⟩;rw[<-qh (F:=fun j=>zk s (4*j)) (fun j=>rfl) v hv.symm];exact⟨(below_drewN hb m).setCell (by show _<=w.heap.size+1+1;omega) _,(h0.drewN m).other (by show w.heap.size≠w.heap.size+1+1;omega) _,(h1.drewN m).other (by show w.heap.size+1≠w.heap.size+1+1;omega) _,(h2.drewN m).set i _⟩
end HX
end Go.Proofs.YtobaogpomcocpaaGreatDoor
