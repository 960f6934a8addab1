/- FindProves: part 4. -/
import Derived.RangeFuncBox
import Derived.RangeFuncLeaves
import Derived.RangeFuncCalls
import Derived.Shelf.Abstract
import Derived.Shelf.RegionOpen
import Derived.OwnWalkIn
import Derived.TacticsInMore
import Derived.LoopNIn
import Derived.LoopIn
import Derived.Maps.AppendAt
import Derived.Test.YtlbcnaenhghieaaGreatDoorFindProvesP3
set_option maxHeartbeats 2000000
namespace Go.Proofs.YtlbcnaenhghieaaGreatDoor
open Go.RowKit
abbrev SPOT (h k:Nat):Value:=.agg #[.int .u8 (h:Int),.int .u64 (k:Int)]
theorem zas (X:Nat) (hX:X<2 ^ 64) (w:World):Calls Tryz.prog 66 #[.int .u64 (X:Int)] w fun e w'=>e=.returned (.int .i64 ((LEN X:Nat) - 1:Int))/\w=w':=by
 have hl:LEN X<=64:=by
  unfold LEN;have:=z2q (X / 72057594037927936);have:=z2q (X / 281474976710656);have:=z2q (X / 1099511627776);have:=z2q (X / 4294967296);have:=z2q (X / 16777216);have:=z2q (X / 65536);have:=z2q (X / 256);have:=z2q X;repeat' split
  all_goals omega
 exact zei X _ w (fun w=>zhe X hX w) (by omega) (by omega)
theorem zex (p:Int) (hp:9223372036854775807<=p) (w:World):Calls Tryz.prog 47 #[.int .u64 p] w fun e w'=>e=.returned (.tuple #[SPOT 0 0,.bool false])/\Below w.heap.size w w':=by
 go_enter Tryz.func47,Tryz.ntmps47;go_wp2;refine bodyPost_ret (v:=.tuple #[SPOT 0 0,.bool false]) ?_ rfl ⟨rfl,(Below.refl _ _).alloc (Nat.le_refl _) _⟩;simp [results,Tryz.f47,go_sem]
theorem zhi {m H:Nat} (hH:1<=H):m*2 ^ H ||| 2 ^ (H - 1)=(2*m+1)*2 ^ (H - 1):=by
 have h1:2 ^ (H - 1)<2 ^ H:=Nat.pow_lt_pow_right (by decide) (by omega);have h2:=Nat.shiftLeft_add_eq_or_of_lt h1 m;rw [Nat.shiftLeft_eq] at h2;rw [<-h2,Nat.add_mul,Nat.one_mul];congr 1
 obtain ⟨j,rfl⟩:∃ j,H=j+1:=⟨H - 1,by omega⟩
 rw [Nat.add_sub_cancel,Nat.pow_succ,Nat.mul_comm 2 m,Nat.mul_assoc,Nat.mul_comm 2]
theorem zgd (h k:Nat) (hN:Node h k) (w:World):Calls Tryz.prog 47 #[.int .u64 ((PLC h k:Nat):Int)] w fun e w'=>e=.returned (.tuple #[SPOT h k,.bool true])/\Below w.heap.size w w':=by
 have hp:=hN.lt;obtain ⟨p,hpe⟩:∃ p,p=PLC h k:=⟨_,rfl⟩
 rw [<-hpe] at hp ⊢;have HN:Aside (Node h k/\p=PLC h k/\p<9223372036854775807):=⟨hN,hpe,hp⟩
 have hd:decide ((9223372036854775807:Int)<=(p:Int))=false:=by simp;omega
 have e1:IntKind.u64.wrap ((p:Int)+1)=(p:Int)+1:=by rw [z0b];omega
 have c1:=zas (p+1) (by omega);obtain ⟨h1,h2,h3⟩:=z7X (p+1) (by omega) (by omega);obtain ⟨H,hH⟩:∃ H,LEN (p+1)=H+1:=⟨LEN (p+1) - 1,by omega⟩
 rw [hH] at h2 h3 c1;rw [show (((H+1:Nat):Int) - 1)=(H:Int) by omega,show ((p+1:Nat):Int)=(p:Int)+1 by omega] at c1
 have HH:Aside (H<=62/\p+2<=2 ^ (H+1)):=by
  refine ⟨?_,by omega⟩;rcases Nat.lt_or_ge 62 H with h | h
  ·have:2 ^ 63<=2 ^ H:=Nat.pow_le_pow_right (by decide) h
   simp at h2;omega
  ·exact h
 clear hN hpe hp h1 h2 h3 hH;go_enter Tryz.func47,Tryz.ntmps47;go_wp2_with fail
 refine (c1 _).mono ?_;rintro e w' ⟨rfl,rfl⟩;clear c1;go_wp2;go_loopg [0,4,5] H (fun g s0 s4 s5 wx=>∃ q L:Nat,s0=.int .u64 (q:Int)/\s4=.int .i64 (g:Int)/\s5=.int .u64 (L:Int)/\Aside (wx=w.alloc (.cells #[.int .u8 0,.int .u64 0] 102)/\g<=62/\q+2<=2 ^ (g+1)/\∃ m,L=m*2 ^ g/\Node g m/\p=z02 L+q))
 case atStart=>exact ⟨p,0,rfl,rfl,rfl,rfl,HH.out.1,HH.out.2,0,by simp,⟨HH.out.1,Nat.two_pow_pos _⟩,by rw [z27];omega⟩
 case round=>
  obtain ⟨q,L,rfl,rfl,rfl,A⟩:=hrel;obtain ⟨hw,hg,hq,m,hL,hNm,hpL⟩:=A.out;clear A
  have e2:IntKind.u64.wrap ((q:Int)+1)=(q:Int)+1:=by
   have:2 ^ (gk+1)<=2 ^ 63:=Nat.pow_le_pow_right (by decide) (by omega);rw [z0b];omega
  have c1:=z2O gk (by omega);by_cases hT:q+1=TREE gk
  ·have hmk:h=gk/\k=m:=by
    refine HN.out.1.one hNm ?_;rw [<-HN.out.2.1,hpL,hL];unfold PLC;unfold TREE at hT;have:=z1E gk;omega
   obtain ⟨rfl,rfl⟩:=hmk
   have hLk:(L:Int) / 2 ^ h=(k:Int):=by
    rw [hL,z2e,Nat.mul_div_cancel _ (Nat.two_pow_pos h)]
   rw [<-hT,show ((q+1:Nat):Int)=(q:Int)+1 by omega] at c1;have R:Aside (L=k*2 ^ h/\h<=62/\(L:Int) / 2 ^ h=(k:Int)):=⟨hL,hg,hLk⟩
   clear hg hq hL hNm hpL HN HH hT hLk;subst hw;go_wp2_with fail
   refine (c1 _).mono ?_;rintro e w' ⟨rfl,rfl⟩;clear c1;go_wp2;obtain ⟨hL,hg,hLk⟩:=R.out;rw [show (h:Int) % 256=(h:Int) by omega,show min h 64=h by omega,hLk];refine bodyPost_ret (v:=.tuple #[SPOT h k,.bool true]) ?_ rfl ⟨rfl,(Below.refl _ _).alloc (Nat.le_refl _) _⟩;simp [results,Tryz.f47,go_sem]
  ·have h1 : 1<=gk:=by
    rcases Nat.eq_zero_or_pos gk with h0 | h0
    ·subst h0
     simp at hq;unfold TREE at hT;simp at hT;omega
    ·exact h0
   obtain ⟨g,rfl⟩:∃ g,gk=g+1:=⟨gk - 1,by omega⟩
   have c2:=z2O g (by omega);have hb:((q:Int)+1 == ((TREE (g+1):Nat):Int))=false:=by simp;omega
   generalize hT1:TREE (g+1)=t1 at *
   have e3:wrap64 (g:Int)=(g:Int):=by unfold wrap64;omega
   rw [show (((g+1:Nat):Int))=(g:Int)+1 by omega] at c1 ⊢;have R:Aside (wr=w.alloc (.cells #[.int .u8 0,.int .u64 0] 102)/\g+1<=62/\q+2<=2 ^ (g+1+1)/\L=m*2 ^ (g+1)/\Node (g+1) m/\p=z02 L+q/\q+1≠t1/\TREE (g+1)=t1):=⟨hw,hg,hq,hL,hNm,hpL,hT,hT1⟩
   clear hw hg hq hL hNm hpL hT hT1 h1 HN HH;by_cases hlt:TREE g<=q
   ·have hd2:decide (((TREE g:Nat):Int)<=(q:Int))=true:=by simp;omega
    obtain ⟨t2,ht2⟩:∃ t2,TREE g=t2:=⟨_,rfl⟩
    rw [ht2] at c2 hd2;have hd3:(t2:Int)<=(q:Int):=by simpa using hd2
    have R2:Aside (TREE g=t2/\t2<=q):=⟨ht2,by omega⟩
    clear hlt ht2 hd2;go_wp2_with fail
    refine (c1 _).mono ?_;rintro e w' ⟨rfl,rfl⟩;clear c1;go_wp2_with fail
    refine (c2 _).mono ?_;rintro e w' ⟨rfl,rfl⟩;clear c2;go_wp2;go_roundg g
    case measure=>omega
    case rel=>
     obtain ⟨r1,r2,r3,r4,r5,r6,r7,r8⟩:=R.out;obtain ⟨s1,s2⟩:=R2.out;have hpw:=z1E g;have hpp:2 ^ (g+1+1)=2*2 ^ (g+1):=by rw [Nat.pow_succ 2 (g+1),Nat.mul_comm]
     have hp63:2 ^ (g+1+1)<=2 ^ 63:=Nat.pow_le_pow_right (by decide) (by omega);have hg64:2 ^ g<2 ^ 64:=Nat.pow_lt_pow_right (by decide) (by omega)
     have hL64:L<2 ^ 64:=by
      have:=r5.span;rw [Nat.add_mul,<-r4] at this;omega
     have ea:IntKind.u64.wrap ((q:Int) - t2)=((q - t2:Nat):Int):=by rw [z0b];omega
     have eb:bits .or .u64 (L:Int) (IntKind.u64.wrap (2 ^ min g 64))=(((2*m+1)*2 ^ g:Nat):Int):=by
      have e5:IntKind.u64.wrap (2 ^ min g 64)=((2 ^ g:Nat):Int):=by
       rw [z0b,show min g 64=g by omega,Int.natCast_pow];have:((2 ^ g:Nat):Int)=(2:Int) ^ g:=by simp
       have h7:((2:Nat):Int)=2:=rfl;rw [h7,<-this];omega
      rw [e5,z5F hL64 hg64,r4];exact congrArg (fun x:Nat=>(x:Int)) (zhi (m:=m) (H:=g+1) (by omega))
     unfold TREE at s1 r8;rw [ea,eb,e3];refine ⟨q - t2,(2*m+1)*2 ^ g,rfl,rfl,rfl,r1,by omega,by omega,2*m+1,rfl,⟨by omega,?_⟩,?_⟩
     ·have:=r5.2
      rw [show 62 - g=62 - (g+1)+1 by omega,Nat.pow_succ];omega
     ·have e6:=z3I m g
      rw [z18,<-r4] at e6;rw [e6,r6];unfold TREE;omega
   ·have hd3:¬ ((TREE g:Nat):Int)<=(q:Int):=by omega
    obtain ⟨t2,ht2⟩:∃ t2,TREE g=t2:=⟨_,rfl⟩
    rw [ht2] at c2 hd3;have R2:Aside (TREE g=t2/\q<t2):=⟨ht2,by omega⟩
    clear hlt ht2;go_wp2_with fail
    refine (c1 _).mono ?_;rintro e w' ⟨rfl,rfl⟩;clear c1;go_wp2_with fail
    refine (c2 _).mono ?_;rintro e w' ⟨rfl,rfl⟩;clear c2;go_wp2;go_roundg g
    case measure=>omega
    case rel=>
     obtain ⟨r1,r2,r3,r4,r5,r6,r7,r8⟩:=R.out;obtain ⟨s1,s2⟩:=R2.out;have hpw:=z1E g;unfold TREE at s1;rw [e3];refine ⟨q,L,rfl,rfl,rfl,r1,by omega,by omega,2*m,by rw [z18,<-r4],⟨by omega,?_⟩,r6⟩;have:=r5.2;rw [show 62 - g=62 - (g+1)+1 by omega,Nat.pow_succ];omega
def SpotAt (p:Int) (h k:Nat) (ok:Bool):Prop:=∀ w,Calls Tryz.prog 47 #[.int .u64 p] w fun e w'=>e=.returned (.tuple #[SPOT h k,.bool ok])/\Below w.heap.size w w'
theorem SpotAt.node {h k:Nat} (hN:Node h k):SpotAt ((PLC h k:Nat):Int) h k true:=fun w=>zgd h k hN w
theorem SpotAt.out {p:Int} (hp:9223372036854775807<=p):SpotAt p 0 0 false:=fun w=>zex p hp w
theorem z9p (p:Int) (h k:Nat) (b:Bool) (r:Int) (w:World) (hh:((h:Int) == 62)=false) (hm:wrap64 (h:Int)=(h:Int)) (ha:(bits .and .u64 (k:Int) 1 == 1)=b) (cs:SpotAt p h k true)
  (co:∀ w,Calls Tryz.prog 72 #[.int .u64 p,.int .i64 (h:Int),.bool b] w fun e w'=>e=.returned (.int .u64 r)/\w=w'):
  Calls Tryz.prog 50 #[.int .u64 p] w fun e w'=>e=.returned (.tuple #[.int .u64 r,.bool true])/\Below w.heap.size w w':=by
 have cs:=cs w;go_enter Tryz.func50,Tryz.ntmps50;go_wp2_with fail
 refine cs.mono ?_;rintro e w1 ⟨rfl,hb⟩;clear cs;have R:Aside (Below w.heap.size w w1):=hb;clear hb;go_wp2_with fail
 refine (co _).mono ?_;rintro e w2 ⟨rfl,rfl⟩;clear co;go_wp2;go_ret2;exact ⟨rfl,R.out.alloc R.out.size _⟩
theorem z4r (p:Int) (h k:Nat) (b:Bool) (w:World) (ha:(bits .and .u64 (k:Int) 1 == 1)=b) (cs:SpotAt p h k true):
  Calls Tryz.prog 22 #[.int .u64 p] w fun e w'=>e=.returned (.bool b)/\Below w.heap.size w w':=by
 have cs:=cs w;go_enter Tryz.func22,Tryz.ntmps22;go_wp2_with fail
 refine cs.mono ?_;rintro e w1 ⟨rfl,hb⟩;clear cs;have R:Aside (Below w.heap.size w w1):=hb;clear hb;go_wp2;go_ret;exact ⟨rfl,R.out.alloc R.out.size _⟩
theorem z0z {P:Program} {f:FuncId} {args:Array Value} {w:World} {n:Nat} {v:Value}
  (h:Calls P f args (w.drewN n) fun e w'=>e=.returned v/\w.drewN n=w'):Calls P f args (w.drewN n) fun e w''=>e=.returned v/\∃ m,w''=w.drewN m:=
 h.mono fun _ _ ⟨he,hm⟩=>⟨he,n,hm.symm⟩
theorem z1n (n:Nat) (hn:n<64) (w:World):Calls Tryz.prog 58 #[.int .i64 (n:Int)] w fun e w'=>e=.returned (.int .u64 ((2 ^ n:Nat):Int))/\w=w':=by
 have HN:Aside (n<64):=hn;clear hn;go_enter Tryz.func58,Tryz.ntmps58;go_wp2;go_loopg [3,4] n (fun g s3 s4 wx=>∃ i v:Nat,s3=.int .u64 (v:Int)/\s4=.int .i64 (i:Int)/\Aside (v=2 ^ i/\i+g=n)/\wx=w)
 case atStart=>exact ⟨0,1,rfl,rfl,⟨rfl,by omega⟩,rfl⟩
 case round=>
  obtain ⟨i,v,rfl,rfl,A,hw⟩:=hrel;subst hw;cases gk with
  | zero=>
    have hi:¬ (i:Int)<(n:Int):=by have:=A.out.2;omega
    go_wp2;go_ret;obtain ⟨r1,r2⟩:=A.out;refine ⟨?_,rfl⟩;rw [r1,show i=n by omega];rfl
  | succ g=>
    have hi:(i:Int)<(n:Int):=by have:=A.out.2;omega
    go_wp2;go_roundg g
    case measure=>omega
    case rel=>
     obtain ⟨r1,r2⟩:=A.out;have h64:=HN.out;have hp:2 ^ (i+1)<=2 ^ 63:=Nat.pow_le_pow_right (by decide) (by omega);refine ⟨i+1,2 ^ (i+1),?_,?_,⟨rfl,by omega⟩,rfl⟩
     ·congr 1
      rw [z0b,r1];rw [Nat.pow_succ] at hp ⊢;omega
     ·congr 1
      unfold wrap64;omega
theorem z9q (n:Nat) (hn:n<=4611686018427387904) (w:World):Calls Tryz.prog 79 #[.int .u64 (n:Int)] w fun e w'=>e=.returned (.tuple #[.int .u64 ((z02 n:Nat):Int),.bool true])/\w=w':=by
 have HN:Aside (n<=4611686018427387904):=hn;have hd:¬ (4611686018427387904:Int)<(n:Int):=by omega
 clear hn;go_enter Tryz.func79,Tryz.ntmps79;go_wp2;go_loopg [0,4] n (fun g s0 s4 wx=>∃ v:Nat,s0=.int .u64 (g:Int)/\s4=.int .u64 (v:Int)/\Aside (v+z02 g=z02 n)/\wx=w)
 case atStart=>exact ⟨0,rfl,rfl,by unfold Aside;omega,rfl⟩
 case round=>
  obtain ⟨v,rfl,rfl,A,hw⟩:=hrel;subst hw;cases gk with
  | zero=>
    go_wp2;go_ret2;have r1:=A.out;rw [z27] at r1;refine ⟨?_,rfl⟩;rw [<-r1];rfl
  | succ g=>
    have hi:(0:Int)<(((g+1:Nat)):Int):=by omega
    have e1:Aside (IntKind.u64.wrap ((v:Int)+((g+1:Nat):Int))=((v+(g+1):Nat):Int)):=by
     have h1:=z3F (g+1);have h2:=A.out;have h3:=z4o HN.out;unfold Aside;rw [z0b];omega
    have e2:Aside (IntKind.u64.wrap (((g+1:Nat):Int) / 2)=(((g+1) / 2:Nat):Int)):=by
     have h1:=zee (g+1);have h2:=A.out;have h3:=z4o HN.out;unfold Aside;rw [z0b];omega
    generalize hG:g+1=G at *
    go_wp2;go_roundg (G / 2)
    case measure=>omega
    case rel=>
     refine ⟨v+G,?_,?_,?_,rfl⟩
     ·first | rfl | (congr 1;omega) | (rw [e2.out])
     ·rw [e1.out]
     ·have h1:=z3F G
      have h2:=A.out;unfold Aside;omega
theorem z9r (p:Int) (hp:9223372036854775807<=p) (w:World):Calls Tryz.prog 42 #[.int .u64 p] w fun e w'=>e=.returned (.tuple #[SPOT 0 0,.bool false])/\Below w.heap.size w w':=by
 have c1:=z1n 62 (by omega);rw [show (((2 ^ 62:Nat):Int))=4611686018427387904 by decide,show (((62:Nat):Int))=62 from rfl] at c1;have hd:(9223372036854775806:Int)<p:=by omega
 go_enter Tryz.func42,Tryz.ntmps42;go_wp2_with fail
 refine (c1 _).mono ?_;rintro e w' ⟨rfl,rfl⟩;clear c1;go_wp2;refine bodyPost_ret (v:=.tuple #[SPOT 0 0,.bool false]) ?_ rfl ⟨rfl,(Below.refl _ _).alloc (Nat.le_refl _) _⟩;simp [results,Tryz.f42,go_sem]
theorem zcM {a b c:Nat} (h:a+b=c) (hc:c<2 ^ 64):IntKind.u64.wrap ((a:Int)+(b:Int))=(c:Int):=by rw [z0b];omega
theorem zhj {a c:Nat} (h:a+1=c) (hc:c<2 ^ 64):IntKind.u64.wrap ((a:Int)+1)=(c:Int):=by rw [z0b];omega
theorem zhk {a c:Nat} (h:c+1=a) (hc:c<2 ^ 64):IntKind.u64.wrap ((a:Int) - 1)=(c:Int):=by rw [z0b];omega
theorem zcN {a c:Nat} (h:2*a=c) (hc:c<2 ^ 64):IntKind.u64.wrap (2*(a:Int))=(c:Int):=by rw [z0b];omega
theorem zge {a c:Nat} (h:2*c=a) (hc:c<2 ^ 64):IntKind.u64.wrap ((a:Int) / 2)=(c:Int):=by rw [z0b];omega
theorem zey {a c:Nat} (h:2*c=a):(a:Int) / 2=(c:Int):=by omega
theorem zez {g m b p z1 bz:Nat} (hg:g+1<=62) (hN:Node (g+1) m) (hb:b=z02 (m*2 ^ (g+1))) (hbp:b<=p) (hpu:p+2<=b+2 ^ (g+1+1)) (hz:2 ^ (g+1)=z1+1) (hbz:b+z1=bz) (hT:p≠b+2*z1):
  Node g (2*m)/\Node g (2*m+1)/\b=z02 (2*m*2 ^ g)/\bz=z02 ((2*m+1)*2 ^ g)/\(bz<=p->p+2<=bz+2 ^ (g+1))/\(p<bz->p+2<=b+2 ^ (g+1)):=by
 have h2:=hN.2;have e:2 ^ (62 - g)=2 ^ (62 - (g+1))*2:=by rw [<-Nat.pow_succ];congr 1;omega
 have e2:2 ^ (g+1+1)=2*(z1+1):=by rw [Nat.pow_succ,hz,Nat.mul_comm]
 refine ⟨⟨by omega,by rw [e];omega⟩,⟨by omega,by rw [e];omega⟩,by rw [hb,z18],?_,fun h=>by omega,fun h=>by omega⟩;rw [z3I,z18,<-hb];unfold TREE;omega
theorem z3M (h k:Nat) (hN:Node h k) (w:World):Calls Tryz.prog 42 #[.int .u64 ((PLC h k:Nat):Int)] w fun e w'=>e=.returned (.tuple #[SPOT h k,.bool true])/\Below w.heap.size w w':=by
 have hp:=hN.lt;obtain ⟨p,hpe⟩:∃ p,p=PLC h k:=⟨_,rfl⟩
 rw [<-hpe] at hp ⊢;have HN:Aside (Node h k/\p=PLC h k/\p<9223372036854775807):=⟨hN,hpe,hp⟩
 have c1:=z1n 62 (by omega);rw [show (((2 ^ 62:Nat):Int))=4611686018427387904 by decide,show (((62:Nat):Int))=62 from rfl] at c1;have hd:¬ (9223372036854775806:Int)<(p:Int):=by omega
 clear hN hpe hp;go_enter Tryz.func42,Tryz.ntmps42;go_wp2_with fail
 refine (c1 _).mono ?_;rintro e w' ⟨rfl,rfl⟩;clear c1;go_wp2;go_loopg [4,5,6] 62 (fun g s4 s5 s6 wx=>∃ b m:Nat,s4=.int .u64 (b:Int)/\s5=.int .i64 (g:Int)/\s6=.int .u64 (m:Int)/\Aside (wx=w.alloc (.cells #[.int .u8 0,.int .u64 0] 102)/\g<=62/\b=z02 (m*2 ^ g)/\Node g m/\b<=p/\p+2<=b+2 ^ (g+1)))
 case atStart=>exact ⟨0,0,rfl,rfl,rfl,rfl,by omega,by simp [z27],⟨by omega,by simp⟩,by omega,by have:=HN.out.2.2;omega⟩
 case round=>
  obtain ⟨b,m,rfl,rfl,rfl,A⟩:=hrel;obtain ⟨hw,hg,hb,hNm,hbp,hpu⟩:=A.out;clear A;have hpl:2 ^ gk<=2 ^ 62:=Nat.pow_le_pow_right (by decide) hg;obtain ⟨z1,hz⟩:∃ z1,2 ^ gk=z1+1:=⟨2 ^ gk - 1,by have:=Nat.two_pow_pos gk;omega⟩
  have c1:=z1n gk (by omega);rw [hz] at c1 hpl;have hbl:b<9223372036854775807:=by have:=HN.out.2.2;omega
  obtain ⟨u,hu⟩:∃ u,2*z1=u:=⟨_,rfl⟩
  obtain ⟨bu,hbu⟩:∃ bu,b+u=bu:=⟨_,rfl⟩
  have e1:IntKind.u64.wrap (((z1+1:Nat):Int) - 1)=(z1:Int):=zhk rfl (by omega);have e1':IntKind.u64.wrap (z1:Int)=(z1:Int):=by rw [z0b];omega
  rw [show ((z1+1:Nat):Int)=(z1:Int)+1 by omega] at c1 e1;have e2:IntKind.u64.wrap (2*(z1:Int))=(u:Int):=zcN hu (by omega);have e3:IntKind.u64.wrap ((b:Int)+(u:Int))=(bu:Int):=zcM hbu (by omega);by_cases hT:p=bu
  ·have hmk:h=gk/\k=m:=by
    refine HN.out.1.one hNm ?_;rw [<-HN.out.2.1];unfold PLC;rw [hz] at hb;rw [Nat.pow_succ,hz,<-hb];omega
   obtain ⟨rfl,rfl⟩:=hmk;have hT':((p:Int) == (bu:Int))=true:=by simp;omega
   have hh:(h:Int) % 256=(h:Int):=by omega
   clear hg hb hNm hbp hpu HN hpl hbl hz hu hbu hT;subst hw;go_wp2_with fail
   refine (c1 _).mono ?_;rintro e w' ⟨rfl,rfl⟩;clear c1;go_wp2;refine bodyPost_ret (v:=.tuple #[SPOT h k,.bool true]) ?_ rfl ⟨rfl,(Below.refl _ _).alloc (Nat.le_refl _) _⟩;simp [results,Tryz.f42,go_sem]
  ·have hT':((p:Int) == (bu:Int))=false:=by simp;omega
   have h1:1<=gk:=by
    rcases Nat.eq_zero_or_pos gk with h0 | h0
    ·subst h0
     simp at hz;omega
    ·exact h0
   obtain ⟨g,rfl⟩:∃ g,gk=g+1:=⟨gk - 1,by omega⟩
   have hm62:=hNm.index_lt;obtain ⟨bz,hbz⟩:∃ bz,b+z1=bz:=⟨_,rfl⟩
   obtain ⟨m2,hm2⟩:∃ m2,2*m=m2:=⟨_,rfl⟩
   obtain ⟨m3,hm3⟩:∃ m3,m2+1=m3:=⟨_,rfl⟩
   have RR:=zez hg hNm hb hbp hpu hz hbz (by omega);rw [hm2,hm3] at RR;have e4:IntKind.u64.wrap (2*(m:Int))=(m2:Int):=zcN hm2 (by omega);have e5:IntKind.u64.wrap ((u:Int) / 2)=(z1:Int):=zge hu (by omega);have e5':(u:Int) / 2=(z1:Int):=zey hu;have e6:wrap64 (g:Int)=(g:Int):=by unfold wrap64;omega
   have e7:IntKind.u64.wrap ((b:Int)+(z1:Int))=(bz:Int):=zcM hbz (by omega);have e8:IntKind.u64.wrap ((m2:Int)+1)=(m3:Int):=zhj hm3 (by omega);have R:Aside (wr=w.alloc (.cells #[.int .u8 0,.int .u64 0] 102)/\g+1<=62/\b<=p/\Node g m2/\Node g m3/\b=z02 (m2*2 ^ g)/\bz=z02 (m3*2 ^ g)/\(bz<=p->p+2<=bz+2 ^ (g+1))/\(p<bz->p+2<=b+2 ^ (g+1))):=⟨hw,hg,hbp,RR⟩
   rw [show (((g+1:Nat):Int))=(g:Int)+1 by omega] at c1 ⊢;clear RR hw hg hNm hbp hb hpu hT hz hbz hbu hu HN hpl hbl h1 hm62 hm2 hm3 hd;by_cases hlt:bz<=p
   ·have hd3:(bz:Int)<=(p:Int):=by omega
    have R2:Aside (bz<=p):=hlt;clear hlt;go_wp2_with fail
    refine (c1 _).mono ?_;rintro e w' ⟨rfl,rfl⟩;clear c1;go_wp2;go_roundg g
    case measure=>omega
    case rel=>
     obtain ⟨r1,r2,r3,r4,r5,r6,r7,r8,r9⟩:=R.out;have s1:=R2.out;rw [e6];exact ⟨bz,m3,rfl,rfl,rfl,r1,by omega,r7,r5,s1,r8 s1⟩
   ·have hd3:¬ (bz:Int)<=(p:Int):=by omega
    have R2:Aside (p<bz):=by unfold Aside;omega
    clear hlt;go_wp2_with fail
    refine (c1 _).mono ?_;rintro e w' ⟨rfl,rfl⟩;clear c1;go_wp2;go_roundg g
    case measure=>omega
    case rel=>
     obtain ⟨r1,r2,r3,r4,r5,r6,r7,r8,r9⟩:=R.out;have s1:=R2.out;rw [e6];exact ⟨b,m2,rfl,rfl,rfl,r1,by omega,r6,r4,r3,r9 s1⟩
theorem zgf (k:Nat) (hk:k<2 ^ 64):bits .and .u64 (k:Int) 1=((k % 2:Nat):Int):=by
 have:bits .and .u64 (k:Int) ((1:Nat):Int)=((k &&& 1:Nat):Int):=z4g hk (by decide);rw [Nat.and_one_is_mod] at this;exact this
theorem z89 (k:Nat) (hk:k<2 ^ 64):(bits .and .u64 (k:Int) 1 == 1)=decide (k % 2=1):=by
 rw [zgf k hk,Bool.eq_iff_iff];simp;omega
theorem zbl (h k:Nat):PLC (h+1) (k / 2)=if k % 2=1 then PLC h k+1 else PLC h k+TREE h+1:=by
 split
 ·have:=z2W h (k / 2)
  rw [show 2*(k / 2)+1=k by omega] at this;exact this
 ·have:=z51 h (k / 2)
  rw [show 2*(k / 2)=k by omega] at this;have h3:=z1E h;unfold TREE;omega
theorem z9s (h k:Nat):PLC h (SIB k)=if k % 2=1 then PLC h k - TREE h else PLC h k+TREE h:=by
 unfold SIB;split
 ·have:=z6z h (k / 2)
  rw [show 2*(k / 2)+1=k by omega,show 2*(k / 2)=k - 1 by omega] at this;omega
 ·have:=z6z h (k / 2)
  rw [show 2*(k / 2)=k by omega] at this;omega
theorem z7B {h k:Nat} (hk:k % 2=1):TREE h<=PLC h k:=by
 have:=z6z h (k / 2);rw [show 2*(k / 2)+1=k by omega] at this;omega
theorem zgg (h k:Nat) (hN:Node h k) (hh:h<62) (w:World):Calls Tryz.prog 98 #[.int .u64 ((PLC h k:Nat):Int),.int .i64 (h:Int),.bool (decide (k % 2=1))] w fun e w'=>e=.returned (.int .u64 ((PLC (h+1) (k / 2):Nat):Int))/\w=w':=by
 have h1:=(hN.up hh).lt;have h2:=zbl h k;by_cases hk:k % 2=1
 ·rw [if_pos hk] at h2
  rw [decide_eq_true hk];have:=zbk (PLC h k:Nat) (h:Int) w;rw [show IntKind.u64.wrap (((PLC h k:Nat):Int)+1)=((PLC (h+1) (k / 2):Nat):Int) by rw [z0b];omega] at this;exact this
 ·rw [if_neg hk] at h2
  rw [decide_eq_false hk];have:=zcL (PLC h k:Nat) (h:Int) (TREE h:Nat) w (fun w=>z2O h (by omega) w);rw [show IntKind.u64.wrap (IntKind.u64.wrap (((PLC h k:Nat):Int)+((TREE h:Nat):Int))+1)=((PLC (h+1) (k / 2):Nat):Int) by rw [z0b,z0b];omega] at this;exact this
theorem z74 (h k:Nat) (hN:Node h k) (hh:h<62) (w:World):Calls Tryz.prog 72 #[.int .u64 ((PLC h k:Nat):Int),.int .i64 (h:Int),.bool (decide (k % 2=1))] w fun e w'=>e=.returned (.int .u64 ((PLC h (SIB k):Nat):Int))/\w=w':=by
 have h0:=hN.lt;have h1:=(hN.sib hh).lt;have h2:=z9s h k;by_cases hk:k % 2=1
 ·rw [if_pos hk] at h2
  rw [decide_eq_true hk];have h3:=z7B (h:=h) hk;have:=z88 (PLC h k:Nat) (h:Int) (TREE h:Nat) w (fun w=>z2O h (by omega) w);rw [show IntKind.u64.wrap (((PLC h k:Nat):Int) - ((TREE h:Nat):Int))=((PLC h (SIB k):Nat):Int) by rw [z0b];omega] at this;exact this
 ·rw [if_neg hk] at h2
  rw [decide_eq_false hk];have:=z9o (PLC h k:Nat) (h:Int) (TREE h:Nat) w (fun w=>z2O h (by omega) w);rw [show IntKind.u64.wrap (((PLC h k:Nat):Int)+((TREE h:Nat):Int))=((PLC h (SIB k):Nat):Int) by rw [z0b];omega] at this;exact this
theorem zbm (h k:Nat) (hN:Node h k) (hh:h<62) (w:World):Calls Tryz.prog 50 #[.int .u64 ((PLC h k:Nat):Int)] w fun e w'=>e=.returned (.tuple #[.int .u64 ((PLC h (SIB k):Nat):Int),.bool true])/\Below w.heap.size w w':=
 z9p _ h k (decide (k % 2=1)) _ w (by simp;omega) (by unfold wrap64;omega) (z89 k (by have:=hN.index_lt;omega)) (.node hN) (fun w=>z74 h k hN hh w)
theorem right_ok (h k:Nat) (hN:Node h k) (w:World):Calls Tryz.prog 22 #[.int .u64 ((PLC h k:Nat):Int)] w fun e w'=>e=.returned (.bool (decide (k % 2=1)))/\Below w.heap.size w w':=
 z4r _ h k _ w (z89 k (by have:=hN.index_lt;omega)) (.node hN)
def RefAt (p:Int) (h k:Nat) (ok:Bool):Prop:=∀ w,Calls Tryz.prog 42 #[.int .u64 p] w fun e w'=>e=.returned (.tuple #[SPOT h k,.bool ok])/\Below w.heap.size w w'
theorem RefAt.node {h k:Nat} (hN:Node h k):RefAt ((PLC h k:Nat):Int) h k true:=fun w=>z3M h k hN w
theorem RefAt.out {p:Int} (hp:9223372036854775807<=p):RefAt p 0 0 false:=fun w=>z9r p hp w
theorem z8a (h k:Nat) (t z y l a r:Int) (w:World) (hh:h<=62) (hm:wrap64 (h:Int)=(h:Int)) (hm2:IntKind.u64.wrap (h:Int)=(h:Int)) (ht:wrap64 (62 - (h:Int))=t) (hk:decide (y<=(k:Int))=false)
  (cy:∀ w,Calls Tryz.prog 58 #[.int .i64 t] w fun e w'=>e=.returned (.int .u64 y)/\w=w') (cz:∀ w,Calls Tryz.prog 58 #[.int .i64 (h:Int)] w fun e w'=>e=.returned (.int .u64 z)/\w=w')
  (e0:IntKind.u64.wrap ((k:Int)+1)=(k:Int)+1) (e1:IntKind.u64.wrap (IntKind.u64.wrap (((k:Int)+1)*z) - 1)=l) (ca:∀ w,Calls Tryz.prog 79 #[.int .u64 l] w fun e w'=>e=.returned (.tuple #[.int .u64 a,.bool true])/\w=w') (e2:IntKind.u64.wrap (a+(h:Int))=r):
  Calls Tryz.prog 57 #[SPOT h k] w fun e w'=>e=.returned (.tuple #[.int .u64 r,.bool true])/\Below w.heap.size w w':=by
 have hd:decide ((62:Int)<(h:Int))=false:=by simp;omega
 go_enter Tryz.func57,Tryz.ntmps57;go_wp2;have hc0:(w.alloc (.cells #[.int .u8 (h:Int),.int .u64 (k:Int)] 102)).cell? ⟨w.heap.size,0,none⟩=some (.int .u8 (h:Int)):=by simp
 have hc1:(w.alloc (.cells #[.int .u8 (h:Int),.int .u64 (k:Int)] 102)).cell? ⟨w.heap.size,1,none⟩=some (.int .u64 (k:Int)):=by simp
 have R2:Aside (Below w.heap.size w (w.alloc (.cells #[.int .u8 (h:Int),.int .u64 (k:Int)] 102))):=(Below.refl _ _).alloc (Nat.le_refl _) _;generalize w.alloc (.cells #[.int .u8 (h:Int),.int .u64 (k:Int)] 102)=W at *
 generalize hb:w.heap.size=b at *
 clear hh;go_quiet ((go_at_call 58;exact z0z (cy _)))
 have R3:Aside (Below b w (W.drewN nq)):=below_drewN R2.out nq;have hc0':(W.drewN nq).cell? ⟨b,0,none⟩=some (.int .u8 (h:Int)):=hc0;have hc1':(W.drewN nq).cell? ⟨b,1,none⟩=some (.int .u64 (k:Int)):=hc1;clear hc0 hc1 R2 cy;generalize W.drewN nq=W2 at *
 go_wp2;go_quiet (first | (go_at_call 58;exact z0z (cz _)) | (go_at_call 79;exact z0z (ca _)))
 go_wp2;go_ret2;exact ⟨rfl,by rw [hb];exact below_drewN R3.out _⟩
theorem z5N (p:Int) (h k k1:Nat) (r:Int) (w:World) (hh:((h:Int) == 62)=false) (e1:IntKind.u64.wrap ((k:Int)+1)=(k1:Int)) (ha:((k:Int) % 2 == 1)=false) (cs:RefAt p h k true)
  (cp:∀ w,Calls Tryz.prog 57 #[SPOT h k1] w fun e w'=>e=.returned (.tuple #[.int .u64 r,.bool true])/\Below w.heap.size w w'):
  Calls Tryz.prog 43 #[.int .u64 p] w fun e w'=>e=.returned (.tuple #[.int .u64 r,.bool true])/\Below w.heap.size w w':=by
 have cs:=cs w;go_enter Tryz.func43,Tryz.ntmps43;go_wp2_with fail
 refine cs.mono ?_;rintro e w1 ⟨rfl,hb⟩;clear cs;have R:Aside (Below w.heap.size w w1):=hb;clear hb;go_wp2_with fail
 refine (cp _).mono ?_;rintro e w2 ⟨rfl,hb2⟩;have R2:Aside (Below w.heap.size w w2):=(R.out.alloc R.out.size _).trans (hb2.mono (by have:=R.out.size;simp;omega));clear cp hb2 R;go_wp2;go_ret2;exact ⟨rfl,R2.out⟩
theorem z5w (p:Int) (h k k1:Nat) (r:Int) (w:World) (hh:((h:Int) == 62)=false) (e1:IntKind.u64.wrap ((k:Int) - 1)=(k1:Int)) (ha:((k:Int) % 2 == 1)=true) (cs:RefAt p h k true)
  (cp:∀ w,Calls Tryz.prog 57 #[SPOT h k1] w fun e w'=>e=.returned (.tuple #[.int .u64 r,.bool true])/\Below w.heap.size w w'):
  Calls Tryz.prog 43 #[.int .u64 p] w fun e w'=>e=.returned (.tuple #[.int .u64 r,.bool true])/\Below w.heap.size w w':=by
 have cs:=cs w;go_enter Tryz.func43,Tryz.ntmps43;go_wp2_with fail
 refine cs.mono ?_;rintro e w1 ⟨rfl,hb⟩;clear cs;have R:Aside (Below w.heap.size w w1):=hb;clear hb;go_wp2_with fail
 refine (cp _).mono ?_;rintro e w2 ⟨rfl,hb2⟩;have R2:Aside (Below w.heap.size w w2):=(R.out.alloc R.out.size _).trans (hb2.mono (by have:=R.out.size;simp;omega));clear cp hb2 R;go_wp2;go_ret2;exact ⟨rfl,R2.out⟩
theorem zat (k:Nat):((k:Int) % 2 == 1)=decide (k % 2=1):=by
 rw [Bool.eq_iff_iff];simp;omega
theorem z2r (h k:Nat) (hN:Node h k) (w:World):Calls Tryz.prog 57 #[SPOT h k] w fun e w'=>e=.returned (.tuple #[.int .u64 ((PLC h k:Nat):Int),.bool true])/\Below w.heap.size w w':=by
 have h1:=hN.1;have h2:=hN.2;have h3:=hN.span;have h4:=hN.index_lt;have h5:=hN.lt;have h7:=z5r h k;have h8:=z6y h k;refine z8a h k ((62 - h:Nat):Int) ((2 ^ h:Nat):Int) ((2 ^ (62 - h):Nat):Int) (((k+1)*2 ^ h - 1:Nat):Int) ((z02 ((k+1)*2 ^ h - 1):Nat):Int) _ w h1 (by unfold wrap64;omega) (by rw [z0b];omega) (by unfold wrap64;omega) (by simp only [decide_eq_false_iff_not];omega) (fun w=>z1n _ (by omega) w) (fun w=>z1n _ (by omega) w) (by rw [z0b];omega) ?_ (fun w=>z9q _ (by omega) w) ?_
 ·rw [show (((k:Int)+1)*((2 ^ h:Nat):Int))=(((k+1)*2 ^ h:Nat):Int) by rw [Int.natCast_mul];rfl]
  generalize (k+1)*2 ^ h=x at *
  rw [z0b,z0b];omega
 ·rw [z0b]
  omega
theorem z4b (h k:Nat) (hN:Node h k) (hh:h<62) (w:World):Calls Tryz.prog 43 #[.int .u64 ((PLC h k:Nat):Int)] w fun e w'=>e=.returned (.tuple #[.int .u64 ((PLC h (SIB k):Nat):Int),.bool true])/\Below w.heap.size w w':=by
 have hs:=hN.sib hh;have hi:=hN.index_lt;by_cases hk:k % 2=1
 ·have e:SIB k=k - 1:=by unfold SIB;rw [if_pos hk]
  rw [e] at hs ⊢;exact z5w _ h k (k - 1) _ w (by simp;omega) (by rw [z0b];omega) (by rw [zat,decide_eq_true hk]) (.node hN) (fun w=>z2r _ _ hs w)
 ·have e:SIB k=k+1:=by unfold SIB;rw [if_neg hk]
  rw [e] at hs ⊢;exact z5N _ h k (k+1) _ w (by simp;omega) (by rw [z0b];omega) (by rw [zat,decide_eq_false hk]) (.node hN) (fun w=>z2r _ _ hs w)
end Go.Proofs.YtlbcnaenhghieaaGreatDoor
namespace Go.Proofs.YtlbcnaenhghieaaGreatDoor
open Go.RowKit Go.Shelf
attribute [local go_sem] Oper.semAt_some
def UPTO {α:Type} (f:Nat->α) (k:Nat):List α:=(List.range k).map f
theorem z75 {α:Type} (f:Nat->α) (k:Nat):UPTO f (k+1)=UPTO f k ++ [f k]:=by simp [UPTO,List.range_succ]
theorem z54 {α:Type} (f:Nat->α) (k:Nat):(UPTO f k).length=k:=by simp [UPTO]
def KB (n₀ Bs:Nat) (A B:World):Prop:=Below n₀ A B/\B.cell? ⟨Bs,0,none⟩=A.cell? ⟨Bs,0,none⟩
theorem KB.t {n₀ Bs:Nat} {A B C:World} (h:KB n₀ Bs A B) (k:KB n₀ Bs B C):KB n₀ Bs A C:=⟨h.1.trans k.1,k.2.trans h.2⟩
theorem KB.b {n₀ Bs:Nat} {w:World} (hn:n₀<=w.heap.size) (hB:Bs<w.heap.size) (W:World) (l:Nat) (o o':Obj) (hl:w.heap.size<=l) (h:W.heap[l]?=some o) (h1:o.isCells=false) (h2:o.isWalk=false):KB n₀ Bs W (W.putObj l o'):=
 ⟨belowK_b hn W l o o' hl h h1 h2,(belowK_b (Nat.le_refl w.heap.size) W l o o' hl h h1 h2).cell (p:=⟨Bs,0,none⟩) hB⟩
def BACK (len:Nat) (f:Nat->Fin 64) (j:Nat):Nat × Fin 64:=(len - 1 - j,f (len - 1 - j))
set_option maxRecDepth 100000 in
theorem z8b (F:Fence) (n:Nat) (hF:F.fn 117) (hro:F.round=none) (hn:1<=n) (l Bs n₀ b len cap:Nat) (f:Nat->Fin 64) (hreach:len<=64) (hb:b<n₀) (J Jx:List (Nat × Fin 64)->World->Prop)
    (hY:∀ pre x W,J pre W->pre.length<len->YieldAt F (n - 1) Tryz.prog l #[.int .i64 (x.1:Int),.int .i64 (x.2.val:Int)] W fun e W'=>
      (e=.returned (.bool true)/\J (pre ++ [x]) W'/\KB n₀ Bs W W')\/(e=.returned (.bool false)/\Jx (pre ++ [x]) W'))
    (W:World) (hBs:W.cell? ⟨Bs,0,none⟩=some (.slice (some ⟨b,0,none⟩) len cap)) (hc:∀ j,j<len->W.cell? ⟨b,j,none⟩=some (.int .i64 ((f j).val:Int))) (h0:J [] W):
    CallsIn F n Tryz.prog 117 #[.func (.yield l) #[] #[],.pointer (some ⟨Bs,0,none⟩)] W fun e W'=>(∃ v,e=.returned v)/\
      ((∃ ys,ys=UPTO (BACK len f) len/\J ys W')\/(∃ pre,(∃ k,k<=len/\pre=UPTO (BACK len f) k)/\Jx pre W')):=by
  refine callsIn_of_wp Tryz.func117 rfl hF ?_ hro;simp only [Tryz.ntmps117,List.size_toArray,List.length_cons,List.length_nil,Nat.reduceAdd,Nat.reduceSub,Array.replicate_succ,Array.replicate_zero,List.push_toArray,List.append_toArray,List.nil_append,List.cons_append];have e1:wrap64 ((len:Int) - 1)=(len:Int) - 1:=by unfold wrap64;omega
  gi_wp2
  gi_loopw [3] (fun i wr=>∃ k:Nat,k<=len/\i=.int .i64 ((len:Int) - 1 - (k:Int))/\J (UPTO (BACK len f) k) wr/\KB n₀ Bs W wr)
    (fun i _=>(intOf i+1).toNat)
  case atStart=>exact ⟨0,Nat.zero_le _,by simp,h0,Below.refl _ _,rfl⟩
  case round=>
    obtain ⟨k,hk,rfl,hJs,hnx⟩:=hrel;by_cases hlt:k<len
    · obtain ⟨j,hj⟩:∃ j:Nat,(len:Int) - 1 - (k:Int)=(j:Int):=⟨len - 1 - k,by omega⟩
      have hjl:j<len:=by omega
      have hbk:BACK len f k=(j,f j):=by
        unfold BACK;rw [show len - 1 - k=j by omega]
      have hcx:wr.cell? ⟨b,j,none⟩=some (.int .i64 ((f j).val:Int)):=(hnx.1.cell (p:=⟨b,j,none⟩) hb).trans (hc j hjl);have hcs:wr.cell? ⟨Bs,0,none⟩=some (.slice (some ⟨b,0,none⟩) len cap):=hnx.2.trans hBs;obtain ⟨fn,tmps,assign,body,hy,hR⟩:=hY _ (j,f j) wr hJs (by rw [z54];exact hlt);dsimp only at hy;rw [hj];have e2:wrap64 ((j:Int) - 1)=(j:Int) - 1:=by unfold wrap64;omega
      have hJ':Aside ((len:Int) - 1 - (k:Int)=(j:Int)):=hj;have hjl':(j:Int)<(len:Int):=by omega
      clear hj;gi_wp2
      refine hR.mono ?_;rintro e W3 (⟨rfl,hJ3,hk3⟩ | ⟨rfl,hJx3⟩)
      · gi_wp2
        go_roundw
        case rel=>exact ⟨k+1,by omega,by have:=hJ'.out;congr 1;omega,by rw [z75,hbk];exact hJ3,hnx.t hk3⟩
        case measure=>simp [intOf]
      · gi_wp2
        refine bodyPost_ret (results_none rfl _ _ _) rfl ?_;exact ⟨⟨_,rfl⟩,.inr ⟨_,⟨k+1,by omega,by rw [z75,hbk]⟩,hJx3⟩⟩
    · obtain rfl:k=len:=by omega
      rw [show (k:Int) - 1 - (k:Int) = -1 by omega];gi_wp2
      go_end0
      exact ⟨⟨_,rfl⟩,.inl ⟨_,rfl,hJs⟩⟩
theorem z9t (F:Fence) (n:Nat) (hF:F.fn 100) (hro:F.round=none) (a:Option Addr) (len cap:Nat) (w:World):
  CallsIn F n Tryz.prog 100 #[.slice a len cap] w fun e w'=>e=.returned (.func (.func 117) #[] #[.pointer (some ⟨w.heap.size,0,none⟩)])/\w'=w.alloc (.cells #[.slice a len cap] 156):=by
 refine callsIn_of_wp Tryz.func100 rfl hF ?_ hro;simp only [Tryz.ntmps100,List.size_toArray,List.length_cons,List.length_nil,Nat.reduceAdd,Nat.reduceSub,Array.replicate_succ,Array.replicate_zero,List.push_toArray,List.append_toArray,List.nil_append,List.cons_append];gi_wp2
 go_ret;exact ⟨rfl,rfl⟩
theorem z6E (F:Fence) (n:Nat) (hF:F.fn 117) (hro:F.round=none) (hn:1<=n) (Bs n₀ b len cap:Nat) (f:Nat->Fin 64) (hreach:len<=64) (hb:b<n₀) (w:World) (hBs:Bs<w.heap.size) (hn₀:n₀<=w.heap.size)
  (hc:w.cell? ⟨Bs,0,none⟩=some (.slice (some ⟨b,0,none⟩) len cap)) (hI:∀ j,j<len->w.cell? ⟨b,j,none⟩=some (.int .i64 ((f j).val:Int))):
  SeqStopsK F n Tryz.prog 117 #[.pointer (some ⟨Bs,0,none⟩)] (fun x:Nat × Fin 64=>#[Value.int .i64 (x.1:Int),Value.int .i64 (x.2.val:Int)]) (KB n₀ Bs) (fun ys=>ys=UPTO (BACK len f) len)
   (fun pre=>∃ k,k<=len/\pre=UPTO (BACK len f) k) len w:=fun l J Jx W hW _ _ hY h0=>
 z8b F n hF hro hn l Bs n₀ b len cap f hreach hb J Jx hY W ((hW.cell (p:=⟨Bs,0,none⟩) hBs).trans hc) (fun j hj=>(hW.cell (p:=⟨b,j,none⟩) (by show b<_;omega)).trans (hI j hj)) h0
end Go.Proofs.YtlbcnaenhghieaaGreatDoor

