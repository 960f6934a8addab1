/- ProofMakes: part 21. -/
import Derived.RangeFuncBox
import Derived.RangeFuncLeaves
import Derived.RangeFuncCalls
import Derived.Shelf.Abstract
import Derived.Shelf.RegionOpen
import Derived.OwnWalkIn
import Derived.TacticsInMore
import Derived.LoopNIn
import Derived.LoopIn
import Derived.RangeFuncNested
import Derived.Test.YthmnailmbgondaaGreatDoorProofMakesP19
set_option maxHeartbeats 2000000
namespace Go.Proofs.YthmnailmbgondaaGreatDoor
open Go.RowKit
theorem z0V (n:Nat) (hn:n<64) (w:World):Calls Tryz.prog 71 #[.int .i64 (n:Int)] w fun e w'=>e=.returned (.int .u64 ((2 ^ n:Nat):Int))/\w=w':=by
 have HN:Aside (n<64):=hn;clear hn;go_enter Tryz.func71,Tryz.ntmps71;go_wp2;go_loopg [3,4] n (fun g s3 s4 wx=>∃ i v:Nat,s3=.int .u64 (v:Int)/\s4=.int .i64 (i:Int)/\Aside (v=2 ^ i/\i+g=n)/\wx=w)
 case atStart=>exact ⟨0,1,rfl,rfl,⟨rfl,by omega⟩,rfl⟩
 case round=>
  obtain ⟨i,v,rfl,rfl,A,hw⟩:=hrel;subst hw;cases gk with
  | zero=>
    have hi:¬ (i:Int)<(n:Int):=by have:=A.out.2;omega
    go_wp2;go_ret;obtain ⟨r1,r2⟩:=A.out;refine ⟨?_,rfl⟩;rw [r1,show i=n by omega];rfl
  | succ g=>
    have hi:(i:Int)<(n:Int):=by have:=A.out.2;omega
    go_wp2;go_roundg g
    case measure=>omega
    case rel=>
     obtain ⟨r1,r2⟩:=A.out;have h64:=HN.out;have hp:2 ^ (i+1)<=2 ^ 63:=Nat.pow_le_pow_right (by decide) (by omega);refine ⟨i+1,2 ^ (i+1),?_,?_,⟨rfl,by omega⟩,rfl⟩
     ·congr 1
      rw [z0b,r1];rw [Nat.pow_succ] at hp ⊢;omega
     ·congr 1
      unfold wrap64;omega
theorem z9K (n:Nat) (hn:n<=4611686018427387904) (w:World):Calls Tryz.prog 75 #[.int .u64 (n:Int)] w fun e w'=>e=.returned (.tuple #[.int .u64 ((z01 n:Nat):Int),.bool true])/\w=w':=by
 have HN:Aside (n<=4611686018427387904):=hn;have hd:¬ (4611686018427387904:Int)<(n:Int):=by omega
 clear hn;go_enter Tryz.func75,Tryz.ntmps75;go_wp2;go_loopg [0,4] n (fun g s0 s4 wx=>∃ v:Nat,s0=.int .u64 (g:Int)/\s4=.int .u64 (v:Int)/\Aside (v+z01 g=z01 n)/\wx=w)
 case atStart=>exact ⟨0,rfl,rfl,by unfold Aside;omega,rfl⟩
 case round=>
  obtain ⟨v,rfl,rfl,A,hw⟩:=hrel;subst hw;cases gk with
  | zero=>
    go_wp2;go_ret2;have r1:=A.out;rw [z2h] at r1;refine ⟨?_,rfl⟩;rw [<-r1];rfl
  | succ g=>
    have hi:(0:Int)<(((g+1:Nat)):Int):=by omega
    have e1:Aside (IntKind.u64.wrap ((v:Int)+((g+1:Nat):Int))=((v+(g+1):Nat):Int)):=by
     have h1:=z41 (g+1);have h2:=A.out;have h3:=z4M HN.out;unfold Aside;rw [z0b];omega
    have e2:Aside (IntKind.u64.wrap (((g+1:Nat):Int) / 2)=(((g+1) / 2:Nat):Int)):=by
     have h1:=zet (g+1);have h2:=A.out;have h3:=z4M HN.out;unfold Aside;rw [z0b];omega
    generalize hG:g+1=G at *
    go_wp2;go_roundg (G / 2)
    case measure=>omega
    case rel=>
     refine ⟨v+G,?_,?_,?_,rfl⟩
     ·first | rfl | (congr 1;omega) | (rw [e2.out])
     ·rw [e1.out]
     ·have h1:=z41 G
      have h2:=A.out;unfold Aside;omega
theorem z9L (p:Int) (hp:9223372036854775807<=p) (w:World):Calls Tryz.prog 57 #[.int .u64 p] w fun e w'=>e=.returned (.tuple #[SPOT 0 0,.bool false])/\Below w.heap.size w w':=by
 have c1:=z0V 62 (by omega);rw [show (((2 ^ 62:Nat):Int))=4611686018427387904 by decide,show (((62:Nat):Int))=62 from rfl] at c1;have hd:(9223372036854775806:Int)<p:=by omega
 go_enter Tryz.func57,Tryz.ntmps57;go_wp2_with fail
 refine (c1 _).mono ?_;rintro e w' ⟨rfl,rfl⟩;clear c1;go_wp2;refine bodyPost_ret (v:=.tuple #[SPOT 0 0,.bool false]) ?_ rfl ⟨rfl,(Below.refl _ _).alloc (Nat.le_refl _) _⟩;simp [results,Tryz.f57,go_sem]
theorem zdj {a b c:Nat} (h:a+b=c) (hc:c<2 ^ 64):IntKind.u64.wrap ((a:Int)+(b:Int))=(c:Int):=by rw [z0b];omega
theorem zhh {a c:Nat} (h:a+1=c) (hc:c<2 ^ 64):IntKind.u64.wrap ((a:Int)+1)=(c:Int):=by rw [z0b];omega
theorem zhi {a c:Nat} (h:c+1=a) (hc:c<2 ^ 64):IntKind.u64.wrap ((a:Int) - 1)=(c:Int):=by rw [z0b];omega
theorem zdk {a c:Nat} (h:2*a=c) (hc:c<2 ^ 64):IntKind.u64.wrap (2*(a:Int))=(c:Int):=by rw [z0b];omega
theorem zgk {a c:Nat} (h:2*c=a) (hc:c<2 ^ 64):IntKind.u64.wrap ((a:Int) / 2)=(c:Int):=by rw [z0b];omega
theorem zeY {a c:Nat} (h:2*c=a):(a:Int) / 2=(c:Int):=by omega
theorem zeZ {g m b p z1 bz:Nat} (hg:g+1<=62) (hN:Node (g+1) m) (hb:b=z01 (m*2 ^ (g+1))) (hbp:b<=p) (hpu:p+2<=b+2 ^ (g+1+1)) (hz:2 ^ (g+1)=z1+1) (hbz:b+z1=bz) (hT:p≠b+2*z1):
  Node g (2*m)/\Node g (2*m+1)/\b=z01 (2*m*2 ^ g)/\bz=z01 ((2*m+1)*2 ^ g)/\(bz<=p->p+2<=bz+2 ^ (g+1))/\(p<bz->p+2<=b+2 ^ (g+1)):=by
 have h2:=hN.2;have e:2 ^ (62 - g)=2 ^ (62 - (g+1))*2:=by rw [<-Nat.pow_succ];congr 1;omega
 have e2:2 ^ (g+1+1)=2*(z1+1):=by rw [Nat.pow_succ,hz,Nat.mul_comm]
 refine ⟨⟨by omega,by rw [e];omega⟩,⟨by omega,by rw [e];omega⟩,by rw [hb,z17],?_,fun h=>by omega,fun h=>by omega⟩;rw [z47,z17,<-hb];unfold TREE;omega
theorem z4b (h k:Nat) (hN:Node h k) (w:World):Calls Tryz.prog 57 #[.int .u64 ((PLC h k:Nat):Int)] w fun e w'=>e=.returned (.tuple #[SPOT h k,.bool true])/\Below w.heap.size w w':=by
 have hp:=hN.lt;obtain ⟨p,hpe⟩:∃ p,p=PLC h k:=⟨_,rfl⟩
 rw [<-hpe] at hp ⊢;have HN:Aside (Node h k/\p=PLC h k/\p<9223372036854775807):=⟨hN,hpe,hp⟩
 have c1:=z0V 62 (by omega);rw [show (((2 ^ 62:Nat):Int))=4611686018427387904 by decide,show (((62:Nat):Int))=62 from rfl] at c1;have hd:¬ (9223372036854775806:Int)<(p:Int):=by omega
 clear hN hpe hp;go_enter Tryz.func57,Tryz.ntmps57;go_wp2_with fail
 refine (c1 _).mono ?_;rintro e w' ⟨rfl,rfl⟩;clear c1;go_wp2;go_loopg [4,5,6] 62 (fun g s4 s5 s6 wx=>∃ b m:Nat,s4=.int .u64 (b:Int)/\s5=.int .i64 (g:Int)/\s6=.int .u64 (m:Int)/\Aside (wx=w.alloc (.cells #[.int .u8 0,.int .u64 0] 101)/\g<=62/\b=z01 (m*2 ^ g)/\Node g m/\b<=p/\p+2<=b+2 ^ (g+1)))
 case atStart=>exact ⟨0,0,rfl,rfl,rfl,rfl,by omega,by simp [z2h],⟨by omega,by simp⟩,by omega,by have:=HN.out.2.2;omega⟩
 case round=>
  obtain ⟨b,m,rfl,rfl,rfl,A⟩:=hrel;obtain ⟨hw,hg,hb,hNm,hbp,hpu⟩:=A.out;clear A;have hpl:2 ^ gk<=2 ^ 62:=Nat.pow_le_pow_right (by decide) hg;obtain ⟨z1,hz⟩:∃ z1,2 ^ gk=z1+1:=⟨2 ^ gk - 1,by have:=Nat.two_pow_pos gk;omega⟩
  have c1:=z0V gk (by omega);rw [hz] at c1 hpl;have hbl:b<9223372036854775807:=by have:=HN.out.2.2;omega
  obtain ⟨u,hu⟩:∃ u,2*z1=u:=⟨_,rfl⟩
  obtain ⟨bu,hbu⟩:∃ bu,b+u=bu:=⟨_,rfl⟩
  have e1:IntKind.u64.wrap (((z1+1:Nat):Int) - 1)=(z1:Int):=zhi rfl (by omega);have e1':IntKind.u64.wrap (z1:Int)=(z1:Int):=by rw [z0b];omega
  rw [show ((z1+1:Nat):Int)=(z1:Int)+1 by omega] at c1 e1;have e2:IntKind.u64.wrap (2*(z1:Int))=(u:Int):=zdk hu (by omega);have e3:IntKind.u64.wrap ((b:Int)+(u:Int))=(bu:Int):=zdj hbu (by omega);by_cases hT:p=bu
  ·have hmk:h=gk/\k=m:=by
    refine HN.out.1.one hNm ?_;rw [<-HN.out.2.1];unfold PLC;rw [hz] at hb;rw [Nat.pow_succ,hz,<-hb];omega
   obtain ⟨rfl,rfl⟩:=hmk;have hT':((p:Int) == (bu:Int))=true:=by simp;omega
   have hh:(h:Int) % 256=(h:Int):=by omega
   clear hg hb hNm hbp hpu HN hpl hbl hz hu hbu hT;subst hw;go_wp2_with fail
   refine (c1 _).mono ?_;rintro e w' ⟨rfl,rfl⟩;clear c1;go_wp2;refine bodyPost_ret (v:=.tuple #[SPOT h k,.bool true]) ?_ rfl ⟨rfl,(Below.refl _ _).alloc (Nat.le_refl _) _⟩;simp [results,Tryz.f57,go_sem]
  ·have hT':((p:Int) == (bu:Int))=false:=by simp;omega
   have h1:1<=gk:=by
    rcases Nat.eq_zero_or_pos gk with h0 | h0
    ·subst h0
     simp at hz;omega
    ·exact h0
   obtain ⟨g,rfl⟩:∃ g,gk=g+1:=⟨gk - 1,by omega⟩
   have hm62:=hNm.index_lt;obtain ⟨bz,hbz⟩:∃ bz,b+z1=bz:=⟨_,rfl⟩
   obtain ⟨m2,hm2⟩:∃ m2,2*m=m2:=⟨_,rfl⟩
   obtain ⟨m3,hm3⟩:∃ m3,m2+1=m3:=⟨_,rfl⟩
   have RR:=zeZ hg hNm hb hbp hpu hz hbz (by omega);rw [hm2,hm3] at RR;have e4:IntKind.u64.wrap (2*(m:Int))=(m2:Int):=zdk hm2 (by omega);have e5:IntKind.u64.wrap ((u:Int) / 2)=(z1:Int):=zgk hu (by omega);have e5':(u:Int) / 2=(z1:Int):=zeY hu;have e6:wrap64 (g:Int)=(g:Int):=by unfold wrap64;omega
   have e7:IntKind.u64.wrap ((b:Int)+(z1:Int))=(bz:Int):=zdj hbz (by omega);have e8:IntKind.u64.wrap ((m2:Int)+1)=(m3:Int):=zhh hm3 (by omega);have R:Aside (wr=w.alloc (.cells #[.int .u8 0,.int .u64 0] 101)/\g+1<=62/\b<=p/\Node g m2/\Node g m3/\b=z01 (m2*2 ^ g)/\bz=z01 (m3*2 ^ g)/\(bz<=p->p+2<=bz+2 ^ (g+1))/\(p<bz->p+2<=b+2 ^ (g+1))):=⟨hw,hg,hbp,RR⟩
   rw [show (((g+1:Nat):Int))=(g:Int)+1 by omega] at c1 ⊢;clear RR hw hg hNm hbp hb hpu hT hz hbz hbu hu HN hpl hbl h1 hm62 hm2 hm3 hd;by_cases hlt:bz<=p
   ·have hd3:(bz:Int)<=(p:Int):=by omega
    have R2:Aside (bz<=p):=hlt;clear hlt;go_wp2_with fail
    refine (c1 _).mono ?_;rintro e w' ⟨rfl,rfl⟩;clear c1;go_wp2;go_roundg g
    case measure=>omega
    case rel=>
     obtain ⟨r1,r2,r3,r4,r5,r6,r7,r8,r9⟩:=R.out;have s1:=R2.out;rw [e6];exact ⟨bz,m3,rfl,rfl,rfl,r1,by omega,r7,r5,s1,r8 s1⟩
   ·have hd3:¬ (bz:Int)<=(p:Int):=by omega
    have R2:Aside (p<bz):=by unfold Aside;omega
    clear hlt;go_wp2_with fail
    refine (c1 _).mono ?_;rintro e w' ⟨rfl,rfl⟩;clear c1;go_wp2;go_roundg g
    case measure=>omega
    case rel=>
     obtain ⟨r1,r2,r3,r4,r5,r6,r7,r8,r9⟩:=R.out;have s1:=R2.out;rw [e6];exact ⟨b,m2,rfl,rfl,rfl,r1,by omega,r6,r4,r3,r9 s1⟩
def RefAt (p:Int) (h k:Nat) (ok:Bool):Prop:=∀ w,Calls Tryz.prog 57 #[.int .u64 p] w fun e w'=>e=.returned (.tuple #[SPOT h k,.bool ok])/\Below w.heap.size w w'
theorem RefAt.node {h k:Nat} (hN:Node h k):RefAt ((PLC h k:Nat):Int) h k true:=fun w=>z4b h k hN w
theorem RefAt.out {p:Int} (hp:9223372036854775807<=p):RefAt p 0 0 false:=fun w=>z9L p hp w
theorem z8K (h k:Nat) (t z y l a r:Int) (w:World) (hh:h<=62) (hm:wrap64 (h:Int)=(h:Int)) (hm2:IntKind.u64.wrap (h:Int)=(h:Int)) (ht:wrap64 (62 - (h:Int))=t) (hk:decide (y<=(k:Int))=false)
  (cy:∀ w,Calls Tryz.prog 71 #[.int .i64 t] w fun e w'=>e=.returned (.int .u64 y)/\w=w') (cz:∀ w,Calls Tryz.prog 71 #[.int .i64 (h:Int)] w fun e w'=>e=.returned (.int .u64 z)/\w=w')
  (e0:IntKind.u64.wrap ((k:Int)+1)=(k:Int)+1) (e1:IntKind.u64.wrap (IntKind.u64.wrap (((k:Int)+1)*z) - 1)=l) (ca:∀ w,Calls Tryz.prog 75 #[.int .u64 l] w fun e w'=>e=.returned (.tuple #[.int .u64 a,.bool true])/\w=w') (e2:IntKind.u64.wrap (a+(h:Int))=r):
  Calls Tryz.prog 45 #[SPOT h k] w fun e w'=>e=.returned (.tuple #[.int .u64 r,.bool true])/\Below w.heap.size w w':=by
 have hd:decide ((62:Int)<(h:Int))=false:=by simp;omega
 go_enter Tryz.func45,Tryz.ntmps45;go_wp2;have hc0:(w.alloc (.cells #[.int .u8 (h:Int),.int .u64 (k:Int)] 101)).cell? ⟨w.heap.size,0,none⟩=some (.int .u8 (h:Int)):=by simp
 have hc1:(w.alloc (.cells #[.int .u8 (h:Int),.int .u64 (k:Int)] 101)).cell? ⟨w.heap.size,1,none⟩=some (.int .u64 (k:Int)):=by simp
 have R2:Aside (Below w.heap.size w (w.alloc (.cells #[.int .u8 (h:Int),.int .u64 (k:Int)] 101))):=(Below.refl _ _).alloc (Nat.le_refl _) _;generalize w.alloc (.cells #[.int .u8 (h:Int),.int .u64 (k:Int)] 101)=W at *
 generalize hb:w.heap.size=b at *
 clear hh;go_quiet ((go_at_call 71;exact z0z (cy _)))
 have R3:Aside (Below b w (W.drewN nq)):=below_drewN R2.out nq;have hc0':(W.drewN nq).cell? ⟨b,0,none⟩=some (.int .u8 (h:Int)):=hc0;have hc1':(W.drewN nq).cell? ⟨b,1,none⟩=some (.int .u64 (k:Int)):=hc1;clear hc0 hc1 R2 cy;generalize W.drewN nq=W2 at *
 go_wp2;go_quiet (first | (go_at_call 71;exact z0z (cz _)) | (go_at_call 75;exact z0z (ca _)))
 go_wp2;go_ret2;exact ⟨rfl,by rw [hb];exact below_drewN R3.out _⟩
theorem z6n (p:Int) (h k k1:Nat) (r:Int) (w:World) (hh:((h:Int) == 62)=false) (e1:IntKind.u64.wrap ((k:Int)+1)=(k1:Int)) (ha:((k:Int) % 2 == 1)=false) (cs:RefAt p h k true)
  (cp:∀ w,Calls Tryz.prog 45 #[SPOT h k1] w fun e w'=>e=.returned (.tuple #[.int .u64 r,.bool true])/\Below w.heap.size w w'):
  Calls Tryz.prog 58 #[.int .u64 p] w fun e w'=>e=.returned (.tuple #[.int .u64 r,.bool true])/\Below w.heap.size w w':=by
 have cs:=cs w;go_enter Tryz.func58,Tryz.ntmps58;go_wp2_with fail
 refine cs.mono ?_;rintro e w1 ⟨rfl,hb⟩;clear cs;have R:Aside (Below w.heap.size w w1):=hb;clear hb;go_wp2_with fail
 refine (cp _).mono ?_;rintro e w2 ⟨rfl,hb2⟩;have R2:Aside (Below w.heap.size w w2):=(R.out.alloc R.out.size _).trans (hb2.mono (by have:=R.out.size;simp;omega));clear cp hb2 R;go_wp2;go_ret2;exact ⟨rfl,R2.out⟩
theorem z5K (p:Int) (h k k1:Nat) (r:Int) (w:World) (hh:((h:Int) == 62)=false) (e1:IntKind.u64.wrap ((k:Int) - 1)=(k1:Int)) (ha:((k:Int) % 2 == 1)=true) (cs:RefAt p h k true)
  (cp:∀ w,Calls Tryz.prog 45 #[SPOT h k1] w fun e w'=>e=.returned (.tuple #[.int .u64 r,.bool true])/\Below w.heap.size w w'):
  Calls Tryz.prog 58 #[.int .u64 p] w fun e w'=>e=.returned (.tuple #[.int .u64 r,.bool true])/\Below w.heap.size w w':=by
 have cs:=cs w;go_enter Tryz.func58,Tryz.ntmps58;go_wp2_with fail
 refine cs.mono ?_;rintro e w1 ⟨rfl,hb⟩;clear cs;have R:Aside (Below w.heap.size w w1):=hb;clear hb;go_wp2_with fail
 refine (cp _).mono ?_;rintro e w2 ⟨rfl,hb2⟩;have R2:Aside (Below w.heap.size w w2):=(R.out.alloc R.out.size _).trans (hb2.mono (by have:=R.out.size;simp;omega));clear cp hb2 R;go_wp2;go_ret2;exact ⟨rfl,R2.out⟩
theorem zaF (k:Nat):((k:Int) % 2 == 1)=decide (k % 2=1):=by
 rw [Bool.eq_iff_iff];simp;omega
theorem z1Z (h k:Nat) (hN:Node h k) (w:World):Calls Tryz.prog 45 #[SPOT h k] w fun e w'=>e=.returned (.tuple #[.int .u64 ((PLC h k:Nat):Int),.bool true])/\Below w.heap.size w w':=by
 have h1:=hN.1;have h2:=hN.2;have h3:=hN.span;have h4:=hN.index_lt;have h5:=hN.lt;have h7:=z43 h k;have h8:=z55 h k;refine z8K h k ((62 - h:Nat):Int) ((2 ^ h:Nat):Int) ((2 ^ (62 - h):Nat):Int) (((k+1)*2 ^ h - 1:Nat):Int) ((z01 ((k+1)*2 ^ h - 1):Nat):Int) _ w h1 (by unfold wrap64;omega) (by rw [z0b];omega) (by unfold wrap64;omega) (by simp only [decide_eq_false_iff_not];omega) (fun w=>z0V _ (by omega) w) (fun w=>z0V _ (by omega) w) (by rw [z0b];omega) ?_ (fun w=>z9K _ (by omega) w) ?_
 ·rw [show (((k:Int)+1)*((2 ^ h:Nat):Int))=(((k+1)*2 ^ h:Nat):Int) by rw [Int.natCast_mul];rfl]
  generalize (k+1)*2 ^ h=x at *
  rw [z0b,z0b];omega
 ·rw [z0b]
  omega
theorem z4q (h k:Nat) (hN:Node h k) (hh:h<62) (w:World):Calls Tryz.prog 58 #[.int .u64 ((PLC h k:Nat):Int)] w fun e w'=>e=.returned (.tuple #[.int .u64 ((PLC h (SIB k):Nat):Int),.bool true])/\Below w.heap.size w w':=by
 have hs:=hN.sib hh;have hi:=hN.index_lt;by_cases hk:k % 2=1
 ·have e:SIB k=k - 1:=by unfold SIB;rw [if_pos hk]
  rw [e] at hs ⊢;exact z5K _ h k (k - 1) _ w (by simp;omega) (by rw [z0b];omega) (by rw [zaF,decide_eq_true hk]) (.node hN) (fun w=>z1Z _ _ hs w)
 ·have e:SIB k=k+1:=by unfold SIB;rw [if_neg hk]
  rw [e] at hs ⊢;exact z6n _ h k (k+1) _ w (by simp;omega) (by rw [z0b];omega) (by rw [zaF,decide_eq_false hk]) (.node hN) (fun w=>z1Z _ _ hs w)
end Go.Proofs.YthmnailmbgondaaGreatDoor
namespace Go.Proofs.YthmnailmbgondaaGreatDoor
open Go.RowKit Go.Shelf
attribute [local go_sem] Oper.semAt_some
def UPTO {α:Type} (f:Nat->α) (k:Nat):List α:=(List.range k).map f
theorem z7B {α:Type} (f:Nat->α) (k:Nat):UPTO f (k+1)=UPTO f k ++ [f k]:=by simp [UPTO,List.range_succ]
theorem z5n {α:Type} (f:Nat->α) (k:Nat):(UPTO f k).length=k:=by simp [UPTO]
def KB (n₀ Bs:Nat) (A B:World):Prop:=Below n₀ A B/\B.cell? ⟨Bs,0,none⟩=A.cell? ⟨Bs,0,none⟩
theorem KB.t {n₀ Bs:Nat} {A B C:World} (h:KB n₀ Bs A B) (k:KB n₀ Bs B C):KB n₀ Bs A C:=⟨h.1.trans k.1,k.2.trans h.2⟩
theorem KB.b {n₀ Bs:Nat} {w:World} (hn:n₀<=w.heap.size) (hB:Bs<w.heap.size) (W:World) (l:Nat) (o o':Obj) (hl:w.heap.size<=l) (h:W.heap[l]?=some o) (h1:o.isCells=false) (h2:o.isWalk=false):KB n₀ Bs W (W.putObj l o'):=
 ⟨belowK_b hn W l o o' hl h h1 h2,(belowK_b (Nat.le_refl w.heap.size) W l o o' hl h h1 h2).cell (p:=⟨Bs,0,none⟩) hB⟩
def BACK (len:Nat) (f:Nat->Fin 64) (j:Nat):Nat × Fin 64:=(len - 1 - j,f (len - 1 - j))
set_option maxRecDepth 100000 in
theorem z8L (F:Fence) (n:Nat) (hF:F.fn 130) (hro:F.round=none) (hn:1<=n) (l Bs n₀ b len cap:Nat) (f:Nat->Fin 64) (hreach:len<=64) (hb:b<n₀) (J Jx:List (Nat × Fin 64)->World->Prop)
    (hY:∀ pre x W,J pre W->pre.length<len->YieldAt F (n - 1) Tryz.prog l #[.int .i64 (x.1:Int),.int .i64 (x.2.val:Int)] W fun e W'=>
      (e=.returned (.bool true)/\J (pre ++ [x]) W'/\KB n₀ Bs W W')\/(e=.returned (.bool false)/\Jx (pre ++ [x]) W'))
    (W:World) (hBs:W.cell? ⟨Bs,0,none⟩=some (.slice (some ⟨b,0,none⟩) len cap)) (hc:∀ j,j<len->W.cell? ⟨b,j,none⟩=some (.int .i64 ((f j).val:Int))) (h0:J [] W):
    CallsIn F n Tryz.prog 130 #[.func (.yield l) #[] #[],.pointer (some ⟨Bs,0,none⟩)] W fun e W'=>(∃ v,e=.returned v)/\
      ((∃ ys,ys=UPTO (BACK len f) len/\J ys W')\/(∃ pre,(∃ k,k<=len/\pre=UPTO (BACK len f) k)/\Jx pre W')):=by
  refine callsIn_of_wp Tryz.func130 rfl hF ?_ hro;simp only [Tryz.ntmps130,List.size_toArray,List.length_cons,List.length_nil,Nat.reduceAdd,Nat.reduceSub,Array.replicate_succ,Array.replicate_zero,List.push_toArray,List.append_toArray,List.nil_append,List.cons_append];have e1:wrap64 ((len:Int) - 1)=(len:Int) - 1:=by unfold wrap64;omega
  gi_wp2
  gi_loopw [3] (fun i wr=>∃ k:Nat,k<=len/\i=.int .i64 ((len:Int) - 1 - (k:Int))/\J (UPTO (BACK len f) k) wr/\KB n₀ Bs W wr)
    (fun i _=>(intOf i+1).toNat)
  case atStart=>exact ⟨0,Nat.zero_le _,by simp,h0,Below.refl _ _,rfl⟩
  case round=>
    obtain ⟨k,hk,rfl,hJs,hnx⟩:=hrel;by_cases hlt:k<len
    · obtain ⟨j,hj⟩:∃ j:Nat,(len:Int) - 1 - (k:Int)=(j:Int):=⟨len - 1 - k,by omega⟩
      have hjl:j<len:=by omega
      have hbk:BACK len f k=(j,f j):=by
        unfold BACK;rw [show len - 1 - k=j by omega]
      have hcx:wr.cell? ⟨b,j,none⟩=some (.int .i64 ((f j).val:Int)):=(hnx.1.cell (p:=⟨b,j,none⟩) hb).trans (hc j hjl);have hcs:wr.cell? ⟨Bs,0,none⟩=some (.slice (some ⟨b,0,none⟩) len cap):=hnx.2.trans hBs;obtain ⟨fn,tmps,assign,body,hy,hR⟩:=hY _ (j,f j) wr hJs (by rw [z5n];exact hlt);dsimp only at hy;rw [hj];have e2:wrap64 ((j:Int) - 1)=(j:Int) - 1:=by unfold wrap64;omega
      have hJ':Aside ((len:Int) - 1 - (k:Int)=(j:Int)):=hj;have hjl':(j:Int)<(len:Int):=by omega
      clear hj;gi_wp2
      refine hR.mono ?_;rintro e W3 (⟨rfl,hJ3,hk3⟩ | ⟨rfl,hJx3⟩)
      · gi_wp2
        go_roundw
        case rel=>exact ⟨k+1,by omega,by have:=hJ'.out;congr 1;omega,by rw [z7B,hbk];exact hJ3,hnx.t hk3⟩
        case measure=>simp [intOf]
      · gi_wp2
        refine bodyPost_ret (results_none rfl _ _ _) rfl ?_;exact ⟨⟨_,rfl⟩,.inr ⟨_,⟨k+1,by omega,by rw [z7B,hbk]⟩,hJx3⟩⟩
    · obtain rfl:k=len:=by omega
      rw [show (k:Int) - 1 - (k:Int) = -1 by omega];gi_wp2
      go_end0
      exact ⟨⟨_,rfl⟩,.inl ⟨_,rfl,hJs⟩⟩
theorem z9M (F:Fence) (n:Nat) (hF:F.fn 108) (hro:F.round=none) (a:Option Addr) (len cap:Nat) (w:World):
  CallsIn F n Tryz.prog 108 #[.slice a len cap] w fun e w'=>e=.returned (.func (.func 130) #[] #[.pointer (some ⟨w.heap.size,0,none⟩)])/\w'=w.alloc (.cells #[.slice a len cap] 150):=by
 refine callsIn_of_wp Tryz.func108 rfl hF ?_ hro;simp only [Tryz.ntmps108,List.size_toArray,List.length_cons,List.length_nil,Nat.reduceAdd,Nat.reduceSub,Array.replicate_succ,Array.replicate_zero,List.push_toArray,List.append_toArray,List.nil_append,List.cons_append];gi_wp2
 go_ret;exact ⟨rfl,rfl⟩
theorem z74 (F:Fence) (n:Nat) (hF:F.fn 130) (hro:F.round=none) (hn:1<=n) (Bs n₀ b len cap:Nat) (f:Nat->Fin 64) (hreach:len<=64) (hb:b<n₀) (w:World) (hBs:Bs<w.heap.size) (hn₀:n₀<=w.heap.size)
  (hc:w.cell? ⟨Bs,0,none⟩=some (.slice (some ⟨b,0,none⟩) len cap)) (hI:∀ j,j<len->w.cell? ⟨b,j,none⟩=some (.int .i64 ((f j).val:Int))):
  SeqStopsK F n Tryz.prog 130 #[.pointer (some ⟨Bs,0,none⟩)] (fun x:Nat × Fin 64=>#[Value.int .i64 (x.1:Int),Value.int .i64 (x.2.val:Int)]) (KB n₀ Bs) (fun ys=>ys=UPTO (BACK len f) len)
   (fun pre=>∃ k,k<=len/\pre=UPTO (BACK len f) k) len w:=fun l J Jx W hW _ _ hY h0=>
 z8L F n hF hro hn l Bs n₀ b len cap f hreach hb J Jx hY W ((hW.cell (p:=⟨Bs,0,none⟩) hBs).trans hc) (fun j hj=>(hW.cell (p:=⟨b,j,none⟩) (by show b<_;omega)).trans (hI j hj)) h0
end Go.Proofs.YthmnailmbgondaaGreatDoor

namespace Go.Proofs.YthmnailmbgondaaGreatDoor
open Go.RowKit Go.Shelf
attribute [local go_sem] Oper.semAt_some
def z06 (l:List Nat):List Value:=l.map fun (x:Nat)=>Value.int .u64 (x:Int)
theorem z1E (l:List Nat) (x:Nat):z06 (l ++ [x])=z06 l ++ [.int .u64 (x:Int)]:=by simp [z06]
theorem z24:(Tryz.prog.info? 24).map (fun i=>(i.zero,i.size,i.bytes))=some (some (.int .u64 0),1,8):=by kernel_rfl
theorem z8M (n:Nat) (hn:n<=64) (w:World):∃ cur:Array Value,cur.size=n/\(Instr.makeSlice 23 (.int .i64 0) (.int .i64 (n:Int))).run Tryz.prog w=.ok (.slice (some ⟨w.heap.size,0,none⟩) 0 n) (w.alloc (.cells cur 24)):=by
 obtain ⟨i,hi,hz,hs1,hby⟩:=info_parts z24;have h:=run_make (P:=Tryz.prog) w 23 24 i (.int .u64 0) Tryz.underlying23 hi hz .i64 .i64 0 n (by omega) (by omega) (by rw [hby];omega) (by omega);refine ⟨_,?_,h⟩;rw [size_madeCells,hs1];omega
def HTS (pre:List (Nat × Fin 64)):List Nat:=pre.map fun x=>x.2.val
theorem zf0 (pre:List (Nat × Fin 64)) (x:Nat × Fin 64):HTS (pre ++ [x])=HTS pre ++ [x.2.val]:=by simp [HTS]
theorem zdl (l:List Nat):(ST l).2.length=l.length:=by
 have key:∀ (l:List Nat) (s:Nat × List Nat),(l.foldl (fun s h=>((s.1+TREE h) % 2 ^ 64,s.2 ++ [((s.1+TREE h) % 2 ^ 64+(2 ^ 64 - 1)) % 2 ^ 64])) s).2.length=s.2.length+l.length:=by
  intro l;induction l with
  | nil=>intro s;simp
  | cons h l ih=>
    intro s;rw [List.foldl_cons,ih];simp;omega
 have:=key l (0,[]);simpa [ST] using this
theorem zhP (l:List Nat):(ST l).1<2 ^ 64:=by
 rcases List.eq_nil_or_concat l with rfl | ⟨i,x,rfl⟩
 ·simp [ST]
 ·rw [List.concat_eq_append,z70]
  exact Nat.mod_lt _ (by decide)
theorem zf1 (X:Nat) (f:Nat->Fin 64) (hf:∀ j,j<POP X->(f j).val=z46 X j):HTS (UPTO (BACK (POP X) f) (POP X))=(z0x X).reverse:=by
 apply List.ext_getElem?;intro j;by_cases hj:j<POP X
 ·rw [List.getElem?_reverse (by rw [z0I];exact hj),z0I,z5H (by omega),<-hf _ (by omega)]
  simp [HTS,UPTO,BACK,hj]
 ·rw [List.getElem?_eq_none (by simp [HTS,UPTO];omega),List.getElem?_eq_none (by rw [List.length_reverse,z0I];omega)]
theorem z0P {w:World} {base base':Nat} {t:TypeId} {s:Nat} {v:Value} {n:Nat} {xs:List Value} (h:w.ownsRow base t s v n xs) (hb:base'<=base):w.ownsRow base' t s v n xs:=
 ⟨h.1,h.2.imp id fun ⟨g,c,cur,a,b,r⟩=>⟨g,c,cur,a,Nat.le_trans hb b,r⟩⟩
set_option maxRecDepth 100000 in
theorem z8N (X:Nat) (hX:X<=4611686018427387904) (w:World) (hT:Tabled w) (h0:0<w.heap.size):Calls Tryz.prog 74 #[.int .u64 (X:Int)] w fun e w'=>
  ∃ g cap,e=.returned (.slice (some ⟨g,0,none⟩) (PC X) cap)/\w'.ownsRow w.heap.size 24 1 (.slice (some ⟨g,0,none⟩) (PC X) cap) (PC X) (z06 (z0T X))/\Below w.heap.size w w':=by
 obtain ⟨i0,hi,hz0,hz1,hz2⟩:=info_parts z24;have cb:=zga X (by omega) w hT h0;have hle:=z6f X;obtain ⟨f,hf⟩:∃ f:Nat->Fin 64,∀ j,j<POP X->(f j).val=z46 X j:=⟨fun j=>if h:j<POP X then ⟨z46 X j,by have:=zeH h;omega⟩ else 0,fun j hj=>by simp [hj]⟩
 have hba:=zf1 X f hf;have hplc:=fun (w':World) (base g n cap:Nat) (h:w'.ownsRow base 3 1 (.slice (some ⟨g,0,none⟩) n cap) n (z16 (z0x X)))=>zd7 h;have hpc:POP X=PC X:=z8l (by omega);generalize POP X=p at *
 obtain ⟨L,hL⟩:∃ L,z16 (z0x X)=L:=⟨_,rfl⟩
 simp only [hL] at hplc cb;have HA:Aside (HTS (UPTO (BACK p f) p)=(z0x X).reverse/\p=PC X/\X<=4611686018427387904):=⟨hba,hpc,hX⟩
 clear hba hpc hX hL hT h0;have hd:¬ (4611686018427387904:Int)<(X:Int):=by have:=HA.out.2.2;omega
 refine (callsIn_wide (n:=5)).1 ?_;refine callsIn_of_wp_marks Tryz.func74 rfl trivial ?_ rfl;simp only [Tryz.ntmps74,List.size_toArray,List.length_cons,List.length_nil,Nat.reduceAdd,Nat.reduceSub,Array.replicate_succ,Array.replicate_zero,List.push_toArray,List.append_toArray,List.nil_append,List.cons_append];gi_wp2_with fail
 refine ⟨trivial,(callsIn_wide.2 cb).mono ?_⟩;rintro e w1 ⟨g,cap,rfl,hrow,hg,hb⟩;clear cb;obtain ⟨cur,hcs,hmk⟩:=z8M p hle w1;gi_wp2_with fail
 refine ⟨trivial,(z9M Fence.wide 4 trivial rfl _ _ _ _).mono ?_⟩;rintro e w2 ⟨rfl,rfl⟩;obtain ⟨s1,hs1⟩:∃ s1,w1.heap.size=s1:=⟨_,rfl⟩
 have bO:=Boxed.new (w1.alloc (.cells cur 24)) 23 (.slice (some ⟨w1.heap.size,0,none⟩) 0 p);have bM:=Boxed.new ((w1.alloc (.cells cur 24)).alloc (.cells #[.slice (some ⟨w1.heap.size,0,none⟩) 0 p] 23)) 24 (.int .u64 0);have bN:=Boxed.new (((w1.alloc (.cells cur 24)).alloc (.cells #[.slice (some ⟨w1.heap.size,0,none⟩) 0 p] 23)).alloc (.cells #[.int .u64 0] 24)) 150 (.slice (some ⟨g,0,none⟩) p cap)
 have hr0:(w1.alloc (.cells cur 24)).ownsRow s1 24 1 (.slice (some ⟨s1,0,none⟩) 0 p) 0 []:=by
  rw [<-hs1];exact World.ownsRow_made w1 cur p (Nat.le_refl _) (by simp only [maxLen];omega) (by rw [hcs];omega)
 simp only [World.size_alloc,hs1] at bO bM bN ⊢;have bO:=(bO.alloc (.cells #[.int .u64 0] 24)).alloc (.cells #[.slice (some ⟨g,0,none⟩) p cap] 150);have bM:=bM.alloc (.cells #[.slice (some ⟨g,0,none⟩) p cap] 150);have hr0:=((hr0.alloc (.cells #[.slice (some ⟨s1,0,none⟩) 0 p] 23)).alloc (.cells #[.int .u64 0] 24)).alloc (.cells #[.slice (some ⟨g,0,none⟩) p cap] 150)
 have hB1:Below s1 w1 ((((w1.alloc (.cells cur 24)).alloc (.cells #[.slice (some ⟨s1,0,none⟩) 0 p] 23)).alloc (.cells #[.int .u64 0] 24)).alloc (.cells #[.slice (some ⟨g,0,none⟩) p cap] 150)):=
  ((((Below.refl _ w1).alloc (by omega) _).alloc (by simp;omega) _).alloc (by simp;omega) _).alloc (by simp;omega) _
 have hgs:g<s1:=by omega
 have hcg:∀ j,j<p->w1.cell? ⟨g,j,none⟩=some (.int .i64 ((f j).val:Int)):=fun j hj=>by rw [hf j hj];exact hplc _ _ _ _ _ hrow j hj
 have hsz:((((w1.alloc (.cells cur 24)).alloc (.cells #[.slice (some ⟨s1,0,none⟩) 0 p] 23)).alloc (.cells #[.int .u64 0] 24)).alloc (.cells #[.slice (some ⟨g,0,none⟩) p cap] 150)).heap.size=s1+4:=by simp;omega
 obtain ⟨W0,hW0⟩:∃ W0,((((w1.alloc (.cells cur 24)).alloc (.cells #[.slice (some ⟨s1,0,none⟩) 0 p] 23)).alloc (.cells #[.int .u64 0] 24)).alloc (.cells #[.slice (some ⟨g,0,none⟩) p cap] 150))=W0:=⟨_,rfl⟩
 rw [hW0] at bO bM bN hr0 hB1 hsz ⊢;have hbw:Below w.heap.size w W0:=hb.trans (hB1.mono (by have:=hb.size;omega));clear hW0;gi_wp2_with fail
 refine wpIn_rangeFunc_ownG rfl (by omega) (gf:=130) (lb:=#[.pointer (some ⟨s1+1+1+1,0,none⟩)]) rfl trivial (enters_of Tryz.func130 (by kernel_rfl) rfl)
  (z74 Fence.wide (5 - 1) trivial rfl (by omega) (s1+1+1+1) s1 g p cap f hle hgs W0 (by omega) (by omega) bN.cell (fun j hj=>(hB1.cell (p:=⟨g,j,none⟩) hgs).trans (hcg j hj)))
  KB.t (KB.b (by omega) (by omega)) (Below.refl _ _) (fun _=>rfl)
  (fun pre W=>((∃ v,Boxed W (s1+1) 23 v/\W.ownsRow s1 24 1 v pre.length (z06 (ST (HTS pre)).2)/\v=.slice (some ⟨s1,0,none⟩) pre.length p)/\Boxed W (s1+1+1) 24 (.int .u64 ((ST (HTS pre)).1:Int))/\Boxed W (s1+1+1+1) 150 (.slice (some ⟨g,0,none⟩) p cap))/\Below w.heap.size w W)
  (fun _ _ _=>False)
  (OwnFrom.and (OwnFrom.and (Own.from (holdsRow_own s1 (s1+1) 23 24 1 (fun pre=>pre.length) (fun pre=>z06 (ST (HTS pre)).2) (fun pre v=>v=.slice (some ⟨s1,0,none⟩) pre.length p)) _) (OwnFrom.and (Own.from (boxed_own _ _ _) _) (Own.from (boxed_own _ _ _) _))) (ownFrom_below (Nat.le_refl _) (by have:=hb.size;omega)))
  (fun _ _ _ _ _ hs _ _=>hs)
  ⟨⟨⟨_,bO,hr0,rfl⟩,bM,bN⟩,hbw⟩
  (fun x=>{tmps:=#[.int .u64 (X:Int),undef,.slice none 0 0,.slice (some ⟨g,0,none⟩) p cap,.pointer (some ⟨s1+1,0,none⟩),.pointer (some ⟨s1+1+1,0,none⟩),undef,.int .i64 (x.2.val:Int),.int .u64 (X:Int),.bool false,.int .u64 (X:Int),.slice (some ⟨g,0,none⟩) p cap,.slice (some ⟨g,0,none⟩) p cap,.int .i64 (p:Int),.slice (some ⟨s1,0,none⟩) 0 p,.slice (some ⟨g,0,none⟩) p cap,.func (.func 130) #[] #[.pointer (some ⟨s1+1+1+1,0,none⟩)],.int .i64 (x.1:Int),.int .i64 (x.2.val:Int),undef,undef,undef,undef,undef,undef,undef,undef,undef,undef],defers:=[]}) ?assign ?body ?done ?stop
 case assign=>
  intro l x W K hK;gi_wp2
  exact hK
 case body=>
  rintro l pre x W ⟨⟨⟨v,bO,hrow,rfl⟩,bM,bN⟩,hB⟩ hlt;have hsn:=z70 (HTS pre) x.2.val;have hml:=zhP (HTS pre);have hsl:=zdl (HTS pre);rw [show (HTS pre).length=pre.length by simp [HTS]] at hsl;obtain ⟨m,hm⟩:∃ m,(ST (HTS pre)).1=m:=⟨_,rfl⟩
  obtain ⟨ls,hls⟩:∃ ls,(ST (HTS pre)).2=ls:=⟨_,rfl⟩
  have ct:=fun w=>z2X x.2.val (by omega) w;obtain ⟨t,ht⟩:∃ t,TREE x.2.val=t:=⟨_,rfl⟩
  rw [hm,hls,ht] at hsn;rw [hm] at hml bM;rw [hls] at hsl hrow;rw [ht] at ct;obtain ⟨m2,hm2⟩:∃ m2,(m+t) % 2 ^ 64=m2:=⟨_,rfl⟩
  obtain ⟨q,hq⟩:∃ q,(m2+(2 ^ 64 - 1)) % 2 ^ 64=q:=⟨_,rfl⟩
  rw [hm2,hq] at hsn;have e1:IntKind.u64.wrap ((m:Int)+(t:Int))=(m2:Int):=by rw [z0b];omega
  have e2:IntKind.u64.wrap ((m2:Int) - 1)=(q:Int):=by rw [z0b];omega
  have R:Aside (ST (HTS (pre ++ [x]))=(m2,ls ++ [q])/\ls.length=pre.length/\pre.length<p):=⟨by rw [zf0];exact hsn,hsl,hlt⟩
  clear hsn hml hsl hlt hm hls ht hm2 hq;have hc4:=bO.cell;have hc5:=bM.cell;have hf5:=bM.frozen;have hmx:Tryz.prog.follows .mixedOrders=true:=by kernel_rfl
  clear hplc hf hcg hz0 hz2;have hsW:s1+4<=W.heap.size:=by have:=bN.lt;omega
  obtain ⟨W5,hW5⟩:∃ W5,(W.setCell ⟨s1+1+1,0,none⟩ (.int .u64 (m2:Int))).drew=W5:=⟨_,rfl⟩
  have bO5:Boxed W5 (s1+1) 23 (.slice (some ⟨s1,0,none⟩) pre.length p):=by rw [<-hW5];exact bO.other (by omega) _
  have bM5:Boxed W5 (s1+1+1) 24 (.int .u64 (m2:Int)):=by rw [<-hW5];exact bM.set _
  have bN5:Boxed W5 (s1+1+1+1) 150 (.slice (some ⟨g,0,none⟩) p cap):=by rw [<-hW5];exact bN.other (by omega) _
  have hrow5:W5.ownsRow s1 24 1 (.slice (some ⟨s1,0,none⟩) pre.length p) pre.length (z06 ls):=by rw [<-hW5];exact (hrow.kept (grownBy_setCell' W (s1+1+1) (.int .u64 (m2:Int))) (.inr (by simp [Value.ownBlock];omega))).drew
  have hk5:KeepsOthers W W5:=by rw [<-hW5];exact (KeepsOthers.setCell _ _ _).trans (KeepsOthers.drew _)
  have hb5:Below s1 W W5:=by rw [<-hW5];exact ((Below.refl s1 W).setCell (p:=⟨s1+1+1,0,none⟩) (by show s1<=s1+1+1;omega) _).drew
  have hs5:s1+4<=W5.heap.size:=by have:=bN5.lt;omega
  have hcN:W.cell? ⟨s1+1+1+1,0,none⟩=some (.slice (some ⟨g,0,none⟩) p cap):=bN.cell;gi_wp2
  gi_region_with_o (refine ⟨trivial,?_⟩;gi_at_call 93;refine (CallsIn.inRound l (callsIn_wide.2 (ct _))).mono ?_;rintro e w' ⟨rfl,rfl⟩)
  all_goals clear hc4 hc5 hf5 bO bM bN hrow ct
  all_goals have hc4:=bO5.cell
  all_goals have hc5:=bM5.cell
  all_goals gi_wp2_with (gi_at_builtin;refine wpListIn_append_fits _ rfl _ _ 23 rfl s1 24 i0 1 Tryz.underlying23 hi hz1 s1 pre.length p (z06 ls) rfl (hrow5.alloc _) ⟨W5.heap.size,0,none⟩ 1 1 [.int .u64 (q:Int)] rfl rfl (cell_one_new _ _ _) (by simp [Value.oneCell']) (by have:=R.out.2.2;omega) ?_;intro w1' hown' hgrow;obtain ⟨hv1,hv2,hr2,hk2,hb2⟩:=bO5.appended (by decide) hrow5 (by omega) (by omega) hown' hgrow;have hc1:=hv1.cell;have hf1:=hv1.frozen)
  all_goals have bN6:=((bN5.alloc (.cells #[.int .u64 (q:Int)] 24)).kept hgrow (by simp;omega)).other (B':=s1+1) (by omega) (.slice (some ⟨s1,0,none⟩) (pre.length+1) p)
  all_goals have bM6:=((bM5.alloc (.cells #[.int .u64 (q:Int)] 24)).kept hgrow (by simp;omega)).other (B':=s1+1) (by omega) (.slice (some ⟨s1,0,none⟩) (pre.length+1) p)
  all_goals obtain ⟨r1,r2,r3⟩:=R.out
  all_goals refine ⟨(hk5.trans hk2).from _,⟨hb5.trans hb2,bN6.cell.trans hcN.symm⟩,⟨⟨_,hv2,?_,by simp⟩,?_,bN6⟩,hB.trans ((hb5.trans hb2).mono (by have:=hb.size;omega))⟩
  all_goals rw [r1]
  all_goals first | exact bM6 | (rw [z1E,List.length_append];exact hr2)
 case done=>
  rintro D ys W hD hys ⟨⟨⟨v,bO,hrow,rfl⟩,bM,bN⟩,hB⟩ hK;have hc:=bO.cell;gi_wp2
  refine ⟨by simp,.inl ⟨_,_,rfl,run_takeDeferred hK,?_⟩⟩;have hys':ys=UPTO (BACK p f) p:=hys;subst hys';obtain ⟨a1,a2,a3⟩:=HA.out;have hl:(UPTO (BACK p f) p).length=p:=z5n _ _;rw [hl,a1,<-zgc,zhe a3] at hrow;refine ⟨_,results_tmp rfl _ _ _,s1,p,?_,?_,hB.trans (belowK_b (w:=w) (Nat.le_refl _) W D _ _ (by have:=hb.size;omega) hK rfl rfl)⟩
  ·rw [<-a2,hl]
   rfl
  ·rw [<-a2]
   exact ownsRow_putObj (z0P hrow (by have:=hb.size;omega)) _ hK rfl
 case stop=>
  rintro D c pre W _ _ h _;exact h.elim
end Go.Proofs.YthmnailmbgondaaGreatDoor

