/- ProofMakes: part 19. -/
import Derived.Test.YthmnailmbgondaaGreatDoorProofMakesP18
set_option maxHeartbeats 1000000
namespace Go.Proofs.YthmnailmbgondaaGreatDoor
def UP (h n:Nat):List Nat:=PL (64 - h) h (n / 2 ^ h)
theorem zay {h n:Nat} (hh:h<64):UP h n=if n / 2 ^ h % 2=1 then h :: UP (h+1) n else UP (h+1) n:=by
 unfold UP;rw [show 64 - h=(64 - (h+1))+1 by omega,PL,Nat.div_div_eq_div_mul,<-Nat.pow_succ]
theorem zgb (n:Nat):UP 0 n=z0x n:=by
 unfold UP z0x;simp
theorem zhd {h n:Nat} (hn:n<2 ^ h):UP h n=[]:=by
 unfold UP;rw [Nat.div_eq_of_lt hn,z6Z]
def HS (h n:Nat):List Nat:=(UP h n).reverse
theorem z2B {h n:Nat} (hh:h<64) (hb:n / 2 ^ h % 2=1):HS h n=HS (h+1) n ++ [h]:=by
 unfold HS;rw [zay hh,if_pos hb,List.reverse_cons]
theorem z2u {h n:Nat} (hh:h<64) (hb:¬ n / 2 ^ h % 2=1):HS h n=HS (h+1) n:=by
 unfold HS;rw [zay hh,if_neg hb]
theorem z8y {h n:Nat} (hn:n<2 ^ h):HS h n=[]:=by
 unfold HS;rw [zhd hn];rfl
theorem zgc (n:Nat):HS 0 n=(z0x n).reverse:=by
 unfold HS;rw [zgb]
theorem z2C {n:Nat} (hn:n<2 ^ 64):∀ h,h<=64->(HS h n).length=PC (n / 2 ^ h):=by
 have key:∀ d h,h+d=64->(HS h n).length=PC (n / 2 ^ h):=by
  intro d;induction d with
  | zero=>
    intro h e;obtain rfl:h=64:=by omega
    rw [z8y hn,Nat.div_eq_of_lt hn,z1a];rfl
  | succ d ih=>
    intro h e;have ih:=ih (h+1) (by omega);rw [z0E,Nat.div_div_eq_div_mul,<-Nat.pow_succ,<-ih];by_cases hb:n / 2 ^ h % 2=1
    ·rw [z2B (by omega) hb,List.length_append,List.length_singleton]
     omega
    ·rw [z2u (by omega) hb]
     omega
 intro h hh;exact key (64 - h) h (by omega)
theorem zeI {n h:Nat}:h<=64->∃ t,HS 0 n=HS h n ++ t:=by
 induction h with
 | zero=>exact fun _=>⟨[],by simp⟩
 | succ h ih=>
   intro hh;obtain ⟨t,ht⟩:=ih (by omega);by_cases hb:n / 2 ^ h % 2=1
   ·exact ⟨h :: t,by rw [ht,z2B (by omega) hb];simp⟩
   ·exact ⟨t,by rw [ht,z2u (by omega) hb]⟩
theorem z7u {n:Nat}:∀ h x,h<=64->x∈HS h n->h<=x/\x<64/\n / 2 ^ x % 2=1:=by
 have key:∀ d h,h+d=64->∀ x,x∈HS h n->h<=x/\x<64/\n / 2 ^ x % 2=1:=by
  intro d;induction d with
  | zero=>
    intro h e x hx;obtain rfl:h=64:=by omega
    simp [HS,UP,PL] at hx
  | succ d ih=>
    intro h e x hx;by_cases hb:n / 2 ^ h % 2=1
    ·rw [z2B (by omega) hb,List.mem_append,List.mem_singleton] at hx
     rcases hx with hx | rfl
     ·have:=ih (h+1) (by omega) x hx
      exact ⟨by omega,this.2⟩
     ·exact ⟨Nat.le_refl _,by omega,hb⟩
    ·rw [z2u (by omega) hb] at hx
     have:=ih (h+1) (by omega) x hx;exact ⟨by omega,this.2⟩
 intro h x hh;exact key (64 - h) h (by omega) x
def PKP (n h:Nat):Nat:=PLC h (2*(n / 2 ^ (h+1)))
def z0T (n:Nat):List Nat:=(HS 0 n).map (PKP n)
theorem z1P {n:Nat} (hn:n<2 ^ 64):(z0T n).length=PC n:=by
 unfold z0T;rw [List.length_map,z2C hn 0 (by omega)];simp
theorem z0r (n h:Nat):n / 2 ^ (h+1)=n / 2 ^ h / 2:=by rw [Nat.div_div_eq_div_mul,<-Nat.pow_succ]
theorem z47 (m h:Nat):z01 ((2*m+1)*2 ^ h)=z01 (2*m*2 ^ h)+TREE h:=by
 have h1:=z0C ((2*m+1)*2 ^ h);have h2:=z0C (2*m*2 ^ h);rw [z2r,z3G,Nat.add_mul,Nat.one_mul] at h1;rw [z2r,z54] at h2;have h3:=z1N h;rw [Nat.pow_succ] at h3;rw [Nat.add_mul,Nat.one_mul];unfold TREE;rw [Nat.pow_succ];omega
theorem z4L {n h:Nat} (hb:n / 2 ^ h % 2=1):n / 2 ^ h=2*(n / 2 ^ (h+1))+1:=by
 rw [z0r];omega
theorem z8z {n h:Nat} (hb:¬ n / 2 ^ h % 2=1):n / 2 ^ h=2*(n / 2 ^ (h+1)):=by
 rw [z0r];omega
theorem z17 (m h:Nat):2*m*2 ^ h=m*2 ^ (h+1):=by
 rw [Nat.pow_succ,Nat.mul_comm 2 m,Nat.mul_assoc,Nat.mul_comm 2]
def ST (l:List Nat):Nat × List Nat:=l.foldl (fun s h=>((s.1+TREE h) % 2 ^ 64,s.2 ++ [((s.1+TREE h) % 2 ^ 64+(2 ^ 64 - 1)) % 2 ^ 64])) (0,[])
theorem z70 (l:List Nat) (h:Nat):ST (l ++ [h])=(((ST l).1+TREE h) % 2 ^ 64,(ST l).2 ++ [(((ST l).1+TREE h) % 2 ^ 64+(2 ^ 64 - 1)) % 2 ^ 64]):=by
 unfold ST;rw [List.foldl_append];rfl
theorem z4M {n:Nat} (hn:n<=4611686018427387904):z01 n<=9223372036854775807:=by
 rw [<-zbq];exact z42 hn
theorem zhO {n:Nat} (hn:n<=4611686018427387904):∀ h,h<=64->ST (HS h n)=(z01 (n / 2 ^ h*2 ^ h),(HS h n).map (PKP n)):=by
 have key:∀ d h,h+d=64->ST (HS h n)=(z01 (n / 2 ^ h*2 ^ h),(HS h n).map (PKP n)):=by
  intro d;induction d with
  | zero=>
    intro h e;obtain rfl:h=64:=by omega
    rw [z8y (by omega),Nat.div_eq_of_lt (by omega),Nat.zero_mul,z2h];rfl
  | succ d ih=>
    intro h e;have ih:=ih (h+1) (by omega);by_cases hb:n / 2 ^ h % 2=1
    ·have e1:=z4L hb
     have h2:z01 (n / 2 ^ h*2 ^ h)=z01 (n / 2 ^ (h+1)*2 ^ (h+1))+TREE h:=by
      rw [e1,z47,z17]
     have h3:z01 (n / 2 ^ h*2 ^ h)<=9223372036854775807:=z4M (Nat.le_trans (Nat.div_mul_le_self _ _) hn);have h4:=z1N h
     have hs:(z01 (n / 2 ^ (h+1)*2 ^ (h+1))+TREE h) % 2 ^ 64=z01 (n / 2 ^ h*2 ^ h):=by
      rw [<-h2];omega
     have hp:(z01 (n / 2 ^ h*2 ^ h)+(2 ^ 64 - 1)) % 2 ^ 64=PKP n h:=by
      unfold PKP PLC;rw [z17];unfold TREE at h2;omega
     rw [z2B (by omega) hb,z70,ih];dsimp only;rw [hs,hp,List.map_append];rfl
    ·rw [z2u (by omega) hb,ih,z8z hb,z17]
 intro h hh;exact key (64 - h) h (by omega)
theorem zhe {n:Nat} (hn:n<=4611686018427387904):ST (HS 0 n)=(z01 n,z0T n):=by
 have:=zhO hn 0 (by omega);unfold z0T;simpa using this
theorem z5l {a b:Nat} (h:a ^^^ b=0):a=b:=by
 have:a ^^^ (a ^^^ b)=a ^^^ 0:=by rw [h]
 rw [<-Nat.xor_assoc,Nat.xor_self,Nat.zero_xor,Nat.xor_zero] at this;exact this.symm
def RISE (i n:Nat):Nat:=LEN (i ^^^ n) - 1
theorem z0R {i n:Nat} (hi:i<n) (hn:n<=4611686018427387904):1<=LEN (i ^^^ n)/\RISE i n<=62/\n / 2 ^ RISE i n % 2=1/\i / 2 ^ (RISE i n+1)=n / 2 ^ (RISE i n+1)/\i / 2 ^ RISE i n=2*(n / 2 ^ (RISE i n+1)):=by
 have hX:i ^^^ n<2 ^ 63:=Nat.xor_lt_two_pow (by omega) (by omega)
 have h0:i ^^^ n≠0:=by
  intro h;have:i=n:=z5l h;omega
 obtain ⟨h1,h2,h3⟩:=z5F (i ^^^ n) (by omega) h0;have hR:LEN (i ^^^ n)=RISE i n+1:=by unfold RISE;omega
 rw [hR] at h3;rw [show LEN (i ^^^ n) - 1=RISE i n from rfl] at h2;generalize RISE i n=H at *
 have hH:H<=62:=by
  rcases Nat.lt_or_ge 62 H with h | h
  ·have:2 ^ 63<=2 ^ H:=Nat.pow_le_pow_right (by decide) h
   omega
  ·exact h
 have e1:i / 2 ^ (H+1)=n / 2 ^ (H+1):=by
  have:(i ^^^ n) / 2 ^ (H+1)=0:=Nat.div_eq_of_lt h3;rw [<-Nat.shiftRight_eq_div_pow,Nat.shiftRight_xor_distrib,Nat.shiftRight_eq_div_pow,Nat.shiftRight_eq_div_pow] at this;exact z5l this
 have e2:i / 2 ^ H ^^^ n / 2 ^ H=1:=by
  have:(i ^^^ n) / 2 ^ H=1:=by
   rw [Nat.pow_succ] at h3;apply Nat.div_eq_of_lt_le
   ·omega
   ·omega
  rw [<-Nat.shiftRight_eq_div_pow,Nat.shiftRight_xor_distrib,Nat.shiftRight_eq_div_pow,Nat.shiftRight_eq_div_pow] at this;exact this
 have e3:i / 2 ^ H<=n / 2 ^ H:=Nat.div_le_div_right (Nat.le_of_lt hi)
 have e4:i / 2 ^ H≠n / 2 ^ H:=by
  intro h;rw [h,Nat.xor_self] at e2;omega
 rw [z0r,z0r] at e1;refine ⟨by omega,hH,?_,?_,?_⟩
 ·omega
 ·rw [z0r,z0r]
  exact e1
 ·rw [z0r]
  omega
def KTH (i n:Nat):Nat:=PC (n / 2 ^ (RISE i n+1))
theorem z8A {i n:Nat} (hi:i<n) (hn:n<=4611686018427387904):(HS 0 n)[KTH i n]?=some (RISE i n):=by
 obtain ⟨_,h1,h2,_,_⟩:=z0R hi hn;obtain ⟨t,ht⟩:=zeI (n:=n) (h:=RISE i n) (by omega);have hl:=z2C (n:=n) (by omega) (RISE i n+1) (by omega);rw [ht,z2B (by omega) h2,List.append_assoc];unfold KTH;rw [<-hl,List.getElem?_append_right (Nat.le_refl _)];simp
theorem z3b {i n:Nat} (hi:i<n) (hn:n<=4611686018427387904):KTH i n<PC n:=by
 have h:=z8A hi hn;have hl:=z2C (n:=n) (by omega) 0 (by omega);rw [Nat.pow_zero,Nat.div_one] at hl;rw [<-hl];exact (List.getElem?_eq_some_iff.1 h).1
def SIB (k:Nat):Nat:=if k % 2=1 then k - 1 else k+1
def WAY (i H:Nat):List Nat:=(List.range H).map fun h=>PLC h (SIB (i / 2 ^ h))
theorem z8B (i H:Nat):WAY i (H+1)=WAY i H ++ [PLC H (SIB (i / 2 ^ H))]:=by simp [WAY,List.range_succ]
theorem z6g (i H:Nat):(WAY i H).length=H:=by simp [WAY]
theorem Node.up {h k:Nat} (a:Node h k) (hh:h<62):Node (h+1) (k / 2):=by
 refine ⟨hh,?_⟩;have:=a.2;rw [show 62 - h=(62 - (h+1))+1 by omega,Nat.pow_succ] at this;omega
theorem Node.sib {h k:Nat} (a:Node h k) (hh:h<62):Node h (SIB k):=by
 refine ⟨a.1,?_⟩;have h1:=a.2;rw [show 62 - h=(62 - (h+1))+1 by omega,Nat.pow_succ] at h1 ⊢;unfold SIB;split <;> omega
theorem Node.leaf {i:Nat} (hi:i<4611686018427387904):Node 0 i:=⟨by omega,by simpa using hi⟩
theorem Node.over {i:Nat} (hi:i<4611686018427387904):∀ h,h<=62->Node h (i / 2 ^ h):=by
 intro h;induction h with
 | zero=>
   intro _;simpa using Node.leaf hi
 | succ h ih=>
   intro hh;have:=(ih (by omega)).up (by omega);rw [z0r];exact this
theorem Node.peak {n h:Nat} (hn:n<=4611686018427387904) (hb:n / 2 ^ h % 2=1):Node h (2*(n / 2 ^ (h+1))):=by
 have h62:h<=62:=by
  rcases Nat.lt_or_ge 62 h with h1 | h1
  ·have:2 ^ 63<=2 ^ h:=Nat.pow_le_pow_right (by decide) h1
   rw [Nat.div_eq_of_lt (by omega)] at hb;omega
  ·exact h1
 refine ⟨h62,?_⟩
 have h1:n / 2 ^ h<=2 ^ (62 - h):=by
  have:n / 2 ^ h<=2 ^ 62 / 2 ^ h:=Nat.div_le_div_right (by simpa using hn);rw [Nat.pow_div h62 (by decide)] at this;exact this
 rw [z4L hb] at h1;omega
end Go.Proofs.YthmnailmbgondaaGreatDoor
namespace Go.Proofs.YthmnailmbgondaaGreatDoor
open Go.RowKit
abbrev SPOT (h k:Nat):Value:=.agg #[.int .u8 (h:Int),.int .u64 (k:Int)]
theorem z71 (X:Nat) (hX:X<2 ^ 64) (w:World):Calls Tryz.prog 92 #[.int .u64 (X:Int)] w fun e w'=>e=.returned (.int .i64 ((LEN X:Nat) - 1:Int))/\w=w':=by
 have hl:LEN X<=64:=by
  unfold LEN;have:=z2y (X / 72057594037927936);have:=z2y (X / 281474976710656);have:=z2y (X / 1099511627776);have:=z2y (X / 4294967296);have:=z2y (X / 16777216);have:=z2y (X / 65536);have:=z2y (X / 256);have:=z2y X;repeat' split
  all_goals omega
 exact zeD X _ w (fun w=>zhc X hX w) (by omega) (by omega)
theorem zeJ (p:Int) (hp:9223372036854775807<=p) (w:World):Calls Tryz.prog 62 #[.int .u64 p] w fun e w'=>e=.returned (.tuple #[SPOT 0 0,.bool false])/\Below w.heap.size w w':=by
 go_enter Tryz.func62,Tryz.ntmps62;go_wp2;refine bodyPost_ret (v:=.tuple #[SPOT 0 0,.bool false]) ?_ rfl ⟨rfl,(Below.refl _ _).alloc (Nat.le_refl _) _⟩;simp [results,Tryz.f62,go_sem]
theorem zhf {m H:Nat} (hH:1<=H):m*2 ^ H ||| 2 ^ (H - 1)=(2*m+1)*2 ^ (H - 1):=by
 have h1:2 ^ (H - 1)<2 ^ H:=Nat.pow_lt_pow_right (by decide) (by omega);have h2:=Nat.shiftLeft_add_eq_or_of_lt h1 m;rw [Nat.shiftLeft_eq] at h2;rw [<-h2,Nat.add_mul,Nat.one_mul];congr 1
 obtain ⟨j,rfl⟩:∃ j,H=j+1:=⟨H - 1,by omega⟩
 rw [Nat.add_sub_cancel,Nat.pow_succ,Nat.mul_comm 2 m,Nat.mul_assoc,Nat.mul_comm 2]
theorem zgd (h k:Nat) (hN:Node h k) (w:World):Calls Tryz.prog 62 #[.int .u64 ((PLC h k:Nat):Int)] w fun e w'=>e=.returned (.tuple #[SPOT h k,.bool true])/\Below w.heap.size w w':=by
 have hp:=hN.lt;obtain ⟨p,hpe⟩:∃ p,p=PLC h k:=⟨_,rfl⟩
 rw [<-hpe] at hp ⊢;have HN:Aside (Node h k/\p=PLC h k/\p<9223372036854775807):=⟨hN,hpe,hp⟩
 have hd:decide ((9223372036854775807:Int)<=(p:Int))=false:=by simp;omega
 have e1:IntKind.u64.wrap ((p:Int)+1)=(p:Int)+1:=by rw [z0b];omega
 have c1:=z71 (p+1) (by omega);obtain ⟨h1,h2,h3⟩:=z5F (p+1) (by omega) (by omega);obtain ⟨H,hH⟩:∃ H,LEN (p+1)=H+1:=⟨LEN (p+1) - 1,by omega⟩
 rw [hH] at h2 h3 c1;rw [show (((H+1:Nat):Int) - 1)=(H:Int) by omega,show ((p+1:Nat):Int)=(p:Int)+1 by omega] at c1
 have HH:Aside (H<=62/\p+2<=2 ^ (H+1)):=by
  refine ⟨?_,by omega⟩;rcases Nat.lt_or_ge 62 H with h | h
  ·have:2 ^ 63<=2 ^ H:=Nat.pow_le_pow_right (by decide) h
   simp at h2;omega
  ·exact h
 clear hN hpe hp h1 h2 h3 hH;go_enter Tryz.func62,Tryz.ntmps62;go_wp2_with fail
 refine (c1 _).mono ?_;rintro e w' ⟨rfl,rfl⟩;clear c1;go_wp2;go_loopg [0,4,5] H (fun g s0 s4 s5 wx=>∃ q L:Nat,s0=.int .u64 (q:Int)/\s4=.int .i64 (g:Int)/\s5=.int .u64 (L:Int)/\Aside (wx=w.alloc (.cells #[.int .u8 0,.int .u64 0] 101)/\g<=62/\q+2<=2 ^ (g+1)/\∃ m,L=m*2 ^ g/\Node g m/\p=z01 L+q))
 case atStart=>exact ⟨p,0,rfl,rfl,rfl,rfl,HH.out.1,HH.out.2,0,by simp,⟨HH.out.1,Nat.two_pow_pos _⟩,by rw [z2h];omega⟩
 case round=>
  obtain ⟨q,L,rfl,rfl,rfl,A⟩:=hrel;obtain ⟨hw,hg,hq,m,hL,hNm,hpL⟩:=A.out;clear A
  have e2:IntKind.u64.wrap ((q:Int)+1)=(q:Int)+1:=by
   have:2 ^ (gk+1)<=2 ^ 63:=Nat.pow_le_pow_right (by decide) (by omega);rw [z0b];omega
  have c1:=z2X gk (by omega);by_cases hT:q+1=TREE gk
  ·have hmk:h=gk/\k=m:=by
    refine HN.out.1.one hNm ?_;rw [<-HN.out.2.1,hpL,hL];unfold PLC;unfold TREE at hT;have:=z1N gk;omega
   obtain ⟨rfl,rfl⟩:=hmk
   have hLk:(L:Int) / 2 ^ h=(k:Int):=by
    rw [hL,z21,Nat.mul_div_cancel _ (Nat.two_pow_pos h)]
   rw [<-hT,show ((q+1:Nat):Int)=(q:Int)+1 by omega] at c1;have R:Aside (L=k*2 ^ h/\h<=62/\(L:Int) / 2 ^ h=(k:Int)):=⟨hL,hg,hLk⟩
   clear hg hq hL hNm hpL HN HH hT hLk;subst hw;go_wp2_with fail
   refine (c1 _).mono ?_;rintro e w' ⟨rfl,rfl⟩;clear c1;go_wp2;obtain ⟨hL,hg,hLk⟩:=R.out;rw [show (h:Int) % 256=(h:Int) by omega,show min h 64=h by omega,hLk];refine bodyPost_ret (v:=.tuple #[SPOT h k,.bool true]) ?_ rfl ⟨rfl,(Below.refl _ _).alloc (Nat.le_refl _) _⟩;simp [results,Tryz.f62,go_sem]
  ·have h1 : 1<=gk:=by
    rcases Nat.eq_zero_or_pos gk with h0 | h0
    ·subst h0
     simp at hq;unfold TREE at hT;simp at hT;omega
    ·exact h0
   obtain ⟨g,rfl⟩:∃ g,gk=g+1:=⟨gk - 1,by omega⟩
   have c2:=z2X g (by omega);have hb:((q:Int)+1 == ((TREE (g+1):Nat):Int))=false:=by simp;omega
   generalize hT1:TREE (g+1)=t1 at *
   have e3:wrap64 (g:Int)=(g:Int):=by unfold wrap64;omega
   rw [show (((g+1:Nat):Int))=(g:Int)+1 by omega] at c1 ⊢;have R:Aside (wr=w.alloc (.cells #[.int .u8 0,.int .u64 0] 101)/\g+1<=62/\q+2<=2 ^ (g+1+1)/\L=m*2 ^ (g+1)/\Node (g+1) m/\p=z01 L+q/\q+1≠t1/\TREE (g+1)=t1):=⟨hw,hg,hq,hL,hNm,hpL,hT,hT1⟩
   clear hw hg hq hL hNm hpL hT hT1 h1 HN HH;by_cases hlt:TREE g<=q
   ·have hd2:decide (((TREE g:Nat):Int)<=(q:Int))=true:=by simp;omega
    obtain ⟨t2,ht2⟩:∃ t2,TREE g=t2:=⟨_,rfl⟩
    rw [ht2] at c2 hd2;have hd3:(t2:Int)<=(q:Int):=by simpa using hd2
    have R2:Aside (TREE g=t2/\t2<=q):=⟨ht2,by omega⟩
    clear hlt ht2 hd2;go_wp2_with fail
    refine (c1 _).mono ?_;rintro e w' ⟨rfl,rfl⟩;clear c1;go_wp2_with fail
    refine (c2 _).mono ?_;rintro e w' ⟨rfl,rfl⟩;clear c2;go_wp2;go_roundg g
    case measure=>omega
    case rel=>
     obtain ⟨r1,r2,r3,r4,r5,r6,r7,r8⟩:=R.out;obtain ⟨s1,s2⟩:=R2.out;have hpw:=z1N g;have hpp:2 ^ (g+1+1)=2*2 ^ (g+1):=by rw [Nat.pow_succ 2 (g+1),Nat.mul_comm]
     have hp63:2 ^ (g+1+1)<=2 ^ 63:=Nat.pow_le_pow_right (by decide) (by omega);have hg64:2 ^ g<2 ^ 64:=Nat.pow_lt_pow_right (by decide) (by omega)
     have hL64:L<2 ^ 64:=by
      have:=r5.span;rw [Nat.add_mul,<-r4] at this;omega
     have ea:IntKind.u64.wrap ((q:Int) - t2)=((q - t2:Nat):Int):=by rw [z0b];omega
     have eb:bits .or .u64 (L:Int) (IntKind.u64.wrap (2 ^ min g 64))=(((2*m+1)*2 ^ g:Nat):Int):=by
      have e5:IntKind.u64.wrap (2 ^ min g 64)=((2 ^ g:Nat):Int):=by
              rw [z0b,show min g 64=g by omega,Int.natCast_pow];have:((2 ^ g:Nat):Int)=(2:Int) ^ g:=by simp
              have h7:((2:Nat):Int)=2:=rfl;rw [h7,<-this];omega
      rw [e5,z5W hL64 hg64,r4];exact congrArg (fun x:Nat=>(x:Int)) (zhf (m:=m) (H:=g+1) (by omega))
     unfold TREE at s1 r8;rw [ea,eb,e3];refine ⟨q - t2,(2*m+1)*2 ^ g,rfl,rfl,rfl,r1,by omega,by omega,2*m+1,rfl,⟨by omega,?_⟩,?_⟩
     ·have:=r5.2
      rw [show 62 - g=62 - (g+1)+1 by omega,Nat.pow_succ];omega
     ·have e6:=z47 m g
      rw [z17,<-r4] at e6;rw [e6,r6];unfold TREE;omega
   ·have hd3:¬ ((TREE g:Nat):Int)<=(q:Int):=by omega
    obtain ⟨t2,ht2⟩:∃ t2,TREE g=t2:=⟨_,rfl⟩
    rw [ht2] at c2 hd3;have R2:Aside (TREE g=t2/\q<t2):=⟨ht2,by omega⟩
    clear hlt ht2;go_wp2_with fail
    refine (c1 _).mono ?_;rintro e w' ⟨rfl,rfl⟩;clear c1;go_wp2_with fail
    refine (c2 _).mono ?_;rintro e w' ⟨rfl,rfl⟩;clear c2;go_wp2;go_roundg g
    case measure=>omega
    case rel=>
     obtain ⟨r1,r2,r3,r4,r5,r6,r7,r8⟩:=R.out;obtain ⟨s1,s2⟩:=R2.out;have hpw:=z1N g;unfold TREE at s1;rw [e3];refine ⟨q,L,rfl,rfl,rfl,r1,by omega,by omega,2*m,by rw [z17,<-r4],⟨by omega,?_⟩,r6⟩;have:=r5.2;rw [show 62 - g=62 - (g+1)+1 by omega,Nat.pow_succ];omega
def SpotAt (p:Int) (h k:Nat) (ok:Bool):Prop:=∀ w,Calls Tryz.prog 62 #[.int .u64 p] w fun e w'=>e=.returned (.tuple #[SPOT h k,.bool ok])/\Below w.heap.size w w'
theorem SpotAt.node {h k:Nat} (hN:Node h k):SpotAt ((PLC h k:Nat):Int) h k true:=fun w=>zgd h k hN w
theorem SpotAt.out {p:Int} (hp:9223372036854775807<=p):SpotAt p 0 0 false:=fun w=>zeJ p hp w
theorem z9E (p:Int) (h k:Nat) (b:Bool) (r:Int) (w:World) (hh:((h:Int) == 62)=false) (hm:wrap64 (h:Int)=(h:Int)) (ha:(bits .and .u64 (k:Int) 1 == 1)=b) (cs:SpotAt p h k true)
  (co:∀ w,Calls Tryz.prog 98 #[.int .u64 p,.int .i64 (h:Int),.bool b] w fun e w'=>e=.returned (.int .u64 r)/\w=w'):
  Calls Tryz.prog 65 #[.int .u64 p] w fun e w'=>e=.returned (.tuple #[.int .u64 r,.bool true])/\Below w.heap.size w w':=by
 have cs:=cs w;go_enter Tryz.func65,Tryz.ntmps65;go_wp2_with fail
 refine cs.mono ?_;rintro e w1 ⟨rfl,hb⟩;clear cs;have R:Aside (Below w.heap.size w w1):=hb;clear hb;go_wp2_with fail
 refine (co _).mono ?_;rintro e w2 ⟨rfl,rfl⟩;clear co;go_wp2;go_ret2;exact ⟨rfl,R.out.alloc R.out.size _⟩
theorem z4w (p:Int) (h k:Nat) (b:Bool) (w:World) (ha:(bits .and .u64 (k:Int) 1 == 1)=b) (cs:SpotAt p h k true):
  Calls Tryz.prog 32 #[.int .u64 p] w fun e w'=>e=.returned (.bool b)/\Below w.heap.size w w':=by
 have cs:=cs w;go_enter Tryz.func32,Tryz.ntmps32;go_wp2_with fail
 refine cs.mono ?_;rintro e w1 ⟨rfl,hb⟩;clear cs;have R:Aside (Below w.heap.size w w1):=hb;clear hb;go_wp2;go_ret;exact ⟨rfl,R.out.alloc R.out.size _⟩
theorem z0z {P:Program} {f:FuncId} {args:Array Value} {w:World} {n:Nat} {v:Value}
  (h:Calls P f args (w.drewN n) fun e w'=>e=.returned v/\w.drewN n=w'):Calls P f args (w.drewN n) fun e w''=>e=.returned v/\∃ m,w''=w.drewN m:=
 h.mono fun _ _ ⟨he,hm⟩=>⟨he,n,hm.symm⟩
theorem zd8 (h k:Nat) (t m l a r:Int) (w:World) (hh:h<=62) (hm:wrap64 (h:Int)=(h:Int)) (hm2:IntKind.u64.wrap (h:Int)=(h:Int)) (ht:wrap64 (62 - (h:Int))=t) (hk:decide (m<(k:Int))=false) (cm:∀ w,Calls Tryz.prog 111 #[.int .i64 t] w fun e w'=>e=.returned (.int .u64 m)/\w=w')
  (e0:IntKind.u64.wrap ((k:Int)+1)=(k:Int)+1) (e1:IntKind.u64.wrap (IntKind.u64.wrap (((k:Int)+1)*2 ^ min h 64) - 1)=l) (ca:∀ w,Calls Tryz.prog 60 #[.int .u64 l] w fun e w'=>e=.returned (.int .u64 a)/\w=w') (e2:IntKind.u64.wrap (a+(h:Int))=r):
  Calls Tryz.prog 77 #[SPOT h k] w fun e w'=>e=.returned (.tuple #[.int .u64 r,.bool true])/\Below w.heap.size w w':=by
 have hd:decide ((62:Int)<(h:Int))=false:=by simp;omega
 go_enter Tryz.func77,Tryz.ntmps77;go_wp2;have hc0:(w.alloc (.cells #[.int .u8 (h:Int),.int .u64 (k:Int)] 101)).cell? ⟨w.heap.size,0,none⟩=some (.int .u8 (h:Int)):=by simp
 have hc1:(w.alloc (.cells #[.int .u8 (h:Int),.int .u64 (k:Int)] 101)).cell? ⟨w.heap.size,1,none⟩=some (.int .u64 (k:Int)):=by simp
 have R2:Aside (Below w.heap.size w (w.alloc (.cells #[.int .u8 (h:Int),.int .u64 (k:Int)] 101))):=(Below.refl _ _).alloc (Nat.le_refl _) _;generalize w.alloc (.cells #[.int .u8 (h:Int),.int .u64 (k:Int)] 101)=W at *
 generalize hb:w.heap.size=b at *
 clear hh;go_quiet ((go_at_call 111;exact z0z (cm _)))
 have R3:Aside (Below b w (W.drewN nq)):=below_drewN R2.out nq;have hc0':(W.drewN nq).cell? ⟨b,0,none⟩=some (.int .u8 (h:Int)):=hc0;have hc1':(W.drewN nq).cell? ⟨b,1,none⟩=some (.int .u64 (k:Int)):=hc1;clear hc0 hc1 R2 cm;generalize W.drewN nq=W2 at *
 go_wp2;go_quiet ((go_at_call 60;exact z0z (ca _)))
 go_wp2;go_ret2;exact ⟨rfl,by rw [hb];exact below_drewN R3.out _⟩
theorem zge (k:Nat) (hk:k<2 ^ 64):bits .and .u64 (k:Int) 1=((k % 2:Nat):Int):=by
 have:bits .and .u64 (k:Int) ((1:Nat):Int)=((k &&& 1:Nat):Int):=z4r hk (by decide);rw [Nat.and_one_is_mod] at this;exact this
theorem z8C (k:Nat) (hk:k<2 ^ 64):(bits .and .u64 (k:Int) 1 == 1)=decide (k % 2=1):=by
 rw [zge k hk,Bool.eq_iff_iff];simp;omega
theorem z8D (a h:Nat) (hh:h<=62) (hl:a*2 ^ h<2 ^ 64):IntKind.u64.wrap ((a:Int)*2 ^ min h 64)=((a*2 ^ h:Nat):Int):=by
 rw [show min h 64=h by omega,z80,Nat.mod_eq_of_lt hl]
theorem zeK {h:Nat} (hh:h<=62):MASK (62 - (h:Int))=2 ^ (62 - h) - 1:=by
 unfold MASK;rw [show min (62 - (h:Int)).toNat 64=62 - h by omega]
theorem zeL (h k:Nat) (hN:Node h k) (w:World):Calls Tryz.prog 77 #[SPOT h k] w fun e w'=>e=.returned (.tuple #[.int .u64 ((PLC h k:Nat):Int),.bool true])/\Below w.heap.size w w':=by
 have h1:=hN.1;have h2:=hN.2;have h3:=hN.span;have h4:=hN.index_lt;have h5:=hN.lt;have h6:=Nat.two_pow_pos (62 - h);have h7:=z43 h k;have h8:=z55 h k;refine zd8 h k (62 - (h:Int)) ((2 ^ (62 - h) - 1:Nat):Int) (((k+1)*2 ^ h - 1:Nat):Int) ((z01 ((k+1)*2 ^ h - 1):Nat):Int) _ w h1 (by unfold wrap64;omega) (by rw [z0b];omega) (by unfold wrap64;omega) (by simp;omega) (fun w=>?_) (by rw [z0b];omega) ?_ (fun w=>z5G _ (by omega) w) ?_
 ·rw [<-zeK h1]
  exact zab _ (by omega) w
 ·have:=z8D (k+1) h h1 (by omega)
  rw [show (((k+1:Nat)):Int)=(k:Int)+1 by omega] at this;rw [this,z0b];omega
 ·rw [z0b]
  omega
theorem zbE (h k:Nat):PLC (h+1) (k / 2)=if k % 2=1 then PLC h k+1 else PLC h k+TREE h+1:=by
 split
 ·have:=z3a h (k / 2)
  rw [show 2*(k / 2)+1=k by omega] at this;exact this
 ·have:=z5e h (k / 2)
  rw [show 2*(k / 2)=k by omega] at this;have h3:=z1N h;unfold TREE;omega
theorem z9F (h k:Nat):PLC h (SIB k)=if k % 2=1 then PLC h k - TREE h else PLC h k+TREE h:=by
 unfold SIB;split
 ·have:=z6V h (k / 2)
  rw [show 2*(k / 2)+1=k by omega,show 2*(k / 2)=k - 1 by omega] at this;omega
 ·have:=z6V h (k / 2)
  rw [show 2*(k / 2)=k by omega] at this;omega
theorem z7Q {h k:Nat} (hk:k % 2=1):TREE h<=PLC h k:=by
 have:=z6V h (k / 2);rw [show 2*(k / 2)+1=k by omega] at this;omega
theorem zgf (h k:Nat) (hN:Node h k) (hh:h<62) (w:World):Calls Tryz.prog 106 #[.int .u64 ((PLC h k:Nat):Int),.int .i64 (h:Int),.bool (decide (k % 2=1))] w fun e w'=>e=.returned (.int .u64 ((PLC (h+1) (k / 2):Nat):Int))/\w=w':=by
 have h1:=(hN.up hh).lt;have h2:=zbE h k;by_cases hk:k % 2=1
 ·rw [if_pos hk] at h2
  rw [decide_eq_true hk];have:=zbD (PLC h k:Nat) (h:Int) w;rw [show IntKind.u64.wrap (((PLC h k:Nat):Int)+1)=((PLC (h+1) (k / 2):Nat):Int) by rw [z0b];omega] at this;exact this
 ·rw [if_neg hk] at h2
  rw [decide_eq_false hk];have:=zd5 (PLC h k:Nat) (h:Int) (TREE h:Nat) w (fun w=>z2X h (by omega) w);rw [show IntKind.u64.wrap (IntKind.u64.wrap (((PLC h k:Nat):Int)+((TREE h:Nat):Int))+1)=((PLC (h+1) (k / 2):Nat):Int) by rw [z0b,z0b];omega] at this;exact this
theorem z7v (h k:Nat) (hN:Node h k) (hh:h<62) (w:World):Calls Tryz.prog 98 #[.int .u64 ((PLC h k:Nat):Int),.int .i64 (h:Int),.bool (decide (k % 2=1))] w fun e w'=>e=.returned (.int .u64 ((PLC h (SIB k):Nat):Int))/\w=w':=by
 have h0:=hN.lt;have h1:=(hN.sib hh).lt;have h2:=z9F h k;by_cases hk:k % 2=1
 ·rw [if_pos hk] at h2
  rw [decide_eq_true hk];have h3:=z7Q (h:=h) hk;have:=z8v (PLC h k:Nat) (h:Int) (TREE h:Nat) w (fun w=>z2X h (by omega) w);rw [show IntKind.u64.wrap (((PLC h k:Nat):Int) - ((TREE h:Nat):Int))=((PLC h (SIB k):Nat):Int) by rw [z0b];omega] at this;exact this
 ·rw [if_neg hk] at h2
  rw [decide_eq_false hk];have:=z9C (PLC h k:Nat) (h:Int) (TREE h:Nat) w (fun w=>z2X h (by omega) w);rw [show IntKind.u64.wrap (((PLC h k:Nat):Int)+((TREE h:Nat):Int))=((PLC h (SIB k):Nat):Int) by rw [z0b];omega] at this;exact this
theorem zbF (h k:Nat) (hN:Node h k) (hh:h<62) (w:World):Calls Tryz.prog 65 #[.int .u64 ((PLC h k:Nat):Int)] w fun e w'=>e=.returned (.tuple #[.int .u64 ((PLC h (SIB k):Nat):Int),.bool true])/\Below w.heap.size w w':=
 z9E _ h k (decide (k % 2=1)) _ w (by simp;omega) (by unfold wrap64;omega) (z8C k (by have:=hN.index_lt;omega)) (.node hN) (fun w=>z7v h k hN hh w)
theorem right_ok (h k:Nat) (hN:Node h k) (w:World):Calls Tryz.prog 32 #[.int .u64 ((PLC h k:Nat):Int)] w fun e w'=>e=.returned (.bool (decide (k % 2=1)))/\Below w.heap.size w w':=
 z4w _ h k _ w (z8C k (by have:=hN.index_lt;omega)) (.node hN)
end Go.Proofs.YthmnailmbgondaaGreatDoor
namespace Go.Proofs.YthmnailmbgondaaGreatDoor.HX
open Go.RowKit
set_option maxRecDepth 100000
theorem z8E {fn:Func} {p:Tmp} {ty:TypeId} (h:fn.results=#[.cell p ty]) (tmps:Array Value) (w:World) (g:Nat) (t:TypeId) (cs:Array Value) (fr:Nat × Nat) (k:Nat) (el:TypeId)
  (hp:tmps.getD p undef=.pointer (some ⟨g,0,none⟩)) (hg:w.heap[g]?=some (.cells cs t fr))
  (hu:Tryz.prog.underlying ty=some (.array k el)) (hi:(Tryz.prog.info? ty).map (·.size)=some cs.size):
  (results fn tmps).run Tryz.prog w=.ok (.agg cs) w:=by
 have hp':tmps[p]?.getD undef=.pointer (some ⟨g,0,none⟩):=by simpa using hp
 simp [results,h,hp',asAddr,run_loadVar_row w g t ty cs fr (.array k el) hg hu rfl hi]
theorem zgg {w:World} {B g log len alive N:Nat} {C:z02} (hS:STORE w B g log len alive N C) (j k:Nat) (hN:Node j k) (hj:j<62) (hs:PLC j (SIB k)<len) (L:Nat->Nat) (hL:AT C log (PLC j (SIB k))=some L):
  Calls Tryz.prog 34 #[.pointer (some ⟨g,0,none⟩),.int .u64 ((PLC j k:Nat):Int)] w fun e w'=>e=.returned (.agg (UARR .u8 32 L))/\Below w.heap.size w w':=by
 have hz:=z1J;obtain ⟨w0,hw0⟩:∃ w0,w.alloc (.cells (UARR .u8 32 fun _=>0) 35)=w0:=⟨_,rfl⟩
 have hb0:Below w.heap.size w w0:=by rw [<-hw0];exact (Below.refl _ _).alloc (Nat.le_refl _) _
 have h40:Has w0 w.heap.size (UARR .u8 32 fun _=>0) 35:=by rw [<-hw0];exact Has.new w _ _
 have cs:=zbF j k hN hj w0;have hp64:PLC j (SIB k)<2 ^ 64:=by have:=hS.short;omega
 have cg:=fun (W:World) (hb:Below w0.heap.size w0 W)=>zcA ((hS.below hb0).below hb) (PLC j (SIB k)) hp64;have e1:GOTH C log len (PLC j (SIB k))=L:=by unfold GOTH;rw [if_pos hs,hL];rfl
 have e2:GOT C log len (PLC j (SIB k))=0:=by unfold GOT;rw [if_pos hs,hL];rfl
 rw [e1,e2] at cg;clear hS hN hj hs hL e1 e2 hp64;generalize PLC j (SIB k)=q at *
 generalize PLC j k=p at *
 go_enter Tryz.func34,Tryz.ntmps34;go_wp2_with fail
 refine cs.mono ?_;rintro e w1 ⟨rfl,hb1⟩;clear cs;go_wp2_with fail
 refine (cg w1 hb1).mono ?_;rintro e w2 ⟨rfl,hb2⟩;clear cg;have hst:=run_storeCells_new (P:=Tryz.prog) w2 35 (UARR .u8 32 fun _=>0) (UARR .u8 32 L) (z04 _) (by rw [z03,z03]) (z0j _ _ _);have hsu:=z03 .u8 32 L;obtain ⟨w3,hw3⟩:∃ w3,w2.alloc (.cells (UARR .u8 32 L) 35)=w3:=⟨_,rfl⟩
 have hb12:Below w0.heap.size w0 w2:=hb1.trans (hb2.mono hb1.size);have hb3:Below w0.heap.size w0 w3:=by rw [<-hw3];exact hb12.alloc hb12.size _
 have hF3:Has w3 w2.heap.size (UARR .u8 32 L) 35:=by rw [<-hw3];exact Has.new w2 _ _
 have h43:=h40.keep hb3;have hb3':Below w.heap.size w w3:=hb0.trans (hb3.mono hb0.size);have hst2:=z0H h43 L
 go_wp2_with (first
  | (refine wpList_load_row rfl 35 (.tmp 7) rfl w2.heap.size rfl 35 (UARR .u8 32 L) (0,0) _ hF3 Tryz.underlying35 rfl (z04 _) ?_)
  | fail)
 refine bodyPost_ret (v:=.agg (UARR .u8 32 L)) ?_ rfl ⟨rfl,z0d hb3' (Nat.le_refl _) _⟩;exact z8E rfl _ _ w.heap.size 35 _ (0,0) _ _ rfl (h43.row _) Tryz.underlying35 (z04 _)
theorem z9G {w:World} {B g log len alive N:Nat} {C:z02} (hS:STORE w B g log len alive N C) (p:Nat) (hp:p<2 ^ 64):
  Calls Tryz.prog 188 #[.pointer (some ⟨g,0,none⟩),.int .u64 (p:Int)] w fun e w'=>e=.returned (.tuple #[.agg (UARR .u8 32 (GOTH C log len p)),.int .i64 (GOT C log len p)])/\Below w.heap.size w w':=by
 have hz:=z1J;obtain ⟨w0,hw0⟩:∃ w0,w.alloc (.cells (UARR .u8 32 fun _=>0) 35)=w0:=⟨_,rfl⟩
 have hb0:Below w.heap.size w w0:=by rw [<-hw0];exact (Below.refl _ _).alloc (Nat.le_refl _) _
 have h40:Has w0 w.heap.size (UARR .u8 32 fun _=>0) 35:=by rw [<-hw0];exact Has.new w _ _
 have cg:=zcA (hS.below hb0) p hp;clear hS;generalize GOTH C log len p=L at *
 generalize GOT C log len p=E at *
 go_enter Tryz.func188,Tryz.ntmps188;go_wp2_with fail
 refine cg.mono ?_;rintro e w1 ⟨rfl,hb1⟩;clear cg;have h41:=h40.keep hb1;have hst2:=z0H h41 L;have hb1':Below w.heap.size w w1:=hb0.trans (hb1.mono hb0.size);have hsu:=z03 .u8 32 L;go_wp2;refine bodyPost_ret (v:=.tuple #[.agg (UARR .u8 32 L),.int .i64 E]) ?_ rfl ⟨rfl,z0d hb1' (Nat.le_refl _) _⟩;exact z0F rfl _ _ w.heap.size 35 _ (0,0) _ _ rfl (h41.row _) _ rfl Tryz.underlying35 (z04 _)
structure FOREST (w:World) (B g:Nat) (d:Int) (log n:Nat) (C:z02) (f:Nat->Nat->Nat):Prop where
 store:STORE w B g log (z01 n) (z01 n) (z01 n) C
 width:w.cell? ⟨g,5,none⟩=some (.int .i64 d)
 size:w.cell? ⟨g,6,none⟩=some (.int .u64 (n:Int))
 free:w.frozen? ⟨g,6,none⟩=false
 node:∀ h k,(k+1)*2 ^ h<=n->AT C log (PLC h k)=some (VAL d f h k)
 byte:∀ k,k<n->∀ i,f k i<256
 few:n<=2 ^ 20
 base:B<=g
def z6h (d:Int) (log:Nat):Array Value:=#[.int .i64 (log:Int),.int .u64 0,.int .u64 0,.map none,.map none,.int .i64 d,.int .u64 0]
theorem FOREST.new {w:World} {B g:Nat} {d:Int} {log:Nat} (h:Has w g (z6h d log) 73) (hl:log<=16) (hB:B<=g) (f:Nat->Nat->Nat):FOREST w B g d log 0 (fun _=>none) f:=by
 refine ⟨⟨hl,by decide,h.cell 0,h.cell 1,h.cell 2,fun i _=>h.frozen i,⟨_,_,_,h,by decide,by decide,by decide⟩,⟨none,h.cell 3,fun _ _=>rfl,fun b e=>by cases e⟩,fun k gc rs e=>(by cases e),fun k k' gc gc' rs rs' _ e=>by cases e⟩,h.cell 5,h.cell 6,h.frozen 6,fun h k hk=>?_,fun k hk=>by omega,by decide,hB⟩;have:=z55 h k;omega
theorem FOREST.below {w w':World} {B g:Nat} {d:Int} {log n:Nat} {C:z02} {f:Nat->Nat->Nat} (h:FOREST w B g d log n C f) (hb:Below w.heap.size w w'):FOREST w' B g d log n C f:=by
 have hg:=h.store.lt;refine ⟨h.store.below hb,(hb.cell (p:=⟨g,5,none⟩) hg).trans h.width,(hb.cell (p:=⟨g,6,none⟩) hg).trans h.size,?_,h.node,h.byte,h.few,h.base⟩;exact (World.frozen?_of_block (w:=w) (by exact hb.block g hg)).trans h.free
theorem zbG (d:Int) (log:Nat) (h:log<=16) (w:World):Calls Tryz.prog 5 #[.int .i64 d,.int .i64 (log:Int)] w fun e w'=>
  ∃ g,e=.returned (.tuple #[.pointer (some ⟨g,0,none⟩),.int .i64 0])/\w.heap.size<=g/\Has w' g (z6h d log) 73/\Below w.heap.size w w':=by
 have cn:=z9o log h w;obtain ⟨w1,hw1⟩:∃ w1,w.alloc (.cells (zbd log) 71)=w1:=⟨_,rfl⟩
 rw [hw1] at cn;have hH:Has w1 w.heap.size (zbd log) 71:=by rw [<-hw1];exact Has.new w _ _
 have hb:Below w.heap.size w w1:=by rw [<-hw1];exact (Below.refl _ _).alloc (Nat.le_refl _) _
 clear hw1;go_enter Tryz.func5,Tryz.ntmps5;go_wp2_with fail
 refine cn.mono ?_;rintro e w2 ⟨rfl,rfl⟩;clear cn;have x0:=hH.cell 0;have x1:=hH.cell 1;have x2:=hH.cell 2;have x3:=hH.cell 3;have x4:=hH.cell 4;go_wp2_with fail
 go_ret2;exact ⟨_,rfl,hb.size,Has.new _ _ _,hb.alloc hb.size _⟩
theorem STORE.held {w w':World} {B g log len alive N:Nat} {C:z02} (hS:STORE w B g log len alive N C) (hg:w'.heap[g]?=w.heap[g]?) (hblk:∀ x,FOOT w g C x->w'.heap[x]?=w.heap[x]?):STORE w' B g log len alive N C/\(∀ x,FOOT w' g C x->FOOT w g C x)/\∀ i,w'.cell? ⟨g,i,none⟩=w.cell? ⟨g,i,none⟩:=by
 have cell:∀ i,w'.cell? ⟨g,i,none⟩=w.cell? ⟨g,i,none⟩:=fun i=>World.cell?_of_block (w:=w) (by exact hg)
 have hch:∀ k gc rk,C k=some (gc,rk)->w'.heap[gc]?=w.heap[gc]?/\(∀ v x,w.cell? ⟨gc,0,none⟩=some v->v.ownBlock=some x->w'.heap[x]?=w.heap[x]?)/\∀ r∈rk,w'.heap[r.gh]?=w.heap[r.gh]?:=fun k gc rk e=>
  ⟨hblk _ (.inr ⟨k,gc,rk,e,.inl rfl⟩),fun v x hv hx=>hblk _ (.inr ⟨k,gc,rk,e,.inr (.inl ⟨v,hv,hx⟩)⟩),fun r hr=>hblk _ (.inr ⟨k,gc,rk,e,.inr (.inr ⟨r,hr,rfl⟩)⟩)⟩
 have hcc:∀ k gc rk,C k=some (gc,rk)->w'.cell? ⟨gc,0,none⟩=w.cell? ⟨gc,0,none⟩:=fun k gc rk e=>World.cell?_of_block (w:=w) (by exact (hch k gc rk e).1);refine ⟨⟨hS.small,hS.short,(cell 0).trans hS.c0,(cell 1).trans hS.c1,(cell 2).trans hS.c2,fun i hi=>?_,?_,?_,?_,?_⟩,fun x h=>?_,cell⟩
 ·have:=hS.live i hi
  unfold World.frozen? at this ⊢;rw [show w'.heap[g]?=w.heap[g]? from hg];exact this
 ·obtain ⟨cs,t,fr,k1,k2⟩:=hS.kind
  exact ⟨cs,t,fr,hg.trans k1,k2⟩
 ·obtain ⟨mv,m1,m2,m3⟩:=hS.map
  refine ⟨mv,(cell 3).trans m1,m2,fun x e=>?_⟩;obtain ⟨c1,n,c2,c3⟩:=m3 x e;refine ⟨c1,n,c2,c3.at (hblk x (.inl (by rw [m1,e])))⟩
 ·intro k gc rk e
  obtain ⟨b1,b2,b3⟩:=hS.chunk k gc rk e;obtain ⟨d1,d2,d3⟩:=hch k gc rk e;exact ⟨b1,b2.at d1 d2 d3,b3⟩
 ·intro k k' gc gc' rs rs' hne e e'
  obtain ⟨o1,o2,o3⟩:=hS.one k k' gc gc' rs rs' hne e e';exact ⟨o1,o2,fun v v' hv hv'=>o3 v v' (by rw [<-hcc k gc rs e];exact hv) (by rw [<-hcc k' gc' rs' e'];exact hv')⟩
 ·rcases h with h | ⟨k,gc,rs,e,h⟩
  ·left;rw [<-cell 3];exact h
  ·refine .inr ⟨k,gc,rs,e,?_⟩
   rcases h with h | ⟨v,hv,h⟩ | h
   ·exact .inl h
   ·exact .inr (.inl ⟨v,by rw [<-hcc k gc rs e];exact hv,h⟩)
   ·exact .inr (.inr h)
def APART (w:World) (g:Nat) (C:z02) (g':Nat) (C':z02):Prop:=∀ x,(x=g\/FOOT w g C x)->(x=g'\/FOOT w g' C' x)->False
theorem APART.symm {w:World} {g g':Nat} {C C':z02} (h:APART w g C g' C'):APART w g' C' g C:=fun x a b=>h x b a
theorem STORE.foot_base {w:World} {B g log len alive N b:Nat} {C:z02} (hS:STORE w B g log len alive N C) (hb:FOOT w g C b):B<=b:=by
 rcases hb with e | ⟨k,gc,rs,e,h⟩
 ·obtain ⟨mv,m1,m2,m3⟩:=hS.map
  rw [e] at m1;have hm:mv=some b:=by cases Option.some.inj m1;rfl
  exact (m3 b hm).1
 ·have hC:=(hS.chunk k gc rs e).2.1
  rcases h with rfl | ⟨v,hv,h⟩ | ⟨r,hr,rfl⟩
  ·exact hC.far
  ·obtain ⟨v0,h1,h2⟩:=hC.box
   rw [h1.cell 0] at hv;cases Option.some.inj hv;exact (h2.lt b h).1
  ·exact ((hC.row r hr).2.2.2.2.lt r.gh rfl).1
theorem STORE.later {w w':World} {B g g' log len alive N log' len' alive' N':Nat} {C C':z02} (h:STORE w B g log len alive N C) (hb:Below w.heap.size w w') (h':STORE w' w.heap.size g' log' len' alive' N' C') (hg':w.heap.size<=g'):APART w' g C g' C':=fun x hx hx'=>by
 have h1:x<w.heap.size:=by
  rcases hx with rfl | hf
  ·exact h.lt
  ·exact h.foot_lt (h.foot_below hb hf)
 rcases hx' with rfl | hf
 ·omega
 ·have:=h'.foot_base hf
  omega
theorem FOREST.held {w w':World} {B g:Nat} {d:Int} {log n:Nat} {C:z02} {f:Nat->Nat->Nat} (h:FOREST w B g d log n C f) (hg:w'.heap[g]?=w.heap[g]?) (hblk:∀ x,FOOT w g C x->w'.heap[x]?=w.heap[x]?):FOREST w' B g d log n C f/\∀ x,FOOT w' g C x->FOOT w g C x:=by
 obtain ⟨s1,s2,s3⟩:=h.store.held hg hblk;exact ⟨⟨s1,(s3 5).trans h.width,(s3 6).trans h.size,s1.live 6 (by decide),h.node,h.byte,h.few,h.base⟩,s2⟩
theorem APART.below {w w':World} {B B' g g':Nat} {d d':Int} {log log' n n':Nat} {C C':z02} {f f':Nat->Nat->Nat} (ha:APART w g C g' C') (h:FOREST w B g d log n C f) (h':FOREST w B' g' d' log' n' C' f') (hb:Below w.heap.size w w'):APART w' g C g' C':=fun x hx hx'=>
 ha x (hx.imp id (h.store.foot_below hb)) (hx'.imp id (h'.store.foot_below hb))
theorem APART.later {w w':World} {B g g':Nat} {d:Int} {log n:Nat} {C C':z02} {f:Nat->Nat->Nat} (h:FOREST w B g d log n C f) (hb:Below w.heap.size w w') (hg':w.heap.size<=g') (hf':∀ x,x<w.heap.size->¬ FOOT w' g' C' x):APART w' g C g' C':=fun x hx hx'=>by
 have h1:x<w.heap.size:=by
  rcases hx with rfl | hf
  ·exact h.store.lt
  ·exact h.store.foot_lt (h.store.foot_below hb hf)
 rcases hx' with rfl | hf
 ·omega
 ·exact hf' x h1 hf
end Go.Proofs.YthmnailmbgondaaGreatDoor.HX
namespace Go.Proofs.YthmnailmbgondaaGreatDoor
open Go.RowKit
theorem z4H {F f:Nat->Int} {i:Nat} {v:Int} (A:∀ j,f j=if j<i then F j else 0) (hv:v=F i):∀ j,(if j=i then v else f j)=if j<i+1 then F j else 0:=fun j=>by
 by_cases e:j=i
 ·subst e
  simp [hv]
 ·rw [if_neg e,A j]
  by_cases e2:j<i
  ·rw [if_pos e2,if_pos (by omega)]
  ·rw [if_neg e2,if_neg (by omega)]
theorem z6W (x:Int) (n:Nat) (F:Nat->Int) (hn:(n:Int)<=8) (w:World) (c:∀ w,Calls Tryz.prog 170 #[.int .u64 x,.int .i64 (8*(n:Int))] w fun e w'=>e=.returned (.int .u64 0)/\w=w')
  (ci:∀ i:Nat,i<n->∃ s:Int,Aside (s % 256=F i)/\∀ w,Calls Tryz.prog 170 #[.int .u64 x,.int .i64 (8*((n:Int) - 1 - (i:Int)))] w fun e w'=>e=.returned (.int .u64 s)/\w=w'):
  Calls Tryz.prog 165 #[.int .u64 x,.int .i64 (n:Int)] w fun e w'=>e=.returned (.tuple #[.slice (some ⟨w.heap.size,0,none⟩) n n,.int .i64 0])/\w.alloc (.cells (BARR n F) 5)=w':=by
 have hmk:=z5Z n (by omega);have CI:Aside (∀ i:Nat,i<n->∃ s:Int,Aside (s % 256=F i)/\∀ w,Calls Tryz.prog 170 #[.int .u64 x,.int .i64 (8*((n:Int) - 1 - (i:Int)))] w fun e w'=>e=.returned (.int .u64 s)/\w=w'):=ci;clear ci;go_enter Tryz.func165,Tryz.ntmps165;go_wp2_with fail
 refine (c _).mono ?_;rintro e w' ⟨rfl,rfl⟩;go_wp2;go_loopg [23] n (fun g s23 wx=>∃ (i:Nat) (f:Nat->Int),i+g=n/\Aside (∀ j,f j=if j<i then F j else 0)/\s23=.int .i64 i/\wx=w.alloc (.cells (BARR n f) 5))
 case atStart=>exact ⟨0,fun _=>0,by omega,fun j=>by simp,rfl,rfl⟩
 case round=>
  obtain ⟨i,f,hig,A,rfl,rfl⟩:=hrel;cases gk with
  | zero=>
    obtain rfl:i=n:=by omega
    have hf:BARR i f=BARR i F:=z86 fun j hj=>by rw [A.out j,if_pos hj]
    rw [hf];clear hf A;go_wp2;go_ret2;exact ⟨rfl,rfl⟩
  | succ g=>
    have hi:(i:Int)<(n:Int):=by omega
    have hc:(BARR n f)[i]?=some (.int .u8 (f i)):=z1I n f i (by omega);have hs:∀ v,(BARR n f).setIfInBounds i (.int .u8 v)=BARR n (fun j=>if j=i then v else f j):=fun v=>z5z n f i v;obtain ⟨s,hsF,cs⟩:=CI.out i (by omega);go_wp2_with fail
    refine (cs _).mono ?_;rintro e w' ⟨rfl,rfl⟩;go_wp2;go_roundg g
    case measure=>omega
    case rel=>exact ⟨i+1,_,by omega,z4H A.out hsF.out,by go_num,rfl⟩
def BYTE (X n:Nat):Nat->Int:=fun i=>((X / 2 ^ (8*(n - 1 - i)) % 256:Nat):Int)
theorem zcO (X n:Nat) (hX:X<2 ^ 64) (hn:n<=8) (h:X / 2 ^ (8*n)=0) (w:World):
  Calls Tryz.prog 165 #[.int .u64 (X:Int),.int .i64 (n:Int)] w fun e w'=>e=.returned (.tuple #[.slice (some ⟨w.heap.size,0,none⟩) n n,.int .i64 0])/\w.alloc (.cells (BARR n (BYTE X n)) 5)=w':=by
 refine z6W X n (BYTE X n) (by omega) w (fun w=>?_) (fun i hi=>?_)
 ·have k:=z4s X (8*(n:Int)) hX (by omega) (by omega) w
  have hs:SHR X (8*(n:Int))=0:=by
   unfold SHR;rw [if_neg (by omega),show (8*(n:Int)).toNat=8*n by omega,h]
  rw [hs] at k;exact k
 ·refine ⟨(SHR X (8*((n:Int) - 1 - (i:Int))):Nat),?_,fun w=>z4s X _ hX (by omega) (by omega) w⟩
  unfold SHR BYTE Aside;rw [if_neg (by omega),show (8*((n:Int) - 1 - (i:Int))).toNat=8*(n - 1 - i) by omega];simp
end Go.Proofs.YthmnailmbgondaaGreatDoor
