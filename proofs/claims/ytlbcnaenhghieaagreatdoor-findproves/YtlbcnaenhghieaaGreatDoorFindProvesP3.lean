/- FindProves: part 3. -/
import Derived.Test.YtlbcnaenhghieaaGreatDoorFindProvesP2
namespace Go.Proofs.YtlbcnaenhghieaaGreatDoor
open Go.RowKit
def SUMP (l:List Nat):Nat:=(l.map fun i=>2 ^ i).sum
theorem z7Z:∀ k o X,∀ i∈PL k o X,o<=i/\i<o+k
 | 0,_,_,i,h=>by simp [PL] at h
 | k + 1,o,X,i,h=>by
   have ih:=z7Z k (o+1) (X / 2) i;unfold PL at h;split at h
   ·rcases List.mem_cons.1 h with rfl | h
    ·omega
    ·have:=ih h
     omega
   ·have:=ih h
    omega
def z3H (X i:Nat):Nat:=(z0t X).getD i 0
theorem z5s {X i:Nat} (h:i<POP X):(z0t X)[i]?=some (z3H X i):=by
 rw [<-z0H] at h;unfold z3H;rw [List.getD_eq_getElem?_getD,List.getElem?_eq_getElem h];rfl
theorem zek {X i:Nat} (h:i<POP X):z3H X i<=63:=by
 have:=z7Z 64 0 X _ (List.mem_of_getElem? (z5s h));omega
def PART (X i:Nat):Nat:=SUMP ((z0t X).take i)
theorem zcx {w:World} {base g n cap:Nat} {X:Nat} (h:w.ownsRow base 3 1 (.slice (some ⟨g,0,none⟩) n cap) n (z15 (z0t X))) (i:Nat) (hi:i<POP X):w.cell? ⟨g,i,none⟩=some (.int .i64 (z3H X i:Nat)):=by
 have hlen:(z0t X).length=n:=by have:=h.1;simpa [z15] using this
 rw [z0H] at hlen;rw [h.cellAt i (by omega)];unfold z15;rw [List.getElem?_map,z5s hi];rfl
end Go.Proofs.YtlbcnaenhghieaaGreatDoor
namespace Go.Proofs.YtlbcnaenhghieaaGreatDoor
def UP (h n:Nat):List Nat:=PL (64 - h) h (n / 2 ^ h)
theorem zam {h n:Nat} (hh:h<64):UP h n=if n / 2 ^ h % 2=1 then h :: UP (h+1) n else UP (h+1) n:=by
 unfold UP;rw [show 64 - h=(64 - (h+1))+1 by omega,PL,Nat.div_div_eq_div_mul,<-Nat.pow_succ]
theorem zga (n:Nat):UP 0 n=z0t n:=by
 unfold UP z0t;simp
theorem zhf {h n:Nat} (hn:n<2 ^ h):UP h n=[]:=by
 unfold UP;rw [Nat.div_eq_of_lt hn,z6B]
def HS (h n:Nat):List Nat:=(UP h n).reverse
theorem z2w {h n:Nat} (hh:h<64) (hb:n / 2 ^ h % 2=1):HS h n=HS (h+1) n ++ [h]:=by
 unfold HS;rw [zam hh,if_pos hb,List.reverse_cons]
theorem z2i {h n:Nat} (hh:h<64) (hb:¬ n / 2 ^ h % 2=1):HS h n=HS (h+1) n:=by
 unfold HS;rw [zam hh,if_neg hb]
theorem z80 {h n:Nat} (hn:n<2 ^ h):HS h n=[]:=by
 unfold HS;rw [zhf hn];rfl
theorem zgb (n:Nat):HS 0 n=(z0t n).reverse:=by
 unfold HS;rw [zga]
theorem z2x {n:Nat} (hn:n<2 ^ 64):∀ h,h<=64->(HS h n).length=PC (n / 2 ^ h):=by
 have key:∀ d h,h+d=64->(HS h n).length=PC (n / 2 ^ h):=by
  intro d;induction d with
  | zero=>
    intro h e;obtain rfl:h=64:=by omega
    rw [z80 hn,Nat.div_eq_of_lt hn,z1a];rfl
  | succ d ih=>
    intro h e;have ih:=ih (h+1) (by omega);rw [z0D,Nat.div_div_eq_div_mul,<-Nat.pow_succ,<-ih];by_cases hb:n / 2 ^ h % 2=1
    ·rw [z2w (by omega) hb,List.length_append,List.length_singleton]
     omega
    ·rw [z2i (by omega) hb]
     omega
 intro h hh;exact key (64 - h) h (by omega)
theorem zel {n h:Nat}:h<=64->∃ t,HS 0 n=HS h n ++ t:=by
 induction h with
 | zero=>exact fun _=>⟨[],by simp⟩
 | succ h ih=>
   intro hh;obtain ⟨t,ht⟩:=ih (by omega);by_cases hb:n / 2 ^ h % 2=1
   ·exact ⟨h :: t,by rw [ht,z2w (by omega) hb];simp⟩
   ·exact ⟨t,by rw [ht,z2i (by omega) hb]⟩
theorem z70 {n:Nat}:∀ h x,h<=64->x∈HS h n->h<=x/\x<64/\n / 2 ^ x % 2=1:=by
 have key:∀ d h,h+d=64->∀ x,x∈HS h n->h<=x/\x<64/\n / 2 ^ x % 2=1:=by
  intro d;induction d with
  | zero=>
    intro h e x hx;obtain rfl:h=64:=by omega
    simp [HS,UP,PL] at hx
  | succ d ih=>
    intro h e x hx;by_cases hb:n / 2 ^ h % 2=1
    ·rw [z2w (by omega) hb,List.mem_append,List.mem_singleton] at hx
     rcases hx with hx | rfl
     ·have:=ih (h+1) (by omega) x hx
      exact ⟨by omega,this.2⟩
     ·exact ⟨Nat.le_refl _,by omega,hb⟩
    ·rw [z2i (by omega) hb] at hx
     have:=ih (h+1) (by omega) x hx;exact ⟨by omega,this.2⟩
 intro h x hh;exact key (64 - h) h (by omega) x
def PKP (n h:Nat):Nat:=PLC h (2*(n / 2 ^ (h+1)))
def z17 (n:Nat):List Nat:=(HS 0 n).map (PKP n)
theorem z2X {n:Nat} (hn:n<2 ^ 64):(z17 n).length=PC n:=by
 unfold z17;rw [List.length_map,z2x hn 0 (by omega)];simp
theorem z0r (n h:Nat):n / 2 ^ (h+1)=n / 2 ^ h / 2:=by rw [Nat.div_div_eq_div_mul,<-Nat.pow_succ]
theorem z3I (m h:Nat):z02 ((2*m+1)*2 ^ h)=z02 (2*m*2 ^ h)+TREE h:=by
 have h1:=z0A ((2*m+1)*2 ^ h);have h2:=z0A (2*m*2 ^ h);rw [z2f,z3u,Nat.add_mul,Nat.one_mul] at h1;rw [z2f,z4R] at h2;have h3:=z1E h;rw [Nat.pow_succ] at h3;rw [Nat.add_mul,Nat.one_mul];unfold TREE;rw [Nat.pow_succ];omega
theorem z4n {n h:Nat} (hb:n / 2 ^ h % 2=1):n / 2 ^ h=2*(n / 2 ^ (h+1))+1:=by
 rw [z0r];omega
theorem z81 {n h:Nat} (hb:¬ n / 2 ^ h % 2=1):n / 2 ^ h=2*(n / 2 ^ (h+1)):=by
 rw [z0r];omega
theorem z18 (m h:Nat):2*m*2 ^ h=m*2 ^ (h+1):=by
 rw [Nat.pow_succ,Nat.mul_comm 2 m,Nat.mul_assoc,Nat.mul_comm 2]
def ST (l:List Nat):Nat × List Nat:=l.foldl (fun s h=>((s.1+TREE h) % 2 ^ 64,s.2 ++ [((s.1+TREE h) % 2 ^ 64+(2 ^ 64 - 1)) % 2 ^ 64])) (0,[])
theorem z6C (l:List Nat) (h:Nat):ST (l ++ [h])=(((ST l).1+TREE h) % 2 ^ 64,(ST l).2 ++ [(((ST l).1+TREE h) % 2 ^ 64+(2 ^ 64 - 1)) % 2 ^ 64]):=by
 unfold ST;rw [List.foldl_append];rfl
theorem z4o {n:Nat} (hn:n<=4611686018427387904):z02 n<=9223372036854775807:=by
 rw [<-zb7];exact z3G hn
theorem zhP {n:Nat} (hn:n<=4611686018427387904):∀ h,h<=64->ST (HS h n)=(z02 (n / 2 ^ h*2 ^ h),(HS h n).map (PKP n)):=by
 have key:∀ d h,h+d=64->ST (HS h n)=(z02 (n / 2 ^ h*2 ^ h),(HS h n).map (PKP n)):=by
  intro d;induction d with
  | zero=>
    intro h e;obtain rfl:h=64:=by omega
    rw [z80 (by omega),Nat.div_eq_of_lt (by omega),Nat.zero_mul,z27];rfl
  | succ d ih=>
    intro h e;have ih:=ih (h+1) (by omega);by_cases hb:n / 2 ^ h % 2=1
    ·have e1:=z4n hb
     have h2:z02 (n / 2 ^ h*2 ^ h)=z02 (n / 2 ^ (h+1)*2 ^ (h+1))+TREE h:=by
      rw [e1,z3I,z18]
     have h3:z02 (n / 2 ^ h*2 ^ h)<=9223372036854775807:=z4o (Nat.le_trans (Nat.div_mul_le_self _ _) hn);have h4:=z1E h
     have hs:(z02 (n / 2 ^ (h+1)*2 ^ (h+1))+TREE h) % 2 ^ 64=z02 (n / 2 ^ h*2 ^ h):=by
      rw [<-h2];omega
     have hp:(z02 (n / 2 ^ h*2 ^ h)+(2 ^ 64 - 1)) % 2 ^ 64=PKP n h:=by
      unfold PKP PLC;rw [z18];unfold TREE at h2;omega
     rw [z2w (by omega) hb,z6C,ih];dsimp only;rw [hs,hp,List.map_append];rfl
    ·rw [z2i (by omega) hb,ih,z81 hb,z18]
 intro h hh;exact key (64 - h) h (by omega)
theorem zhg {n:Nat} (hn:n<=4611686018427387904):ST (HS 0 n)=(z02 n,z17 n):=by
 have:=zhP hn 0 (by omega);unfold z17;simpa using this
theorem z52 {a b:Nat} (h:a ^^^ b=0):a=b:=by
 have:a ^^^ (a ^^^ b)=a ^^^ 0:=by rw [h]
 rw [<-Nat.xor_assoc,Nat.xor_self,Nat.zero_xor,Nat.xor_zero] at this;exact this.symm
def RISE (i n:Nat):Nat:=LEN (i ^^^ n) - 1
theorem z0R {i n:Nat} (hi:i<n) (hn:n<=4611686018427387904):1<=LEN (i ^^^ n)/\RISE i n<=62/\n / 2 ^ RISE i n % 2=1/\i / 2 ^ (RISE i n+1)=n / 2 ^ (RISE i n+1)/\i / 2 ^ RISE i n=2*(n / 2 ^ (RISE i n+1)):=by
 have hX:i ^^^ n<2 ^ 63:=Nat.xor_lt_two_pow (by omega) (by omega)
 have h0:i ^^^ n≠0:=by
  intro h;have:i=n:=z52 h;omega
 obtain ⟨h1,h2,h3⟩:=z7X (i ^^^ n) (by omega) h0;have hR:LEN (i ^^^ n)=RISE i n+1:=by unfold RISE;omega
 rw [hR] at h3;rw [show LEN (i ^^^ n) - 1=RISE i n from rfl] at h2;generalize RISE i n=H at *
 have hH:H<=62:=by
  rcases Nat.lt_or_ge 62 H with h | h
  ·have:2 ^ 63<=2 ^ H:=Nat.pow_le_pow_right (by decide) h
   omega
  ·exact h
 have e1:i / 2 ^ (H+1)=n / 2 ^ (H+1):=by
  have:(i ^^^ n) / 2 ^ (H+1)=0:=Nat.div_eq_of_lt h3;rw [<-Nat.shiftRight_eq_div_pow,Nat.shiftRight_xor_distrib,Nat.shiftRight_eq_div_pow,Nat.shiftRight_eq_div_pow] at this;exact z52 this
 have e2:i / 2 ^ H ^^^ n / 2 ^ H=1:=by
  have:(i ^^^ n) / 2 ^ H=1:=by
   rw [Nat.pow_succ] at h3;apply Nat.div_eq_of_lt_le
   ·omega
   ·omega
  rw [<-Nat.shiftRight_eq_div_pow,Nat.shiftRight_xor_distrib,Nat.shiftRight_eq_div_pow,Nat.shiftRight_eq_div_pow] at this;exact this
 have e3:i / 2 ^ H<=n / 2 ^ H:=Nat.div_le_div_right (Nat.le_of_lt hi)
 have e4:i / 2 ^ H≠n / 2 ^ H:=by
  intro h;rw [h,Nat.xor_self] at e2;omega
 rw [z0r,z0r] at e1;refine ⟨by omega,hH,?_,?_,?_⟩
 ·omega
 ·rw [z0r,z0r]
  exact e1
 ·rw [z0r]
  omega
def KTH (i n:Nat):Nat:=PC (n / 2 ^ (RISE i n+1))
theorem z82 {i n:Nat} (hi:i<n) (hn:n<=4611686018427387904):(HS 0 n)[KTH i n]?=some (RISE i n):=by
 obtain ⟨_,h1,h2,_,_⟩:=z0R hi hn;obtain ⟨t,ht⟩:=zel (n:=n) (h:=RISE i n) (by omega);have hl:=z2x (n:=n) (by omega) (RISE i n+1) (by omega);rw [ht,z2w (by omega) h2,List.append_assoc];unfold KTH;rw [<-hl,List.getElem?_append_right (Nat.le_refl _)];simp
theorem z2Y {i n:Nat} (hi:i<n) (hn:n<=4611686018427387904):KTH i n<PC n:=by
 have h:=z82 hi hn;have hl:=z2x (n:=n) (by omega) 0 (by omega);rw [Nat.pow_zero,Nat.div_one] at hl;rw [<-hl];exact (List.getElem?_eq_some_iff.1 h).1
def SIB (k:Nat):Nat:=if k % 2=1 then k - 1 else k+1
def WAY (i H:Nat):List Nat:=(List.range H).map fun h=>PLC h (SIB (i / 2 ^ h))
theorem z83 (i H:Nat):WAY i (H+1)=WAY i H ++ [PLC H (SIB (i / 2 ^ H))]:=by simp [WAY,List.range_succ]
theorem z5I (i H:Nat):(WAY i H).length=H:=by simp [WAY]
theorem Node.up {h k:Nat} (a:Node h k) (hh:h<62):Node (h+1) (k / 2):=by
 refine ⟨hh,?_⟩;have:=a.2;rw [show 62 - h=(62 - (h+1))+1 by omega,Nat.pow_succ] at this;omega
theorem Node.sib {h k:Nat} (a:Node h k) (hh:h<62):Node h (SIB k):=by
 refine ⟨a.1,?_⟩;have h1:=a.2;rw [show 62 - h=(62 - (h+1))+1 by omega,Nat.pow_succ] at h1 ⊢;unfold SIB;split <;> omega
theorem Node.leaf {i:Nat} (hi:i<4611686018427387904):Node 0 i:=⟨by omega,by simpa using hi⟩
theorem Node.over {i:Nat} (hi:i<4611686018427387904):∀ h,h<=62->Node h (i / 2 ^ h):=by
 intro h;induction h with
 | zero=>
   intro _;simpa using Node.leaf hi
 | succ h ih=>
   intro hh;have:=(ih (by omega)).up (by omega);rw [z0r];exact this
theorem Node.peak {n h:Nat} (hn:n<=4611686018427387904) (hb:n / 2 ^ h % 2=1):Node h (2*(n / 2 ^ (h+1))):=by
 have h62:h<=62:=by
  rcases Nat.lt_or_ge 62 h with h1 | h1
  ·have:2 ^ 63<=2 ^ h:=Nat.pow_le_pow_right (by decide) h1
   rw [Nat.div_eq_of_lt (by omega)] at hb;omega
  ·exact h1
 refine ⟨h62,?_⟩
 have h1:n / 2 ^ h<=2 ^ (62 - h):=by
  have:n / 2 ^ h<=2 ^ 62 / 2 ^ h:=Nat.div_le_div_right (by simpa using hn);rw [Nat.pow_div h62 (by decide)] at this;exact this
 rw [z4n hb] at h1;omega
abbrev Fit (a h b:Nat):Prop:=a % 2 ^ h=0/\a+2 ^ h<=b
theorem Fit.down {a h b:Nat} (f:Fit a (h+1) b):Fit a h b:=by
 have h1:2 ^ (h+1)=2 ^ h*2:=Nat.pow_succ 2 h;have h2:=f.2;refine ⟨?_,by omega⟩;have h3:=f.1;have h4:2 ^ h ∣ 2 ^ (h+1):=⟨2,h1⟩
 exact Nat.mod_eq_zero_of_dvd (Nat.dvd_trans h4 (Nat.dvd_of_mod_eq_zero h3))
theorem Fit.le {a g b:Nat}:∀ h,h<=g->Fit a g b->Fit a h b:=by
 intro h hg f;induction g with
 | zero => obtain rfl:h=0:=by omega
           exact f
 | succ g ih=>
   rcases Nat.lt_or_ge h (g+1) with h1 | h1
   ·exact ih (by omega) f.down
   ·obtain rfl:h=g+1:=by omega
    exact f
theorem Fit.zero {a b:Nat} (h:a<b):Fit a 0 b:=⟨Nat.mod_one a,by simp;omega⟩
def HTF:Nat->Nat->Nat->Nat
 | 0,_,_=>0
 | f+1,a,b=>if Fit a (f+1) b then f+1 else HTF f a b
def HT (a b:Nat):Nat:=HTF 62 a b
theorem zem {a b:Nat} (hab:a<b):∀ f,¬ Fit a (f+1) b->HTF f a b<=f/\Fit a (HTF f a b) b/\¬ Fit a (HTF f a b+1) b:=by
 intro f;induction f with
 | zero=>intro h;exact ⟨Nat.le_refl _,Fit.zero hab,h⟩
 | succ f ih=>
   intro h;unfold HTF;split
   ·rename_i h1
    exact ⟨Nat.le_refl _,h1,h⟩
   ·rename_i h1
    have:=ih h1;exact ⟨by omega,this.2⟩
theorem zan {a b:Nat} (hab:a<b) (hb:b<=4611686018427387904):HT a b<=62/\Fit a (HT a b) b/\¬ Fit a (HT a b+1) b:=by
 refine zem hab 62 ?_;intro h;have:=h.2;simp at this;omega
theorem zao {a b h:Nat} (hab:a<b) (hb:b<=4611686018427387904) (h1:Fit a h b) (h2:¬ Fit a (h+1) b):h=HT a b:=by
 obtain ⟨_,a1,a2⟩:=zan hab hb;rcases Nat.lt_trichotomy h (HT a b) with c | c | c
 ·exact absurd (a1.le (h+1) (by omega)) h2
 ·exact c
 ·exact absurd (h1.le (HT a b+1) (by omega)) a2
def z3J:Nat->Nat->Nat->List (Nat × Nat)
 | 0,_,_=>[]
 | f+1,a,b=>if a<b then (HT a b,a / 2 ^ HT a b) :: z3J f (a+2 ^ HT a b) b else []
def SPAN (a b:Nat):List (Nat × Nat):=z3J (b - a) a b
theorem zbg:∀ f g a b,b - a<=f->b - a<=g->z3J f a b=z3J g a b:=by
 intro f;induction f with
 | zero=>
   intro g a b h1 h2;cases g with
   | zero=>rfl
   | succ g=>simp [z3J];omega
 | succ f ih=>
   intro g a b h1 h2;cases g with
   | zero=>simp [z3J];omega
   | succ g=>
     unfold z3J;have:=Nat.two_pow_pos (HT a b);rw [ih g (a+2 ^ HT a b) b (by omega) (by omega)]
theorem z5t {a b:Nat} (h:b<=a):SPAN a b=[]:=by
 unfold SPAN;rw [show b - a=0 by omega];rfl
theorem z4p {a b:Nat} (h:a<b):SPAN a b=(HT a b,a / 2 ^ HT a b) :: SPAN (a+2 ^ HT a b) b:=by
 unfold SPAN;obtain ⟨f,hf⟩:∃ f,b - a=f+1:=⟨b - a - 1,by omega⟩
 have:=Nat.two_pow_pos (HT a b);rw [hf];show (if a<b then _ else _)=_;rw [if_pos h];congr 1
 exact zbg _ _ _ _ (by omega) (by omega)
def Tile:Nat->List (Nat × Nat)->Nat->Prop
 | a,[],b=>a=b
 | a,s :: l,b=>Node s.1 s.2/\s.2*2 ^ s.1=a/\Tile ((s.2+1)*2 ^ s.1) l b
abbrev Sibs (x y:Nat × Nat):Prop:=x.1=y.1/\x.2 % 2=0/\y.2=x.2+1
def Irr:List (Nat × Nat)->Prop
 | []=>True
 | x :: l=>(∀ y,l.head?=some y->¬ Sibs x y)/\Irr l
theorem Fit.node {a h b:Nat} (f:Fit a h b) (hh:h<=62) (hb:b<=4611686018427387904):Node h (a / 2 ^ h)/\a / 2 ^ h*2 ^ h=a/\(a / 2 ^ h+1)*2 ^ h=a+2 ^ h:=by
 have h1:a / 2 ^ h*2 ^ h=a:=Nat.div_mul_cancel (Nat.dvd_of_mod_eq_zero f.1);have h2:(a / 2 ^ h+1)*2 ^ h=a+2 ^ h:=by rw [Nat.add_mul,Nat.one_mul,h1]
 refine ⟨⟨hh,?_⟩,h1,h2⟩
 have h3:(a / 2 ^ h+1)*2 ^ h<=2 ^ (62 - h)*2 ^ h:=by
  rw [h2,<-Nat.pow_add,show 62 - h+h=62 by omega];have:=f.2;simp;omega
 exact Nat.le_of_mul_le_mul_right h3 (Nat.two_pow_pos h)
theorem z5J (h:Nat):2 ^ (h+1)=2*2 ^ h:=by rw [Nat.pow_succ,Nat.mul_comm]
theorem zap {k h:Nat}:k*2 ^ h % 2 ^ (h+1)=0↔k % 2=0:=by
 rw [Nat.pow_succ,Nat.mul_comm (2 ^ h) 2,Nat.mul_mod_mul_right];have:=Nat.two_pow_pos h;constructor
 ·intro e
  rcases Nat.mul_eq_zero.1 e with e | e
  ·exact e
  ·omega
 ·intro e
  rw [e,Nat.zero_mul]
theorem zcy {b:Nat} (hb:b<=4611686018427387904):∀ f a,b - a<=f->a<=b->Tile a (SPAN a b) b:=by
 intro f;induction f with
 | zero=>
   intro a h1 h2;rw [z5t (by omega)];exact (by omega:a=b)
 | succ f ih=>
   intro a h1 h2;rcases Nat.lt_or_ge a b with h | h
   ·obtain ⟨s1,s2,_⟩:=zan h hb
    obtain ⟨n1,n2,n3⟩:=s2.node s1 hb;rw [z4p h];refine ⟨n1,n2,?_⟩;show Tile ((a / 2 ^ HT a b+1)*2 ^ HT a b) _ b;rw [n3];have:=Nat.two_pow_pos (HT a b);exact ih _ (by omega) s2.2
   ·rw [z5t h]
    exact (by omega:a=b)
theorem zcz {a b:Nat} (hb:b<=4611686018427387904) (h:a<=b):Tile a (SPAN a b) b:=zcy hb (b - a) a (Nat.le_refl _) h
theorem Tile.bound {l:List (Nat × Nat)}:∀ {a b:Nat},Tile a l b->a<=b/\(l≠[]->a<b/\b<=4611686018427387904):=by
 induction l with
 | nil=>intro a b h;exact ⟨by have:a=b:=h;omega,fun h=>absurd rfl h⟩
 | cons s l ih=>
   intro a b ⟨h1,h2,h3⟩;have i:=ih h3;have:=Nat.two_pow_pos s.1;have e:(s.2+1)*2 ^ s.1=s.2*2 ^ s.1+2 ^ s.1:=by rw [Nat.add_mul,Nat.one_mul]
   refine ⟨by omega,fun _=>⟨by omega,?_⟩⟩;cases l with
   | nil=>
     have h4:(s.2+1)*2 ^ s.1=b:=h3;have:=h1.span;simp at this;omega
   | cons t l=>exact (i.2 (by simp)).2
theorem zcA {l:List (Nat × Nat)}:∀ {a b:Nat},Tile a l b->Irr l->l=SPAN a b:=by
 induction l with
 | nil=>
   intro a b h _;have:a=b:=h;rw [z5t (by omega)]
 | cons s l ih=>
   intro a b ht hi;obtain ⟨h1,h2,h3⟩:=ht;obtain ⟨hab,hb⟩:=(Tile.bound (l:=s :: l) ⟨h1,h2,h3⟩).2 (by simp);have e:(s.2+1)*2 ^ s.1=s.2*2 ^ s.1+2 ^ s.1:=by rw [Nat.add_mul,Nat.one_mul]
   have hl:=ih h3 hi.2;have hle:=h3.bound.1;have hpos:=Nat.two_pow_pos s.1;have hf:Fit a s.1 b:=⟨by rw [<-h2];exact Nat.mul_mod_left _ _,by omega⟩
   have hn:¬ Fit a (s.1+1) b:=by
    intro hf2;have hk:s.2 % 2=0:=zap.1 (by rw [h2];exact hf2.1);have p2:=z5J s.1;have hf3:=hf2.2;have hlt:(s.2+1)*2 ^ s.1<b:=by omega
    have hF1:Fit ((s.2+1)*2 ^ s.1) s.1 b:=⟨Nat.mul_mod_left _ _,by omega⟩
    have hF2:¬ Fit ((s.2+1)*2 ^ s.1) (s.1+1) b:=by
     intro h;have:=zap.1 h.1;omega
    have hH:=zao hlt hb hF1 hF2;rw [z4p hlt,<-hH,Nat.mul_div_cancel _ hpos] at hl;refine hi.1 (s.1,s.2+1) (by rw [hl];rfl) ⟨rfl,hk,rfl⟩
   have hH:=zao hab hb hf hn;rw [z4p hab,<-hH,hl];congr 1
   ·rw [<-h2,Nat.mul_div_cancel _ hpos]
   ·rw [e,h2]
theorem Tile.append {l m:List (Nat × Nat)}:∀ {a b c:Nat},Tile a l b->Tile b m c->Tile a (l ++ m) c:=by
 induction l with
 | nil=>intro a b c h h2;have:a=b:=h;rw [this];exact h2
 | cons s l ih=>intro a b c ⟨h1,h2,h3⟩ h4;exact ⟨h1,h2,ih h3 h4⟩
theorem Tile.node {l:List (Nat × Nat)}:∀ {a b i h k:Nat},Tile a l b->l[i]?=some (h,k)->Node h k:=by
 induction l with
 | nil=>intro a b i h k _ e;simp at e
 | cons s l ih=>
   intro a b i h k ⟨h1,h2,h3⟩ e;cases i with
   | zero=>simp at e;subst e;exact h1
   | succ i=>exact ih h3 (by simpa using e)
theorem Tile.one {s:Nat × Nat} {a b:Nat}:Tile a [s] b↔Node s.1 s.2/\s.2*2 ^ s.1=a/\(s.2+1)*2 ^ s.1=b:=Iff.rfl
theorem z3K {n:Nat} (h:PC n=0):n=0:=by
 induction n using Nat.strongRecOn with
 | _ n ih=>
   by_cases h0:n=0
   ·exact h0
   ·rw [z0D] at h
    have:=ih (n / 2) (by omega) (by omega);omega
theorem z84 (n a b:Nat) (hab:a<=b):n / 2 ^ a=n / 2 ^ b*2 ^ (b - a)+n / 2 ^ a % 2 ^ (b - a)/\PC (n / 2 ^ a)=PC (n / 2 ^ b)+PC (n / 2 ^ a % 2 ^ (b - a)):=by
 have e:n / 2 ^ b=n / 2 ^ a / 2 ^ (b - a):=by rw [Nat.div_div_eq_div_mul,<-Nat.pow_add,show a+(b - a)=b by omega]
 have h1:n / 2 ^ a=n / 2 ^ b*2 ^ (b - a)+n / 2 ^ a % 2 ^ (b - a):=by
  rw [e,Nat.mul_comm];exact (Nat.div_add_mod _ _).symm
 refine ⟨h1,?_⟩;have h2:=z4l (b - a) (n / 2 ^ b) (n / 2 ^ a % 2 ^ (b - a)) (Nat.mod_lt _ (Nat.two_pow_pos _));rw [<-h1] at h2;exact h2
theorem zaq (n:Nat) {a b:Nat} (hab:a<=b):PC (n / 2 ^ b)<=PC (n / 2 ^ a):=by
 have:=(z84 n a b hab).2;omega
theorem z85 (n:Nat) {a b:Nat} (hab:a<=b) (h:PC (n / 2 ^ a)=PC (n / 2 ^ b)):n / 2 ^ a*2 ^ a=n / 2 ^ b*2 ^ b:=by
 obtain ⟨h1,h2⟩:=z84 n a b hab;have h3:n / 2 ^ a % 2 ^ (b - a)=0:=z3K (by omega);rw [h3,Nat.add_zero] at h1;rw [h1,Nat.mul_assoc,<-Nat.pow_add,show b - a+a=b by omega]
theorem zen {n:Nat} (hn:n<2 ^ 64):∀ h,h<=64->∀ i,i<PC (n / 2 ^ h)->∃ g,h<=g/\g<64/\(HS h n)[i]?=some g/\n / 2 ^ g % 2=1/\i=PC (n / 2 ^ (g+1)):=by
 have key:∀ d h,h+d=64->∀ i,i<PC (n / 2 ^ h)->∃ g,h<=g/\g<64/\(HS h n)[i]?=some g/\n / 2 ^ g % 2=1/\i=PC (n / 2 ^ (g+1)):=by
  intro d;induction d with
  | zero=>
    intro h e i hi;obtain rfl:h=64:=by omega
    rw [Nat.div_eq_of_lt hn,z1a] at hi;omega
  | succ d ih=>
    intro h e i hi;have hl:=z2x hn (h+1) (by omega);have hs:PC (n / 2 ^ h)=n / 2 ^ h % 2+PC (n / 2 ^ (h+1)):=by rw [z0D,z0r]
    rcases Nat.lt_or_ge i (PC (n / 2 ^ (h+1))) with h1 | h1
    ·obtain ⟨g,a,b,c,r⟩:=ih (h+1) (by omega) i h1
     refine ⟨g,by omega,b,?_,r⟩;by_cases hb:n / 2 ^ h % 2=1
     ·rw [z2w (by omega) hb,List.getElem?_append_left (by omega)]
      exact c
     ·rw [z2i (by omega) hb]
      exact c
    ·have hb:n / 2 ^ h % 2=1:=by omega
     have hi':i=PC (n / 2 ^ (h+1)):=by omega
     refine ⟨h,Nat.le_refl _,by omega,?_,hb,hi'⟩;rw [z2w (by omega) hb,List.getElem?_append_right (by omega),hl,hi'];simp
 intro h hh;exact key (64 - h) h (by omega)
def HGT (n i:Nat):Nat:=(HS 0 n).getD i 0
def z7J (n:Nat):Nat->Nat
 | 0=>0
 | i+1=>n / 2 ^ HGT n i*2 ^ HGT n i
theorem z28 {n i:Nat} (hn:n<2 ^ 64) (hi:i<PC n):(HS 0 n)[i]?=some (HGT n i)/\n / 2 ^ HGT n i % 2=1/\i=PC (n / 2 ^ (HGT n i+1)):=by
 obtain ⟨g,_,_,c,d,e⟩:=zen hn 0 (by omega) i (by rw [Nat.pow_zero,Nat.div_one];exact hi);have hg:HGT n i=g:=by unfold HGT;rw [List.getD_eq_getElem?_getD,c];rfl
 rw [hg];exact ⟨c,d,e⟩
def KGT (n i:Nat):Nat:=2*(n / 2 ^ (HGT n i+1))
theorem zeo {n i:Nat} (hn:n<2 ^ 64) (hi:i<PC n):(z17 n).getD i 0=PLC (HGT n i) (KGT n i):=by
 unfold z17;rw [List.getD_eq_getElem?_getD,List.getElem?_map,(z28 hn hi).1];rfl
theorem z71 {n i:Nat} (hn:n<=4611686018427387904) (hi:i<PC n):Node (HGT n i) (KGT n i):=Node.peak hn (z28 (by omega) hi).2.1
theorem z5u {n i:Nat} (hn:n<2 ^ 64) (hi:i<PC n):PC (n / 2 ^ HGT n i)=i+1:=by
 obtain ⟨_,h2,h3⟩:=z28 hn hi;rw [z0D,<-z0r];omega
theorem z72 {n i:Nat} (hn:n<2 ^ 64) (hi:i+1<PC n):HGT n (i+1)<HGT n i:=by
 have h1:=z5u hn (i:=i) (by omega);have h2:=(z28 hn hi).2.2;rcases Nat.lt_or_ge (HGT n (i+1)) (HGT n i) with h | h
 ·exact h
 ·have h3:=zaq n (a:=HGT n i+1) (b:=HGT n (i+1)+1) (by omega)
  have h4:=(z28 hn (i:=i) (by omega)).2.2;omega
theorem zbh {n i:Nat} (hn:n<2 ^ 64) (hi:i<PC n):KGT n i*2 ^ HGT n i=z7J n i:=by
 have hk:KGT n i*2 ^ HGT n i=n / 2 ^ (HGT n i+1)*2 ^ (HGT n i+1):=z18 _ _;have h2:=(z28 hn hi).2.2;cases i with
 | zero=>
   rw [hk,z3K h2.symm,Nat.zero_mul];rfl
 | succ i=>
   have h1:=z5u hn (i:=i) (by omega);have h3:=z72 hn hi;rw [hk];exact z85 n (by omega) (by omega)
theorem zep {n i:Nat} (hn:n<2 ^ 64) (hi:i<PC n):(KGT n i+1)*2 ^ HGT n i=z7J n (i+1):=by
 have:=z4n (z28 hn hi).2.1;show (2*(n / 2 ^ (HGT n i+1))+1)*2 ^ HGT n i=n / 2 ^ HGT n i*2 ^ HGT n i;rw [<-this]
theorem zcB {n:Nat} (hn:n<2 ^ 64):z7J n (PC n)=n:=by
 cases h:PC n with
 | zero=>
   rw [z3K h];rfl
 | succ i=>
   have h1:=z5u hn (i:=i) (by omega);have h2:=z85 n (a:=0) (b:=HGT n i) (by omega) (by rw [Nat.pow_zero,Nat.div_one];omega);rw [Nat.pow_zero,Nat.div_one,Nat.mul_one] at h2;exact h2.symm
def PKS (n j c:Nat):List (Nat × Nat):=(List.range' j c).map fun i=>(HGT n i,KGT n i)
theorem z86 (n j c:Nat):PKS n j (c+1)=(HGT n j,KGT n j) :: PKS n (j+1) c:=by simp [PKS,List.range'_succ]
theorem zhh {n c i:Nat} (h:i<c):(PKS n 0 c)[i]?=some (HGT n i,KGT n i):=by
 simp [PKS,h]
theorem zeq {n:Nat} (hn:n<=4611686018427387904):∀ c j,j+c=PC n->Tile (z7J n j) (PKS n j c) n/\Irr (PKS n j c):=by
 intro c;induction c with
 | zero=>
   intro j e;obtain rfl:j=PC n:=by omega
   exact ⟨zcB (by omega),trivial⟩
 | succ c ih=>
   intro j e;obtain ⟨i1,i2⟩:=ih (j+1) (by omega);rw [z86];refine ⟨⟨z71 hn (by omega),zbh (by omega) (by omega),?_⟩,?_,i2⟩
   ·show Tile ((KGT n j+1)*2 ^ HGT n j) _ n
    rw [zep (by omega) (by omega)];exact i1
   ·intro y hy ⟨h1,_,_⟩
    cases c with
    | zero=>simp [PKS] at hy
    | succ c=>
      rw [z86] at hy;simp at hy;subst hy;have:=z72 (n:=n) (i:=j) (by omega) (by omega);dsimp only at h1;omega
theorem z5K {n:Nat} (hn:n<=4611686018427387904):SPAN 0 n=PKS n 0 (PC n):=by
 obtain ⟨h1,h2⟩:=zeq hn (PC n) 0 (by omega);exact (zcA h1 h2).symm
theorem z2Z {n:Nat} (hn:n<=4611686018427387904):(SPAN 0 n).length=PC n:=by
 rw [z5K hn];simp [PKS]
theorem z4q {n i:Nat} (hn:n<=4611686018427387904) (hi:i<PC n):(SPAN 0 n)[i]?=some (HGT n i,KGT n i):=by
 rw [z5K hn];exact zhh hi
def PLCS (l:List (Nat × Nat)):List Nat:=l.map fun s=>PLC s.1 s.2
theorem z3n (l:List (Nat × Nat)):(PLCS l).length=l.length:=by simp [PLCS]
theorem z9l (l m:List (Nat × Nat)):PLCS (l ++ m)=PLCS l ++ PLCS m:=by simp [PLCS]
theorem zar {l:List (Nat × Nat)} {j h k:Nat} (e:l[j]?=some (h,k)):(PLCS l).getD j 0=PLC h k:=by
 simp [PLCS,List.getD,e]
theorem z53 {n:Nat} (hn:n<=4611686018427387904):z17 n=PLCS (SPAN 0 n):=by
 have hl:=z2X (n:=n) (by omega);apply List.ext_getElem?;intro j;by_cases hj:j<PC n
 ·have h1:=zeo (n:=n) (by omega) hj
  have h2:=z4q hn hj;rw [List.getD,List.getElem?_eq_getElem (by omega)] at h1;rw [List.getElem?_eq_getElem (by omega)];simp only [Option.getD_some] at h1;rw [h1];simp [PLCS,h2]
 ·rw [List.getElem?_eq_none (by omega),List.getElem?_eq_none (by rw [z3n,z2Z hn];omega)]
def WAYS (i H:Nat):List (Nat × Nat):=(List.range H).map fun h=>(h,SIB (i / 2 ^ h))
theorem z3e (i H:Nat):WAYS i (H+1)=WAYS i H ++ [(H,SIB (i / 2 ^ H))]:=by simp [WAYS,List.range_succ]
theorem z9m (i H:Nat):(WAYS i H).length=H:=by simp [WAYS]
theorem zcC (i H:Nat):WAY i H=PLCS (WAYS i H):=by simp [WAY,WAYS,PLCS]
theorem zcD {α β:Type} (f:α->β):∀ (l:List α) (k:Nat),(l.map f).eraseIdx k=(l.eraseIdx k).map f:=by
 intro l;induction l with
 | nil=>intro k;simp
 | cons a l ih=>
   intro k;cases k with
   | zero=>simp
   | succ k=>simp [ih]
theorem z5L {α:Type} (x:α):∀ (l:List α) (k:Nat),(l ++ [x]).eraseIdx k=if k=l.length then l.eraseIdx k else l.eraseIdx k ++ [x]:=by
 intro l;induction l with
 | nil=>
   intro k;cases k with
   | zero=>simp
   | succ k=>simp
 | cons a l ih=>
   intro k;cases k with
   | zero=>simp
   | succ k=>
     have:=ih k;rw [List.cons_append,List.eraseIdx_cons_succ,this,List.length_cons,List.eraseIdx_cons_succ];by_cases e:k=l.length
     ·rw [if_pos e,if_pos (by omega)]
     ·rw [if_neg e,if_neg (by omega)]
      rfl
def PSP (i n:Nat):List (Nat × Nat):=WAYS i (RISE i n) ++ (SPAN 0 n).eraseIdx (KTH i n)
theorem z5M {i n:Nat} (hn:n<=4611686018427387904):PLCS (PSP i n)=WAY i (RISE i n) ++ (z17 n).eraseIdx (KTH i n):=by
 unfold PSP;rw [z9l,zcC,z53 hn];unfold PLCS;rw [zcD]
theorem zbi {i n:Nat} (hi:i<n) (hn:n<=4611686018427387904):(PSP i n).length+1=RISE i n+PC n:=by
 have h1:=z2Y hi hn;have h2:=z2Z hn;unfold PSP;rw [List.length_append,z9m,List.length_eraseIdx,if_pos (by omega)];omega
theorem zgc {i n:Nat} (hi:i<n) (hn:n<=4611686018427387904):(PSP i n).length<=126:=by
 have h1:=zbi hi hn;have h2:=(z0R hi hn).2.1;have h3:=z1D 64 n (by omega);omega
def Off (s t:Nat × Nat):Prop:=(s.2+1)*2 ^ s.1<=t.2*2 ^ t.1\/(t.2+1)*2 ^ t.1<=s.2*2 ^ s.1
def SIZE (l:List (Nat × Nat)):Nat:=(l.map fun s=>2 ^ s.1).sum
theorem z9n (l m:List (Nat × Nat)):SIZE (l ++ m)=SIZE l+SIZE m:=by simp [SIZE]
theorem zcE (l:List (Nat × Nat)) (s:Nat × Nat):SIZE (l ++ [s])=SIZE l+2 ^ s.1:=by simp [SIZE]
theorem z5v (k h:Nat):(k+1)*2 ^ h=k*2 ^ h+2 ^ h:=by rw [Nat.add_mul,Nat.one_mul]
theorem Tile.size {l:List (Nat × Nat)}:∀ {a b:Nat},Tile a l b->a+SIZE l=b:=by
 induction l with
 | nil=>intro a b h;have:a=b:=h;simp [SIZE,this]
 | cons s l ih=>
   intro a b ⟨h1,h2,h3⟩;have:=ih h3;rw [z5v,h2] at this;simp only [SIZE,List.map_cons,List.sum_cons] at this ⊢;omega
theorem Tile.within {l:List (Nat × Nat)}:∀ {a b:Nat},Tile a l b->∀ s∈l,a<=s.2*2 ^ s.1/\(s.2+1)*2 ^ s.1<=b/\Node s.1 s.2:=by
 induction l with
 | nil=>intro a b _ s hs;simp at hs
 | cons t l ih=>
   intro a b ⟨h1,h2,h3⟩ s hs;rcases List.mem_cons.1 hs with rfl | hs
   ·exact ⟨by omega,h3.bound.1,h1⟩
   ·have:=ih h3 s hs
    have h4:=z5v t.2 t.1;have h5:=Nat.two_pow_pos t.1;exact ⟨by omega,this.2⟩
theorem Tile.off {l:List (Nat × Nat)}:∀ {a b:Nat},Tile a l b->l.Pairwise Off:=by
 induction l with
 | nil=>intro a b _;exact List.Pairwise.nil
 | cons t l ih=>
   intro a b ⟨h1,h2,h3⟩;refine List.Pairwise.cons (fun s hs=>?_) (ih h3);exact .inl (h3.within s hs).1
theorem z73 (i H:Nat):i / 2 ^ H*2 ^ H<=i/\i<(i / 2 ^ H+1)*2 ^ H:=by
 have h1:=Nat.div_add_mod i (2 ^ H);have h2:=Nat.mod_lt i (Nat.two_pow_pos H);rw [Nat.mul_comm] at h1;rw [z5v];omega
theorem z3L (k h:Nat):(SIB k % 2≠k % 2)/\k / 2*2 ^ (h+1)<=SIB k*2 ^ h/\(SIB k+1)*2 ^ h<=(k / 2+1)*2 ^ (h+1)/\k / 2*2 ^ (h+1)<=k*2 ^ h/\(k+1)*2 ^ h<=(k / 2+1)*2 ^ (h+1)/\((SIB k+1)*2 ^ h<=k*2 ^ h\/(k+1)*2 ^ h<=SIB k*2 ^ h):=by
 have e:=z5J h;have up:∀ m,m*2 ^ (h+1)=(2*m)*2 ^ h:=fun m=>by rw [e,Nat.mul_comm 2 m,Nat.mul_assoc]
 rw [up,up];have mono:∀ {a b:Nat},a<=b->a*2 ^ h<=b*2 ^ h:=fun hab=>Nat.mul_le_mul_right _ hab;unfold SIB;split
 ·exact ⟨by omega,mono (by omega),mono (by omega),mono (by omega),mono (by omega),.inl (mono (by omega))⟩
 ·exact ⟨by omega,mono (by omega),mono (by omega),mono (by omega),mono (by omega),.inr (mono (by omega))⟩
theorem z3o (i:Nat):∀ H,∀ s∈WAYS i H,i / 2 ^ H*2 ^ H<=s.2*2 ^ s.1/\(s.2+1)*2 ^ s.1<=(i / 2 ^ H+1)*2 ^ H:=by
 intro H;induction H with
 | zero=>intro s hs;simp [WAYS] at hs
 | succ H ih=>
   intro s hs;rw [z3e,List.mem_append,List.mem_singleton] at hs;have h1:=z3L (i / 2 ^ H) H;rw [z0r];rcases hs with hs | rfl
   ·have:=ih s hs
    omega
   ·exact ⟨h1.2.1,h1.2.2.1⟩
theorem zer (i:Nat):∀ H,(WAYS i H).Pairwise Off:=by
 intro H;induction H with
 | zero=>simp [WAYS]
 | succ H ih=>
   rw [z3e,List.pairwise_append];refine ⟨ih,by simp,fun s hs t ht=>?_⟩;rw [List.mem_singleton] at ht;subst ht;have h1:=(z3L (i / 2 ^ H) H).2.2.2.2.2;have h2:=z3o i H s hs;unfold Off;dsimp only;omega
theorem zcF (i:Nat):∀ H,SIZE (WAYS i H)+1=2 ^ H:=by
 intro H;induction H with
 | zero=>simp [WAYS,SIZE]
 | succ H ih=>
   rw [z3e,zcE,z5J];dsimp only;omega
theorem zcG (i:Nat):∀ H,∀ s∈WAYS i H,¬ (s.2*2 ^ s.1<=i/\i<(s.2+1)*2 ^ s.1):=by
 intro H;induction H with
 | zero=>intro s hs;simp [WAYS] at hs
 | succ H ih=>
   intro s hs;rw [z3e,List.mem_append,List.mem_singleton] at hs;rcases hs with hs | rfl
   ·exact ih s hs
   ·have h1:=(z3L (i / 2 ^ H) H).2.2.2.2.2
    have h2:=z73 i H;dsimp only;omega
theorem zcH {i:Nat} (hi:i<4611686018427387904):∀ H,H<=62->∀ s∈WAYS i H,Node s.1 s.2:=by
 intro H hH s hs;simp only [WAYS,List.mem_map,List.mem_range] at hs;obtain ⟨h,hh,rfl⟩:=hs;exact (Node.over hi h (by omega)).sib (by omega)
theorem z6D {h k n:Nat} (hn:(k+1)*2 ^ h<=n):PLC h k<z02 n:=by
 have h1:=z3G hn;have h2:=z0A ((k+1)*2 ^ h);rw [z2f] at h2;have h3:=z1F h k;have h4:=zag k;have h5:2 ^ (h+1)*(k+1)=2*((k+1)*2 ^ h):=by rw [z5J,Nat.mul_assoc,Nat.mul_comm (2 ^ h)]
 omega
theorem zes {i n:Nat} (hi:i<n) (hn:n<=4611686018427387904):(SPAN 0 n)[KTH i n]?=some (RISE i n,i / 2 ^ RISE i n)/\(z17 n).getD (KTH i n) 0=PLC (RISE i n) (i / 2 ^ RISE i n):=by
 have h1:=z82 hi hn;have h2:=z2Y hi hn;have h3:=z4q hn h2;have h4:HGT n (KTH i n)=RISE i n:=by simp [HGT,List.getD,h1]
 have h5:KGT n (KTH i n)=i / 2 ^ RISE i n:=by
  unfold KGT;rw [h4];exact (z0R hi hn).2.2.2.2.symm
 rw [h4,h5] at h3;refine ⟨h3,?_⟩;rw [z53 hn];exact zar h3
theorem Pairwise.at_lt {α:Type} {R:α->α->Prop} {l:List α} (h:l.Pairwise R) {a b:Nat} {x y:α} (hab:a<b) (ha:l[a]?=some x) (hb:l[b]?=some y):R x y:=by
 obtain ⟨h1,rfl⟩:=List.getElem?_eq_some_iff.1 ha;obtain ⟨h2,rfl⟩:=List.getElem?_eq_some_iff.1 hb;exact (List.pairwise_iff_getElem.1 h) a b h1 h2 hab
theorem zcI {α:Type} {l:List α} {k:Nat} {x:α} (h:x∈l.eraseIdx k):∃ j,j≠k/\l[j]?=some x:=by
 obtain ⟨j,hj⟩:=List.mem_iff_getElem?.1 h;rw [List.getElem?_eraseIdx] at hj;split at hj
 ·exact ⟨j,by omega,hj⟩
 ·exact ⟨j+1,by omega,hj⟩
theorem zet {s t:Nat × Nat} (h:Off s t):Off t s:=h.elim .inr .inl
theorem zbj:∀ (l:List (Nat × Nat)) (k:Nat) (s:Nat × Nat),l[k]?=some s->SIZE (l.eraseIdx k)+2 ^ s.1=SIZE l:=by
 intro l;induction l with
 | nil=>intro k s h;simp at h
 | cons a l ih=>
   intro k s h;cases k with
   | zero=>
     simp at h;subst h;simp [SIZE];omega
   | succ k=>
     have:=ih k s (by simpa using h);simp only [SIZE,List.eraseIdx_cons_succ,List.map_cons,List.sum_cons] at this ⊢;omega
theorem zeu {i n:Nat} (hi:i<n) (hn:n<=4611686018427387904):
  (∀ s∈PSP i n,Node s.1 s.2/\PLC s.1 s.2<z02 n/\¬ (s.2*2 ^ s.1<=i/\i<(s.2+1)*2 ^ s.1))/\(PSP i n).Pairwise Off/\SIZE (PSP i n)+1=n:=by
 obtain ⟨hK,_⟩:=zes hi hn;have h62:=(z0R hi hn).2.1;have hT:=zcz hn (Nat.zero_le n);have hp:=z73 i (RISE i n);have hin:=hT.within _ (List.mem_of_getElem? hK);dsimp only at hin;have hoff:=hT.off
 have hother:∀ s∈(SPAN 0 n).eraseIdx (KTH i n),Off s (RISE i n,i / 2 ^ RISE i n):=by
  intro s hs;obtain ⟨j,hj,e⟩:=zcI hs;rcases Nat.lt_or_ge j (KTH i n) with h | h
  ·exact Pairwise.at_lt hoff h e hK
  ·exact zet (Pairwise.at_lt hoff (by omega:KTH i n<j) hK e)
 refine ⟨fun s hs=>?_,?_,?_⟩
 ·unfold PSP at hs
  rcases List.mem_append.1 hs with hs | hs
  ·have h1:=z3o i _ s hs
   exact ⟨zcH (by omega) _ h62 s hs,z6D (by omega),zcG i _ s hs⟩
  ·have h1:=hT.within s (List.mem_of_mem_eraseIdx hs)
   have h2:=hother s hs;unfold Off at h2;dsimp only at h2;exact ⟨h1.2.2,z6D h1.2.1,by omega⟩
 ·unfold PSP
  rw [List.pairwise_append];refine ⟨zer i _,hoff.sublist (List.eraseIdx_sublist _ _),fun s hs t ht=>?_⟩;have h1:=z3o i _ s hs;have h2:=hother t ht;unfold Off at h2 ⊢;dsimp only at h2;omega
 ·unfold PSP
  rw [z9n];have h1:=zcF i (RISE i n);have h2:=zbj _ _ _ hK;have h3:=hT.size;dsimp only at h2;omega
end Go.Proofs.YtlbcnaenhghieaaGreatDoor
namespace Go.Proofs.YtlbcnaenhghieaaGreatDoor
open Go.RowKit
theorem zcJ {h:Nat} (hh:h<=63):MASK ((h:Int)+1)=TREE h:=by
 unfold MASK TREE;rw [show min ((h:Int)+1).toNat 64=h+1 by omega]
theorem zev (h r:Int) (w:World) (e:wrap64 (h+1)=h+1) (c:∀ w,Calls Tryz.prog 90 #[.int .i64 (h+1)] w fun e w'=>e=.returned (.int .u64 r)/\w=w'):
  Calls Tryz.prog 67 #[.int .i64 h] w fun e w'=>e=.returned (.int .u64 r)/\w=w':=by
 go_enter Tryz.func67,Tryz.ntmps67;go_wp2_with fail
 refine (c _).mono ?_;rintro e w' ⟨rfl,rfl⟩;go_wp2;go_ret;exact ⟨rfl,rfl⟩
theorem z2O (h:Nat) (hh:h<=63) (w:World):Calls Tryz.prog 67 #[.int .i64 (h:Int)] w fun e w'=>e=.returned (.int .u64 ((TREE h:Nat):Int))/\w=w':=by
 refine zev h _ w (by unfold wrap64;omega) (fun w=>?_);rw [<-zcJ hh];exact zg0 ((h:Int)+1) (by omega) w
theorem zcK (n c r:Int) (w:World) (e:IntKind.u64.wrap (IntKind.u64.wrap (n*2) - IntKind.u64.wrap c)=r) (k:∀ w,Calls Tryz.prog 64 #[.int .u64 n] w fun e w'=>e=.returned (.int .i64 c)/\w=w'):
  Calls Tryz.prog 45 #[.int .u64 n] w fun e w'=>e=.returned (.int .u64 r)/\w=w':=by
 go_enter Tryz.func45,Tryz.ntmps45;go_wp2_with fail
 refine (k _).mono ?_;rintro e w' ⟨rfl,rfl⟩;go_wp2;go_ret;exact ⟨rfl,rfl⟩
theorem z87 (n:Nat) (hn:n<2 ^ 63) (w:World):Calls Tryz.prog 45 #[.int .u64 (n:Int)] w fun e w'=>e=.returned (.int .u64 ((z02 n:Nat):Int))/\w=w':=by
 refine zcK n (POP n:Nat) _ w ?_ (fun w=>z6A n (by omega) w);rw [z7T (by omega),z0b,z0b,z0b];have:=z0A n;have:=zfT n;omega
theorem zew (n r:Int) (w:World) (h':¬ 4611686018427387904<=n) (c:∀ w,Calls Tryz.prog 45 #[.int .u64 n] w fun e w'=>e=.returned (.int .u64 r)/\w=w'):
  Calls Tryz.prog 20 #[.int .u64 n] w fun e w'=>e=.returned (.tuple #[.int .u64 r,.bool true])/\w=w':=by
 go_enter Tryz.func20,Tryz.ntmps20;go_wp2_with fail
 refine (c _).mono ?_;rintro e w' ⟨rfl,rfl⟩;go_wp2;go_ret2;exact ⟨rfl,rfl⟩
theorem leaf_ok (n:Nat) (hn:n<4611686018427387904) (w:World):Calls Tryz.prog 20 #[.int .u64 (n:Int)] w fun e w'=>e=.returned (.tuple #[.int .u64 ((z02 n:Nat):Int),.bool true])/\w=w':=
 zew n _ w (by omega) (fun w=>z87 n (by omega) w)
theorem zbk (p h:Int) (w:World):Calls Tryz.prog 98 #[.int .u64 p,.int .i64 h,.bool true] w fun e w'=>e=.returned (.int .u64 (IntKind.u64.wrap (p+1)))/\w=w':=by
 go_enter Tryz.func98,Tryz.ntmps98;go_wp2;go_ret;exact ⟨rfl,rfl⟩
theorem zcL (p h t:Int) (w:World) (c:∀ w,Calls Tryz.prog 67 #[.int .i64 h] w fun e w'=>e=.returned (.int .u64 t)/\w=w'):
  Calls Tryz.prog 98 #[.int .u64 p,.int .i64 h,.bool false] w fun e w'=>e=.returned (.int .u64 (IntKind.u64.wrap (IntKind.u64.wrap (p+t)+1)))/\w=w':=by
 go_enter Tryz.func98,Tryz.ntmps98;go_wp2_with fail
 refine (c _).mono ?_;rintro e w' ⟨rfl,rfl⟩;go_wp2;go_ret;exact ⟨rfl,rfl⟩
theorem z88 (p h t:Int) (w:World) (c:∀ w,Calls Tryz.prog 67 #[.int .i64 h] w fun e w'=>e=.returned (.int .u64 t)/\w=w'):
  Calls Tryz.prog 72 #[.int .u64 p,.int .i64 h,.bool true] w fun e w'=>e=.returned (.int .u64 (IntKind.u64.wrap (p - t)))/\w=w':=by
 go_enter Tryz.func72,Tryz.ntmps72;go_wp2_with fail
 refine (c _).mono ?_;rintro e w' ⟨rfl,rfl⟩;go_wp2;go_ret;exact ⟨rfl,rfl⟩
theorem z9o (p h t:Int) (w:World) (c:∀ w,Calls Tryz.prog 67 #[.int .i64 h] w fun e w'=>e=.returned (.int .u64 t)/\w=w'):
  Calls Tryz.prog 72 #[.int .u64 p,.int .i64 h,.bool false] w fun e w'=>e=.returned (.int .u64 (IntKind.u64.wrap (p+t)))/\w=w':=by
 go_enter Tryz.func72,Tryz.ntmps72;go_wp2_with fail
 refine (c _).mono ?_;rintro e w' ⟨rfl,rfl⟩;go_wp2;go_ret;exact ⟨rfl,rfl⟩
end Go.Proofs.YtlbcnaenhghieaaGreatDoor
