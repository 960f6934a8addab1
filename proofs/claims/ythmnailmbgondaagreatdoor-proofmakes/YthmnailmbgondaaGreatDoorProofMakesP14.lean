/- ProofMakes: part 14. -/
import Derived.Test.YthmnailmbgondaaGreatDoorProofMakesP1
namespace Go.Proofs.YthmnailmbgondaaGreatDoor
def PCF:Nat->Nat->Nat
 | 0,_=>0
 | f+1,n=>n % 2+PCF f (n / 2)
def PC (n:Nat):Nat:=PCF n n
theorem z39:∀ f,PCF f 0=0
 | 0=>rfl
 | f+1=>by
   show 0 % 2+PCF f (0 / 2)=0;rw [show 0 / 2=0 from rfl,z39 f]
theorem z5C:∀ f g n,n<=f->n<=g->PCF f n=PCF g n
 | 0,g,n,h,_=>by
   have h0:n=0:=by omega
   subst h0;rw [z39,z39]
 | f+1,0,n,_,h=>by
   have h0:n=0:=by omega
   subst h0;rw [z39,z39]
 | f+1,g+1,n,h1,h2=>by
   show n % 2+PCF f (n / 2)=n % 2+PCF g (n / 2);rw [z5C f g (n / 2) (by omega) (by omega)]
theorem z1a:PC 0=0:=rfl
theorem z0E (n:Nat):PC n=n % 2+PC (n / 2):=by
 show PCF n n=n % 2+PCF (n / 2) (n / 2);rw [z5C n (n+1) n (Nat.le_refl n) (Nat.le_succ n)];show n % 2+PCF n (n / 2)=n % 2+PCF (n / 2) (n / 2);rw [z5C n (n / 2) (n / 2) (by omega) (Nat.le_refl _)]
theorem z54 (m:Nat):PC (2*m)=PC m:=by
 rw [z0E,show 2*m % 2=0 by omega,show 2*m / 2=m by omega,Nat.zero_add]
theorem z3G (m:Nat):PC (2*m+1)=PC m+1:=by
 rw [z0E,show (2*m+1) % 2=1 by omega,show (2*m+1) / 2=m by omega,Nat.add_comm]
theorem zcN:PC 1=1:=by rw [show (1:Nat)=2*0+1 from rfl,z3G,z1a]
theorem zfJ (n:Nat):PC n<=n:=by
 induction n using Nat.strongRecOn with
 | _ n ih=>
   by_cases h:n=0
   ·subst h
    rw [z1a];omega
   ·have:=ih (n / 2) (by omega)
    rw [z0E];omega
theorem z4G (h:Nat):∀ k r,r<2 ^ h->PC (k*2 ^ h+r)=PC k+PC r:=by
 induction h with
 | zero=>
   intro k r hr;have:r=0:=by simpa using hr
   subst this;rw [z1a];simp
 | succ h ih=>
   intro k r hr;rw [Nat.pow_succ] at hr
   have e:k*2 ^ (h+1)+r=2*(k*2 ^ h+r / 2)+r % 2:=by
    rw [Nat.pow_succ,<-Nat.mul_assoc];omega
   have hr2:r / 2<2 ^ h:=by omega
   rcases Nat.mod_two_eq_zero_or_one r with h0 | h0
   ·rw [e,h0,Nat.add_zero,z54,ih _ _ hr2,z0E r,h0]
    omega
   ·rw [e,h0,z3G,ih _ _ hr2,z0E r,h0]
    omega
theorem z2r (h k:Nat):PC (k*2 ^ h)=PC k:=by
 have:=z4G h k 0 (Nat.two_pow_pos h);rw [z1a] at this;exact this
theorem zh8 (h:Nat):PC (2 ^ h)=1:=by
 have:=z2r h 1;rw [Nat.one_mul,zcN] at this;exact this
theorem z6U:∀ h,PC (2 ^ h - 1)=h
 | 0=>z1a
 | h+1=>by
   have hp:=Nat.two_pow_pos h;rw [show 2 ^ (h+1) - 1=2*(2 ^ h - 1)+1 by rw [Nat.pow_succ];omega,z3G,z6U h]
theorem zat (n:Nat):PC (n+1)<=PC n+1:=by
 induction n using Nat.strongRecOn with
 | _ n ih=>
   rcases Nat.mod_two_eq_zero_or_one n with h | h
   ·rw [z0E (n+1),z0E n,show (n+1) / 2=n / 2 by omega]
    omega
   ·have:=ih (n / 2) (by omega)
    rw [z0E (n+1),z0E n,show (n+1) / 2=n / 2+1 by omega];omega
theorem z19 (h:Nat):∀ n,n<2 ^ h->PC n<=h:=by
 induction h with
 | zero=>
   intro n hn;have:n=0:=by simpa using hn
   subst this;rw [z1a];omega
 | succ h ih=>
   intro n hn;rw [Nat.pow_succ] at hn;have:=ih (n / 2) (by omega);rw [z0E];omega
theorem zau:∀ k X,X<2 ^ k->DSUM 1 k X=PC X
 | 0,X,h=>by
   have:X=0:=by simpa using h
   subst this;rw [z1a];rfl
 | k+1,X,h=>by
   rw [Nat.pow_succ] at h;rw [z0E,<-zau k (X / 2) (by omega)];simp [DSUM]
theorem z8l {X:Nat} (h:X<2 ^ 64):POP X=PC X:=zau 64 X h
def z01 (n:Nat):Nat:=2*n - PC n
theorem z0C (n:Nat):z01 n+PC n=2*n:=by
 have:=zfJ n;unfold z01;omega
theorem z41 (n:Nat):z01 n=n+z01 (n / 2):=by
 have h1:=z0C n;have h2:=z0C (n / 2);rw [z0E] at h1;omega
theorem z2h:z01 0=0:=by unfold z01;rw [z1a]
theorem zes {n m:Nat} (h:n<m):z01 n<z01 m:=by
 induction m with
 | zero=>omega
 | succ m ih=>
   have h1:=z0C m;have h2:=z0C (m+1);have h3:=zat m;rcases Nat.lt_or_ge n m with h4 | h4
   ·have:=ih h4
    omega
   ·obtain rfl:n=m:=by omega
    omega
theorem z42 {n m:Nat} (h:n<=m):z01 n<=z01 m:=by
 rcases Nat.lt_or_ge n m with h1 | h1
 ·exact Nat.le_of_lt (zes h1)
 ·obtain rfl:n=m:=by omega
  exact Nat.le_refl _
theorem zet (n:Nat):n<=z01 n:=by
 rw [z41];omega
theorem z2w {n h:Nat} (hn:n<2 ^ h):z01 n<2 ^ (h+1):=by
 have:=z0C n;rw [Nat.pow_succ];omega
def TREE (h:Nat):Nat:=2 ^ (h+1) - 1
def PLC (h k:Nat):Nat:=z01 (k*2 ^ h)+(2 ^ (h+1) - 2)
theorem z1N (h:Nat):2<=2 ^ (h+1):=by
 have:=Nat.two_pow_pos h;rw [Nat.pow_succ];omega
theorem z1O (h k:Nat):PLC h k+2+PC k=2 ^ (h+1)*(k+1):=by
 have h1:=z0C (k*2 ^ h);have h2:=z1N h;rw [z2r] at h1;unfold PLC;rw [Nat.mul_add,Nat.mul_one,show 2 ^ (h+1)*k=2*(k*2 ^ h) by rw [Nat.pow_succ,Nat.mul_comm (2 ^ h) 2,Nat.mul_assoc,Nat.mul_comm k]];omega
theorem z5D (k:Nat):PLC 0 k=z01 k:=by
 unfold PLC;simp
theorem z55 (h k:Nat):1<=(k+1)*2 ^ h:=Nat.mul_pos (by omega) (Nat.two_pow_pos h)
theorem z43 (h k:Nat):z01 ((k+1)*2 ^ h - 1)+h=PLC h k:=by
 have hp:=Nat.two_pow_pos h
 have e:(k+1)*2 ^ h - 1=k*2 ^ h+(2 ^ h - 1):=by
  rw [Nat.add_mul,Nat.one_mul];omega
 have h1:=z0C (k*2 ^ h+(2 ^ h - 1));rw [z4G h k _ (by omega),z6U] at h1;have h2:=z1O h k;rw [e];rw [Nat.mul_add,Nat.mul_one,show 2 ^ (h+1)*k=2*(k*2 ^ h) by rw [Nat.pow_succ,Nat.mul_comm (2 ^ h) 2,Nat.mul_assoc,Nat.mul_comm k],Nat.pow_succ] at h2;omega
theorem z5e (h m:Nat):PLC (h+1) m=PLC h (2*m)+2 ^ (h+1):=by
 have h1:=z1O (h+1) m;have h2:=z1O h (2*m);rw [z54] at h2
 have e:2 ^ (h+1+1)*(m+1)=2 ^ (h+1)*(2*m+1)+2 ^ (h+1):=by
  rw [Nat.pow_succ 2 (h+1)];generalize 2 ^ (h+1)=x;rw [Nat.mul_assoc,<-Nat.mul_succ];congr 1
 omega
theorem z3a (h m:Nat):PLC (h+1) m=PLC h (2*m+1)+1:=by
 have h1:=z1O (h+1) m;have h2:=z1O h (2*m+1);rw [z3G] at h2
 have e:2 ^ (h+1+1)*(m+1)=2 ^ (h+1)*(2*m+1+1):=by
  rw [Nat.pow_succ 2 (h+1)];generalize 2 ^ (h+1)=x;rw [Nat.mul_assoc];congr 1
 omega
theorem z6V (h m:Nat):PLC h (2*m+1)=PLC h (2*m)+TREE h:=by
 have h1:=z5e h m;have h2:=z3a h m;have h3:=z1N h;unfold TREE;omega
theorem z8m {h H k:Nat} (hh:h<=H) (hk:k<2 ^ (H - h)):PLC h (2 ^ (H - h)+k)=TREE H+PLC h k:=by
 have h1:=z1O h (2 ^ (H - h)+k);have h2:=z1O h k;have h3:=z4G (H - h) 1 k hk;rw [Nat.one_mul,zcN] at h3
 have e:2 ^ (h+1)*(2 ^ (H - h)+k+1)=2 ^ (H+1)+2 ^ (h+1)*(k+1):=by
  rw [Nat.add_assoc,Nat.mul_add,<-Nat.pow_add,show h+1+(H - h)=H+1 by omega]
 have h4:=z1N H;unfold TREE;omega
theorem z8n {h H k:Nat} (hh:h<=H) (hk:k<2 ^ (H - h)):PLC h k+2<=2 ^ (H+1):=by
 have h1:=z1O h k;have e:2 ^ (h+1)*(k+1)<=2 ^ (h+1)*2 ^ (H - h):=Nat.mul_le_mul_left _ hk;rw [<-Nat.pow_add,show h+1+(H - h)=H+1 by omega] at e;omega
theorem zg0 (H:Nat):∀ h k h' k',h<=H->k<2 ^ (H - h)->h'<=H->k'<2 ^ (H - h')->PLC h k=PLC h' k'->h=h'/\k=k':=by
 induction H with
 | zero=>
   intro h k h' k' a b c d _;obtain rfl:h=0:=by omega
   obtain rfl:h'=0:=by omega
   simp at b d;omega
 | succ H ih=>
   have top:∀ h k,h<=H+1->k<2 ^ (H+1 - h)->(h=H+1/\k=0/\PLC h k+2=2 ^ (H+2))\/(h<=H/\k<2 ^ (H - h)/\PLC h k+2<=2 ^ (H+1))\/(h<=H/\∃ q,k=2 ^ (H - h)+q/\q<2 ^ (H - h)/\PLC h k=TREE H+PLC h q/\PLC h q+2<=2 ^ (H+1)):=by
    intro h k a b;rcases Nat.lt_or_ge H h with h1 | h1
    ·obtain rfl:h=H+1:=by omega
     have hk:k=0:=by simpa using b
     subst hk;have:=z1O (H+1) 0;rw [z1a] at this;exact .inl ⟨rfl,rfl,by simpa using this⟩
    ·rcases Nat.lt_or_ge k (2 ^ (H - h)) with h2 | h2
     ·exact .inr (.inl ⟨h1,h2,z8n h1 h2⟩)
     ·have hq:k - 2 ^ (H - h)<2 ^ (H - h):=by
       rw [show H+1 - h=H - h+1 by omega,Nat.pow_succ] at b;omega
      refine .inr (.inr ⟨h1,k - 2 ^ (H - h),by omega,hq,?_,z8n h1 hq⟩);have:=z8m h1 hq;rw [show 2 ^ (H - h)+(k - 2 ^ (H - h))=k by omega] at this;exact this
   have hp:=z1N H;have hpp:2 ^ (H+2)=2*2 ^ (H+1):=by rw [Nat.pow_succ 2 (H+1),Nat.mul_comm]
   intro h k h' k' a b c d e;unfold TREE at top;rcases top h k a b with ⟨r1,r2,r3⟩ | ⟨r1,r2,r3⟩ | ⟨r1,q,r2,r3,r4,r5⟩ <;> rcases top h' k' c d with ⟨s1,s2,s3⟩ | ⟨s1,s2,s3⟩ | ⟨s1,q',s2,s3,s4,s5⟩
   ·omega
   ·omega
   ·omega
   ·omega
   ·exact ih h k h' k' r1 r2 s1 s2 e
   ·omega
   ·omega
   ·omega
   ·obtain ⟨rfl,rfl⟩:=ih h q h' q' r1 r3 s1 s3 (by omega)
    exact ⟨rfl,by omega⟩
theorem zg1 (H:Nat):∀ p,p+2<=2 ^ (H+1)->∃ h k,h<=H/\k<2 ^ (H - h)/\p=PLC h k:=by
 induction H with
 | zero=>
   intro p hp;have:p=0:=by simpa using hp
   subst this;exact ⟨0,0,by omega,by simp,by rw [z5D,z2h]⟩
 | succ H ih=>
   intro p hp;have hpp:2 ^ (H+2)=2*2 ^ (H+1):=by rw [Nat.pow_succ 2 (H+1),Nat.mul_comm]
   have h2:=z1N H;by_cases h1:p+2=2 ^ (H+2)
   ·refine ⟨H+1,0,Nat.le_refl _,by simp,?_⟩
    have:=z1O (H+1) 0;rw [z1a] at this;simp only [Nat.zero_add,Nat.mul_one,Nat.add_zero] at this;omega
   ·by_cases h3:p+2<=2 ^ (H+1)
    ·obtain ⟨h,k,a,b,c⟩:=ih p h3
     exact ⟨h,k,by omega,Nat.lt_of_lt_of_le b (Nat.pow_le_pow_right (by decide) (by omega)),c⟩
    ·obtain ⟨h,k,a,b,c⟩:=ih (p - TREE H) (by unfold TREE;rw [show H+1+1=H+2 from rfl] at hp;omega)
     refine ⟨h,2 ^ (H - h)+k,by omega,?_,?_⟩
     ·rw [show H+1 - h=H - h+1 by omega,Nat.pow_succ]
      omega
     ·rw [z8m a b,<-c]
      unfold TREE;omega
def Node (h k:Nat):Prop:=h<=62/\k<2 ^ (62 - h)
theorem Node.one {h k h' k':Nat} (a:Node h k) (b:Node h' k') (e:PLC h k=PLC h' k'):h=h'/\k=k':=zg0 62 h k h' k' a.1 a.2 b.1 b.2 e
theorem Node.lt {h k:Nat} (a:Node h k):PLC h k<9223372036854775807:=by
 have:=z8n a.1 a.2;omega
theorem Node.of {p:Nat} (hp:p<9223372036854775807):∃ h k,Node h k/\p=PLC h k:=by
 obtain ⟨h,k,a,b,c⟩:=zg1 62 p (by omega);exact ⟨h,k,⟨a,b⟩,c⟩
theorem Node.index_lt {h k:Nat} (a:Node h k):k<2 ^ 62:=Nat.lt_of_lt_of_le a.2 (Nat.pow_le_pow_right (by decide) (by omega))
theorem Node.span {h k:Nat} (a:Node h k):(k+1)*2 ^ h<=2 ^ 62:=by
 have:(k+1)*2 ^ h<=2 ^ (62 - h)*2 ^ h:=Nat.mul_le_mul_right _ a.2;rw [<-Nat.pow_add,Nat.sub_add_cancel a.1] at this;exact this
theorem zbq:z01 4611686018427387904=9223372036854775807:=by
 have h:=z0C (2 ^ 62);rw [zh8] at h;have e:(4611686018427387904:Nat)=2 ^ 62:=by decide
 rw [e];omega
end Go.Proofs.YthmnailmbgondaaGreatDoor
