/- FindProves: part 2. -/
import Derived.Test.YtlbcnaenhghieaaGreatDoorFindProvesP1
namespace Go.Proofs.YtlbcnaenhghieaaGreatDoor
def PCF:Nat->Nat->Nat
 | 0,_=>0
 | f+1,n=>n % 2+PCF f (n / 2)
def PC (n:Nat):Nat:=PCF n n
theorem z2V:∀ f,PCF f 0=0
 | 0=>rfl
 | f+1=>by
   show 0 % 2+PCF f (0 / 2)=0;rw [show 0 / 2=0 from rfl,z2V f]
theorem z5p:∀ f g n,n<=f->n<=g->PCF f n=PCF g n
 | 0,g,n,h,_=>by
   have h0:n=0:=by omega
   subst h0;rw [z2V,z2V]
 | f+1,0,n,_,h=>by
   have h0:n=0:=by omega
   subst h0;rw [z2V,z2V]
 | f+1,g+1,n,h1,h2=>by
   show n % 2+PCF f (n / 2)=n % 2+PCF g (n / 2);rw [z5p f g (n / 2) (by omega) (by omega)]
theorem z1a:PC 0=0:=rfl
theorem z0D (n:Nat):PC n=n % 2+PC (n / 2):=by
 show PCF n n=n % 2+PCF (n / 2) (n / 2);rw [z5p n (n+1) n (Nat.le_refl n) (Nat.le_succ n)];show n % 2+PCF n (n / 2)=n % 2+PCF (n / 2) (n / 2);rw [z5p n (n / 2) (n / 2) (by omega) (Nat.le_refl _)]
theorem z4R (m:Nat):PC (2*m)=PC m:=by
 rw [z0D,show 2*m % 2=0 by omega,show 2*m / 2=m by omega,Nat.zero_add]
theorem z3u (m:Nat):PC (2*m+1)=PC m+1:=by
 rw [z0D,show (2*m+1) % 2=1 by omega,show (2*m+1) / 2=m by omega,Nat.add_comm]
theorem zcm:PC 1=1:=by rw [show (1:Nat)=2*0+1 from rfl,z3u,z1a]
theorem zfT (n:Nat):PC n<=n:=by
 induction n using Nat.strongRecOn with
 | _ n ih=>
   by_cases h:n=0
   ·subst h
    rw [z1a];omega
   ·have:=ih (n / 2) (by omega)
    rw [z0D];omega
theorem z4l (h:Nat):∀ k r,r<2 ^ h->PC (k*2 ^ h+r)=PC k+PC r:=by
 induction h with
 | zero=>
   intro k r hr;have:r=0:=by simpa using hr
   subst this;rw [z1a];simp
 | succ h ih=>
   intro k r hr;rw [Nat.pow_succ] at hr
   have e:k*2 ^ (h+1)+r=2*(k*2 ^ h+r / 2)+r % 2:=by
    rw [Nat.pow_succ,<-Nat.mul_assoc];omega
   have hr2:r / 2<2 ^ h:=by omega
   rcases Nat.mod_two_eq_zero_or_one r with h0 | h0
   ·rw [e,h0,Nat.add_zero,z4R,ih _ _ hr2,z0D r,h0]
    omega
   ·rw [e,h0,z3u,ih _ _ hr2,z0D r,h0]
    omega
theorem z2f (h k:Nat):PC (k*2 ^ h)=PC k:=by
 have:=z4l h k 0 (Nat.two_pow_pos h);rw [z1a] at this;exact this
theorem zhc (h:Nat):PC (2 ^ h)=1:=by
 have:=z2f h 1;rw [Nat.one_mul,zcm] at this;exact this
theorem z6x:∀ h,PC (2 ^ h - 1)=h
 | 0=>z1a
 | h+1=>by
   have hp:=Nat.two_pow_pos h;rw [show 2 ^ (h+1) - 1=2*(2 ^ h - 1)+1 by rw [Nat.pow_succ];omega,z3u,z6x h]
theorem zag (n:Nat):PC (n+1)<=PC n+1:=by
 induction n using Nat.strongRecOn with
 | _ n ih=>
   rcases Nat.mod_two_eq_zero_or_one n with h | h
   ·rw [z0D (n+1),z0D n,show (n+1) / 2=n / 2 by omega]
    omega
   ·have:=ih (n / 2) (by omega)
    rw [z0D (n+1),z0D n,show (n+1) / 2=n / 2+1 by omega];omega
theorem z1D (h:Nat):∀ n,n<2 ^ h->PC n<=h:=by
 induction h with
 | zero=>
   intro n hn;have:n=0:=by simpa using hn
   subst this;rw [z1a];omega
 | succ h ih=>
   intro n hn;rw [Nat.pow_succ] at hn;have:=ih (n / 2) (by omega);rw [z0D];omega
theorem zah:∀ k X,X<2 ^ k->DSUM 1 k X=PC X
 | 0,X,h=>by
   have:X=0:=by simpa using h
   subst this;rw [z1a];rfl
 | k+1,X,h=>by
   rw [Nat.pow_succ] at h;rw [z0D,<-zah k (X / 2) (by omega)];simp [DSUM]
theorem z7T {X:Nat} (h:X<2 ^ 64):POP X=PC X:=zah 64 X h
def z02 (n:Nat):Nat:=2*n - PC n
theorem z0A (n:Nat):z02 n+PC n=2*n:=by
 have:=zfT n;unfold z02;omega
theorem z3F (n:Nat):z02 n=n+z02 (n / 2):=by
 have h1:=z0A n;have h2:=z0A (n / 2);rw [z0D] at h1;omega
theorem z27:z02 0=0:=by unfold z02;rw [z1a]
theorem zed {n m:Nat} (h:n<m):z02 n<z02 m:=by
 induction m with
 | zero=>omega
 | succ m ih=>
   have h1:=z0A m;have h2:=z0A (m+1);have h3:=zag m;rcases Nat.lt_or_ge n m with h4 | h4
   ·have:=ih h4
    omega
   ·obtain rfl:n=m:=by omega
    omega
theorem z3G {n m:Nat} (h:n<=m):z02 n<=z02 m:=by
 rcases Nat.lt_or_ge n m with h1 | h1
 ·exact Nat.le_of_lt (zed h1)
 ·obtain rfl:n=m:=by omega
  exact Nat.le_refl _
theorem zee (n:Nat):n<=z02 n:=by
 rw [z3F];omega
theorem z2p {n h:Nat} (hn:n<2 ^ h):z02 n<2 ^ (h+1):=by
 have:=z0A n;rw [Nat.pow_succ];omega
def TREE (h:Nat):Nat:=2 ^ (h+1) - 1
def PLC (h k:Nat):Nat:=z02 (k*2 ^ h)+(2 ^ (h+1) - 2)
theorem z1E (h:Nat):2<=2 ^ (h+1):=by
 have:=Nat.two_pow_pos h;rw [Nat.pow_succ];omega
theorem z1F (h k:Nat):PLC h k+2+PC k=2 ^ (h+1)*(k+1):=by
 have h1:=z0A (k*2 ^ h);have h2:=z1E h;rw [z2f] at h1;unfold PLC;rw [Nat.mul_add,Nat.mul_one,show 2 ^ (h+1)*k=2*(k*2 ^ h) by rw [Nat.pow_succ,Nat.mul_comm (2 ^ h) 2,Nat.mul_assoc,Nat.mul_comm k]];omega
theorem z5q (k:Nat):PLC 0 k=z02 k:=by
 unfold PLC;simp
theorem z6y (h k:Nat):1<=(k+1)*2 ^ h:=Nat.mul_pos (by omega) (Nat.two_pow_pos h)
theorem z5r (h k:Nat):z02 ((k+1)*2 ^ h - 1)+h=PLC h k:=by
 have hp:=Nat.two_pow_pos h
 have e:(k+1)*2 ^ h - 1=k*2 ^ h+(2 ^ h - 1):=by
  rw [Nat.add_mul,Nat.one_mul];omega
 have h1:=z0A (k*2 ^ h+(2 ^ h - 1));rw [z4l h k _ (by omega),z6x] at h1;have h2:=z1F h k;rw [e];rw [Nat.mul_add,Nat.mul_one,show 2 ^ (h+1)*k=2*(k*2 ^ h) by rw [Nat.pow_succ,Nat.mul_comm (2 ^ h) 2,Nat.mul_assoc,Nat.mul_comm k],Nat.pow_succ] at h2;omega
theorem z51 (h m:Nat):PLC (h+1) m=PLC h (2*m)+2 ^ (h+1):=by
 have h1:=z1F (h+1) m;have h2:=z1F h (2*m);rw [z4R] at h2
 have e:2 ^ (h+1+1)*(m+1)=2 ^ (h+1)*(2*m+1)+2 ^ (h+1):=by
  rw [Nat.pow_succ 2 (h+1)];generalize 2 ^ (h+1)=x;rw [Nat.mul_assoc,<-Nat.mul_succ];congr 1
 omega
theorem z2W (h m:Nat):PLC (h+1) m=PLC h (2*m+1)+1:=by
 have h1:=z1F (h+1) m;have h2:=z1F h (2*m+1);rw [z3u] at h2
 have e:2 ^ (h+1+1)*(m+1)=2 ^ (h+1)*(2*m+1+1):=by
  rw [Nat.pow_succ 2 (h+1)];generalize 2 ^ (h+1)=x;rw [Nat.mul_assoc];congr 1
 omega
theorem z6z (h m:Nat):PLC h (2*m+1)=PLC h (2*m)+TREE h:=by
 have h1:=z51 h m;have h2:=z2W h m;have h3:=z1E h;unfold TREE;omega
theorem z7U {h H k:Nat} (hh:h<=H) (hk:k<2 ^ (H - h)):PLC h (2 ^ (H - h)+k)=TREE H+PLC h k:=by
 have h1:=z1F h (2 ^ (H - h)+k);have h2:=z1F h k;have h3:=z4l (H - h) 1 k hk;rw [Nat.one_mul,zcm] at h3
 have e:2 ^ (h+1)*(2 ^ (H - h)+k+1)=2 ^ (H+1)+2 ^ (h+1)*(k+1):=by
  rw [Nat.add_assoc,Nat.mul_add,<-Nat.pow_add,show h+1+(H - h)=H+1 by omega]
 have h4:=z1E H;unfold TREE;omega
theorem z7V {h H k:Nat} (hh:h<=H) (hk:k<2 ^ (H - h)):PLC h k+2<=2 ^ (H+1):=by
 have h1:=z1F h k;have e:2 ^ (h+1)*(k+1)<=2 ^ (h+1)*2 ^ (H - h):=Nat.mul_le_mul_left _ hk;rw [<-Nat.pow_add,show h+1+(H - h)=H+1 by omega] at e;omega
theorem zg2 (H:Nat):∀ h k h' k',h<=H->k<2 ^ (H - h)->h'<=H->k'<2 ^ (H - h')->PLC h k=PLC h' k'->h=h'/\k=k':=by
 induction H with
 | zero=>
   intro h k h' k' a b c d _;obtain rfl:h=0:=by omega
   obtain rfl:h'=0:=by omega
   simp at b d;omega
 | succ H ih=>
   have top:∀ h k,h<=H+1->k<2 ^ (H+1 - h)->(h=H+1/\k=0/\PLC h k+2=2 ^ (H+2))\/(h<=H/\k<2 ^ (H - h)/\PLC h k+2<=2 ^ (H+1))\/(h<=H/\∃ q,k=2 ^ (H - h)+q/\q<2 ^ (H - h)/\PLC h k=TREE H+PLC h q/\PLC h q+2<=2 ^ (H+1)):=by
    intro h k a b;rcases Nat.lt_or_ge H h with h1 | h1
    ·obtain rfl:h=H+1:=by omega
     have hk:k=0:=by simpa using b
     subst hk;have:=z1F (H+1) 0;rw [z1a] at this;exact .inl ⟨rfl,rfl,by simpa using this⟩
    ·rcases Nat.lt_or_ge k (2 ^ (H - h)) with h2 | h2
     ·exact .inr (.inl ⟨h1,h2,z7V h1 h2⟩)
     ·have hq:k - 2 ^ (H - h)<2 ^ (H - h):=by
       rw [show H+1 - h=H - h+1 by omega,Nat.pow_succ] at b;omega
      refine .inr (.inr ⟨h1,k - 2 ^ (H - h),by omega,hq,?_,z7V h1 hq⟩);have:=z7U h1 hq;rw [show 2 ^ (H - h)+(k - 2 ^ (H - h))=k by omega] at this;exact this
   have hp:=z1E H;have hpp:2 ^ (H+2)=2*2 ^ (H+1):=by rw [Nat.pow_succ 2 (H+1),Nat.mul_comm]
   intro h k h' k' a b c d e;unfold TREE at top;rcases top h k a b with ⟨r1,r2,r3⟩ | ⟨r1,r2,r3⟩ | ⟨r1,q,r2,r3,r4,r5⟩ <;> rcases top h' k' c d with ⟨s1,s2,s3⟩ | ⟨s1,s2,s3⟩ | ⟨s1,q',s2,s3,s4,s5⟩
   ·omega
   ·omega
   ·omega
   ·omega
   ·exact ih h k h' k' r1 r2 s1 s2 e
   ·omega
   ·omega
   ·omega
   ·obtain ⟨rfl,rfl⟩:=ih h q h' q' r1 r3 s1 s3 (by omega)
    exact ⟨rfl,by omega⟩
theorem zg3 (H:Nat):∀ p,p+2<=2 ^ (H+1)->∃ h k,h<=H/\k<2 ^ (H - h)/\p=PLC h k:=by
 induction H with
 | zero=>
   intro p hp;have:p=0:=by simpa using hp
   subst this;exact ⟨0,0,by omega,by simp,by rw [z5q,z27]⟩
 | succ H ih=>
   intro p hp;have hpp:2 ^ (H+2)=2*2 ^ (H+1):=by rw [Nat.pow_succ 2 (H+1),Nat.mul_comm]
   have h2:=z1E H;by_cases h1:p+2=2 ^ (H+2)
   ·refine ⟨H+1,0,Nat.le_refl _,by simp,?_⟩
    have:=z1F (H+1) 0;rw [z1a] at this;simp only [Nat.zero_add,Nat.mul_one,Nat.add_zero] at this;omega
   ·by_cases h3:p+2<=2 ^ (H+1)
    ·obtain ⟨h,k,a,b,c⟩:=ih p h3
     exact ⟨h,k,by omega,Nat.lt_of_lt_of_le b (Nat.pow_le_pow_right (by decide) (by omega)),c⟩
    ·obtain ⟨h,k,a,b,c⟩:=ih (p - TREE H) (by unfold TREE;rw [show H+1+1=H+2 from rfl] at hp;omega)
     refine ⟨h,2 ^ (H - h)+k,by omega,?_,?_⟩
     ·rw [show H+1 - h=H - h+1 by omega,Nat.pow_succ]
      omega
     ·rw [z7U a b,<-c]
      unfold TREE;omega
def Node (h k:Nat):Prop:=h<=62/\k<2 ^ (62 - h)
theorem Node.one {h k h' k':Nat} (a:Node h k) (b:Node h' k') (e:PLC h k=PLC h' k'):h=h'/\k=k':=zg2 62 h k h' k' a.1 a.2 b.1 b.2 e
theorem Node.lt {h k:Nat} (a:Node h k):PLC h k<9223372036854775807:=by
 have:=z7V a.1 a.2;omega
theorem Node.of {p:Nat} (hp:p<9223372036854775807):∃ h k,Node h k/\p=PLC h k:=by
 obtain ⟨h,k,a,b,c⟩:=zg3 62 p (by omega);exact ⟨h,k,⟨a,b⟩,c⟩
theorem Node.index_lt {h k:Nat} (a:Node h k):k<2 ^ 62:=Nat.lt_of_lt_of_le a.2 (Nat.pow_le_pow_right (by decide) (by omega))
theorem Node.span {h k:Nat} (a:Node h k):(k+1)*2 ^ h<=2 ^ 62:=by
 have:(k+1)*2 ^ h<=2 ^ (62 - h)*2 ^ h:=Nat.mul_le_mul_right _ a.2;rw [<-Nat.pow_add,Nat.sub_add_cancel a.1] at this;exact this
theorem zb7:z02 4611686018427387904=9223372036854775807:=by
 have h:=z0A (2 ^ 62);rw [zhc] at h;have e:(4611686018427387904:Nat)=2 ^ 62:=by decide
 rw [e];omega
end Go.Proofs.YtlbcnaenhghieaaGreatDoor
namespace Go.Proofs.YtlbcnaenhghieaaGreatDoor
open Go.RowKit
theorem zef (x x1 x2 x3 x4 x5 x6 r:Int) (w:World)
  (e1:IntKind.u64.wrap (bits .and .u64 (x / 2) 6148914691236517205+bits .and .u64 x 6148914691236517205)=x1)
  (e2:IntKind.u64.wrap (bits .and .u64 (x1 / 4) 3689348814741910323+bits .and .u64 x1 3689348814741910323)=x2)
  (e3:bits .and .u64 (IntKind.u64.wrap (x2 / 16+x2)) 1085102592571150095=x3)
  (e4:IntKind.u64.wrap (x3+x3 / 256)=x4) (e5:IntKind.u64.wrap (x4+x4 / 65536)=x5) (e6:IntKind.u64.wrap (x5+x5 / 4294967296)=x6)
  (e7:bits .and .i64 (wrap64 x6) 127=r):
  Calls Tryz.prog 85 #[.int .u64 x] w fun e w'=>e=.returned (.int .i64 r)/\w=w':=by
 go_enter Tryz.func85,Tryz.ntmps85;go_wp2;go_ret;exact ⟨rfl,rfl⟩
theorem z0U {a:Nat} {A:Int} (e:A=(a:Int)) (h:a<2 ^ 64):IntKind.u64.wrap A=(a:Int):=by rw [z0b,e];omega
theorem z1Y {a c:Nat} {A C:Int} (eA:A=(a:Int)) (eC:C=(c:Int)) (ha:a<2 ^ 64) (hc:c<2 ^ 64):bits .and .u64 A C=((a &&& c:Nat):Int):=by
 subst eA eC;exact z4g ha hc
theorem zai {w D:Nat}:∀ (n x:Nat),DLE w D (n+1) x->x / 2 ^ (w*n) % 2 ^ w<=D
 | 0,x,h=>by simpa using h.1
 | n+1,x,h=>by
   have:=zai n (x / 2 ^ w) h.2;rw [Nat.div_div_eq_div_mul,<-Nat.pow_add,show w+w*n=w*(n+1) by rw [Nat.mul_add,Nat.mul_one,Nat.add_comm]] at this;exact this
theorem zg4 (y p:Nat) (h:y % 128=p):bits .and .i64 (wrap64 (y:Int)) 127=(p:Int):=by
 rw [zh6];unfold wrap64;omega
theorem z4m (X:Nat) (hX:X<2 ^ 64) (w:World):Calls Tryz.prog 85 #[.int .u64 (X:Int)] w fun e w'=>e=.returned (.int .i64 ((POP X:Nat):Int))/\w=w':=by
 have h1:X1 X<2 ^ 64:=by rw [zb3];exact z4Q (k:=1) (by decide) 32 _
 have h2:=zfS X;have h3:=zhN X
 have h16:X2 X / 16+X2 X<2 ^ 64:=by
  have ht:=zai 15 (X2 X) (zb5 X);simp only [Nat.reducePow,Nat.reduceMul] at ht h2 ⊢;generalize X2 X=y at *
  omega
 have hl:=zec h3 (zhM X);rw [zhb] at hl;have hlt:=hl.2;have hle4:X3 X+X3 X / 256<2 ^ 64:=Nat.lt_of_le_of_lt (by generalize X3 X+X3 X / 256=y;omega) hlt;have hle5:X3 X+X3 X / 256+(X3 X+X3 X / 256) / 65536<2 ^ 64:=Nat.lt_of_le_of_lt (by generalize X3 X+X3 X / 256+(X3 X+X3 X / 256) / 65536=y;omega) hlt;refine zef X (X1 X:Nat) (X2 X:Nat) (X3 X:Nat) (X3 X+X3 X / 256:Nat) (X3 X+X3 X / 256+(X3 X+X3 X / 256) / 65536:Nat) (X3 X+X3 X / 256+(X3 X+X3 X / 256) / 65536+(X3 X+X3 X / 256+(X3 X+X3 X / 256) / 65536) / 4294967296:Nat) _ w ?_ ?_ ?_ ?_ ?_ ?_ ?_
 ·have a1:bits .and .u64 ((X:Int) / 2) 6148914691236517205=((X / 2 &&& 6148914691236517205:Nat):Int):=z1Y (by simp) rfl (by omega) (by decide)
  have a2:bits .and .u64 (X:Int) 6148914691236517205=((X &&& 6148914691236517205:Nat):Int):=z1Y rfl rfl hX (by decide);rw [a1,a2];exact z0U (by unfold X1;rw [Int.natCast_add]) h1
 ·have a1:bits .and .u64 (((X1 X:Nat):Int) / 4) 3689348814741910323=((X1 X / 4 &&& 3689348814741910323:Nat):Int):=z1Y (by simp) rfl (by omega) (by decide)
  have a2:bits .and .u64 ((X1 X:Nat):Int) 3689348814741910323=((X1 X &&& 3689348814741910323:Nat):Int):=z1Y rfl rfl h1 (by decide);rw [a1,a2];exact z0U (by unfold X2;rw [Int.natCast_add]) h2
 ·have a0:IntKind.u64.wrap (((X2 X:Nat):Int) / 16+((X2 X:Nat):Int))=((X2 X / 16+X2 X:Nat):Int):=z0U (by simp) h16
  rw [a0];exact z1Y rfl rfl h16 (by decide)
 ·exact z0U (by simp) hle4
 ·exact z0U (by simp) hle5
 ·exact z0U (by simp) hlt
 ·exact zg4 _ _ hl.1
theorem z7W (x r:Int) (w:World) (c:∀ w,Calls Tryz.prog 85 #[.int .u64 x] w fun e w'=>e=.returned (.int .i64 r)/\w=w'):
  Calls Tryz.prog 64 #[.int .u64 x] w fun e w'=>e=.returned (.int .i64 r)/\w=w':=by
 go_enter Tryz.func64,Tryz.ntmps64;go_wp2_with fail
 refine (c _).mono ?_;rintro e w' ⟨rfl,rfl⟩;go_wp2;go_ret;exact ⟨rfl,rfl⟩
theorem z6A (X:Nat) (hX:X<2 ^ 64) (w:World):Calls Tryz.prog 64 #[.int .u64 (X:Int)] w fun e w'=>e=.returned (.int .i64 ((POP X:Nat):Int))/\w=w':=
 z7W X _ w (fun w=>z4m X hX w)
theorem zcn:∀ X:Nat,X≠0->∃ t q,X=2 ^ t*(2*q+1):=fun X=>by
 induction X using Nat.strongRecOn with
 | _ X ih=>
   intro h;by_cases ho:X % 2=1
   ·exact ⟨0,X / 2,by omega⟩
   ·obtain ⟨t,q,e⟩:=ih (X / 2) (by omega) (by omega)
    refine ⟨t+1,q,?_⟩;rw [Nat.pow_succ,Nat.mul_comm (2 ^ t) 2,Nat.mul_assoc,<-e];omega
theorem zg5 {q s:Nat} (h:2*q+1<2 ^ s):(2*q+1) &&& (2 ^ s - (2*q+1))=1:=by
 apply Nat.eq_of_testBit_eq;intro i;rw [Nat.testBit_and,Nat.testBit_two_pow_sub_succ (by omega)];cases i with
 | zero=>
   have hs:0<s:=by
    rcases Nat.eq_zero_or_pos s with h0 | h0
    ·subst h0
     simp at h
    ·exact h0
   simp [Nat.testBit_zero,hs]
 | succ i=>
   rw [Nat.testBit_succ,Nat.testBit_succ,Nat.testBit_succ,show (2*q+1) / 2=q by omega,show 2*q / 2=q by omega];simp;intro h1 _;exact h1
theorem zaj {X t q:Nat} (hX:X<2 ^ 64) (e:X=2 ^ t*(2*q+1)):X &&& (2 ^ 64 - X)=2 ^ t/\t<64:=by
 have hp:=Nat.two_pow_pos t
 have ht:t<64:=by
  rcases Nat.lt_or_ge t 64 with h | h
  ·exact h
  ·have h1:2 ^ 64<=2 ^ t:=Nat.pow_le_pow_right (by decide) h
   have h2:2 ^ t*1<=2 ^ t*(2*q+1):=Nat.mul_le_mul_left _ (by omega);omega
 have h64:(2:Nat) ^ 64=2 ^ t*2 ^ (64 - t):=by rw [<-Nat.pow_add,show t+(64 - t)=64 by omega]
 have hq:2*q+1<2 ^ (64 - t):=by
  rw [e,h64] at hX;exact Nat.lt_of_mul_lt_mul_left hX
 refine ⟨?_,ht⟩;rw [e,h64,<-Nat.mul_sub,Nat.mul_comm,Nat.mul_comm (2 ^ t),<-Nat.shiftLeft_eq,<-Nat.shiftLeft_eq,<-Nat.shiftLeft_and_distrib,zg5 hq,Nat.shiftLeft_eq,Nat.one_mul]
def TAB:List Nat:=[0,1,56,2,57,49,28,3,61,58,42,50,38,29,17,4,62,47,59,36,45,43,51,22,53,39,33,30,24,18,12,5,63,55,48,27,60,41,37,16,46,35,44,21,52,32,23,11,54,26,40,15,34,20,31,10,25,14,19,9,13,8,7,6]
def Tabled (w:World):Prop:=∀ i,i<64->w.cell? ⟨2,i,none⟩=some (.int .u8 ((TAB.getD i 0:Nat):Int))
theorem zg6:∀ t,t<64->TAB.getD (2 ^ t*285870213051353865 % 2 ^ 64 / 2 ^ 58) 0=t:=by decide
theorem zhd (x b p i t:Int) (w:World) (h0:(x == 0)=false) (e1:bits .and .u64 x (IntKind.u64.wrap (-x))=b) (e2:IntKind.u64.wrap (b*285870213051353865)=p) (hi:p / 288230376151711744=i) (hi1:0<=i) (hi2:i<64)
  (hc:w.cell? ⟨2,i.toNat,none⟩=some (.int .u8 t)) (ht:Aside (wrap64 t=t)):Calls Tryz.prog 132 #[.int .u64 x] w fun e w'=>e=.returned (.int .i64 t)/\w=w':=by
 go_enter Tryz.func132,Tryz.ntmps132;go_wp2;go_ret;refine ⟨?_,rfl⟩;rw [show (Value.int .i64 t)=.int .i64 (wrap64 t) by rw [ht.out]];rfl
theorem zhO (X t q:Nat) (hX:X<2 ^ 64) (e:X=2 ^ t*(2*q+1)) (w:World) (hT:Tabled w):Calls Tryz.prog 132 #[.int .u64 (X:Int)] w fun e w'=>e=.returned (.int .i64 (t:Int))/\w=w':=by
 obtain ⟨ha,ht⟩:=zaj hX e
 have hX0:0<X:=by
  rw [e];exact Nat.mul_pos (Nat.two_pow_pos t) (by omega)
 have hm:IntKind.u64.wrap (-(X:Int))=((2 ^ 64 - X:Nat):Int):=by rw [z0b];omega
 have hb:bits .and .u64 (X:Int) (IntKind.u64.wrap (-(X:Int)))=((2 ^ t:Nat):Int):=by rw [hm,z4g hX (by omega),ha]
 have hp:IntKind.u64.wrap (((2 ^ t:Nat):Int)*285870213051353865)=((2 ^ t*285870213051353865 % 2 ^ 64:Nat):Int):=by
  rw [z0b];generalize 2 ^ t=u;omega
 have hl:2 ^ t*285870213051353865 % 2 ^ 64<2 ^ 64:=Nat.mod_lt _ (by decide);have hi:2 ^ t*285870213051353865 % 2 ^ 64 / 2 ^ 58<64:=Nat.div_lt_of_lt_mul (by omega);have hc:=hT _ hi;rw [zg6 t ht] at hc;refine zhd X _ _ ((2 ^ t*285870213051353865 % 2 ^ 64 / 2 ^ 58:Nat):Int) t w (by simp;omega) hb hp ?_ (by omega) (by omega) (by rw [Int.toNat_natCast];exact hc) (by unfold Aside wrap64;omega);generalize 2 ^ t*285870213051353865 % 2 ^ 64=u;omega
theorem zg7 (x r:Int) (w:World) (c:Calls Tryz.prog 132 #[.int .u64 x] w fun e w'=>e=.returned (.int .i64 r)/\w=w'):
  Calls Tryz.prog 116 #[.int .u64 x] w fun e w'=>e=.returned (.int .i64 r)/\w=w':=by
 go_enter Tryz.func116,Tryz.ntmps116;go_wp2_with fail
 refine c.mono ?_;rintro e w' ⟨rfl,rfl⟩;go_wp2;go_ret;exact ⟨rfl,rfl⟩
def LTAB:ByteArray:=⟨#[0,1,2,2,3,3,3,3,4,4,4,4,4,4,4,4,5,5,5,5,5,5,5,5,5,5,5,5,5,5,5,5,6,6,6,6,6,6,6,6,6,6,6,6,6,6,6,6,6,6,6,6,6,6,6,6,6,6,6,6,6,6,6,6,7,7,7,7,7,7,7,7,7,7,7,7,7,7,7,7,7,7,7,7,7,7,7,7,7,7,7,7,7,7,7,7,7,7,7,7,7,7,7,7,7,7,7,7,7,7,7,7,7,7,7,7,7,7,7,7,7,7,7,7,7,7,7,7,8,8,8,8,8,8,8,8,8,8,8,8,8,8,8,8,8,8,8,8,8,8,8,8,8,8,8,8,8,8,8,8,8,8,8,8,8,8,8,8,8,8,8,8,8,8,8,8,8,8,8,8,8,8,8,8,8,8,8,8,8,8,8,8,8,8,8,8,8,8,8,8,8,8,8,8,8,8,8,8,8,8,8,8,8,8,8,8,8,8,8,8,8,8,8,8,8,8,8,8,8,8,8,8,8,8,8,8,8,8,8,8,8,8,8,8,8,8,8,8,8,8,8,8,8,8,8,8]⟩
set_option maxRecDepth 100000 in
theorem zb8 (x v:Int) (w:World) (h0:(¬ 4294967296<=x)) (h1:(¬ 65536<=x)) (h2:(¬ 256<=x)) (hx:0<=x) (hx':x<256)
  (hv:Aside (∀ h:(x).toNat<LTAB.size,wrap64 (wrap64 (LTAB[(x).toNat]'h).toNat)=v)):Calls Tryz.prog 89 #[.int .u64 x] w fun e w'=>e=.returned (.int .i64 v)/\w=w':=by
 go_enter Tryz.func89,Tryz.ntmps89;go_wp2;go_ret;exact ⟨congrArg (fun z=>Ending.returned (Value.int .i64 z)) (hv.out _),rfl⟩
set_option maxRecDepth 100000 in
theorem zb9 (x v:Int) (w:World) (h0:(¬ 4294967296<=x)) (h1:(¬ 65536<=x)) (h2:(256<=x)) (hx:0<=x / 256) (hx':x / 256<256)
  (hv:Aside (∀ h:(x / 256).toNat<LTAB.size,wrap64 (8+wrap64 (LTAB[(x / 256).toNat]'h).toNat)=v)):Calls Tryz.prog 89 #[.int .u64 x] w fun e w'=>e=.returned (.int .i64 v)/\w=w':=by
 go_enter Tryz.func89,Tryz.ntmps89;go_wp2;go_ret;exact ⟨congrArg (fun z=>Ending.returned (Value.int .i64 z)) (hv.out _),rfl⟩
set_option maxRecDepth 100000 in
theorem zba (x v:Int) (w:World) (h0:(¬ 4294967296<=x)) (h1:(65536<=x)) (h2:(¬ 256<=x / 65536)) (hx:0<=x / 65536) (hx':x / 65536<256)
  (hv:Aside (∀ h:(x / 65536).toNat<LTAB.size,wrap64 (16+wrap64 (LTAB[(x / 65536).toNat]'h).toNat)=v)):Calls Tryz.prog 89 #[.int .u64 x] w fun e w'=>e=.returned (.int .i64 v)/\w=w':=by
 go_enter Tryz.func89,Tryz.ntmps89;go_wp2;go_ret;exact ⟨congrArg (fun z=>Ending.returned (Value.int .i64 z)) (hv.out _),rfl⟩
set_option maxRecDepth 100000 in
theorem zbb (x v:Int) (w:World) (h0:(¬ 4294967296<=x)) (h1:(65536<=x)) (h2:(256<=x / 65536)) (hx:0<=x / 65536 / 256) (hx':x / 65536 / 256<256)
  (hv:Aside (∀ h:(x / 65536 / 256).toNat<LTAB.size,wrap64 (24+wrap64 (LTAB[(x / 65536 / 256).toNat]'h).toNat)=v)):Calls Tryz.prog 89 #[.int .u64 x] w fun e w'=>e=.returned (.int .i64 v)/\w=w':=by
 go_enter Tryz.func89,Tryz.ntmps89;go_wp2;go_ret;exact ⟨congrArg (fun z=>Ending.returned (Value.int .i64 z)) (hv.out _),rfl⟩
set_option maxRecDepth 100000 in
theorem zbc (x v:Int) (w:World) (h0:(4294967296<=x)) (h1:(¬ 65536<=x / 4294967296)) (h2:(¬ 256<=x / 4294967296)) (hx:0<=x / 4294967296) (hx':x / 4294967296<256)
  (hv:Aside (∀ h:(x / 4294967296).toNat<LTAB.size,wrap64 (32+wrap64 (LTAB[(x / 4294967296).toNat]'h).toNat)=v)):Calls Tryz.prog 89 #[.int .u64 x] w fun e w'=>e=.returned (.int .i64 v)/\w=w':=by
 go_enter Tryz.func89,Tryz.ntmps89;go_wp2;go_ret;exact ⟨congrArg (fun z=>Ending.returned (Value.int .i64 z)) (hv.out _),rfl⟩
set_option maxRecDepth 100000 in
theorem zbd (x v:Int) (w:World) (h0:(4294967296<=x)) (h1:(¬ 65536<=x / 4294967296)) (h2:(256<=x / 4294967296)) (hx:0<=x / 4294967296 / 256) (hx':x / 4294967296 / 256<256)
  (hv:Aside (∀ h:(x / 4294967296 / 256).toNat<LTAB.size,wrap64 (40+wrap64 (LTAB[(x / 4294967296 / 256).toNat]'h).toNat)=v)):Calls Tryz.prog 89 #[.int .u64 x] w fun e w'=>e=.returned (.int .i64 v)/\w=w':=by
 go_enter Tryz.func89,Tryz.ntmps89;go_wp2;go_ret;exact ⟨congrArg (fun z=>Ending.returned (Value.int .i64 z)) (hv.out _),rfl⟩
set_option maxRecDepth 100000 in
theorem zbe (x v:Int) (w:World) (h0:(4294967296<=x)) (h1:(65536<=x / 4294967296)) (h2:(¬ 256<=x / 4294967296 / 65536)) (hx:0<=x / 4294967296 / 65536) (hx':x / 4294967296 / 65536<256)
  (hv:Aside (∀ h:(x / 4294967296 / 65536).toNat<LTAB.size,wrap64 (48+wrap64 (LTAB[(x / 4294967296 / 65536).toNat]'h).toNat)=v)):Calls Tryz.prog 89 #[.int .u64 x] w fun e w'=>e=.returned (.int .i64 v)/\w=w':=by
 go_enter Tryz.func89,Tryz.ntmps89;go_wp2;go_ret;exact ⟨congrArg (fun z=>Ending.returned (Value.int .i64 z)) (hv.out _),rfl⟩
set_option maxRecDepth 100000 in
theorem zbf (x v:Int) (w:World) (h0:(4294967296<=x)) (h1:(65536<=x / 4294967296)) (h2:(256<=x / 4294967296 / 65536)) (hx:0<=x / 4294967296 / 65536 / 256) (hx':x / 4294967296 / 65536 / 256<256)
  (hv:Aside (∀ h:(x / 4294967296 / 65536 / 256).toNat<LTAB.size,wrap64 (56+wrap64 (LTAB[(x / 4294967296 / 65536 / 256).toNat]'h).toNat)=v)):Calls Tryz.prog 89 #[.int .u64 x] w fun e w'=>e=.returned (.int .i64 v)/\w=w':=by
 go_enter Tryz.func89,Tryz.ntmps89;go_wp2;go_ret;exact ⟨congrArg (fun z=>Ending.returned (Value.int .i64 z)) (hv.out _),rfl⟩
def L8 (i:Nat):Nat:=if i=0 then 0 else if i<2 then 1 else if i<4 then 2 else if i<8 then 3 else if i<16 then 4 else if i<32 then 5 else if i<64 then 6 else if i<128 then 7 else 8
set_option maxRecDepth 100000 in
theorem zeg:∀ i,i<256->(([0,1,2,2,3,3,3,3,4,4,4,4,4,4,4,4,5,5,5,5,5,5,5,5,5,5,5,5,5,5,5,5,6,6,6,6,6,6,6,6,6,6,6,6,6,6,6,6,6,6,6,6,6,6,6,6,6,6,6,6,6,6,6,6,7,7,7,7,7,7,7,7,7,7,7,7,7,7,7,7,7,7,7,7,7,7,7,7,7,7,7,7,7,7,7,7,7,7,7,7,7,7,7,7,7,7,7,7,7,7,7,7,7,7,7,7,7,7,7,7,7,7,7,7,7,7,7,7,8,8,8,8,8,8,8,8,8,8,8,8,8,8,8,8,8,8,8,8,8,8,8,8,8,8,8,8,8,8,8,8,8,8,8,8,8,8,8,8,8,8,8,8,8,8,8,8,8,8,8,8,8,8,8,8,8,8,8,8,8,8,8,8,8,8,8,8,8,8,8,8,8,8,8,8,8,8,8,8,8,8,8,8,8,8,8,8,8,8,8,8,8,8,8,8,8,8,8,8,8,8,8,8,8,8,8,8,8,8,8,8,8,8,8,8,8,8,8,8,8,8,8,8,8,8,8,8]:List UInt8).getD i 0).toNat=L8 i:=by decide +kernel
set_option maxRecDepth 100000 in
theorem z1Z (i:Nat) (h:i<LTAB.size):(LTAB[i]'h).toNat=L8 i:=by
 have h2:i<256:=h;have:=zeg i h2;rw [List.getD_eq_getElem?_getD,List.getElem?_eq_getElem (by exact h)] at this;exact this
theorem z2q (i:Nat):L8 i<=8:=by unfold L8;repeat' split <;> try omega
theorem zak (i:Nat) (h0:i≠0) (h:i<256):1<=L8 i/\2 ^ (L8 i - 1)<=i/\i<2 ^ L8 i:=by
 unfold L8;repeat' split
 all_goals (try omega)
theorem z2g (n i:Nat) (hn:n<=56):wrap64 ((n:Int)+wrap64 ((L8 i:Nat):Int))=((n+L8 i:Nat):Int):=by
 have:=z2q i;unfold wrap64;omega
theorem zeh (i:Nat):wrap64 (wrap64 ((L8 i:Nat):Int))=((L8 i:Nat):Int):=by
 have:=z2q i;unfold wrap64;omega
def LEN (X:Nat):Nat:=
 if 4294967296<=X then (if 281474976710656<=X then (if 72057594037927936<=X then 56+L8 (X / 72057594037927936) else 48+L8 (X / 281474976710656)) else (if 1099511627776<=X then 40+L8 (X / 1099511627776) else 32+L8 (X / 4294967296)))
 else (if 65536<=X then (if 16777216<=X then 24+L8 (X / 16777216) else 16+L8 (X / 65536)) else (if 256<=X then 8+L8 (X / 256) else L8 X))
theorem zco (X:Nat) (hX:X<2 ^ 64) (h0:¬ 4294967296<=X) (h1:¬ 65536<=X) (h2:¬ 256<=X) (w:World):Calls Tryz.prog 89 #[.int .u64 (X:Int)] w fun e w'=>e=.returned (.int .i64 ((0+L8 (X / 1):Nat):Int))/\w=w':=by
 have e:((X:Int)).toNat=X / 1:=by omega
 refine zb8 X _ w (by omega) (by omega) (by omega) (by omega) (by omega) fun h=>?_;rw [z1Z _ h,e];exact (zeh _).trans (by rw [Nat.zero_add])
theorem zcp (X:Nat) (hX:X<2 ^ 64) (h0:¬ 4294967296<=X) (h1:¬ 65536<=X) (h2:256<=X) (w:World):Calls Tryz.prog 89 #[.int .u64 (X:Int)] w fun e w'=>e=.returned (.int .i64 ((8+L8 (X / 256):Nat):Int))/\w=w':=by
 have e:((X:Int) / 256).toNat=X / 256:=by omega
 refine zb9 X _ w (by omega) (by omega) (by omega) (by omega) (by omega) fun h=>?_;rw [z1Z _ h,e];exact z2g 8 _ (by decide)
theorem zcq (X:Nat) (hX:X<2 ^ 64) (h0:¬ 4294967296<=X) (h1:65536<=X) (h2:¬ 16777216<=X) (w:World):Calls Tryz.prog 89 #[.int .u64 (X:Int)] w fun e w'=>e=.returned (.int .i64 ((16+L8 (X / 65536):Nat):Int))/\w=w':=by
 have e:((X:Int) / 65536).toNat=X / 65536:=by omega
 refine zba X _ w (by omega) (by omega) (by omega) (by omega) (by omega) fun h=>?_;rw [z1Z _ h,e];exact z2g 16 _ (by decide)
theorem zcr (X:Nat) (hX:X<2 ^ 64) (h0:¬ 4294967296<=X) (h1:65536<=X) (h2:16777216<=X) (w:World):Calls Tryz.prog 89 #[.int .u64 (X:Int)] w fun e w'=>e=.returned (.int .i64 ((24+L8 (X / 16777216):Nat):Int))/\w=w':=by
 have e:((X:Int) / 65536 / 256).toNat=X / 16777216:=by omega
 refine zbb X _ w (by omega) (by omega) (by omega) (by omega) (by omega) fun h=>?_;rw [z1Z _ h,e];exact z2g 24 _ (by decide)
theorem zcs (X:Nat) (hX:X<2 ^ 64) (h0:4294967296<=X) (h1:¬ 281474976710656<=X) (h2:¬ 1099511627776<=X) (w:World):Calls Tryz.prog 89 #[.int .u64 (X:Int)] w fun e w'=>e=.returned (.int .i64 ((32+L8 (X / 4294967296):Nat):Int))/\w=w':=by
 have e:((X:Int) / 4294967296).toNat=X / 4294967296:=by omega
 refine zbc X _ w (by omega) (by omega) (by omega) (by omega) (by omega) fun h=>?_;rw [z1Z _ h,e];exact z2g 32 _ (by decide)
theorem zct (X:Nat) (hX:X<2 ^ 64) (h0:4294967296<=X) (h1:¬ 281474976710656<=X) (h2:1099511627776<=X) (w:World):Calls Tryz.prog 89 #[.int .u64 (X:Int)] w fun e w'=>e=.returned (.int .i64 ((40+L8 (X / 1099511627776):Nat):Int))/\w=w':=by
 have e:((X:Int) / 4294967296 / 256).toNat=X / 1099511627776:=by omega
 refine zbd X _ w (by omega) (by omega) (by omega) (by omega) (by omega) fun h=>?_;rw [z1Z _ h,e];exact z2g 40 _ (by decide)
theorem zcu (X:Nat) (hX:X<2 ^ 64) (h0:4294967296<=X) (h1:281474976710656<=X) (h2:¬ 72057594037927936<=X) (w:World):Calls Tryz.prog 89 #[.int .u64 (X:Int)] w fun e w'=>e=.returned (.int .i64 ((48+L8 (X / 281474976710656):Nat):Int))/\w=w':=by
 have e:((X:Int) / 4294967296 / 65536).toNat=X / 281474976710656:=by omega
 refine zbe X _ w (by omega) (by omega) (by omega) (by omega) (by omega) fun h=>?_;rw [z1Z _ h,e];exact z2g 48 _ (by decide)
theorem zcv (X:Nat) (hX:X<2 ^ 64) (h0:4294967296<=X) (h1:281474976710656<=X) (h2:72057594037927936<=X) (w:World):Calls Tryz.prog 89 #[.int .u64 (X:Int)] w fun e w'=>e=.returned (.int .i64 ((56+L8 (X / 72057594037927936):Nat):Int))/\w=w':=by
 have e:((X:Int) / 4294967296 / 65536 / 256).toNat=X / 72057594037927936:=by omega
 refine zbf X _ w (by omega) (by omega) (by omega) (by omega) (by omega) fun h=>?_;rw [z1Z _ h,e];exact z2g 56 _ (by decide)
theorem zhe (X:Nat) (hX:X<2 ^ 64) (w:World):Calls Tryz.prog 89 #[.int .u64 (X:Int)] w fun e w'=>e=.returned (.int .i64 ((LEN X:Nat):Int))/\w=w':=by
 unfold LEN;split
 ·split
  ·split
   ·exact zcv X hX (by omega) (by omega) (by omega) w
   ·exact zcu X hX (by omega) (by omega) (by omega) w
  ·split
   ·exact zct X hX (by omega) (by omega) (by omega) w
   ·exact zcs X hX (by omega) (by omega) (by omega) w
 ·split
  ·split
   ·exact zcr X hX (by omega) (by omega) (by omega) w
   ·exact zcq X hX (by omega) (by omega) (by omega) w
  ·split
   ·exact zcp X hX (by omega) (by omega) (by omega) w
   ·have k:=zco X hX (by omega) (by omega) (by omega) w
    rw [Nat.div_one,Nat.zero_add] at k;exact k
theorem z2h {X n:Nat} (h0:X / 2 ^ n≠0) (h:X / 2 ^ n<256):1<=n+L8 (X / 2 ^ n)/\2 ^ (n+L8 (X / 2 ^ n) - 1)<=X/\X<2 ^ (n+L8 (X / 2 ^ n)):=by
 obtain ⟨a,b,c⟩:=zak _ h0 h;have hp:=Nat.two_pow_pos n;refine ⟨by omega,?_,?_⟩
 ·rw [show n+L8 (X / 2 ^ n) - 1=n+(L8 (X / 2 ^ n) - 1) by omega,Nat.pow_add]
  exact Nat.le_trans (Nat.mul_le_mul_left _ b) (Nat.mul_div_le X (2 ^ n))
 ·rw [Nat.pow_add,Nat.mul_comm]
  exact (Nat.div_lt_iff_lt_mul hp).1 c
theorem z7X (X:Nat) (hX:X<2 ^ 64) (h0:X≠0):1<=LEN X/\2 ^ (LEN X - 1)<=X/\X<2 ^ LEN X:=by
 unfold LEN;split
 ·split
  ·split
   ·exact z2h (n:=56) (by omega) (by omega)
   ·exact z2h (n:=48) (by omega) (by omega)
  ·split
   ·exact z2h (n:=40) (by omega) (by omega)
   ·exact z2h (n:=32) (by omega) (by omega)
 ·split
  ·split
   ·exact z2h (n:=24) (by omega) (by omega)
   ·exact z2h (n:=16) (by omega) (by omega)
  ·split
   ·exact z2h (n:=8) (by omega) (by omega)
   ·exact zak X h0 (by omega)
theorem zei (x r:Int) (w:World) (c:∀ w,Calls Tryz.prog 89 #[.int .u64 x] w fun e w'=>e=.returned (.int .i64 r)/\w=w') (h0:0<=r) (h1:r<=64):
  Calls Tryz.prog 66 #[.int .u64 x] w fun e w'=>e=.returned (.int .i64 (r - 1))/\w=w':=by
 go_enter Tryz.func66,Tryz.ntmps66;go_wp2_with fail
 refine (c _).mono ?_;rintro e w' ⟨rfl,rfl⟩;go_wp2;go_ret;exact ⟨rfl,rfl⟩
def PL:Nat->Nat->Nat->List Nat
 | 0,_,_=>[]
 | k+1,o,X=>if X % 2=1 then o :: PL k (o+1) (X / 2) else PL k (o+1) (X / 2)
def z0t (X:Nat):List Nat:=PL 64 0 X
theorem z6B:∀ k o,PL k o 0=[]
 | 0,_=>rfl
 | k+1,o=>by
   have:=z6B k (o+1);simpa [PL] using this
theorem z6Z:∀ k o X,(PL k o X).length=DSUM 1 k X
 | 0,_,_=>rfl
 | k+1,o,X=>by
   have ih:=z6Z k (o+1) (X / 2);unfold PL DSUM;rw [Nat.pow_one];split
   ·rw [List.length_cons,ih];omega
   ·rw [ih];omega
theorem z0H (X:Nat):(z0t X).length=POP X:=z6Z 64 0 X
theorem zal:∀ (t k o q:Nat),t<k->PL k o (2 ^ t*(2*q+1))=(o+t) :: PL k o (2 ^ (t+1)*q)
 | 0,0,_,_,h=>by omega
 | 0,k+1,o,q,_=>by
   have h1:(2 ^ 0*(2*q+1))=2*q+1:=by simp
   have h2:2 ^ (0+1)*q=2*q:=by simp
   rw [h1,h2];unfold PL;rw [if_pos (by omega),if_neg (by omega),show (2*q+1) / 2=q by omega,show 2*q / 2=q by omega];rfl
 | t+1,0,_,_,h=>by omega
 | t+1,k+1,o,q,h=>by
   have ih:=zal t k (o+1) q (by omega);have h1:2 ^ (t+1)*(2*q+1)=2*(2 ^ t*(2*q+1)):=by rw [Nat.pow_succ,Nat.mul_comm (2 ^ t) 2,Nat.mul_assoc]
   have h2:2 ^ (t+1+1)*q=2*(2 ^ (t+1)*q):=by rw [Nat.pow_succ,Nat.mul_comm (2 ^ (t+1)) 2,Nat.mul_assoc]
   rw [h1,h2];generalize 2 ^ t*(2*q+1)=a at ih ⊢;generalize 2 ^ (t+1)*q=b at ih ⊢;unfold PL;rw [if_neg (by omega),if_neg (by omega),show 2*a / 2=a by omega,show 2*b / 2=b by omega,ih,show o+(t+1)=o+1+t by omega]
theorem z5H (X:Nat):POP X<=64:=by
 have:∀ k X,DSUM 1 k X<=k:=fun k=>by
  induction k with
  | zero=>intro X;exact Nat.le_refl _
  | succ k ih=>
    intro X;have:=ih (X / 2);unfold DSUM;rw [Nat.pow_one];omega
 exact this 64 X
theorem zej (q:Nat):(2*q+1) &&& (2*q)=2*q:=by
 apply Nat.eq_of_testBit_eq;intro i;rw [Nat.testBit_and];cases i with
 | zero=>simp [Nat.testBit_zero]
 | succ i=>
   rw [Nat.testBit_succ,Nat.testBit_succ,show (2*q+1) / 2=q by omega,show 2*q / 2=q by omega];simp
theorem z7Y:∀ (t q:Nat),2 ^ t*(2*q+1) &&& (2 ^ t*(2*q+1) - 1)=2 ^ (t+1)*q
 | 0,q=>by
   have h1:(2 ^ 0*(2*q+1))=2*q+1:=by simp
   have h2:2 ^ (0+1)*q=2*q:=by simp
   rw [h1,h2];exact zej q
 | t + 1,q=>by
   have ih:=z7Y t q;have h1:2 ^ (t+1)*(2*q+1)=2*(2 ^ t*(2*q+1)):=by rw [Nat.pow_succ,Nat.mul_comm (2 ^ t) 2,Nat.mul_assoc]
   have h2:2 ^ (t+1+1)*q=2*(2 ^ (t+1)*q):=by rw [Nat.pow_succ,Nat.mul_comm (2 ^ (t+1)) 2,Nat.mul_assoc]
   have hp:0<2 ^ t*(2*q+1):=Nat.mul_pos (Nat.two_pow_pos t) (by omega);rw [h1,h2,<-ih];generalize 2 ^ t*(2*q+1)=a at hp ⊢;apply Nat.eq_of_testBit_eq;intro i;rw [Nat.testBit_and];cases i with
   | zero=>simp [Nat.testBit_zero]
   | succ i=>
     rw [Nat.testBit_succ,Nat.testBit_succ,Nat.testBit_succ,show 2*a / 2=a by omega,show (2*a - 1) / 2=a - 1 by omega,<-Nat.testBit_and,show 2*(a &&& (a - 1)) / 2=a &&& (a - 1) by omega]
def z15 (l:List Nat):List Value:=l.map fun (x:Nat)=>Value.int .i64 (x:Int)
theorem z9k (l:List Nat) (x:Nat):z15 (l ++ [x])=z15 l ++ [.int .i64 (x:Int)]:=by simp [z15]
theorem z3v:∃ i,Tryz.prog.info? 3=some i/\i.zero=some (.int .i64 0)/\i.size=1/\i.bytes=8:=by
 have h:(Tryz.prog.info? 3).map (fun i=>(i.zero,i.size,i.bytes))=some (some (.int .i64 0),1,8):=by kernel_rfl
 obtain ⟨i,hi,h⟩:=Option.map_eq_some_iff.1 h;simp only [Prod.mk.injEq] at h;exact ⟨i,hi,h.1,h.2.1,h.2.2⟩
theorem zg8 {ops:Array Oper} {rest:List Oper} {o:Oper} {a:Act} {Q:Exit->Act->World->Prop} (w:World) (hgd:o.guard=none) (s x:Operand)
  (ho:o.op=.call {callee:=.builtin .append,args:=#[s,x],argTypes:=#[156,156]})
  (base:Nat) (v:Value) (n:Nat) (xs:List Nat) (hs:a.eval s=v) (hown:w.ownsRow base 3 1 v n (z15 xs))
  (b c:Nat) (y:Nat) (hx:a.eval x=.slice (some ⟨b,0,none⟩) 1 c) (hc:w.cell? ⟨b,0,none⟩=some (.int .i64 (y:Int)))
  (hb:n<=1000) (hbase:base<=w.heap.size)
  (h:∀ g cap w',w'.ownsRow base 3 1 (.slice (some ⟨g,0,none⟩) (n+1) cap) (n+1) (z15 (xs ++ [y]))->w.grownBy w' v.ownBlock->g<w'.heap.size->wpList Tryz.prog ops Q rest (a.put o.dst (.slice (some ⟨g,0,none⟩) (n+1) cap)) w'):wpList Tryz.prog ops Q (o :: rest) a w:=by
 obtain ⟨i,hi,hz,hs1,hby⟩:=z3v;refine wpList_append_lies w hgd s x 156 ho base 3 i (.int .i64 0) 1 8 Tryz.underlying156 hi hz hs1 hby rfl (by decide) v n (z15 xs) hs hown ⟨b,0,none⟩ 1 c [.int .i64 (y:Int)] hx rfl ?_ (fun u hu=>by simp at hu;subst hu;rfl) (by decide) (by simp only [maxLen];omega) (by omega) hbase w.heap.size rfl ?_
 ·intro j u hj
  cases j with
  | zero=>
    simp only [List.getElem?_cons_zero,Option.some.injEq] at hj;subst hj;exact hc
  | succ j=>simp at hj
 ·intro g cap w' h1 h2 _ h4
  rw [<-z9k] at h1;exact h g cap w' h1 h2 h4
theorem zcw (n:Nat) (hn:n<=64) (w:World):∃ cur:Array Value,cur.size=n/\(Instr.makeSlice 156 (.int .i64 0) (.int .i64 (n:Int))).run Tryz.prog w=.ok (.slice (some ⟨w.heap.size,0,none⟩) 0 n) (w.alloc (.cells cur 3)):=by
 obtain ⟨i,hi,hz,hs1,hby⟩:=z3v;have h:=run_make (P:=Tryz.prog) w 156 3 i (.int .i64 0) Tryz.underlying156 hi hz .i64 .i64 0 n (by omega) (by omega) (by rw [hby];omega) (by omega);refine ⟨_,?_,h⟩;rw [size_madeCells,hs1];omega
theorem Tabled.below {w w':World} (h:Tabled w) (_:0<w.heap.size) (hb:Below w.heap.size w w'):Tabled w':=fun i hi=>(hb.cell (by exact World.block_lt_of_cell? _ _ (h i hi))).trans (h i hi)
theorem zg9 (X:Nat) (hX:X<2 ^ 64) (w:World) (hT:Tabled w) (h0:0<w.heap.size):Calls Tryz.prog 99 #[.int .u64 (X:Int)] w fun e w'=>
  ∃ g cap,e=.returned (.slice (some ⟨g,0,none⟩) (POP X) cap)/\w'.ownsRow w.heap.size 3 1 (.slice (some ⟨g,0,none⟩) (POP X) cap) (POP X) (z15 (z0t X))/\g<w'.heap.size/\Below w.heap.size w w':=by
 obtain ⟨cur,hcs,hmk⟩:=zcw (POP X) (z5H X) w;have HX:Aside (X<2 ^ 64):=hX;have HT:Aside (Tabled w/\0<w.heap.size/\cur.size=POP X):=⟨hT,h0,hcs⟩
 have c1:=z6A X hX;clear hX hT h0 hcs;generalize hp:POP X=p at *
 have HP:Aside (POP X=p):=hp;clear hp;go_enter Tryz.func99,Tryz.ntmps99;go_wp2_with fail
 refine (c1 _).mono ?_;rintro e w' ⟨rfl,rfl⟩;clear c1;go_wp2;go_loopg [0,3] p (fun g s0 s2 wx=>∃ (x:Nat),Aside (∃ l:List Nat,l ++ z0t x=z0t X/\x<2 ^ 64/\g=POP x/\wx.ownsRow w.heap.size 3 1 s2 l.length (z15 l)/\(∃ b cap,s2=.slice (some ⟨b,0,none⟩) l.length cap/\b<wx.heap.size)/\Below w.heap.size w wx)/\s0=.int .u64 (x:Int))
 case atStart=>exact ⟨X,⟨[],rfl,HX.out,HP.out.symm,World.ownsRow_made w cur p (Nat.le_refl _) (by have:=z5H X;rw [HP.out] at this;simp only [maxLen];omega) (by rw [HT.out.2.2];omega),⟨_,_,rfl,by simp⟩,(Below.refl _ _).alloc (Nat.le_refl _) _⟩,rfl⟩
 case round=>
  obtain ⟨x,A,rfl⟩:=hrel;clear hmk;cases hx:((x:Int) == 0) with
  | true=>
    obtain ⟨l,hl,hxl,hg,hown,⟨b,cap,hs,hb⟩,hbel⟩:=A.out;have hx0:x=0:=by simpa using hx
    have hl2:l=z0t X:=by
     rw [hx0,show z0t 0=[] from z6B 64 0,List.append_nil] at hl;exact hl
    have hlen:l.length=p:=by rw [hl2,z0H,HP.out]
    subst hs;rw [hlen,hl2] at hown;have R:Aside (wr.ownsRow w.heap.size 3 1 (.slice (some ⟨b,0,none⟩) p cap) p (z15 (z0t X))/\b<wr.heap.size/\Below w.heap.size w wr/\l.length=p):=⟨hown,hb,hbel,hlen⟩
    clear A hl hxl hg hown hb hbel hx0 hl2 hlen HX HT HP;go_wp2;go_ret;obtain ⟨h1,h2,h3,h4⟩:=R.out;refine ⟨b,cap,?_,h1,h2,h3⟩;rw [<-h4];rfl
  | false=>
    obtain ⟨l,hl,hxl,hg,hown,⟨b,cap,hs,hb⟩,hbel⟩:=A.out;have hx0:x≠0:=by simpa using hx
    obtain ⟨t,q,e⟩:=zcn x hx0;have ht:t<64:=(zaj hxl e).2;have cl:=zg7 x t wr (zhO x t q hxl e wr (HT.out.1.below HT.out.2.1 hbel));obtain ⟨y,hy⟩:∃ y,y=2 ^ (t+1)*q:=⟨_,rfl⟩
    have hya:x &&& (x - 1)=y:=by rw [e,hy];exact z7Y t q
    have hstep:z0t x=t :: z0t y:=by
     rw [e,hy];have:=zal t 64 0 q ht;rw [Nat.zero_add] at this;exact this
    have hand:bits .and .u64 (x:Int) (IntKind.u64.wrap ((x:Int) - 1))=(y:Int):=by
     have hm:IntKind.u64.wrap ((x:Int) - 1)=((x - 1:Nat):Int):=by rw [z0b];omega
     rw [hm,z4g hxl (by omega),hya]
    have hyx:y<2 ^ 64:=Nat.lt_of_le_of_lt (by rw [<-hya];exact Nat.and_le_left) hxl
    have hlen:l.length<=1000:=by
     have h1:=congrArg List.length hl;have h2:=z5H X;rw [List.length_append,z0H X] at h1;omega
    have hPy:POP x=POP y+1:=by
     rw [<-z0H,<-z0H,hstep,List.length_cons]
    have R:Aside ((l ++ [t]) ++ z0t y=z0t X/\y<2 ^ 64/\gk=POP y+1/\wr.ownsRow w.heap.size 3 1 u3 l.length (z15 l)/\Below w.heap.size w wr/\l.length<=1000):=⟨by rw [List.append_assoc,List.singleton_append,<-hstep];exact hl,hyx,by rw [hg,hPy],hown,hbel,hlen⟩
    clear A hl hxl hg hown hs hb hbel hx0 e ht hy hya hstep hyx hlen hPy HX HT HP;go_wp2_with fail
    refine cl.mono ?_;rintro e w' ⟨rfl,rfl⟩;clear cl;go_wp2_with (at_builtin;refine zg8 _ rfl (.tmp 13) (.tmp 16) rfl w.heap.size u3 l.length l rfl (R.out.2.2.2.1.alloc _) wr.heap.size 1 t rfl (by rw [World.cell?_alloc_at _ _ _ _ rfl];rfl) R.out.2.2.2.2.2 (by have:=R.out.2.2.2.2.1.size;simp;omega) ?_;intro g cap w1 hown hgrow hg)
    obtain ⟨r1,r2,r3,r4,r5,r6⟩:=R.out;have R2:Aside ((l ++ [t]) ++ z0t y=z0t X/\y<2 ^ 64/\gk=POP y+1/\w1.ownsRow w.heap.size 3 1 (.slice (some ⟨g,0,none⟩) (l.length+1) cap) (l.length+1) (z15 (l ++ [t]))/\g<w1.heap.size/\Below w.heap.size w w1):=⟨r1,r2,r3,hown,hg,(r5.alloc r5.size _).grown hgrow (by have:=r5.size;simp;omega) (fun k e=>(r4.lt k e).1)⟩
    clear hown hgrow hg R r1 r2 r3 r4 r5 r6;go_wp2;go_roundg (gk - 1)
    case measure=>have:=R2.out.2.2.1;omega
    case rel=>
     obtain ⟨r1,r2,r3,r4,r5,r6⟩:=R2.out;have e:(l ++ [t]).length=l.length+1:=by simp
     exact ⟨y,⟨l ++ [t],r1,r2,by omega,by rw [e];exact r4,⟨g,cap,by rw [e],r5⟩,r6⟩,by first | rfl | (rw [hand])⟩
end Go.Proofs.YtlbcnaenhghieaaGreatDoor
