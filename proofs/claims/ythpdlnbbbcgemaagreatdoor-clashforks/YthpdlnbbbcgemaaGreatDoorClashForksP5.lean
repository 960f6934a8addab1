/- Texts of ClashForks, one behind the other: PosCoversPlain, CutTopsPlain, ProofPlain, PosRef, PosRefSpot, PosRefKin, PosTops, PosRefPeaks, PosRefPeak, PosRefPath, PosAwake. -/
import Derived.Test.YthpdlnbbbcgemaaGreatDoorClashForksP4
namespace Go.Proofs.YthpdlnbbbcgemaaGreatDoor
theorem z1Z {n:Nat} (h:PC n=0):n=0:=by
  induction n using Nat.strongRecOn with
  | _ n ih=>
    by_cases h0:n=0
    · exact h0
    · rw [z0Q] at h
      have:=ih (n / 2) (by omega) (by omega)
      omega
theorem z8y (n a b:Nat) (hab:a≤b):n / 2 ^ a=n / 2 ^ b*2 ^ (b - a)+n / 2 ^ a % 2 ^ (b - a)∧PC (n / 2 ^ a)=PC (n / 2 ^ b)+PC (n / 2 ^ a % 2 ^ (b - a)):=by
  have e:n / 2 ^ b=n / 2 ^ a / 2 ^ (b - a):=by rw [Nat.div_div_eq_div_mul,← Nat.pow_add,show a+(b - a)=b by omega]
  have h1:n / 2 ^ a=n / 2 ^ b*2 ^ (b - a)+n / 2 ^ a % 2 ^ (b - a):=by
    rw [e,Nat.mul_comm]
    exact (Nat.div_add_mod _ _).symm
  refine ⟨h1,?_⟩
  have h2:=z62 (b - a) (n / 2 ^ b) (n / 2 ^ a % 2 ^ (b - a)) (Nat.mod_lt _ (Nat.two_pow_pos _))
  rw [← h1] at h2
  exact h2
theorem zfB (n:Nat) {a b:Nat} (hab:a≤b):PC (n / 2 ^ b)≤PC (n / 2 ^ a):=by
  have:=(z8y n a b hab).2
  omega
theorem z8z (n:Nat) {a b:Nat} (hab:a≤b) (h:PC (n / 2 ^ a)=PC (n / 2 ^ b)):n / 2 ^ a*2 ^ a=n / 2 ^ b*2 ^ b:=by
  obtain ⟨h1,h2⟩:=z8y n a b hab
  have h3:n / 2 ^ a % 2 ^ (b - a)=0:=z1Z (by omega)
  rw [h3,Nat.add_zero] at h1
  rw [h1,Nat.mul_assoc,← Nat.pow_add,show b - a+a=b by omega]
theorem ze8 {n:Nat} (hn:n<2 ^ 64):∀ h,h≤64→∀ i,i<PC (n / 2 ^ h)→∃ g,h≤g∧g<64∧(HS h n)[i]?=some g∧n / 2 ^ g % 2=1∧i=PC (n / 2 ^ (g+1)):=by
  have key:∀ d h,h+d=64→∀ i,i<PC (n / 2 ^ h)→∃ g,h≤g∧g<64∧(HS h n)[i]?=some g∧n / 2 ^ g % 2=1∧i=PC (n / 2 ^ (g+1)):=by
    intro d
    induction d with
    | zero=>
      intro h e i hi
      obtain rfl:h=64:=by omega
      rw [Nat.div_eq_of_lt hn,z1h] at hi
      omega
    | succ d ih=>
      intro h e i hi
      have hl:=z4v hn (h+1) (by omega)
      have hs:PC (n / 2 ^ h)=n / 2 ^ h % 2+PC (n / 2 ^ (h+1)):=by rw [z0Q,z2c]
      rcases Nat.lt_or_ge i (PC (n / 2 ^ (h+1))) with h1 | h1
      · obtain ⟨g,a,b,c,r⟩:=ih (h+1) (by omega) i h1
        refine ⟨g,by omega,b,?_,r⟩
        by_cases hb:n / 2 ^ h % 2=1
        · rw [z3P (by omega) hb,List.getElem?_append_left (by omega)]
          exact c
        · rw [z3d (by omega) hb]
          exact c
      · have hb:n / 2 ^ h % 2=1:=by omega
        have hi':i=PC (n / 2 ^ (h+1)):=by omega
        refine ⟨h,Nat.le_refl _,by omega,?_,hb,hi'⟩
        rw [z3P (by omega) hb,List.getElem?_append_right (by omega),hl,hi']
        simp
  intro h hh
  exact key (64 - h) h (by omega)
def HGT (n i:Nat):Nat:=(HS 0 n).getD i 0
def z88 (n:Nat):Nat→Nat
  | 0=>0
  | i+1=>n / 2 ^ HGT n i*2 ^ HGT n i
theorem z2N {n i:Nat} (hn:n<2 ^ 64) (hi:i<PC n):(HS 0 n)[i]?=some (HGT n i)∧n / 2 ^ HGT n i % 2=1∧i=PC (n / 2 ^ (HGT n i+1)):=by
  obtain ⟨g,_,_,c,d,e⟩:=ze8 hn 0 (by omega) i (by rw [Nat.pow_zero,Nat.div_one];exact hi)
  have hg:HGT n i=g:=by unfold HGT;rw [List.getD_eq_getElem?_getD,c];rfl
  rw [hg]
  exact ⟨c,d,e⟩
def KGT (n i:Nat):Nat:=2*(n / 2 ^ (HGT n i+1))
theorem ze9 {n i:Nat} (hn:n<2 ^ 64) (hi:i<PC n):(z1G n).getD i 0=PLC (HGT n i) (KGT n i):=by
  unfold z1G
  rw [List.getD_eq_getElem?_getD,List.getElem?_map,(z2N hn hi).1]
  rfl
theorem zcy {n i:Nat} (hn:n≤4611686018427387904) (hi:i<PC n):Node (HGT n i) (KGT n i):=Node.peak hn (z2N (by omega) hi).2.1
theorem z5G {n i:Nat} (hn:n<2 ^ 64) (hi:i<PC n):PC (n / 2 ^ HGT n i)=i+1:=by
  obtain ⟨_,h2,h3⟩:=z2N hn hi
  rw [z0Q,← z2c]
  omega
theorem z7o {n i:Nat} (hn:n<2 ^ 64) (hi:i+1<PC n):HGT n (i+1)<HGT n i:=by
  have h1:=z5G hn (i:=i) (by omega)
  have h2:=(z2N hn hi).2.2
  rcases Nat.lt_or_ge (HGT n (i+1)) (HGT n i) with h | h
  · exact h
  · have h3:=zfB n (a:=HGT n i+1) (b:=HGT n (i+1)+1) (by omega)
    have h4:=(z2N hn (i:=i) (by omega)).2.2
    omega
theorem zba {n i:Nat} (hn:n<2 ^ 64) (hi:i<PC n):KGT n i*2 ^ HGT n i=z88 n i:=by
  have hk:KGT n i*2 ^ HGT n i=n / 2 ^ (HGT n i+1)*2 ^ (HGT n i+1):=z1d _ _
  have h2:=(z2N hn hi).2.2
  cases i with
  | zero=>
    rw [hk,z1Z h2.symm,Nat.zero_mul]
    rfl
  | succ i=>
    have h1:=z5G hn (i:=i) (by omega)
    have h3:=z7o hn hi
    rw [hk]
    exact z8z n (by omega) (by omega)
theorem zea {n i:Nat} (hn:n<2 ^ 64) (hi:i<PC n):(KGT n i+1)*2 ^ HGT n i=z88 n (i+1):=by
  have:=z65 (z2N hn hi).2.1
  show (2*(n / 2 ^ (HGT n i+1))+1)*2 ^ HGT n i=n / 2 ^ HGT n i*2 ^ HGT n i
  rw [← this]
theorem zcz {n:Nat} (hn:n<2 ^ 64):z88 n (PC n)=n:=by
  cases h:PC n with
  | zero=>
    rw [z1Z h]
    rfl
  | succ i=>
    have h1:=z5G hn (i:=i) (by omega)
    have h2:=z8z n (a:=0) (b:=HGT n i) (by omega) (by rw [Nat.pow_zero,Nat.div_one];omega)
    rw [Nat.pow_zero,Nat.div_one,Nat.mul_one] at h2
    exact h2.symm
theorem z3F {n i:Nat}:z0s n≤PLC (HGT n i+1) (KGT n i / 2):=by
  have e:KGT n i / 2=n / 2 ^ (HGT n i+1):=by unfold KGT;omega
  rw [e]
  have h1:=z5C (HGT n i+1) (n / 2 ^ (HGT n i+1))
  have h2:n≤(n / 2 ^ (HGT n i+1)+1)*2 ^ (HGT n i+1) - 1:=by
    have:=Nat.lt_mul_div_succ n (Nat.two_pow_pos (HGT n i+1))
    rw [Nat.mul_comm] at this
    omega
  have h3:=z5B h2
  omega
end Go.Proofs.YthpdlnbbbcgemaaGreatDoor

namespace Go.Proofs.YthpdlnbbbcgemaaGreatDoor
def PKS (n j c:Nat):List (Nat × Nat):=(List.range' j c).map fun i=>(HGT n i,KGT n i)
theorem z8A (n j c:Nat):PKS n j (c+1)=(HGT n j,KGT n j) :: PKS n (j+1) c:=by simp [PKS,List.range'_succ]
theorem zgA {n c i:Nat} (h:i<c):(PKS n 0 c)[i]?=some (HGT n i,KGT n i):=by
  simp [PKS,h]
theorem zeb {n:Nat} (hn:n≤4611686018427387904):∀ c j,j+c=PC n→Tile (z88 n j) (PKS n j c) n∧Irr (PKS n j c):=by
  intro c
  induction c with
  | zero=>
    intro j e
    obtain rfl:j=PC n:=by omega
    exact ⟨zcz (by omega),trivial⟩
  | succ c ih=>
    intro j e
    obtain ⟨i1,i2⟩:=ih (j+1) (by omega)
    rw [z8A]
    refine ⟨⟨zcy hn (by omega),zba (by omega) (by omega),?_⟩,?_,i2⟩
    · show Tile ((KGT n j+1)*2 ^ HGT n j) _ n
      rw [zea (by omega) (by omega)]
      exact i1
    · intro y hy ⟨h1,_,_⟩
      cases c with
      | zero=>simp [PKS] at hy
      | succ c=>
        rw [z8A] at hy
        simp at hy
        subst hy
        have:=z7o (n:=n) (i:=j) (by omega) (by omega)
        dsimp only at h1
        omega
theorem z67 {n:Nat} (hn:n≤4611686018427387904):SPAN 0 n=PKS n 0 (PC n):=by
  obtain ⟨h1,h2⟩:=zeb hn (PC n) 0 (by omega)
  exact (z7m h1 h2).symm
theorem z0r {n:Nat} (hn:n≤4611686018427387904):(SPAN 0 n).length=PC n:=by
  rw [z67 hn]
  simp [PKS]
theorem z1Q {n i:Nat} (hn:n≤4611686018427387904) (hi:i<PC n):(SPAN 0 n)[i]?=some (HGT n i,KGT n i):=by
  rw [z67 hn]
  exact zgA hi
end Go.Proofs.YthpdlnbbbcgemaaGreatDoor

namespace Go.Proofs.YthpdlnbbbcgemaaGreatDoor
def PLCS (l:List (Nat × Nat)):List Nat:=l.map fun s=>PLC s.1 s.2
theorem z0N (l:List (Nat × Nat)):(PLCS l).length=l.length:=by simp [PLCS]
theorem z5c (l m:List (Nat × Nat)):PLCS (l ++ m)=PLCS l ++ PLCS m:=by simp [PLCS]
theorem z5d {n:Nat} (hn:n≤4611686018427387904):z1G n=PLCS (SPAN 0 n):=by
  have hl:=z2p (n:=n) (by omega)
  apply List.ext_getElem?
  intro j
  by_cases hj:j<PC n
  · have h1:=ze9 (n:=n) (by omega) hj
    have h2:=z1Q hn hj
    rw [List.getD,List.getElem?_eq_getElem (by omega)] at h1
    rw [List.getElem?_eq_getElem (by omega)]
    simp only [Option.getD_some] at h1
    rw [h1]
    simp [PLCS,h2]
  · rw [List.getElem?_eq_none (by omega),List.getElem?_eq_none (by rw [z0N,z0r hn];omega)]
def PXS (m n:Nat):List (Nat × Nat):=SPAN 0 m ++ SPAN m n
theorem z1w {m n:Nat} (hmn:m≤n) (hn:n≤4611686018427387904):Tile 0 (PXS m n) n:=(z0Y (by omega) (Nat.zero_le _)).append (z0Y hn hmn)
theorem z68 {m n:Nat} (hmn:m≤n) (hn:n≤4611686018427387904):PLCS (PXS m n)=z1G m ++ PLCS (SPAN m n):=by
  unfold PXS
  rw [z5c,z5d (by omega)]
theorem z20 {m n:Nat} (hmn:m≤n) (hn:n≤4611686018427387904):(PXS m n).length≤188:=by
  have h1:=z0r (n:=m) (by omega)
  have h2:=z0O 64 m (by omega)
  have h3:=z1v (a:=m) hn
  unfold PXS
  rw [List.length_append]
  omega
def Off (s t:Nat × Nat):Prop:=(s.2+1)*2 ^ s.1≤t.2*2 ^ t.1∨(t.2+1)*2 ^ t.1≤s.2*2 ^ s.1
def SIZE (l:List (Nat × Nat)):Nat:=(l.map fun s=>2 ^ s.1).sum
theorem z0K (k h:Nat):(k+1)*2 ^ h=k*2 ^ h+2 ^ h:=by rw [Nat.add_mul,Nat.one_mul]
theorem Tile.size {l:List (Nat × Nat)}:∀ {a b:Nat},Tile a l b→a+SIZE l=b:=by
  induction l with
  | nil=>intro a b h;have:a=b:=h;simp [SIZE,this]
  | cons s l ih=>
    intro a b ⟨h1,h2,h3⟩
    have:=ih h3
    rw [z0K,h2] at this
    simp only [SIZE,List.map_cons,List.sum_cons] at this ⊢
    omega
theorem Tile.within {l:List (Nat × Nat)}:∀ {a b:Nat},Tile a l b→∀ s∈l,a≤s.2*2 ^ s.1∧(s.2+1)*2 ^ s.1≤b∧Node s.1 s.2:=by
  induction l with
  | nil=>intro a b _ s hs;simp at hs
  | cons t l ih=>
    intro a b ⟨h1,h2,h3⟩ s hs
    rcases List.mem_cons.1 hs with rfl | hs
    · exact ⟨by omega,h3.bound.1,h1⟩
    · have:=ih h3 s hs
      have h4:=z0K t.2 t.1
      have h5:=Nat.two_pow_pos t.1
      exact ⟨by omega,this.2⟩
theorem Tile.off {l:List (Nat × Nat)}:∀ {a b:Nat},Tile a l b→l.Pairwise Off:=by
  induction l with
  | nil=>intro a b _;exact List.Pairwise.nil
  | cons t l ih=>
    intro a b ⟨h1,h2,h3⟩
    refine List.Pairwise.cons (fun s hs=>?_) (ih h3)
    exact .inl (h3.within s hs).1
theorem z4B (i H:Nat):i / 2 ^ H*2 ^ H≤i∧i<(i / 2 ^ H+1)*2 ^ H:=by
  have h1:=Nat.div_add_mod i (2 ^ H)
  have h2:=Nat.mod_lt i (Nat.two_pow_pos H)
  rw [Nat.mul_comm] at h1
  rw [z0K]
  omega
theorem z6W {h k n:Nat} (hn:(k+1)*2 ^ h≤n):PLC h k<z0s n:=by
  have h1:=z5B hn
  have h2:=z16 ((k+1)*2 ^ h)
  rw [z3c] at h2
  have h3:=z2n h k
  have h4:=zag k
  have h5:2 ^ (h+1)*(k+1)=2*((k+1)*2 ^ h):=by rw [z25,Nat.mul_assoc,Nat.mul_comm (2 ^ h)]
  omega
theorem Pairwise.at_lt {α:Type} {R:α→α→Prop} {l:List α} (h:l.Pairwise R) {a b:Nat} {x y:α} (hab:a<b) (ha:l[a]?=some x) (hb:l[b]?=some y):R x y:=by
  obtain ⟨h1,rfl⟩:=List.getElem?_eq_some_iff.1 ha
  obtain ⟨h2,rfl⟩:=List.getElem?_eq_some_iff.1 hb
  exact (List.pairwise_iff_getElem.1 h) a b h1 h2 hab
theorem zec {s t:Nat × Nat} (h:Off s t):Off t s:=h.elim .inr .inl
end Go.Proofs.YthpdlnbbbcgemaaGreatDoor

namespace Go.Proofs.YthpdlnbbbcgemaaGreatDoor
open Go.RowKit
theorem z1a (n:Nat) (hn:n<64) (w:World):Calls Tryz.prog 60 #[.int .i64 (n:Int)] w fun e w'=>e=.returned (.int .u64 ((2 ^ n:Nat):Int))∧w=w':=by
  have HN:Aside (n<64):=hn
  clear hn
  go_enter Tryz.func60,Tryz.ntmps60
  go_wp2
  go_loopg [3,4] n (fun g s3 s4 wx=>∃ i v:Nat,s3=.int .u64 (v:Int)∧s4=.int .i64 (i:Int)∧Aside (v=2 ^ i∧i+g=n)∧wx=w)
  case atStart=>exact ⟨0,1,rfl,rfl,⟨rfl,by omega⟩,rfl⟩
  case round=>
    obtain ⟨i,v,rfl,rfl,A,hw⟩:=hrel
    subst hw
    cases gk with
    | zero=>
      have hi:¬ (i:Int)<(n:Int):=by have:=A.out.2;omega
      go_wp2
      go_ret
      obtain ⟨r1,r2⟩:=A.out
      refine ⟨?_,rfl⟩
      rw [r1,show i=n by omega]
      rfl
    | succ g=>
      have hi:(i:Int)<(n:Int):=by have:=A.out.2;omega
      go_wp2
      go_roundg g
      case measure=>omega
      case rel=>
        obtain ⟨r1,r2⟩:=A.out
        have h64:=HN.out
        have hp:2 ^ (i+1)≤2 ^ 63:=Nat.pow_le_pow_right (by decide) (by omega)
        refine ⟨i+1,2 ^ (i+1),?_,?_,⟨rfl,by omega⟩,rfl⟩
        · congr 1
          rw [z06,r1]
          rw [Nat.pow_succ] at hp ⊢
          omega
        · congr 1
          unfold wrap64
          omega
theorem z9A (n:Nat) (hn:n≤4611686018427387904) (w:World):Calls Tryz.prog 127 #[.int .u64 (n:Int)] w fun e w'=>e=.returned (.tuple #[.int .u64 ((z0s n:Nat):Int),.bool true])∧w=w':=by
  have HN:Aside (n≤4611686018427387904):=hn
  have hd:¬ (4611686018427387904:Int)<(n:Int):=by omega
  clear hn
  go_enter Tryz.func127,Tryz.ntmps127
  go_wp2
  go_loopg [0,4] n (fun g s0 s4 wx=>∃ v:Nat,s0=.int .u64 (g:Int)∧s4=.int .u64 (v:Int)∧Aside (v+z0s g=z0s n)∧wx=w)
  case atStart=>exact ⟨0,rfl,rfl,by unfold Aside;omega,rfl⟩
  case round=>
    obtain ⟨v,rfl,rfl,A,hw⟩:=hrel
    subst hw
    cases gk with
    | zero=>
      go_wp2
      go_ret2
      have r1:=A.out
      rw [z2l] at r1
      refine ⟨?_,rfl⟩
      rw [← r1]
      rfl
    | succ g=>
      have hi:(0:Int)<(((g+1:Nat)):Int):=by omega
      have e1:Aside (IntKind.u64.wrap ((v:Int)+((g+1:Nat):Int))=((v+(g+1):Nat):Int)):=by
        have h1:=z40 (g+1)
        have h2:=A.out
        have h3:=z4w HN.out
        unfold Aside
        rw [z06]
        omega
      have e2:Aside (IntKind.u64.wrap (((g+1:Nat):Int) / 2)=(((g+1) / 2:Nat):Int)):=by
        have h1:=zdM (g+1)
        have h2:=A.out
        have h3:=z4w HN.out
        unfold Aside
        rw [z06]
        omega
      generalize hG:g+1=G at *
      go_wp2
      go_roundg (G / 2)
      case measure=>omega
      case rel=>
        refine ⟨v+G,?_,?_,?_,rfl⟩
        · first | rfl | (congr 1;omega) | (rw [e2.out])
        · rw [e1.out]
        · have h1:=z40 G
          have h2:=A.out
          unfold Aside
          omega
end Go.Proofs.YthpdlnbbbcgemaaGreatDoor

namespace Go.Proofs.YthpdlnbbbcgemaaGreatDoor
open Go.RowKit
theorem z9B (p:Int) (hp:9223372036854775807≤p) (w:World):Calls Tryz.prog 145 #[.int .u64 p] w fun e w'=>e=.returned (.tuple #[SPOT 0 0,.bool false])∧Below w.heap.size w w':=by
  have c1:=z1a 62 (by omega)
  rw [show (((2 ^ 62:Nat):Int))=4611686018427387904 by decide,show (((62:Nat):Int))=62 from rfl] at c1
  have hd:(9223372036854775806:Int)<p:=by omega
  go_enter Tryz.func145,Tryz.ntmps145
  go_wp2_with fail
  refine (c1 _).mono ?_
  rintro e w' ⟨rfl,rfl⟩
  clear c1
  go_wp2
  refine bodyPost_ret (v:=.tuple #[SPOT 0 0,.bool false]) ?_ rfl ⟨rfl,(Below.refl _ _).alloc (Nat.le_refl _) _⟩
  simp [results,Tryz.f145,go_sem]
theorem zcA {a b c:Nat} (h:a+b=c) (hc:c<2 ^ 64):IntKind.u64.wrap ((a:Int)+(b:Int))=(c:Int):=by rw [z06];omega
theorem zgB {a c:Nat} (h:a+1=c) (hc:c<2 ^ 64):IntKind.u64.wrap ((a:Int)+1)=(c:Int):=by rw [z06];omega
theorem zgC {a c:Nat} (h:c+1=a) (hc:c<2 ^ 64):IntKind.u64.wrap ((a:Int) - 1)=(c:Int):=by rw [z06];omega
theorem zcB {a c:Nat} (h:2*a=c) (hc:c<2 ^ 64):IntKind.u64.wrap (2*(a:Int))=(c:Int):=by rw [z06];omega
theorem zfC {a c:Nat} (h:2*c=a) (hc:c<2 ^ 64):IntKind.u64.wrap ((a:Int) / 2)=(c:Int):=by rw [z06];omega
theorem zed {a c:Nat} (h:2*c=a):(a:Int) / 2=(c:Int):=by omega
theorem zee {g m b p z1 bz:Nat} (hg:g+1≤62) (hN:Node (g+1) m) (hb:b=z0s (m*2 ^ (g+1))) (hbp:b≤p) (hpu:p+2≤b+2 ^ (g+1+1)) (hz:2 ^ (g+1)=z1+1) (hbz:b+z1=bz) (hT:p≠b+2*z1):
    Node g (2*m)∧Node g (2*m+1)∧b=z0s (2*m*2 ^ g)∧bz=z0s ((2*m+1)*2 ^ g)∧(bz≤p→p+2≤bz+2 ^ (g+1))∧(p<bz→p+2≤b+2 ^ (g+1)):=by
  have h2:=hN.2
  have e:2 ^ (62 - g)=2 ^ (62 - (g+1))*2:=by rw [← Nat.pow_succ];congr 1;omega
  have e2:2 ^ (g+1+1)=2*(z1+1):=by rw [Nat.pow_succ,hz,Nat.mul_comm]
  refine ⟨⟨by omega,by rw [e];omega⟩,⟨by omega,by rw [e];omega⟩,by rw [hb,z1d],?_,fun h=>by omega,fun h=>by omega⟩
  rw [z42,z1d,← hb]
  unfold TREE
  omega
theorem zbb (h k:Nat) (hN:Node h k) (w:World):Calls Tryz.prog 145 #[.int .u64 ((PLC h k:Nat):Int)] w fun e w'=>e=.returned (.tuple #[SPOT h k,.bool true])∧Below w.heap.size w w':=by
  have hp:=hN.lt
  obtain ⟨p,hpe⟩:∃ p,p=PLC h k:=⟨_,rfl⟩
  rw [← hpe] at hp ⊢
  have HN:Aside (Node h k∧p=PLC h k∧p<9223372036854775807):=⟨hN,hpe,hp⟩
  have c1:=z1a 62 (by omega)
  rw [show (((2 ^ 62:Nat):Int))=4611686018427387904 by decide,show (((62:Nat):Int))=62 from rfl] at c1
  have hd:¬ (9223372036854775806:Int)<(p:Int):=by omega
  clear hN hpe hp
  go_enter Tryz.func145,Tryz.ntmps145
  go_wp2_with fail
  refine (c1 _).mono ?_
  rintro e w' ⟨rfl,rfl⟩
  clear c1
  go_wp2
  go_loopg [4,5,6] 62 (fun g s4 s5 s6 wx=>∃ b m:Nat,s4=.int .u64 (b:Int)∧s5=.int .i64 (g:Int)∧s6=.int .u64 (m:Int)∧Aside (wx=w.alloc (.cells #[.int .u8 0,.int .u64 0] 79)∧g≤62∧b=z0s (m*2 ^ g)∧Node g m∧b≤p∧p+2≤b+2 ^ (g+1)))
  case atStart=>exact ⟨0,0,rfl,rfl,rfl,rfl,by omega,by simp [z2l],⟨by omega,by simp⟩,by omega,by have:=HN.out.2.2;omega⟩
  case round=>
    obtain ⟨b,m,rfl,rfl,rfl,A⟩:=hrel
    obtain ⟨hw,hg,hb,hNm,hbp,hpu⟩:=A.out
    clear A
    have hpl:2 ^ gk≤2 ^ 62:=Nat.pow_le_pow_right (by decide) hg
    obtain ⟨z1,hz⟩:∃ z1,2 ^ gk=z1+1:=⟨2 ^ gk - 1,by have:=Nat.two_pow_pos gk;omega⟩
    have c1:=z1a gk (by omega)
    rw [hz] at c1 hpl
    have hbl:b<9223372036854775807:=by have:=HN.out.2.2;omega
    obtain ⟨u,hu⟩:∃ u,2*z1=u:=⟨_,rfl⟩
    obtain ⟨bu,hbu⟩:∃ bu,b+u=bu:=⟨_,rfl⟩
    have e1:IntKind.u64.wrap (((z1+1:Nat):Int) - 1)=(z1:Int):=zgC rfl (by omega)
    have e1':IntKind.u64.wrap (z1:Int)=(z1:Int):=by rw [z06];omega
    rw [show ((z1+1:Nat):Int)=(z1:Int)+1 by omega] at c1 e1
    have e2:IntKind.u64.wrap (2*(z1:Int))=(u:Int):=zcB hu (by omega)
    have e3:IntKind.u64.wrap ((b:Int)+(u:Int))=(bu:Int):=zcA hbu (by omega)
    by_cases hT:p=bu
    · have hmk:h=gk∧k=m:=by
        refine HN.out.1.one hNm ?_
        rw [← HN.out.2.1]
        unfold PLC
        rw [hz] at hb
        rw [Nat.pow_succ,hz,← hb]
        omega
      obtain ⟨rfl,rfl⟩:=hmk
      have hT':((p:Int) == (bu:Int))=true:=by simp;omega
      have hh:(h:Int) % 256=(h:Int):=by omega
      clear hg hb hNm hbp hpu HN hpl hbl hz hu hbu hT
      subst hw
      go_wp2_with fail
      refine (c1 _).mono ?_
      rintro e w' ⟨rfl,rfl⟩
      clear c1
      go_wp2
      refine bodyPost_ret (v:=.tuple #[SPOT h k,.bool true]) ?_ rfl ⟨rfl,(Below.refl _ _).alloc (Nat.le_refl _) _⟩
      simp [results,Tryz.f145,go_sem]
    · have hT':((p:Int) == (bu:Int))=false:=by simp;omega
      have h1:1≤gk:=by
        rcases Nat.eq_zero_or_pos gk with h0 | h0
        · subst h0
          simp at hz
          omega
        · exact h0
      obtain ⟨g,rfl⟩:∃ g,gk=g+1:=⟨gk - 1,by omega⟩
      have hm62:=hNm.index_lt
      obtain ⟨bz,hbz⟩:∃ bz,b+z1=bz:=⟨_,rfl⟩
      obtain ⟨m2,hm2⟩:∃ m2,2*m=m2:=⟨_,rfl⟩
      obtain ⟨m3,hm3⟩:∃ m3,m2+1=m3:=⟨_,rfl⟩
      have RR:=zee hg hNm hb hbp hpu hz hbz (by omega)
      rw [hm2,hm3] at RR
      have e4:IntKind.u64.wrap (2*(m:Int))=(m2:Int):=zcB hm2 (by omega)
      have e5:IntKind.u64.wrap ((u:Int) / 2)=(z1:Int):=zfC hu (by omega)
      have e5':(u:Int) / 2=(z1:Int):=zed hu
      have e6:wrap64 (g:Int)=(g:Int):=by unfold wrap64;omega
      have e7:IntKind.u64.wrap ((b:Int)+(z1:Int))=(bz:Int):=zcA hbz (by omega)
      have e8:IntKind.u64.wrap ((m2:Int)+1)=(m3:Int):=zgB hm3 (by omega)
      have R:Aside (wr=w.alloc (.cells #[.int .u8 0,.int .u64 0] 79)∧g+1≤62∧b≤p∧Node g m2∧Node g m3∧b=z0s (m2*2 ^ g)∧bz=z0s (m3*2 ^ g)∧(bz≤p→p+2≤bz+2 ^ (g+1))∧(p<bz→p+2≤b+2 ^ (g+1))):=⟨hw,hg,hbp,RR⟩
      rw [show (((g+1:Nat):Int))=(g:Int)+1 by omega] at c1 ⊢
      clear RR hw hg hNm hbp hb hpu hT hz hbz hbu hu HN hpl hbl h1 hm62 hm2 hm3 hd
      by_cases hlt:bz≤p
      · have hd3:(bz:Int)≤(p:Int):=by omega
        have R2:Aside (bz≤p):=hlt
        clear hlt
        go_wp2_with fail
        refine (c1 _).mono ?_
        rintro e w' ⟨rfl,rfl⟩
        clear c1
        go_wp2
        go_roundg g
        case measure=>omega
        case rel=>
          obtain ⟨r1,r2,r3,r4,r5,r6,r7,r8,r9⟩:=R.out
          have s1:=R2.out
          rw [e6]
          exact ⟨bz,m3,rfl,rfl,rfl,r1,by omega,r7,r5,s1,r8 s1⟩
      · have hd3:¬ (bz:Int)≤(p:Int):=by omega
        have R2:Aside (p<bz):=by unfold Aside;omega
        clear hlt
        go_wp2_with fail
        refine (c1 _).mono ?_
        rintro e w' ⟨rfl,rfl⟩
        clear c1
        go_wp2
        go_roundg g
        case measure=>omega
        case rel=>
          obtain ⟨r1,r2,r3,r4,r5,r6,r7,r8,r9⟩:=R.out
          have s1:=R2.out
          rw [e6]
          exact ⟨b,m2,rfl,rfl,rfl,r1,by omega,r6,r4,r3,r9 s1⟩
end Go.Proofs.YthpdlnbbbcgemaaGreatDoor

namespace Go.Proofs.YthpdlnbbbcgemaaGreatDoor
open Go.RowKit
def RefAt (p:Int) (h k:Nat) (ok:Bool):Prop:=∀ w,Calls Tryz.prog 145 #[.int .u64 p] w fun e w'=>e=.returned (.tuple #[SPOT h k,.bool ok])∧Below w.heap.size w w'
theorem RefAt.node {h k:Nat} (hN:Node h k):RefAt ((PLC h k:Nat):Int) h k true:=fun w=>zbb h k hN w
theorem RefAt.out {p:Int} (hp:9223372036854775807≤p):RefAt p 0 0 false:=fun w=>z9B p hp w
theorem z8B (h k:Nat) (t z y l a r:Int) (w:World) (hh:h≤62) (hm:wrap64 (h:Int)=(h:Int)) (hm2:IntKind.u64.wrap (h:Int)=(h:Int)) (ht:wrap64 (62 - (h:Int))=t) (hk:decide (y≤(k:Int))=false)
    (cy:∀ w,Calls Tryz.prog 60 #[.int .i64 t] w fun e w'=>e=.returned (.int .u64 y)∧w=w') (cz:∀ w,Calls Tryz.prog 60 #[.int .i64 (h:Int)] w fun e w'=>e=.returned (.int .u64 z)∧w=w')
    (e0:IntKind.u64.wrap ((k:Int)+1)=(k:Int)+1) (e1:IntKind.u64.wrap (IntKind.u64.wrap (((k:Int)+1)*z) - 1)=l) (ca:∀ w,Calls Tryz.prog 127 #[.int .u64 l] w fun e w'=>e=.returned (.tuple #[.int .u64 a,.bool true])∧w=w') (e2:IntKind.u64.wrap (a+(h:Int))=r):
    Calls Tryz.prog 99 #[SPOT h k] w fun e w'=>e=.returned (.tuple #[.int .u64 r,.bool true])∧Below w.heap.size w w':=by
  have hd:decide ((62:Int)<(h:Int))=false:=by simp;omega
  go_enter Tryz.func99,Tryz.ntmps99
  go_wp2
  have hc0:(w.alloc (.cells #[.int .u8 (h:Int),.int .u64 (k:Int)] 79)).cell? ⟨w.heap.size,0,none⟩=some (.int .u8 (h:Int)):=by simp
  have hc1:(w.alloc (.cells #[.int .u8 (h:Int),.int .u64 (k:Int)] 79)).cell? ⟨w.heap.size,1,none⟩=some (.int .u64 (k:Int)):=by simp
  have R2:Aside (Below w.heap.size w (w.alloc (.cells #[.int .u8 (h:Int),.int .u64 (k:Int)] 79))):=(Below.refl _ _).alloc (Nat.le_refl _) _
  generalize w.alloc (.cells #[.int .u8 (h:Int),.int .u64 (k:Int)] 79)=W at *
  generalize hb:w.heap.size=b at *
  clear hh
  go_quiet ((go_at_call 60;exact z0H (cy _)))
  have R3:Aside (Below b w (W.drewN nq)):=below_drewN R2.out nq
  have hc0':(W.drewN nq).cell? ⟨b,0,none⟩=some (.int .u8 (h:Int)):=hc0
  have hc1':(W.drewN nq).cell? ⟨b,1,none⟩=some (.int .u64 (k:Int)):=hc1
  clear hc0 hc1 R2 cy
  generalize W.drewN nq=W2 at *
  go_wp2
  go_quiet (first | (go_at_call 60;exact z0H (cz _)) | (go_at_call 127;exact z0H (ca _)))
  go_wp2
  go_ret2
  exact ⟨rfl,by rw [hb];exact below_drewN R3.out _⟩
theorem z5e (h k:Nat) (hN:Node h k) (w:World):Calls Tryz.prog 99 #[SPOT h k] w fun e w'=>e=.returned (.tuple #[.int .u64 ((PLC h k:Nat):Int),.bool true])∧Below w.heap.size w w':=by
  have h1:=hN.1
  have h2:=hN.2
  have h3:=hN.span
  have h4:=hN.index_lt
  have h5:=hN.lt
  have h7:=z5C h k
  have h8:=zai h k
  refine z8B h k ((62 - h:Nat):Int) ((2 ^ h:Nat):Int) ((2 ^ (62 - h):Nat):Int) (((k+1)*2 ^ h - 1:Nat):Int) ((z0s ((k+1)*2 ^ h - 1):Nat):Int) _ w h1 (by unfold wrap64;omega) (by rw [z06];omega) (by unfold wrap64;omega) (by simp only [decide_eq_false_iff_not];omega) (fun w=>z1a _ (by omega) w) (fun w=>z1a _ (by omega) w) (by rw [z06];omega) ?_ (fun w=>z9A _ (by omega) w) ?_
  · rw [show (((k:Int)+1)*((2 ^ h:Nat):Int))=(((k+1)*2 ^ h:Nat):Int) by rw [Int.natCast_mul];rfl]
    generalize (k+1)*2 ^ h=x at *
    rw [z06,z06]
    omega
  · rw [z06]
    omega
end Go.Proofs.YthpdlnbbbcgemaaGreatDoor

namespace Go.Proofs.YthpdlnbbbcgemaaGreatDoor
open Go.RowKit
def TOPS (h n:Nat):List (Nat × Nat):=(HS h n).map fun g=>(g,2*(n / 2 ^ (g+1)))
theorem zef {h n:Nat} (hh:h<64) (hb:n / 2 ^ h % 2=1):TOPS h n=TOPS (h+1) n ++ [(h,2*(n / 2 ^ (h+1)))]:=by
  unfold TOPS
  rw [z3P hh hb,List.map_append]
  rfl
theorem zbc {h n:Nat} (hh:h<64) (hb:¬ n / 2 ^ h % 2=1):TOPS h n=TOPS (h+1) n:=by
  unfold TOPS
  rw [z3d hh hb]
theorem z3G {n:Nat} (hn:n<2 ^ 64) (h:Nat) (hh:h≤64):(TOPS h n).length=PC (n / 2 ^ h):=by
  unfold TOPS
  rw [List.length_map]
  exact z4v hn h hh
theorem zbd {n h at' r:Nat} (ha:at'=n / 2 ^ (h+1)*2 ^ (h+1)) (hr:r=n - at'):at'≤n∧(2 ^ h≤r↔n / 2 ^ h % 2=1)∧at' / 2 ^ h=2*(n / 2 ^ (h+1))∧(n / 2 ^ h % 2=1→at'+2 ^ h=n / 2 ^ h*2 ^ h)∧(¬ n / 2 ^ h % 2=1→at'=n / 2 ^ h*2 ^ h):=by
  have hp:=Nat.two_pow_pos h
  have e1:at'=2*(n / 2 ^ (h+1))*2 ^ h:=by rw [ha,z1d]
  have hd:=Nat.div_add_mod n (2 ^ h)
  have hm:=Nat.mod_lt n hp
  rw [Nat.mul_comm] at hd
  have hq:at' / 2 ^ h=2*(n / 2 ^ (h+1)):=by rw [e1,Nat.mul_div_cancel _ hp]
  by_cases hb:n / 2 ^ h % 2=1
  · have h2:=z65 hb
    have e2:n / 2 ^ h*2 ^ h=at'+2 ^ h:=by rw [h2,Nat.add_mul,Nat.one_mul,← e1]
    exact ⟨by omega,⟨fun _=>hb,fun _=>by omega⟩,hq,fun _=>e2.symm,fun h=>absurd hb h⟩
  · have h2:=z8r hb
    have e2:n / 2 ^ h*2 ^ h=at':=by rw [h2,← e1]
    exact ⟨by omega,⟨fun _=>by omega,fun h=>absurd h hb⟩,hq,fun h=>absurd h hb,fun _=>e2.symm⟩
set_option maxHeartbeats 1000000 in
theorem z6X (n:Nat) (hn:n≤4611686018427387904) (w:World):Calls Tryz.prog 32 #[.int .u64 (n:Int)] w fun e w'=>
    ∃ v,e=.returned v∧w'.ownsRow w.heap.size 79 2 v (PC n) (z05 (TOPS 0 n))∧Below w.heap.size w w':=by
  have HN:Aside (n≤4611686018427387904):=hn
  have hd:¬ (4611686018427387904:Int)<(n:Int):=by omega
  clear hn
  go_enter Tryz.func32,Tryz.ntmps32
  go_wp2
  go_loopg [3,4,5] 63 (fun q s3 s4 s5 wx=>∃ a:Nat,s4=.int .u64 (a:Int)∧s5=.int .i64 ((q:Int) - 1)∧Aside (q≤63∧a=n / 2 ^ q*2 ^ q∧wx.ownsRow w.heap.size 79 2 s3 (PC (n / 2 ^ q)) (z05 (TOPS q n))∧Below w.heap.size w wx))
  case atStart=>
    have hz:n / 2 ^ 63=0:=Nat.div_eq_of_lt (by have:=HN.out;omega)
    refine ⟨0,rfl,rfl,by omega,by rw [hz,Nat.zero_mul],?_,Below.refl _ _⟩
    rw [hz,z1h]
    have ht:TOPS 63 n=[]:=by
      unfold TOPS
      rw [z8q (by have:=HN.out;omega)]
      rfl
    rw [ht]
    exact ⟨rfl,.inl ⟨rfl,rfl⟩⟩
  case round=>
    obtain ⟨a,rfl,rfl,A⟩:=hrel
    cases gk with
    | zero=>
      have hlt:¬ (0:Int)≤((0:Nat):Int) - 1:=by omega
      go_wp2
      go_ret
      obtain ⟨_,_,hown,hbel⟩:=A.out
      rw [Nat.pow_zero,Nat.div_one] at hown
      exact ⟨_,rfl,hown,hbel⟩
    | succ h=>
      obtain ⟨h63,ha,hown,hbel⟩:=A.out
      have hnn:=HN.out
      obtain ⟨r,hr⟩:∃ r,r=n - a:=⟨_,rfl⟩
      obtain ⟨p1,p2,p3,p4,p5⟩:=zbd ha hr
      have c:=z1a h (by omega)
      have hpw:2 ^ h≤2 ^ 62:=Nat.pow_le_pow_right (by decide) (by omega)
      have hp0:=Nat.two_pow_pos h
      have e0:((h+1:Nat):Int) - 1=(h:Int):=by omega
      have e0':¬ (h:Int)<0:=by omega
      have e1:IntKind.u64.wrap ((n:Int) - (a:Int))=(r:Int):=by rw [z06];omega
      have e3:(h:Int) % 256=(h:Int):=by omega
      have e4:wrap64 ((h:Int) - 1)=(h:Int) - 1:=by unfold wrap64;omega
      rw [e0]
      by_cases hb:n / 2 ^ h % 2=1
      · have hge:2 ^ h≤r:=p2.2 hb
        have pq:=p4 hb
        have e5:(a:Int) / ((2 ^ h:Nat):Int)=((2*(n / 2 ^ (h+1)):Nat):Int):=by rw [← p3,Int.natCast_ediv]
        have hT:=zef (n:=n) (h:=h) (by omega) hb
        have hPC:PC (n / 2 ^ h)=PC (n / 2 ^ (h+1))+1:=by rw [z0Q,← z2c];omega
        have hlen:PC (n / 2 ^ (h+1))≤1000:=by have:=z0O 64 (n / 2 ^ (h+1)) (Nat.lt_of_le_of_lt (Nat.div_le_self _ _) (by omega));omega
        have hk64:2*(n / 2 ^ (h+1))<2 ^ 64:=by rw [← p3];exact Nat.lt_of_le_of_lt (Nat.div_le_self _ _) (by omega)
        generalize 2*(n / 2 ^ (h+1))=k at *
        have e7:IntKind.u64.wrap (k:Int)=(k:Int):=by rw [z06];omega
        have e6:IntKind.u64.wrap ((a:Int)+((2 ^ h:Nat):Int))=((n / 2 ^ h*2 ^ h:Nat):Int):=by rw [z06,← pq];omega
        have hge':((2 ^ h:Nat):Int)≤(r:Int):=by omega
        have hz0:¬ ((2 ^ h:Nat):Int)=0:=by omega
        generalize hm:PC (n / 2 ^ (h+1))=m at *
        generalize hl:TOPS (h+1) n=l at *
        generalize ((2 ^ h:Nat):Int)=z at *
        generalize hx:n / 2 ^ h*2 ^ h=x at *
        have R:Aside (h≤62∧x=n / 2 ^ h*2 ^ h∧wr.ownsRow w.heap.size 79 2 u3 m (z05 l)∧Below w.heap.size w wr∧m≤1000∧PC (n / 2 ^ h)=m+1∧TOPS h n=l ++ [(h,k)]):=⟨by omega,hx.symm,hown,hbel,hlen,hPC,hT⟩
        clear A HN h63 ha hown hbel hnn hr p1 p2 p3 p4 p5 hpw hp0 hb hge pq hT hPC hlen hk64 hm hl hx
        go_wp2_with fail
        refine (c _).mono ?_
        rintro e w' ⟨rfl,rfl⟩
        go_wp2_with fail
        refine (c _).mono ?_
        rintro e w' ⟨rfl,rfl⟩
        go_wp2_with (at_builtin;refine z2z _ rfl (.tmp 19) (.tmp 27) rfl w.heap.size u3 m l rfl (R.out.2.2.1.alloc _) wr.heap.size 1 h k rfl (by rw [World.cell?_alloc_at _ _ _ _ rfl];rfl) (by rw [World.cell?_alloc_at _ _ _ _ rfl];rfl) R.out.2.2.2.2.1 (by have:=R.out.2.2.2.1.size;simp;omega) ?_;intro g' cap w1 hown hgrow hg)
        obtain ⟨r1,r2,r3,r4,r5,r6,r7⟩:=R.out
        have R2:Aside (h≤63∧x=n / 2 ^ h*2 ^ h∧w1.ownsRow w.heap.size 79 2 (.slice (some ⟨g',0,none⟩) (m+1) cap) (PC (n / 2 ^ h)) (z05 (TOPS h n))∧Below w.heap.size w w1):=⟨by omega,r2,by rw [r6,r7];exact hown,(r4.alloc r4.size _).grown hgrow (by have:=r4.size;simp;omega) (fun k e=>(r3.lt k e).1)⟩
        clear hown hgrow hg R r1 r2 r3 r4 r5 r6 r7
        refine (c _).mono ?_
        rintro e w' ⟨rfl,rfl⟩
        clear c
        go_wp2
        go_roundg h
        case measure=>omega
        case rel=>exact ⟨x,by first | rfl | (rw [e6]),by first | rfl | (rw [e4]),R2.out⟩
      · have hge:¬ 2 ^ h≤r:=fun h=>hb (p2.1 h)
        have pq:=p5 hb
        have hge':¬ ((2 ^ h:Nat):Int)≤(r:Int):=by omega
        have hT:=zbc (n:=n) (h:=h) (by omega) hb
        have hPC:PC (n / 2 ^ h)=PC (n / 2 ^ (h+1)):=by rw [z0Q,← z2c];omega
        generalize ((2 ^ h:Nat):Int)=z at *
        have R:Aside (h≤63∧a=n / 2 ^ h*2 ^ h∧wr.ownsRow w.heap.size 79 2 u3 (PC (n / 2 ^ h)) (z05 (TOPS h n))∧Below w.heap.size w wr):=⟨by omega,pq,by rw [hT,hPC];exact hown,hbel⟩
        clear A HN h63 ha hown hbel hnn hr p1 p2 p3 p4 p5 hpw hp0 hb hge pq hT hPC
        go_wp2_with fail
        refine (c _).mono ?_
        rintro e w' ⟨rfl,rfl⟩
        clear c
        go_wp2
        go_roundg h
        case measure=>omega
        case rel=>exact ⟨a,rfl,by first | rfl | (rw [e4]),R.out⟩
end Go.Proofs.YthpdlnbbbcgemaaGreatDoor

namespace Go.Proofs.YthpdlnbbbcgemaaGreatDoor
open Go.RowKit
theorem zbe (n:Nat) (hn:n≤4611686018427387904) (w:World):Calls Tryz.prog 32 #[.int .u64 (n:Int)] w fun e w'=>
    ∃ a cap,e=.returned (.slice a (PC n) cap)∧Spots w' a (TOPS 0 n)∧Below w.heap.size w w':=by
  refine (z6X n hn w).mono ?_
  rintro e w' ⟨v,rfl,hown,hb⟩
  have hl:=z3G (n:=n) (by omega) 0 (by omega)
  rw [Nat.pow_zero,Nat.div_one] at hl
  obtain ⟨a,cap,rfl,hs⟩:=z2g hl hown
  exact ⟨a,cap,rfl,hs,hb⟩
theorem zcC {n:Nat} (hn:n≤4611686018427387904) {j h k:Nat} (e:(TOPS 0 n)[j]?=some (h,k)):Node h k∧h<64:=by
  unfold TOPS at e
  rw [List.getElem?_map] at e
  obtain ⟨g,hg,e2⟩:=Option.map_eq_some_iff.1 e
  simp only [Prod.mk.injEq] at e2
  obtain ⟨rfl,rfl⟩:=e2
  obtain ⟨_,h1,h2⟩:=zcs 0 g (by omega) (List.mem_of_getElem? hg)
  exact ⟨Node.peak hn h2,h1⟩
theorem zbf (n:Nat):z1G n=(TOPS 0 n).map fun x=>PLC x.1 x.2:=by
  unfold z1G TOPS
  rw [List.map_map]
  rfl
set_option maxHeartbeats 1000000 in
theorem z9C (n:Nat) (hn:n≤4611686018427387904) (w:World):Calls Tryz.prog 98 #[.int .u64 (n:Int)] w fun e w'=>
    ∃ v,e=.returned v∧w'.ownsRow w.heap.size 22 1 v (PC n) (z0h (z1G n))∧Below w.heap.size w w':=by
  have c:=zbe n hn w
  have hl:=z3G (n:=n) (by omega) 0 (by omega)
  rw [Nat.pow_zero,Nat.div_one] at hl
  have hP:=z0O 64 n (by omega)
  have hN:=fun (j h k:Nat) (e:(TOPS 0 n)[j]?=some (h,k))=>zcC hn e
  have hpt:=zbf n
  generalize PC n=L at *
  generalize TOPS 0 n=l at *
  have HL:Aside (l.length=L∧L≤64∧(∀ j h k,l[j]?=some (h,k)→Node h k∧h<64)∧z1G n=l.map fun x=>PLC x.1 x.2):=⟨hl,hP,hN,hpt⟩
  clear hn hl hP hN hpt
  go_enter Tryz.func98,Tryz.ntmps98
  go_wp2_with fail
  refine c.mono ?_
  rintro e w1 ⟨a,cap,rfl,hs,hb⟩
  have R1:Aside (Spots w1 a l∧Below w.heap.size w w1):=⟨hs,hb⟩
  clear c hs hb
  go_wp2
  go_loopg [3,5] L (fun q s3 s5 wx=>∃ j:Nat,s5=.int .i64 (j:Int)∧Aside (j+q=L∧wx.ownsRow w1.heap.size 22 1 s3 j (z0h ((l.take j).map fun x=>PLC x.1 x.2))∧Below w1.heap.size w1 wx))
  case atStart=>exact ⟨0,rfl,by omega,⟨rfl,.inl ⟨rfl,rfl⟩⟩,Below.refl _ _⟩
  case round=>
    obtain ⟨j,rfl,A⟩:=hrel
    cases gk with
    | zero=>
      obtain rfl:j=L:=by have:=A.out.1;omega
      have hlt:¬ (j:Int)<(j:Int):=by omega
      go_wp2
      go_ret
      obtain ⟨_,hown,hbel⟩:=A.out
      rw [List.take_of_length_le (by rw [HL.out.1];omega),← HL.out.2.2.2] at hown
      exact ⟨_,rfl,z0u hown R1.out.2.size,R1.out.2.trans (hbel.mono R1.out.2.size)⟩
    | succ q=>
      have hjl:j<L:=by have:=A.out.1;omega
      have hlt:(j:Int)<(L:Int):=by omega
      have hj0:¬ (j:Int)<0:=by omega
      obtain ⟨⟨h,k⟩,hx⟩:∃ x,l[j]?=some x:=⟨_,List.getElem?_eq_getElem (by rw [HL.out.1];exact hjl)⟩
      obtain ⟨g,rfl,hg,hc⟩:=R1.out.1 (by rw [HL.out.1];omega)
      have h0:wr.cell? ⟨g,j*2,none⟩=some (.int .u8 (h:Int)):=(A.out.2.2.cell (p:=⟨g,j*2,none⟩) hg).trans (hc j h k hx).1
      have h1:wr.cell? ⟨g,j*2+1,none⟩=some (.int .u64 (k:Int)):=(A.out.2.2.cell (p:=⟨g,j*2+1,none⟩) hg).trans (hc j h k hx).2
      have cp:=fun w=>z5e h k (HL.out.2.2.1 j h k hx).1 w
      have e1:wrap64 ((j:Int)+1)=((j+1:Nat):Int):=by have:=HL.out.2.1;unfold wrap64;omega
      have ht:(l.take (j+1)).map (fun x=>PLC x.1 x.2)=(l.take j).map (fun x=>PLC x.1 x.2) ++ [PLC h k]:=by
        rw [List.take_add_one,hx]
        simp
      generalize PLC h k=y at *
      generalize hm:(l.take j).map (fun x=>PLC x.1 x.2)=m at *
      generalize hm2:(l.take (j+1)).map (fun x=>PLC x.1 x.2)=m2 at *
      have R:Aside (j+1+q=L∧wr.ownsRow w1.heap.size 22 1 u3 j (z0h m)∧Below w1.heap.size w1 wr∧j≤1000∧m2=m ++ [y]∧(l.take (j+1)).map (fun x=>PLC x.1 x.2)=m2):=⟨by have:=A.out.1;omega,A.out.2.1,A.out.2.2,by have:=HL.out.2.1;omega,ht,hm2⟩
      clear A HL R1 hx hg hc ht hm hm2 hjl
      go_wp2_with fail
      refine (cp _).mono ?_
      rintro e w2 ⟨rfl,hb⟩
      replace R:Aside (j+1+q=L∧w2.ownsRow w1.heap.size 22 1 u3 j (z0h m)∧Below w1.heap.size w1 w2∧j≤1000∧m2=m ++ [y]∧(l.take (j+1)).map (fun x=>PLC x.1 x.2)=m2):=⟨R.out.1,z0q R.out.2.1 hb,R.out.2.2.1.trans (hb.mono R.out.2.2.1.size),R.out.2.2.2⟩
      clear cp hb h0 h1
      go_wp2_with (at_builtin;refine z6R _ rfl (.tmp 24) (.tmp 26) rfl w1.heap.size u3 j m rfl (R.out.2.1.alloc _) w2.heap.size 1 y rfl (by rw [World.cell?_alloc_at _ _ _ _ rfl];rfl) R.out.2.2.2.1 (by have:=R.out.2.2.1.size;simp;omega) ?_;intro g' cap' w3 hown hgrow hg)
      obtain ⟨r1,r2,r3,r4,r5,r6⟩:=R.out
      have R2:Aside (j+1+q=L∧w3.ownsRow w1.heap.size 22 1 (.slice (some ⟨g',0,none⟩) (j+1) cap') (j+1) (z0h ((l.take (j+1)).map fun x=>PLC x.1 x.2))∧Below w1.heap.size w1 w3):=⟨r1,by rw [r6,r5];exact hown,(r3.alloc r3.size _).grown hgrow (by have:=r3.size;simp;omega) (fun k e=>(r2.lt k e).1)⟩
      clear hown hgrow hg R r1 r2 r3 r4 r5 r6
      go_wp2
      go_roundg q
      case measure=>omega
      case rel=>exact ⟨j+1,by first | rfl | (rw [e1]),R2.out⟩
end Go.Proofs.YthpdlnbbbcgemaaGreatDoor

namespace Go.Proofs.YthpdlnbbbcgemaaGreatDoor
open Go.RowKit
theorem zfD {n j:Nat} (hn:n<2 ^ 64) (hj:j<PC n):(TOPS 0 n)[j]?=some (HGT n j,KGT n j):=by
  unfold TOPS
  rw [List.getElem?_map,(z2N hn hj).1]
  rfl
end Go.Proofs.YthpdlnbbbcgemaaGreatDoor

namespace Go.Proofs.YthpdlnbbbcgemaaGreatDoor
open Go.RowKit
end Go.Proofs.YthpdlnbbbcgemaaGreatDoor

namespace Go.Proofs.YthpdlnbbbcgemaaGreatDoor
open Go.RowKit
end Go.Proofs.YthpdlnbbbcgemaaGreatDoor
