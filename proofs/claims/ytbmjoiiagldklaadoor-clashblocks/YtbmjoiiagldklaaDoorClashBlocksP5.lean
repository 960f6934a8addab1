/- Texts of ClashBlocks, one behind the other: CutPlain, PosCoversPlain, CutTopsPlain, ProofPlain, PosRef, PosRefSpot, PosRefKin, PosTops, PosRefPeaks, PosRefPeak, PosRefPath, PosAwake, PosFour, CutCalls, CutHas, CutSpan, CutOver. -/
import Derived.Deep.QuietTactic
import Derived.BigQuiet
import Derived.Test.YtbmjoiiagldklaaDoorClashBlocksP3
import Derived.Test.YtbmjoiiagldklaaDoorClashBlocksP4
namespace Go.Proofs.YtbmjoiiagldklaaDoor
abbrev Fit (a h b:Nat):Prop:=a % 2 ^ h=0∧a+2 ^ h≤b
theorem Fit.down {a h b:Nat} (f:Fit a (h+1) b):Fit a h b:=by
  have h1:2 ^ (h+1)=2 ^ h*2:=Nat.pow_succ 2 h
  have h2:=f.2
  refine ⟨?_,by omega⟩
  have h3:=f.1
  have h4:2 ^ h ∣ 2 ^ (h+1):=⟨2,h1⟩
  exact Nat.mod_eq_zero_of_dvd (Nat.dvd_trans h4 (Nat.dvd_of_mod_eq_zero h3))
theorem Fit.le {a g b:Nat}:∀ h,h≤g→Fit a g b→Fit a h b:=by
  intro h hg f
  induction g with
  | zero => obtain rfl:h=0:=by omega
            exact f
  | succ g ih=>
    rcases Nat.lt_or_ge h (g+1) with h1 | h1
    · exact ih (by omega) f.down
    · obtain rfl:h=g+1:=by omega
      exact f
theorem Fit.zero {a b:Nat} (h:a<b):Fit a 0 b:=⟨Nat.mod_one a,by simp;omega⟩
def HTF:Nat→Nat→Nat→Nat
  | 0,_,_=>0
  | f+1,a,b=>if Fit a (f+1) b then f+1 else HTF f a b
def HT (a b:Nat):Nat:=HTF 62 a b
theorem zeM {a b:Nat} (hab:a<b):∀ f,¬ Fit a (f+1) b→HTF f a b≤f∧Fit a (HTF f a b) b∧¬ Fit a (HTF f a b+1) b:=by
  intro f
  induction f with
  | zero=>intro h;exact ⟨Nat.le_refl _,Fit.zero hab,h⟩
  | succ f ih=>
    intro h
    unfold HTF
    split
    · rename_i h1
      exact ⟨Nat.le_refl _,h1,h⟩
    · rename_i h1
      have:=ih h1
      exact ⟨by omega,this.2⟩
theorem zaQ {a b:Nat} (hab:a<b) (hb:b≤4611686018427387904):HT a b≤62∧Fit a (HT a b) b∧¬ Fit a (HT a b+1) b:=by
  refine zeM hab 62 ?_
  intro h
  have:=h.2
  simp at this
  omega
theorem zaR {a b h:Nat} (hab:a<b) (hb:b≤4611686018427387904) (h1:Fit a h b) (h2:¬ Fit a (h+1) b):h=HT a b:=by
  obtain ⟨_,a1,a2⟩:=zaQ hab hb
  rcases Nat.lt_trichotomy h (HT a b) with c | c | c
  · exact absurd (a1.le (h+1) (by omega)) h2
  · exact c
  · exact absurd (h1.le (HT a b+1) (by omega)) a2
def z4M:Nat→Nat→Nat→List (Nat × Nat)
  | 0,_,_=>[]
  | f+1,a,b=>if a<b then (HT a b,a / 2 ^ HT a b) :: z4M f (a+2 ^ HT a b) b else []
def SPAN (a b:Nat):List (Nat × Nat):=z4M (b - a) a b
theorem zbH:∀ f g a b,b - a≤f→b - a≤g→z4M f a b=z4M g a b:=by
  intro f
  induction f with
  | zero=>
    intro g a b h1 h2
    cases g with
    | zero=>rfl
    | succ g=>simp [z4M];omega
  | succ f ih=>
    intro g a b h1 h2
    cases g with
    | zero=>simp [z4M];omega
    | succ g=>
      unfold z4M
      have:=Nat.two_pow_pos (HT a b)
      rw [ih g (a+2 ^ HT a b) b (by omega) (by omega)]
theorem z6d {a b:Nat} (h:b≤a):SPAN a b=[]:=by
  unfold SPAN
  rw [show b - a=0 by omega]
  rfl
theorem z5k {a b:Nat} (h:a<b):SPAN a b=(HT a b,a / 2 ^ HT a b) :: SPAN (a+2 ^ HT a b) b:=by
  unfold SPAN
  obtain ⟨f,hf⟩:∃ f,b - a=f+1:=⟨b - a - 1,by omega⟩
  have:=Nat.two_pow_pos (HT a b)
  rw [hf]
  show (if a<b then _ else _)=_
  rw [if_pos h]
  congr 1
  exact zbH _ _ _ _ (by omega) (by omega)
def Tile:Nat→List (Nat × Nat)→Nat→Prop
  | a,[],b=>a=b
  | a,s :: l,b=>Node s.1 s.2∧s.2*2 ^ s.1=a∧Tile ((s.2+1)*2 ^ s.1) l b
abbrev Sibs (x y:Nat × Nat):Prop:=x.1=y.1∧x.2 % 2=0∧y.2=x.2+1
def Irr:List (Nat × Nat)→Prop
  | []=>True
  | x :: l=>(∀ y,l.head?=some y→¬ Sibs x y)∧Irr l
theorem Fit.node {a h b:Nat} (f:Fit a h b) (hh:h≤62) (hb:b≤4611686018427387904):Node h (a / 2 ^ h)∧a / 2 ^ h*2 ^ h=a∧(a / 2 ^ h+1)*2 ^ h=a+2 ^ h:=by
  have h1:a / 2 ^ h*2 ^ h=a:=Nat.div_mul_cancel (Nat.dvd_of_mod_eq_zero f.1)
  have h2:(a / 2 ^ h+1)*2 ^ h=a+2 ^ h:=by rw [Nat.add_mul,Nat.one_mul,h1]
  refine ⟨⟨hh,?_⟩,h1,h2⟩
  have h3:(a / 2 ^ h+1)*2 ^ h≤2 ^ (62 - h)*2 ^ h:=by
    rw [h2,← Nat.pow_add,show 62 - h+h=62 by omega]
    have:=f.2
    simp
    omega
  exact Nat.le_of_mul_le_mul_right h3 (Nat.two_pow_pos h)
theorem z6F (h:Nat):2 ^ (h+1)=2*2 ^ h:=by rw [Nat.pow_succ,Nat.mul_comm]
theorem zaS {k h:Nat}:k*2 ^ h % 2 ^ (h+1)=0↔k % 2=0:=by
  rw [Nat.pow_succ,Nat.mul_comm (2 ^ h) 2,Nat.mul_mod_mul_right]
  have:=Nat.two_pow_pos h
  constructor
  · intro e
    rcases Nat.mul_eq_zero.1 e with e | e
    · exact e
    · omega
  · intro e
    rw [e,Nat.zero_mul]
theorem zd5 {b:Nat} (hb:b≤4611686018427387904):∀ f a,b - a≤f→a≤b→Tile a (SPAN a b) b:=by
  intro f
  induction f with
  | zero=>
    intro a h1 h2
    rw [z6d (by omega)]
    exact (by omega:a=b)
  | succ f ih=>
    intro a h1 h2
    rcases Nat.lt_or_ge a b with h | h
    · obtain ⟨s1,s2,_⟩:=zaQ h hb
      obtain ⟨n1,n2,n3⟩:=s2.node s1 hb
      rw [z5k h]
      refine ⟨n1,n2,?_⟩
      show Tile ((a / 2 ^ HT a b+1)*2 ^ HT a b) _ b
      rw [n3]
      have:=Nat.two_pow_pos (HT a b)
      exact ih _ (by omega) s2.2
    · rw [z6d h]
      exact (by omega:a=b)
theorem z7X {a b:Nat} (hb:b≤4611686018427387904) (h:a≤b):Tile a (SPAN a b) b:=zd5 hb (b - a) a (Nat.le_refl _) h
theorem Tile.bound {l:List (Nat × Nat)}:∀ {a b:Nat},Tile a l b→a≤b∧(l≠[]→a<b∧b≤4611686018427387904):=by
  induction l with
  | nil=>intro a b h;exact ⟨by have:a=b:=h;omega,fun h=>absurd rfl h⟩
  | cons s l ih=>
    intro a b ⟨h1,h2,h3⟩
    have i:=ih h3
    have:=Nat.two_pow_pos s.1
    have e:(s.2+1)*2 ^ s.1=s.2*2 ^ s.1+2 ^ s.1:=by rw [Nat.add_mul,Nat.one_mul]
    refine ⟨by omega,fun _=>⟨by omega,?_⟩⟩
    cases l with
    | nil=>
      have h4:(s.2+1)*2 ^ s.1=b:=h3
      have:=h1.span
      simp at this
      omega
    | cons t l=>exact (i.2 (by simp)).2
theorem zd6 {l:List (Nat × Nat)}:∀ {a b:Nat},Tile a l b→Irr l→l=SPAN a b:=by
  induction l with
  | nil=>
    intro a b h _
    have:a=b:=h
    rw [z6d (by omega)]
  | cons s l ih=>
    intro a b ht hi
    obtain ⟨h1,h2,h3⟩:=ht
    obtain ⟨hab,hb⟩:=(Tile.bound (l:=s :: l) ⟨h1,h2,h3⟩).2 (by simp)
    have e:(s.2+1)*2 ^ s.1=s.2*2 ^ s.1+2 ^ s.1:=by rw [Nat.add_mul,Nat.one_mul]
    have hl:=ih h3 hi.2
    have hle:=h3.bound.1
    have hpos:=Nat.two_pow_pos s.1
    have hf:Fit a s.1 b:=⟨by rw [← h2];exact Nat.mul_mod_left _ _,by omega⟩
    have hn:¬ Fit a (s.1+1) b:=by
      intro hf2
      have hk:s.2 % 2=0:=zaS.1 (by rw [h2];exact hf2.1)
      have p2:=z6F s.1
      have hf3:=hf2.2
      have hlt:(s.2+1)*2 ^ s.1<b:=by omega
      have hF1:Fit ((s.2+1)*2 ^ s.1) s.1 b:=⟨Nat.mul_mod_left _ _,by omega⟩
      have hF2:¬ Fit ((s.2+1)*2 ^ s.1) (s.1+1) b:=by
        intro h
        have:=zaS.1 h.1
        omega
      have hH:=zaR hlt hb hF1 hF2
      rw [z5k hlt,← hH,Nat.mul_div_cancel _ hpos] at hl
      refine hi.1 (s.1,s.2+1) (by rw [hl];rfl) ⟨rfl,hk,rfl⟩
    have hH:=zaR hab hb hf hn
    rw [z5k hab,← hH,hl]
    congr 1
    · rw [← h2,Nat.mul_div_cancel _ hpos]
    · rw [e,h2]
theorem Tile.append {l m:List (Nat × Nat)}:∀ {a b c:Nat},Tile a l b→Tile b m c→Tile a (l ++ m) c:=by
  induction l with
  | nil=>intro a b c h h2;have:a=b:=h;rw [this];exact h2
  | cons s l ih=>intro a b c ⟨h1,h2,h3⟩ h4;exact ⟨h1,h2,ih h3 h4⟩
theorem Tile.node {l:List (Nat × Nat)}:∀ {a b i h k:Nat},Tile a l b→l[i]?=some (h,k)→Node h k:=by
  induction l with
  | nil=>intro a b i h k _ e;simp at e
  | cons s l ih=>
    intro a b i h k ⟨h1,h2,h3⟩ e
    cases i with
    | zero=>simp at e;subst e;exact h1
    | succ i=>exact ih h3 (by simpa using e)
theorem Tile.one {s:Nat × Nat} {a b:Nat}:Tile a [s] b↔Node s.1 s.2∧s.2*2 ^ s.1=a∧(s.2+1)*2 ^ s.1=b:=Iff.rfl
end Go.Proofs.YtbmjoiiagldklaaDoor

namespace Go.Proofs.YtbmjoiiagldklaaDoor
theorem z2E {n:Nat} (h:PC n=0):n=0:=by
  induction n using Nat.strongRecOn with
  | _ n ih=>
    by_cases h0:n=0
    · exact h0
    · rw [z0W] at h
      have:=ih (n / 2) (by omega) (by omega)
      omega
theorem z8X (n a b:Nat) (hab:a≤b):n / 2 ^ a=n / 2 ^ b*2 ^ (b - a)+n / 2 ^ a % 2 ^ (b - a)∧PC (n / 2 ^ a)=PC (n / 2 ^ b)+PC (n / 2 ^ a % 2 ^ (b - a)):=by
  have e:n / 2 ^ b=n / 2 ^ a / 2 ^ (b - a):=by rw [Nat.div_div_eq_div_mul,← Nat.pow_add,show a+(b - a)=b by omega]
  have h1:n / 2 ^ a=n / 2 ^ b*2 ^ (b - a)+n / 2 ^ a % 2 ^ (b - a):=by
    rw [e,Nat.mul_comm]
    exact (Nat.div_add_mod _ _).symm
  refine ⟨h1,?_⟩
  have h2:=z8H (b - a) (n / 2 ^ b) (n / 2 ^ a % 2 ^ (b - a)) (Nat.mod_lt _ (Nat.two_pow_pos _))
  rw [← h1] at h2
  exact h2
theorem zfV (n:Nat) {a b:Nat} (hab:a≤b):PC (n / 2 ^ b)≤PC (n / 2 ^ a):=by
  have:=(z8X n a b hab).2
  omega
theorem z8Y (n:Nat) {a b:Nat} (hab:a≤b) (h:PC (n / 2 ^ a)=PC (n / 2 ^ b)):n / 2 ^ a*2 ^ a=n / 2 ^ b*2 ^ b:=by
  obtain ⟨h1,h2⟩:=z8X n a b hab
  have h3:n / 2 ^ a % 2 ^ (b - a)=0:=z2E (by omega)
  rw [h3,Nat.add_zero] at h1
  rw [h1,Nat.mul_assoc,← Nat.pow_add,show b - a+a=b by omega]
theorem zeN {n:Nat} (hn:n<2 ^ 64):∀ h,h≤64→∀ i,i<PC (n / 2 ^ h)→∃ g,h≤g∧g<64∧(HS h n)[i]?=some g∧n / 2 ^ g % 2=1∧i=PC (n / 2 ^ (g+1)):=by
  have key:∀ d h,h+d=64→∀ i,i<PC (n / 2 ^ h)→∃ g,h≤g∧g<64∧(HS h n)[i]?=some g∧n / 2 ^ g % 2=1∧i=PC (n / 2 ^ (g+1)):=by
    intro d
    induction d with
    | zero=>
      intro h e i hi
      obtain rfl:h=64:=by omega
      rw [Nat.div_eq_of_lt hn,z1v] at hi
      omega
    | succ d ih=>
      intro h e i hi
      have hl:=z32 hn (h+1) (by omega)
      have hs:PC (n / 2 ^ h)=n / 2 ^ h % 2+PC (n / 2 ^ (h+1)):=by rw [z0W,z0X]
      rcases Nat.lt_or_ge i (PC (n / 2 ^ (h+1))) with h1 | h1
      · obtain ⟨g,a,b,c,r⟩:=ih (h+1) (by omega) i h1
        refine ⟨g,by omega,b,?_,r⟩
        by_cases hb:n / 2 ^ h % 2=1
        · rw [z3r (by omega) hb,List.getElem?_append_left (by omega)]
          exact c
        · rw [z4I (by omega) hb]
          exact c
      · have hb:n / 2 ^ h % 2=1:=by omega
        have hi':i=PC (n / 2 ^ (h+1)):=by omega
        refine ⟨h,Nat.le_refl _,by omega,?_,hb,hi'⟩
        rw [z3r (by omega) hb,List.getElem?_append_right (by omega),hl,hi']
        simp
  intro h hh
  exact key (64 - h) h (by omega)
def HGT (n i:Nat):Nat:=(HS 0 n).getD i 0
def z8B (n:Nat):Nat→Nat
  | 0=>0
  | i+1=>n / 2 ^ HGT n i*2 ^ HGT n i
theorem z2Q {n i:Nat} (hn:n<2 ^ 64) (hi:i<PC n):(HS 0 n)[i]?=some (HGT n i)∧n / 2 ^ HGT n i % 2=1∧i=PC (n / 2 ^ (HGT n i+1)):=by
  obtain ⟨g,_,_,c,d,e⟩:=zeN hn 0 (by omega) i (by rw [Nat.pow_zero,Nat.div_one];exact hi)
  have hg:HGT n i=g:=by unfold HGT;rw [List.getD_eq_getElem?_getD,c];rfl
  rw [hg]
  exact ⟨c,d,e⟩
def KGT (n i:Nat):Nat:=2*(n / 2 ^ (HGT n i+1))
theorem zeO {n i:Nat} (hn:n<2 ^ 64) (hi:i<PC n):(z1Q n).getD i 0=PLC (HGT n i) (KGT n i):=by
  unfold z1Q
  rw [List.getD_eq_getElem?_getD,List.getElem?_map,(z2Q hn hi).1]
  rfl
theorem zd7 {n i:Nat} (hn:n≤4611686018427387904) (hi:i<PC n):Node (HGT n i) (KGT n i):=Node.peak hn (z2Q (by omega) hi).2.1
theorem z6e {n i:Nat} (hn:n<2 ^ 64) (hi:i<PC n):PC (n / 2 ^ HGT n i)=i+1:=by
  obtain ⟨_,h2,h3⟩:=z2Q hn hi
  rw [z0W,← z0X]
  omega
theorem z7Y {n i:Nat} (hn:n<2 ^ 64) (hi:i+1<PC n):HGT n (i+1)<HGT n i:=by
  have h1:=z6e hn (i:=i) (by omega)
  have h2:=(z2Q hn hi).2.2
  rcases Nat.lt_or_ge (HGT n (i+1)) (HGT n i) with h | h
  · exact h
  · have h3:=zfV n (a:=HGT n i+1) (b:=HGT n (i+1)+1) (by omega)
    have h4:=(z2Q hn (i:=i) (by omega)).2.2
    omega
theorem zbI {n i:Nat} (hn:n<2 ^ 64) (hi:i<PC n):KGT n i*2 ^ HGT n i=z8B n i:=by
  have hk:KGT n i*2 ^ HGT n i=n / 2 ^ (HGT n i+1)*2 ^ (HGT n i+1):=z1G _ _
  have h2:=(z2Q hn hi).2.2
  cases i with
  | zero=>
    rw [hk,z2E h2.symm,Nat.zero_mul]
    rfl
  | succ i=>
    have h1:=z6e hn (i:=i) (by omega)
    have h3:=z7Y hn hi
    rw [hk]
    exact z8Y n (by omega) (by omega)
theorem zeP {n i:Nat} (hn:n<2 ^ 64) (hi:i<PC n):(KGT n i+1)*2 ^ HGT n i=z8B n (i+1):=by
  have:=z8Q (z2Q hn hi).2.1
  show (2*(n / 2 ^ (HGT n i+1))+1)*2 ^ HGT n i=n / 2 ^ HGT n i*2 ^ HGT n i
  rw [← this]
theorem zd8 {n:Nat} (hn:n<2 ^ 64):z8B n (PC n)=n:=by
  cases h:PC n with
  | zero=>
    rw [z2E h]
    rfl
  | succ i=>
    have h1:=z6e hn (i:=i) (by omega)
    have h2:=z8Y n (a:=0) (b:=HGT n i) (by omega) (by rw [Nat.pow_zero,Nat.div_one];omega)
    rw [Nat.pow_zero,Nat.div_one,Nat.mul_one] at h2
    exact h2.symm
end Go.Proofs.YtbmjoiiagldklaaDoor

namespace Go.Proofs.YtbmjoiiagldklaaDoor
def PKS (n j c:Nat):List (Nat × Nat):=(List.range' j c).map fun i=>(HGT n i,KGT n i)
theorem z8Z (n j c:Nat):PKS n j (c+1)=(HGT n j,KGT n j) :: PKS n (j+1) c:=by simp [PKS,List.range'_succ]
theorem ziw {n c i:Nat} (h:i<c):(PKS n 0 c)[i]?=some (HGT n i,KGT n i):=by
  simp [PKS,h]
theorem zeQ {n:Nat} (hn:n≤4611686018427387904):∀ c j,j+c=PC n→Tile (z8B n j) (PKS n j c) n∧Irr (PKS n j c):=by
  intro c
  induction c with
  | zero=>
    intro j e
    obtain rfl:j=PC n:=by omega
    exact ⟨zd8 (by omega),trivial⟩
  | succ c ih=>
    intro j e
    obtain ⟨i1,i2⟩:=ih (j+1) (by omega)
    rw [z8Z]
    refine ⟨⟨zd7 hn (by omega),zbI (by omega) (by omega),?_⟩,?_,i2⟩
    · show Tile ((KGT n j+1)*2 ^ HGT n j) _ n
      rw [zeP (by omega) (by omega)]
      exact i1
    · intro y hy ⟨h1,_,_⟩
      cases c with
      | zero=>simp [PKS] at hy
      | succ c=>
        rw [z8Z] at hy
        simp at hy
        subst hy
        have:=z7Y (n:=n) (i:=j) (by omega) (by omega)
        dsimp only at h1
        omega
theorem z6G {n:Nat} (hn:n≤4611686018427387904):SPAN 0 n=PKS n 0 (PC n):=by
  obtain ⟨h1,h2⟩:=zeQ hn (PC n) 0 (by omega)
  exact (zd6 h1 h2).symm
theorem z1Y {n:Nat} (hn:n≤4611686018427387904):(SPAN 0 n).length=PC n:=by
  rw [z6G hn]
  simp [PKS]
theorem z5l {n i:Nat} (hn:n≤4611686018427387904) (hi:i<PC n):(SPAN 0 n)[i]?=some (HGT n i,KGT n i):=by
  rw [z6G hn]
  exact ziw hi
end Go.Proofs.YtbmjoiiagldklaaDoor

namespace Go.Proofs.YtbmjoiiagldklaaDoor
def PLCS (l:List (Nat × Nat)):List Nat:=l.map fun s=>PLC s.1 s.2
theorem z1x (l:List (Nat × Nat)):(PLCS l).length=l.length:=by simp [PLCS]
theorem za8 (l m:List (Nat × Nat)):PLCS (l ++ m)=PLCS l ++ PLCS m:=by simp [PLCS]
theorem zfW {l:List (Nat × Nat)} {j h k:Nat} (e:l[j]?=some (h,k)):(PLCS l).getD j 0=PLC h k:=by
  simp [PLCS,List.getD,e]
theorem z3h {n:Nat} (hn:n≤4611686018427387904):z1Q n=PLCS (SPAN 0 n):=by
  have hl:=z2P (n:=n) (by omega)
  apply List.ext_getElem?
  intro j
  by_cases hj:j<PC n
  · have h1:=zeO (n:=n) (by omega) hj
    have h2:=z5l hn hj
    rw [List.getD,List.getElem?_eq_getElem (by omega)] at h1
    rw [List.getElem?_eq_getElem (by omega)]
    simp only [Option.getD_some] at h1
    rw [h1]
    simp [PLCS,h2]
  · rw [List.getElem?_eq_none (by omega),List.getElem?_eq_none (by rw [z1x,z1Y hn];omega)]
def WAYS (i H:Nat):List (Nat × Nat):=(List.range H).map fun h=>(h,SIB (i / 2 ^ h))
theorem z34 (i H:Nat):WAYS i (H+1)=WAYS i H ++ [(H,SIB (i / 2 ^ H))]:=by simp [WAYS,List.range_succ]
theorem z1y (i H:Nat):(WAYS i H).length=H:=by simp [WAYS]
theorem zd9 (i H:Nat):WAY i H=PLCS (WAYS i H):=by simp [WAY,WAYS,PLCS]
theorem zda {α β:Type} (f:α→β):∀ (l:List α) (k:Nat),(l.map f).eraseIdx k=(l.eraseIdx k).map f:=by
  intro l
  induction l with
  | nil=>intro k;simp
  | cons a l ih=>
    intro k
    cases k with
    | zero=>simp
    | succ k=>simp [ih]
theorem z6H {α:Type} (x:α):∀ (l:List α) (k:Nat),(l ++ [x]).eraseIdx k=if k=l.length then l.eraseIdx k else l.eraseIdx k ++ [x]:=by
  intro l
  induction l with
  | nil=>
    intro k
    cases k with
    | zero=>simp
    | succ k=>simp
  | cons a l ih=>
    intro k
    cases k with
    | zero=>simp
    | succ k=>
      have:=ih k
      rw [List.cons_append,List.eraseIdx_cons_succ,this,List.length_cons,List.eraseIdx_cons_succ]
      by_cases e:k=l.length
      · rw [if_pos e,if_pos (by omega)]
      · rw [if_neg e,if_neg (by omega)]
        rfl
def PSP (i n:Nat):List (Nat × Nat):=WAYS i (RISE i n) ++ (SPAN 0 n).eraseIdx (KTH i n)
theorem zbJ {i n:Nat} (hn:n≤4611686018427387904):PLCS (PSP i n)=WAY i (RISE i n) ++ (z1Q n).eraseIdx (KTH i n):=by
  unfold PSP
  rw [za8,zd9,z3h hn]
  unfold PLCS
  rw [zda]
def PXS (m n:Nat):List (Nat × Nat):=SPAN 0 m ++ SPAN m n
theorem zbK {i n:Nat} (hi:i<n) (hn:n≤4611686018427387904):(PSP i n).length+1=RISE i n+PC n:=by
  have h1:=z8R hi hn
  have h2:=z1Y hn
  unfold PSP
  rw [List.length_append,z1y,List.length_eraseIdx,if_pos (by omega)]
  omega
theorem zaT {i n:Nat} (hi:i<n) (hn:n≤4611686018427387904):(PSP i n).length≤126:=by
  have h1:=zbK hi hn
  have h2:=(z0Y hi hn).2.1
  have h3:=z21 64 n (by omega)
  omega
def Off (s t:Nat × Nat):Prop:=(s.2+1)*2 ^ s.1≤t.2*2 ^ t.1∨(t.2+1)*2 ^ t.1≤s.2*2 ^ s.1
def SIZE (l:List (Nat × Nat)):Nat:=(l.map fun s=>2 ^ s.1).sum
theorem za9 (l m:List (Nat × Nat)):SIZE (l ++ m)=SIZE l+SIZE m:=by simp [SIZE]
theorem zdb (l:List (Nat × Nat)) (s:Nat × Nat):SIZE (l ++ [s])=SIZE l+2 ^ s.1:=by simp [SIZE]
theorem z6f (k h:Nat):(k+1)*2 ^ h=k*2 ^ h+2 ^ h:=by rw [Nat.add_mul,Nat.one_mul]
theorem Tile.size {l:List (Nat × Nat)}:∀ {a b:Nat},Tile a l b→a+SIZE l=b:=by
  induction l with
  | nil=>intro a b h;have:a=b:=h;simp [SIZE,this]
  | cons s l ih=>
    intro a b ⟨h1,h2,h3⟩
    have:=ih h3
    rw [z6f,h2] at this
    simp only [SIZE,List.map_cons,List.sum_cons] at this ⊢
    omega
theorem Tile.within {l:List (Nat × Nat)}:∀ {a b:Nat},Tile a l b→∀ s∈l,a≤s.2*2 ^ s.1∧(s.2+1)*2 ^ s.1≤b∧Node s.1 s.2:=by
  induction l with
  | nil=>intro a b _ s hs;simp at hs
  | cons t l ih=>
    intro a b ⟨h1,h2,h3⟩ s hs
    rcases List.mem_cons.1 hs with rfl | hs
    · exact ⟨by omega,h3.bound.1,h1⟩
    · have:=ih h3 s hs
      have h4:=z6f t.2 t.1
      have h5:=Nat.two_pow_pos t.1
      exact ⟨by omega,this.2⟩
theorem Tile.off {l:List (Nat × Nat)}:∀ {a b:Nat},Tile a l b→l.Pairwise Off:=by
  induction l with
  | nil=>intro a b _;exact List.Pairwise.nil
  | cons t l ih=>
    intro a b ⟨h1,h2,h3⟩
    refine List.Pairwise.cons (fun s hs=>?_) (ih h3)
    exact .inl (h3.within s hs).1
theorem z7Z (i H:Nat):i / 2 ^ H*2 ^ H≤i∧i<(i / 2 ^ H+1)*2 ^ H:=by
  have h1:=Nat.div_add_mod i (2 ^ H)
  have h2:=Nat.mod_lt i (Nat.two_pow_pos H)
  rw [Nat.mul_comm] at h1
  rw [z6f]
  omega
theorem z4N (k h:Nat):(SIB k % 2≠k % 2)∧k / 2*2 ^ (h+1)≤SIB k*2 ^ h∧(SIB k+1)*2 ^ h≤(k / 2+1)*2 ^ (h+1)∧k / 2*2 ^ (h+1)≤k*2 ^ h∧(k+1)*2 ^ h≤(k / 2+1)*2 ^ (h+1)∧((SIB k+1)*2 ^ h≤k*2 ^ h∨(k+1)*2 ^ h≤SIB k*2 ^ h):=by
  have e:=z6F h
  have up:∀ m,m*2 ^ (h+1)=(2*m)*2 ^ h:=fun m=>by rw [e,Nat.mul_comm 2 m,Nat.mul_assoc]
  rw [up,up]
  have mono:∀ {a b:Nat},a≤b→a*2 ^ h≤b*2 ^ h:=fun hab=>Nat.mul_le_mul_right _ hab
  unfold SIB
  split
  · exact ⟨by omega,mono (by omega),mono (by omega),mono (by omega),mono (by omega),.inl (mono (by omega))⟩
  · exact ⟨by omega,mono (by omega),mono (by omega),mono (by omega),mono (by omega),.inr (mono (by omega))⟩
theorem z3i (i:Nat):∀ H,∀ s∈WAYS i H,i / 2 ^ H*2 ^ H≤s.2*2 ^ s.1∧(s.2+1)*2 ^ s.1≤(i / 2 ^ H+1)*2 ^ H:=by
  intro H
  induction H with
  | zero=>intro s hs;simp [WAYS] at hs
  | succ H ih=>
    intro s hs
    rw [z34,List.mem_append,List.mem_singleton] at hs
    have h1:=z4N (i / 2 ^ H) H
    rw [z0X]
    rcases hs with hs | rfl
    · have:=ih s hs
      omega
    · exact ⟨h1.2.1,h1.2.2.1⟩
theorem zeR (i:Nat):∀ H,(WAYS i H).Pairwise Off:=by
  intro H
  induction H with
  | zero=>simp [WAYS]
  | succ H ih=>
    rw [z34,List.pairwise_append]
    refine ⟨ih,by simp,fun s hs t ht=>?_⟩
    rw [List.mem_singleton] at ht
    subst ht
    have h1:=(z4N (i / 2 ^ H) H).2.2.2.2.2
    have h2:=z3i i H s hs
    unfold Off
    dsimp only
    omega
theorem zdc (i:Nat):∀ H,SIZE (WAYS i H)+1=2 ^ H:=by
  intro H
  induction H with
  | zero=>simp [WAYS,SIZE]
  | succ H ih=>
    rw [z34,zdb,z6F]
    dsimp only
    omega
theorem zdd (i:Nat):∀ H,∀ s∈WAYS i H,¬ (s.2*2 ^ s.1≤i∧i<(s.2+1)*2 ^ s.1):=by
  intro H
  induction H with
  | zero=>intro s hs;simp [WAYS] at hs
  | succ H ih=>
    intro s hs
    rw [z34,List.mem_append,List.mem_singleton] at hs
    rcases hs with hs | rfl
    · exact ih s hs
    · have h1:=(z4N (i / 2 ^ H) H).2.2.2.2.2
      have h2:=z7Z i H
      dsimp only
      omega
theorem zde {i:Nat} (hi:i<4611686018427387904):∀ H,H≤62→∀ s∈WAYS i H,Node s.1 s.2:=by
  intro H hH s hs
  simp only [WAYS,List.mem_map,List.mem_range] at hs
  obtain ⟨h,hh,rfl⟩:=hs
  exact (Node.over hi h (by omega)).sib (by omega)
theorem zaU {h k n:Nat} (hn:(k+1)*2 ^ h≤n):PLC h k<z0I n:=by
  have h1:=z8I hn
  have h2:=z1o ((k+1)*2 ^ h)
  rw [z2N] at h2
  have h3:=z2b h k
  have h4:=zaC k
  have h5:2 ^ (h+1)*(k+1)=2*((k+1)*2 ^ h):=by rw [z6F,Nat.mul_assoc,Nat.mul_comm (2 ^ h)]
  omega
theorem z6g {i n:Nat} (hi:i<n) (hn:n≤4611686018427387904):(SPAN 0 n)[KTH i n]?=some (RISE i n,i / 2 ^ RISE i n)∧(z1Q n).getD (KTH i n) 0=PLC (RISE i n) (i / 2 ^ RISE i n):=by
  have h1:=zcY hi hn
  have h2:=z8R hi hn
  have h3:=z5l hn h2
  have h4:HGT n (KTH i n)=RISE i n:=by simp [HGT,List.getD,h1]
  have h5:KGT n (KTH i n)=i / 2 ^ RISE i n:=by
    unfold KGT
    rw [h4]
    exact (z0Y hi hn).2.2.2.2.symm
  rw [h4,h5] at h3
  refine ⟨h3,?_⟩
  rw [z3h hn]
  exact zfW h3
theorem Pairwise.at_lt {α:Type} {R:α→α→Prop} {l:List α} (h:l.Pairwise R) {a b:Nat} {x y:α} (hab:a<b) (ha:l[a]?=some x) (hb:l[b]?=some y):R x y:=by
  obtain ⟨h1,rfl⟩:=List.getElem?_eq_some_iff.1 ha
  obtain ⟨h2,rfl⟩:=List.getElem?_eq_some_iff.1 hb
  exact (List.pairwise_iff_getElem.1 h) a b h1 h2 hab
theorem zdf {α:Type} {l:List α} {k:Nat} {x:α} (h:x∈l.eraseIdx k):∃ j,j≠k∧l[j]?=some x:=by
  obtain ⟨j,hj⟩:=List.mem_iff_getElem?.1 h
  rw [List.getElem?_eraseIdx] at hj
  split at hj
  · exact ⟨j,by omega,hj⟩
  · exact ⟨j+1,by omega,hj⟩
theorem zeS {s t:Nat × Nat} (h:Off s t):Off t s:=h.elim .inr .inl
theorem zbL:∀ (l:List (Nat × Nat)) (k:Nat) (s:Nat × Nat),l[k]?=some s→SIZE (l.eraseIdx k)+2 ^ s.1=SIZE l:=by
  intro l
  induction l with
  | nil=>intro k s h;simp at h
  | cons a l ih=>
    intro k s h
    cases k with
    | zero=>
      simp at h
      subst h
      simp [SIZE]
      omega
    | succ k=>
      have:=ih k s (by simpa using h)
      simp only [SIZE,List.eraseIdx_cons_succ,List.map_cons,List.sum_cons] at this ⊢
      omega
theorem z4O {i n:Nat} (hi:i<n) (hn:n≤4611686018427387904):
    (∀ s∈PSP i n,Node s.1 s.2∧PLC s.1 s.2<z0I n∧¬ (s.2*2 ^ s.1≤i∧i<(s.2+1)*2 ^ s.1))∧(PSP i n).Pairwise Off∧SIZE (PSP i n)+1=n:=by
  obtain ⟨hK,_⟩:=z6g hi hn
  have h62:=(z0Y hi hn).2.1
  have hT:=z7X hn (Nat.zero_le n)
  have hp:=z7Z i (RISE i n)
  have hin:=hT.within _ (List.mem_of_getElem? hK)
  dsimp only at hin
  have hoff:=hT.off
  have hother:∀ s∈(SPAN 0 n).eraseIdx (KTH i n),Off s (RISE i n,i / 2 ^ RISE i n):=by
    intro s hs
    obtain ⟨j,hj,e⟩:=zdf hs
    rcases Nat.lt_or_ge j (KTH i n) with h | h
    · exact Pairwise.at_lt hoff h e hK
    · exact zeS (Pairwise.at_lt hoff (by omega:KTH i n<j) hK e)
  refine ⟨fun s hs=>?_,?_,?_⟩
  · unfold PSP at hs
    rcases List.mem_append.1 hs with hs | hs
    · have h1:=z3i i _ s hs
      exact ⟨zde (by omega) _ h62 s hs,zaU (by omega),zdd i _ s hs⟩
    · have h1:=hT.within s (List.mem_of_mem_eraseIdx hs)
      have h2:=hother s hs
      unfold Off at h2
      dsimp only at h2
      exact ⟨h1.2.2,zaU h1.2.1,by omega⟩
  · unfold PSP
    rw [List.pairwise_append]
    refine ⟨zeR i _,hoff.sublist (List.eraseIdx_sublist _ _),fun s hs t ht=>?_⟩
    have h1:=z3i i _ s hs
    have h2:=hother t ht
    unfold Off at h2 ⊢
    dsimp only at h2
    omega
  · unfold PSP
    rw [za9]
    have h1:=zdc i (RISE i n)
    have h2:=zbL _ _ _ hK
    have h3:=hT.size
    dsimp only at h2
    omega
end Go.Proofs.YtbmjoiiagldklaaDoor

namespace Go.Proofs.YtbmjoiiagldklaaDoor
open Go.RowKit
end Go.Proofs.YtbmjoiiagldklaaDoor

namespace Go.Proofs.YtbmjoiiagldklaaDoor
open Go.RowKit
end Go.Proofs.YtbmjoiiagldklaaDoor

namespace Go.Proofs.YtbmjoiiagldklaaDoor
open Go.RowKit
end Go.Proofs.YtbmjoiiagldklaaDoor

namespace Go.Proofs.YtbmjoiiagldklaaDoor
open Go.RowKit
end Go.Proofs.YtbmjoiiagldklaaDoor

namespace Go.Proofs.YtbmjoiiagldklaaDoor
open Go.RowKit
end Go.Proofs.YtbmjoiiagldklaaDoor

namespace Go.Proofs.YtbmjoiiagldklaaDoor
open Go.RowKit
end Go.Proofs.YtbmjoiiagldklaaDoor

namespace Go.Proofs.YtbmjoiiagldklaaDoor
open Go.RowKit
end Go.Proofs.YtbmjoiiagldklaaDoor

namespace Go.Proofs.YtbmjoiiagldklaaDoor
open Go.RowKit
theorem zix {w:World} {base g n cap:Nat} {l:List Nat} (h:w.ownsRow base 22 1 (.slice (some ⟨g,0,none⟩) n cap) n (z0j l)) (i:Nat) (hi:i<l.length):w.cell? ⟨g,i,none⟩=some (.int .u64 (l.getD i 0:Nat)):=by
  have hlen:l.length=n:=by have:=h.1;simpa [z0j] using this
  rw [h.cellAt i (by omega)]
  unfold z0j
  rw [List.getElem?_map,List.getD_eq_getElem?_getD,List.getElem?_eq_getElem hi]
  rfl
end Go.Proofs.YtbmjoiiagldklaaDoor

namespace Go.Proofs.YtbmjoiiagldklaaDoor
open Go.RowKit
def Nums (w:World) (v:Value) (l:List Nat):Prop:=∃ a cap,v=.slice a l.length cap∧(0<l.length→∃ g,a=some ⟨g,0,none⟩∧g<w.heap.size∧∀ (j:Nat),j<l.length→w.cell? ⟨g,j,none⟩=some (.int .u64 ((l.getD j 0:Nat):Int)))
theorem Nums.below {w w':World} {v:Value} {l:List Nat} {B:Nat} (h:Nums w v l) (hb:Below B w w') (hB:w.heap.size≤B):Nums w' v l:=by
  obtain ⟨a,cap,rfl,h⟩:=h
  refine ⟨a,cap,rfl,fun h0=>?_⟩
  obtain ⟨g,e,hg,hc⟩:=h h0
  exact ⟨g,e,Nat.lt_of_lt_of_le hg hb.size,fun j hj=>(hb.cell (p:=⟨g,j,none⟩) (Nat.lt_of_lt_of_le hg hB)).trans (hc j hj)⟩
structure Four (w:World) (B:Nat) (K:Nat→Prop) (v:Nat→Value) (n:Nat→Nat) (xs:Nat→List Value):Prop where
  row:∀ x,x<4→w.ownsRow B 22 1 (v x) (n x) (xs x)
  apart:∀ x y,x<4→y<4→x≠y→∀ g,(v x).ownBlock=some g→(v y).ownBlock≠some g
  off:∀ x,x<4→∀ g,(v x).ownBlock=some g→¬ K g
def UPD {α:Type} (f:Nat→α) (x:Nat) (a:α):Nat→α:=fun z=>if z=x then a else f z
theorem z1m {α:Type} (f:Nat→α) (x:Nat) (a:α):UPD f x a x=a:=by simp [UPD]
theorem z0L {α:Type} (f:Nat→α) {x z:Nat} (a:α) (h:z≠x):UPD f x a z=f z:=by simp [UPD,h]
theorem Four.alloc {w:World} {B:Nat} {K:Nat→Prop} {v:Nat→Value} {n:Nat→Nat} {xs:Nat→List Value} (h:Four w B K v n xs) (o:Obj):Four (w.alloc o) B K v n xs:=⟨fun x hx=>(h.row x hx).alloc o,h.apart,h.off⟩
theorem Four.below {w w':World} {B:Nat} {K:Nat→Prop} {v:Nat→Value} {n:Nat→Nat} {xs:Nat→List Value} (h:Four w B K v n xs) (hb:Below w.heap.size w w'):Four w' B K v n xs:=⟨fun x hx=>z33 (h.row x hx) hb,h.apart,h.off⟩
theorem z5m (W:World) (b j:Nat) (v:Value):W.grownBy (W.setCell ⟨b,j,none⟩ v) (some b):=
  ⟨rfl,rfl,rfl,(KeepsWalks.setCell W _ v).size,fun k _ hk=>Below.heap_setCell _ _ _ k (fun e=>hk (by rw [e]))⟩
theorem Four.other {w:World} {B:Nat} {K:Nat→Prop} {v:Nat→Value} {n:Nat→Nat} {xs:Nat→List Value} (h:Four w B K v n xs) {b:Nat} (hb:K b) (j:Nat) (u:Value):Four (w.setCell ⟨b,j,none⟩ u) B K v n xs:=
  ⟨fun x hx=>(h.row x hx).kept (z5m w b j u) (.inr fun e=>h.off x hx b e hb),h.apart,h.off⟩
theorem Four.store {w:World} {B:Nat} {K:Nat→Prop} {v:Nat→Value} {n:Nat→Nat} {xs:Nat→List Value} (h:Four w B K v n xs) {x g m cap:Nat} (hx:x<4) (hv:v x=.slice (some ⟨g,0,none⟩) m cap) (j:Nat) (u:Value):
    Four (w.setCell ⟨g,j,none⟩ u) B K v n (UPD xs x ((xs x).set j u)):=by
  refine ⟨fun z hz=>?_,h.apart,h.off⟩
  by_cases e:z=x
  · subst e
    have hr:=h.row z hz
    rw [hv] at hr ⊢
    have hm:m=n z:=by
      rcases hr.2 with ⟨e,_⟩ | ⟨_,_,_,e,_⟩
      · simp at e
      · simp at e
        omega
    subst hm
    rw [z1m]
    exact (hr.stored j u).1
  · rw [z0L xs _ e]
    refine (h.row z hz).kept (z5m w g j u) (.inr fun e2=>?_)
    exact h.apart x z hx hz (fun e3=>e e3.symm) g (by rw [hv];rfl) e2
theorem Four.app {w w':World} {B:Nat} {K:Nat→Prop} {v:Nat→Value} {n:Nat→Nat} {xs:Nat→List Value} (h:Four w B K v n xs) {x g cap:Nat} {u:Value} (hx:x<4) (hK:∀ k,K k→k<w.heap.size)
    (hown:w'.ownsRow B 22 1 (.slice (some ⟨g,0,none⟩) (n x+1) cap) (n x+1) (xs x ++ [u])) (hgrow:w.grownBy w' (v x).ownBlock) (hg:(v x).ownBlock=some g∨g=w.heap.size):
    Four w' B K (UPD v x (.slice (some ⟨g,0,none⟩) (n x+1) cap)) (UPD n x (n x+1)) (UPD xs x (xs x ++ [u])):=by
  refine ⟨fun z hz=>?_,fun y z hy hz hne k hk=>?_,fun z hz k hk=>?_⟩
  · by_cases e:z=x
    · subst e
      rw [z1m,z1m,z1m]
      exact hown
    · rw [z0L v _ e,z0L n _ e,z0L xs _ e]
      refine (h.row z hz).kept hgrow ?_
      cases hb:(v z).ownBlock with
      | none=>exact .inl rfl
      | some k=>exact .inr fun e2=>h.apart z x hz hx e k hb e2.symm
  · by_cases ey:y=x
    · subst ey
      rw [z1m] at hk
      have hkg:g=k:=by simpa [Value.ownBlock] using hk
      subst hkg
      rw [z0L v _ (fun e=>hne e.symm)]
      intro e2
      rcases hg with hg | hg
      · exact h.apart y z hx hz hne g hg e2
      · have:=((h.row z hz).lt g e2).2
        omega
    · rw [z0L v _ ey] at hk
      by_cases ez:z=x
      · subst ez
        rw [z1m]
        intro e2
        have hkg:g=k:=by simpa [Value.ownBlock] using e2
        subst hkg
        rcases hg with hg | hg
        · exact h.apart y z hy hz hne g hk hg
        · have:=((h.row y hy).lt g hk).2
          omega
      · rw [z0L v _ ez]
        exact h.apart y z hy hz hne k hk
  · by_cases ez:z=x
    · subst ez
      rw [z1m] at hk
      have hkg:g=k:=by simpa [Value.ownBlock] using hk
      subst hkg
      rcases hg with hg | hg
      · exact h.off z hz g hg
      · intro hkk
        have:=hK g hkk
        omega
    · rw [z0L v _ ez] at hk
      exact h.off z hz k hk
theorem z24 {w:World} {B n:Nat} {v:Value} {xs:List Value} (h:w.ownsRow B 22 1 v n xs):∃ a cap,v=.slice a n cap∧(0<n→∃ g,a=some ⟨g,0,none⟩∧g<w.heap.size∧B≤g):=by
  rcases h.2 with ⟨rfl,h0⟩ | ⟨g,cap,cur,rfl,hb,hg,r⟩
  · subst h0
    exact ⟨none,0,rfl,fun h=>by omega⟩
  · exact ⟨_,cap,rfl,fun _=>⟨g,rfl,(Array.getElem?_eq_some_iff.1 hg).1,hb⟩⟩
theorem zeT {ops:Array Oper} {rest:List Oper} {o:Oper} {a:Act} {Q:Exit→Act→World→Prop} (w:World) (hgd:o.guard=none) (s x:Operand)
    (ho:o.op=.call {callee:=.builtin .append,args:=#[s,x],argTypes:=#[107,107]})
    (base:Nat) (v:Value) (n:Nat) (xs:List Value) (hs:a.eval s=v) (hown:w.ownsRow base 22 1 v n xs)
    (b c:Nat) (y:Int) (hx:a.eval x=.slice (some ⟨b,0,none⟩) 1 c) (hc:w.cell? ⟨b,0,none⟩=some (.int .u64 y))
    (hb:n≤1000) (hbase:base≤w.heap.size)
    (h:∀ g cap w',w'.ownsRow base 22 1 (.slice (some ⟨g,0,none⟩) (n+1) cap) (n+1) (xs ++ [.int .u64 y])→w.grownBy w' v.ownBlock→(v.ownBlock=some g∨g=w.heap.size)→g<w'.heap.size→wpList Tryd.prog ops Q rest (a.put o.dst (.slice (some ⟨g,0,none⟩) (n+1) cap)) w'):wpList Tryd.prog ops Q (o :: rest) a w:=by
  obtain ⟨i,hi,hz,hs1,hby⟩:=info_parts z2o
  refine wpList_append_lies w hgd s x 107 ho base 22 i (.int .u64 0) 1 8 Tryd.underlying107 hi hz hs1 hby rfl (by decide) v n xs hs hown ⟨b,0,none⟩ 1 c [.int .u64 y] hx rfl ?_ (fun u hu=>by simp at hu;subst hu;rfl) (by decide) (by simp only [maxLen];omega) (by omega) hbase w.heap.size rfl h
  intro j u hj
  cases j with
  | zero=>
    simp only [List.getElem?_cons_zero,Option.some.injEq] at hj
    subst hj
    exact hc
  | succ j=>simp at hj
theorem Has.grown {w w':World} {g:Nat} {c:Array Value} {t:TypeId} {row:Option Nat} (h:Has w g c t) (hg:w.grownBy w' row) (hne:row≠some g):Has w' g c t:=by
  obtain ⟨_,_,_,_,hk⟩:=hg
  exact (hk g h.lt (fun e=>hne e.symm)).trans h
end Go.Proofs.YtbmjoiiagldklaaDoor

namespace Go.Proofs.YtbmjoiiagldklaaDoor
open Go.RowKit
end Go.Proofs.YtbmjoiiagldklaaDoor

namespace Go.Proofs.YtbmjoiiagldklaaDoor
open Go.RowKit
end Go.Proofs.YtbmjoiiagldklaaDoor

namespace Go.Proofs.YtbmjoiiagldklaaDoor
open Go.RowKit
end Go.Proofs.YtbmjoiiagldklaaDoor

namespace Go.Proofs.YtbmjoiiagldklaaDoor
open Go.RowKit
def Lie (w:World) (a:Option Addr) (l:List (Nat × Nat)):Prop:=0<l.length→∃ g o,a=some ⟨g,o,none⟩∧g<w.heap.size∧∀ (j h k:Nat),l[j]?=some (h,k)→w.cell? ⟨g,o+j*2,none⟩=some (.int .u8 (h:Int))∧w.cell? ⟨g,o+j*2+1,none⟩=some (.int .u64 (k:Int))
theorem Lie.below {w w':World} {a:Option Addr} {l:List (Nat × Nat)} (h:Lie w a l) (hb:Below w.heap.size w w'):Lie w' a l:=fun h0=>by
  obtain ⟨g,o,e,hg,hc⟩:=h h0
  exact ⟨g,o,e,Nat.lt_of_lt_of_le hg hb.size,fun j x y he=>⟨(hb.cell (p:=⟨g,o+j*2,none⟩) hg).trans (hc j x y he).1,(hb.cell (p:=⟨g,o+j*2+1,none⟩) hg).trans (hc j x y he).2⟩⟩
end Go.Proofs.YtbmjoiiagldklaaDoor
