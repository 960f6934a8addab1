/- Texts of SpanVerifies, one behind the other: SpanPlain, SpanClimbPlain, SpanNeed, SpanUpRegion. -/
import Derived.Test.YthdpkaiieomdoaaGreatDoorSpanVerifiesP18
namespace Go.Proofs.YthdpkaiieomdoaaGreatDoor
set_option maxRecDepth 100000
def SEG (a b:Nat):List Nat:=List.range' a (b - a)
theorem z9H {a b x:Nat}:x∈SEG a b↔a≤x∧x<b:=by
  rw [SEG,List.mem_range'_1]
  omega
theorem z0G (a b:Nat):(SEG a b).length=b - a:=List.length_range' ..
theorem z4I {a b:Nat} (h:b≤a):SEG a b=[]:=by rw [SEG,show b - a=0 by omega,List.range'_zero]
theorem z4r {a b:Nat} (h:a<b):SEG a b≠[]:=fun e=>by
  have:=congrArg List.length e
  rw [z0G,List.length_nil] at this
  omega
theorem z9I {a b i:Nat} (h:i<b - a):(SEG a b)[i]?=some (a+i):=by
  rw [SEG,List.getElem?_range' h,Nat.one_mul]
theorem z6K (a b:Nat):RISES (SEG a b):=fun i j x y hij hx hy=>by
  have hi:=(List.getElem?_eq_some_iff.1 hx).1
  have hj:=(List.getElem?_eq_some_iff.1 hy).1
  rw [z0G] at hi hj
  rw [z9I hi] at hx
  rw [z9I hj] at hy
  cases hx
  cases hy
  omega
theorem z5U (m:Nat):∀ (n a:Nat),(List.range' a n).filter (fun y=>decide (y<m))=List.range' a (min n (m - a))
  | 0,a=>by simp
  | n + 1,a=>by
    rw [List.range'_succ,List.filter_cons,z5U m n (a+1)]
    by_cases h:a<m
    · rw [decide_eq_true h,if_pos rfl,show min (n+1) (m - a)=min n (m - (a+1))+1 by omega,List.range'_succ]
    · rw [decide_eq_false h,show min (n+1) (m - a)=0 by omega,show min n (m - (a+1))=0 by omega]
      rfl
theorem z5a (m:Nat):∀ (n a:Nat),(List.range' a n).filter (fun y=>!decide (y<m))=List.range' (max a m) (n - (m - a))
  | 0,a=>by simp
  | n+1,a=>by
    rw [List.range'_succ,List.filter_cons,z5a m n (a+1)]
    by_cases h:a<m
    · rw [decide_eq_true h,if_neg (by simp),show max (a+1) m=max a m by omega,show n+1 - (m - a)=n - (m - (a+1)) by omega]
    · rw [decide_eq_false h,if_pos (show (!false)=true from rfl),show n+1 - (m - a)=n+1 by omega,show n - (m - (a+1))=n by omega,show max (a+1) m=a+1 by omega,show max a m=a by omega,List.range'_succ]
theorem z6m (a b m:Nat):(SEG a b).filter (fun y=>decide (y<m))=SEG a (min b m):=by
  rw [SEG,z5U,SEG]
  congr 1
  omega
theorem z5p (a b m:Nat):(SEG a b).filter (fun y=>!decide (y<m))=SEG (max a m) b:=by
  rw [SEG,z5a,SEG]
  congr 1
  omega
def SG (F T h k:Nat):List Nat:=SEG (max F (k*2 ^ h)) (min T ((k+1)*2 ^ h))
abbrev APRT (F T h k:Nat):Prop:=min T ((k+1)*2 ^ h)≤max F (k*2 ^ h)
abbrev z0N (F T h k:Nat):Prop:=F≤k*2 ^ h∧(k+1)*2 ^ h≤T
theorem z25 {F T h k:Nat} (e:APRT F T h k):NEED h k (SG F T h k)=[PLC h k]:=by rw [SG,z4I e,z3K]
theorem z3O (h k:Nat):k*2 ^ (h+1)=2*k*2 ^ h∧(k+1)*2 ^ (h+1)=(2*k+1+1)*2 ^ h∧2*k*2 ^ h+2 ^ h=(2*k+1)*2 ^ h∧(2*k+1)*2 ^ h+2 ^ h=(2*k+1+1)*2 ^ h:=by
  obtain ⟨a,b⟩:=zbU h k
  refine ⟨a,b,?_,?_⟩
  · rw [Nat.add_mul (2*k) 1,Nat.one_mul]
  · rw [Nat.add_mul (2*k+1) 1,Nat.one_mul]
theorem z5q (F T h k:Nat):(SG F T (h+1) k).filter (fun y=>decide (y<(2*k+1)*2 ^ h))=SG F T h (2*k)∧(SG F T (h+1) k).filter (fun y=>!decide (y<(2*k+1)*2 ^ h))=SG F T h (2*k+1):=by
  obtain ⟨t1,t2,t3,t4⟩:=z3O h k
  have hp:=Nat.two_pow_pos h
  unfold SG
  rw [t1,t2,z6m,z5p]
  generalize 2*k*2 ^ h=A at *
  generalize (2*k+1)*2 ^ h=B at *
  generalize (2*k+1+1)*2 ^ h=C at *
  generalize 2 ^ h=P at *
  constructor
  · congr 1
    omega
  · congr 1
    omega
theorem z1E {F T h k:Nat} (e:¬ APRT F T (h+1) k):NEED (h+1) k (SG F T (h+1) k)=NEED h (2*k) (SG F T h (2*k)) ++ NEED h (2*k+1) (SG F T h (2*k+1)):=by
  obtain ⟨s1,s2⟩:=z5q F T h k
  have hne:SG F T (h+1) k≠[]:=z4r (Nat.lt_of_not_le e)
  cases hs:SG F T (h+1) k with
  | nil=>exact absurd hs hne
  | cons x l=>rw [z4k,← hs,s1,s2]
theorem z1l {F T k:Nat} (e:¬ APRT F T 0 k):z0N F T 0 k:=by
  unfold APRT at e
  unfold z0N
  rw [Nat.pow_zero] at *
  omega
theorem z2D {F T h k:Nat} (e:z0N F T h k):¬ APRT F T h k:=by
  unfold z0N at e
  unfold APRT
  have h1:k*2 ^ h+2 ^ h=(k+1)*2 ^ h:=by rw [Nat.add_mul,Nat.one_mul]
  have hp:=Nat.two_pow_pos h
  generalize 2 ^ h=P at *
  generalize k*P=A at *
  generalize (k+1)*P=B at *
  omega
theorem z93 {F T h k:Nat} (e:z0N F T (h+1) k):z0N F T h (2*k)∧z0N F T h (2*k+1):=by
  obtain ⟨t1,t2,t3,t4⟩:=z3O h k
  unfold z0N at *
  rw [t1,t2] at e
  generalize 2*k*2 ^ h=A at *
  generalize (2*k+1)*2 ^ h=B at *
  generalize (2*k+1+1)*2 ^ h=C at *
  generalize 2 ^ h=P at *
  omega
theorem z0Z {F T:Nat}:∀ {h k:Nat},z0N F T h k→NEED h k (SG F T h k)=[]
  | 0,k,e=>by
    have hne:SG F T 0 k≠[]:=z4r (Nat.lt_of_not_le (z2D e))
    cases hs:SG F T 0 k with
    | nil=>exact absurd hs hne
    | cons x l=>rfl
  | h+1,k,e=>by
    obtain ⟨a,b⟩:=z93 e
    rw [z1E (z2D e),z0Z a,z0Z b]
    rfl
def z0R (F T h k:Nat):Nat:=(if k*2 ^ h<F∧F<(k+1)*2 ^ h then 1 else 0)+(if k*2 ^ h<T∧T<(k+1)*2 ^ h then 1 else 0)
theorem zaS (F T h k:Nat):z0R F T h (2*k)+z0R F T h (2*k+1)≤z0R F T (h+1) k:=by
  obtain ⟨t1,t2,t3,t4⟩:=z3O h k
  unfold z0R
  rw [t1,t2]
  have hp:=Nat.two_pow_pos h
  generalize 2*k*2 ^ h=A at *
  generalize (2*k+1)*2 ^ h=B at *
  generalize (2*k+1+1)*2 ^ h=C at *
  generalize 2 ^ h=P at *
  (repeat' split) <;> omega
theorem zaT {F T h k:Nat} (e:¬ APRT F T h k) (e':¬ z0N F T h k):1≤z0R F T h k:=by
  unfold APRT at e
  unfold z0N at e'
  unfold z0R
  generalize k*2 ^ h=A at *
  generalize (k+1)*2 ^ h=B at *
  (repeat' split) <;> omega
theorem z3P (F T:Nat):∀ (h k:Nat),(NEED h k (SG F T h k)).length≤1+h*z0R F T h k
  | 0,k=>by
    by_cases e:APRT F T 0 k
    · rw [z25 e];simp
    · rw [z0Z (z1l e)];simp
  | h + 1,k=>by
    by_cases e:APRT F T (h+1) k
    · rw [z25 e];simp
    · by_cases e':z0N F T (h+1) k
      · rw [z0Z e'];simp
      · rw [z1E e,List.length_append]
        have h1:=z3P F T h (2*k)
        have h2:=z3P F T h (2*k+1)
        have h3:=zaS F T h k
        have h4:=zaT e e'
        generalize z0R F T h (2*k)=c1 at *
        generalize z0R F T h (2*k+1)=c2 at *
        generalize z0R F T (h+1) k=c at *
        have h5:h*(c1+c2)≤h*c:=Nat.mul_le_mul_left h h3
        rw [Nat.mul_add] at h5
        rw [Nat.add_mul h 1,Nat.one_mul]
        generalize h*c1=x at *
        generalize h*c2=y at *
        generalize h*c=z at *
        omega
theorem z6L (F T:Nat):∀ (ps:List (Nat × Nat)) (A B:Nat),Tile A ps B→T≤B→z2k ps (SEG (max F A) T)=(ps.map fun s=>NEED s.1 s.2 (SG F T s.1 s.2)).flatten
  | [],_,_,_,_=>rfl
  | (h,k) :: ps,A,B,ht,hT=>by
    obtain ⟨hN,hA,ht⟩:Node h k∧k*2 ^ h=A∧Tile ((k+1)*2 ^ h) ps B:=ht
    have hp:A+2 ^ h=(k+1)*2 ^ h:=by rw [← hA,Nat.add_mul,Nat.one_mul]
    have h2:=Nat.two_pow_pos h
    rw [z2k,z6m,z5p,show max (max F A) ((k+1)*2 ^ h)=max F ((k+1)*2 ^ h) by omega,z6L F T ps _ B ht hT,List.map_cons,List.flatten_cons]
    unfold SG
    rw [hA]
theorem z6M (F T:Nat):∀ (ps:List (Nat × Nat)) (A B:Nat),Tile A ps B→(ps.map fun s=>z0R F T s.1 s.2).sum≤(if A<F∧F<B then 1 else 0)+(if A<T∧T<B then 1 else 0)
  | [],_,_,_=>by simp
  | (h,k) :: ps,A,B,ht=>by
    obtain ⟨hN,hA,ht⟩:Node h k∧k*2 ^ h=A∧Tile ((k+1)*2 ^ h) ps B:=ht
    have hp:A+2 ^ h=(k+1)*2 ^ h:=by rw [← hA,Nat.add_mul,Nat.one_mul]
    have h2:=Nat.two_pow_pos h
    have h3:=ht.bound.1
    have h4:=z6M F T ps _ B ht
    rw [List.map_cons,List.sum_cons]
    unfold z0R at *
    simp only at *
    rw [hA]
    generalize (k+1)*2 ^ h=C at *
    generalize (ps.map fun s=>(if s.2*2 ^ s.1<F∧F<(s.2+1)*2 ^ s.1 then 1 else 0)+(if s.2*2 ^ s.1<T∧T<(s.2+1)*2 ^ s.1 then 1 else 0)).sum=s at *
    repeat' split at h4
    all_goals (repeat' split) <;> omega
theorem z87 (F T:Nat):∀ (ps:List (Nat × Nat)),(∀ p∈ps,p.1≤62)→((ps.map fun s=>NEED s.1 s.2 (SG F T s.1 s.2)).flatten).length≤ps.length+62*(ps.map fun s=>z0R F T s.1 s.2).sum
  | [],_=>by simp
  | (h,k) :: ps,hh=>by
    have h1:=z87 F T ps (fun p hp=>hh p (List.mem_cons_of_mem _ hp))
    have h2:=z3P F T h k
    have h3:h*z0R F T h k≤62*z0R F T h k:=Nat.mul_le_mul_right _ (hh (h,k) (List.mem_cons_self ..))
    rw [List.map_cons,List.flatten_cons,List.length_append,List.map_cons,List.sum_cons,List.length_cons,Nat.mul_add]
    show (NEED h k (SG F T h k)).length+_≤_+(62*z0R F T h k+_)
    omega
def SPP (F T N:Nat):List Nat:=z2k (TPS N) (SEG F T)
theorem z3Q {F T N:Nat} (hN:N≤4611686018427387904) (hT:T≤N):SPP F T N=((TPS N).map fun s=>NEED s.1 s.2 (SG F T s.1 s.2)).flatten:=by
  have h:=z6L F T (TPS N) 0 N (z32 hN) hT
  rw [Nat.max_zero] at h
  exact h
theorem z2K {F T N:Nat} (hN:N≤4611686018427387904) (hT:T≤N):(SPP F T N).length≤188:=by
  rw [z3Q hN hT]
  have h1:=z87 F T (TPS N) (fun p hp=>(z2c (n:=N) (by omega) (h:=p.1) (k:=p.2) hp).1)
  have h2:=z6M F T (TPS N) 0 N (z32 hN)
  have h3:=z1I (n:=N) (by omega)
  have h4:PC N≤64:=z13 64 N (by omega)
  repeat' split at h2
  all_goals omega
def SPE (F T N:Nat):Int:=if 4611686018427387904<N then 30 else if T<F∨N<T then 32 else 0
end Go.Proofs.YthdpkaiieomdoaaGreatDoor

namespace Go.Proofs.YthdpkaiieomdoaaGreatDoor
set_option maxRecDepth 100000
theorem z88 (F T h k:Nat):UNR h k (SG F T h k):=⟨z6K _ _,fun x hx=>by
  have h1:=z9H.1 hx
  omega⟩
theorem z3a {d:Int} {F T h k:Nat} {lv nd:List Int} (e:APRT F T h k):MUP d h k (SG F T h k) lv nd=(HSH nd 0,lv,nd.drop 32):=by rw [SG,z4I e,zet]
theorem z89 {d:Int} {F T k:Nat} {lv nd:List Int} (e:¬ APRT F T 0 k):MUP d 0 k (SG F T 0 k) lv nd=(HSH lv 0,lv.drop 32,nd):=by
  have hne:SG F T 0 k≠[]:=z4r (Nat.lt_of_not_le e)
  cases hs:SG F T 0 k with
  | nil=>exact absurd hs hne
  | cons x l=>rfl
theorem z8a {d:Int} {F T h k:Nat} {lv nd:List Int} (e:¬ APRT F T (h+1) k):MUP d (h+1) k (SG F T (h+1) k) lv nd=
    (z1R d (MUP d h (2*k) (SG F T h (2*k)) lv nd).1 (MUP d h (2*k+1) (SG F T h (2*k+1)) (MUP d h (2*k) (SG F T h (2*k)) lv nd).2.1 (MUP d h (2*k) (SG F T h (2*k)) lv nd).2.2).1,
     (MUP d h (2*k+1) (SG F T h (2*k+1)) (MUP d h (2*k) (SG F T h (2*k)) lv nd).2.1 (MUP d h (2*k) (SG F T h (2*k)) lv nd).2.2).2):=by
  obtain ⟨s1,s2⟩:=z5q F T h k
  have hne:SG F T (h+1) k≠[]:=z4r (Nat.lt_of_not_le e)
  cases hs:SG F T (h+1) k with
  | nil=>exact absurd hs hne
  | cons x l=>rw [MUP,← hs,s1,s2]
theorem z8b {F T k:Nat} (e:¬ APRT F T 0 k):(SG F T 0 k).length=1:=by
  have h:=z1l e
  unfold z0N at h
  unfold SG
  rw [z0G]
  rw [Nat.pow_zero] at *
  omega
theorem z8c (F T h k:Nat):(SG F T (h+1) k).length=(SG F T h (2*k)).length+(SG F T h (2*k+1)).length:=by
  obtain ⟨t1,t2,t3,t4⟩:=z3O h k
  unfold SG
  rw [z0G,z0G,z0G,t1,t2]
  have hp:=Nat.two_pow_pos h
  generalize 2*k*2 ^ h=A at *
  generalize (2*k+1)*2 ^ h=B at *
  generalize (2*k+1+1)*2 ^ h=C at *
  generalize 2 ^ h=P at *
  omega
structure CLMG (σ:Type) where
  lf:σ→List Int
  ls:σ→σ
  nf:σ→List Int
  ns:σ→σ
  jf:List Int→List Int→List Int
  js:σ→List Int→List Int→σ
def GUP {σ:Type} (c:CLMG σ) (F T:Nat):Nat→Nat→σ→List Int × σ
  | 0,k,s=>if APRT F T 0 k then (c.nf s,c.ns s) else (c.lf s,c.ls s)
  | h+1,k,s=>if APRT F T (h+1) k then (c.nf s,c.ns s) else
    (c.jf (GUP c F T h (2*k) s).1 (GUP c F T h (2*k+1) (GUP c F T h (2*k) s).2).1,
     c.js (GUP c F T h (2*k+1) (GUP c F T h (2*k) s).2).2 (GUP c F T h (2*k) s).1 (GUP c F T h (2*k+1) (GUP c F T h (2*k) s).2).1)
theorem z1W {σ:Type} {c:CLMG σ} {F T h k:Nat} {s:σ} (e:APRT F T h k):GUP c F T h k s=(c.nf s,c.ns s):=by
  cases h <;> rw [GUP,if_pos e]
theorem z5r {σ:Type} {c:CLMG σ} {F T k:Nat} {s:σ} (e:¬ APRT F T 0 k):GUP c F T 0 k s=(c.lf s,c.ls s):=by rw [GUP,if_neg e]
theorem z5s {σ:Type} {c:CLMG σ} {F T h k:Nat} {s:σ} (e:¬ APRT F T (h+1) k):GUP c F T (h+1) k s=
    (c.jf (GUP c F T h (2*k) s).1 (GUP c F T h (2*k+1) (GUP c F T h (2*k) s).2).1,
     c.js (GUP c F T h (2*k+1) (GUP c F T h (2*k) s).2).2 (GUP c F T h (2*k) s).1 (GUP c F T h (2*k+1) (GUP c F T h (2*k) s).2).1):=by rw [GUP,if_neg e]
def GUPS {σ:Type} (c:CLMG σ) (F T:Nat):List (Nat × Nat)→σ→List Int × σ
  | [],s=>([],s)
  | (h,k) :: ps,s=>((GUP c F T h k s).1 ++ (GUPS c F T ps (GUP c F T h k s).2).1,(GUPS c F T ps (GUP c F T h k s).2).2)
structure GOK {σ:Type} (c:CLMG σ) (VAL:List Int→Prop) (OKS:Nat→Nat→σ→Prop):Prop where
  l:∀ i j s,OKS (i+1) j s→VAL (c.lf s)∧OKS i j (c.ls s)
  n:∀ i j s,OKS i (j+1) s→VAL (c.nf s)∧OKS i j (c.ns s)
  j:∀ i j s a b,OKS i j s→VAL a→VAL b→VAL (c.jf a b)∧OKS i j (c.js s a b)
theorem z1X (F T h k:Nat) (e:APRT F T h k):(NEED h k (SG F T h k)).length=1∧(SG F T h k).length=0:=by
  rw [z25 e,SG,z4I e]
  exact ⟨rfl,rfl⟩
theorem z6N {F T k:Nat} (e:¬ APRT F T 0 k):NEED 0 k (SG F T 0 k)=[]:=z0Z (z1l e)
theorem z5t {σ:Type} {c:CLMG σ} {VAL:List Int→Prop} {OKS:Nat→Nat→σ→Prop} (g:GOK c VAL OKS) (F T:Nat):∀ (h k i j:Nat) (s:σ),OKS i j s→(SG F T h k).length≤i→(NEED h k (SG F T h k)).length≤j→
    VAL (GUP c F T h k s).1∧OKS (i - (SG F T h k).length) (j - (NEED h k (SG F T h k)).length) (GUP c F T h k s).2:=by
  intro h
  induction h with
  | zero=>
    intro k i j s hs h1 h2
    by_cases e:APRT F T 0 k
    · obtain ⟨e1,e2⟩:=z1X F T 0 k e
      rw [e1] at h2 ⊢
      rw [e2,z1W e,Nat.sub_zero]
      obtain ⟨j,rfl⟩:∃ j',j=j'+1:=⟨j - 1,by omega⟩
      exact g.n i j s hs
    · rw [z6N e] at h2 ⊢
      rw [z8b e] at h1 ⊢
      rw [z5r e]
      obtain ⟨i,rfl⟩:∃ i',i=i'+1:=⟨i - 1,by omega⟩
      exact g.l i j s hs
  | succ h ih=>
    intro k i j s hs h1 h2
    by_cases e:APRT F T (h+1) k
    · obtain ⟨e1,e2⟩:=z1X F T (h+1) k e
      rw [e1] at h2 ⊢
      rw [e2,z1W e,Nat.sub_zero]
      obtain ⟨j,rfl⟩:∃ j',j=j'+1:=⟨j - 1,by omega⟩
      exact g.n i j s hs
    · rw [z1E e,List.length_append] at h2 ⊢
      rw [z8c] at h1 ⊢
      have q1:=ih (2*k) i j s hs (by omega) (by omega)
      have q2:=ih (2*k+1) _ _ _ q1.2 (by omega) (by omega)
      rw [Nat.sub_sub,Nat.sub_sub] at q2
      rw [z5s e]
      exact g.j _ _ _ _ _ q2.2 q1.1 q2.1
def CLH1 (d:Int):CLMG (List Int × List Int):=⟨fun s=>HSH s.1 0,fun s=>(s.1.drop 32,s.2),fun s=>HSH s.2 0,fun s=>(s.1,s.2.drop 32),z1R d,fun s _ _=>s⟩
theorem z9J (d:Int) (F T:Nat):∀ (h k:Nat) (lv nd:List Int),GUP (CLH1 d) F T h k (lv,nd)=MUP d h k (SG F T h k) lv nd:=by
  intro h
  induction h with
  | zero=>
    intro k lv nd
    by_cases e:APRT F T 0 k
    · rw [z1W e,z3a e];rfl
    · rw [z5r e,z89 e];rfl
  | succ h ih=>
    intro k lv nd
    by_cases e:APRT F T (h+1) k
    · rw [z1W e,z3a e];rfl
    · rw [z5s e,z8a e,ih (2*k) lv nd]
      have h2:GUP (CLH1 d) F T h (2*k+1) (MUP d h (2*k) (SG F T h (2*k)) lv nd).2=_:=ih (2*k+1) (MUP d h (2*k) (SG F T h (2*k)) lv nd).2.1 (MUP d h (2*k) (SG F T h (2*k)) lv nd).2.2
      rw [h2]
      rfl
theorem z6O (d:Int) (F T:Nat):∀ (ps:List (Nat × Nat)) (A B:Nat) (lv nd:List Int),Tile A ps B→T≤B→(GUPS (CLH1 d) F T ps (lv,nd)).1=MUPS d ps (SEG (max F A) T) lv nd
  | [],_,_,_,_,_,_=>rfl
  | (h,k) :: ps,A,B,lv,nd,ht,hT=>by
    obtain ⟨hN,hA,ht⟩:Node h k∧k*2 ^ h=A∧Tile ((k+1)*2 ^ h) ps B:=ht
    have hp:A+2 ^ h=(k+1)*2 ^ h:=by rw [← hA,Nat.add_mul,Nat.one_mul]
    have h2:=Nat.two_pow_pos h
    have e:SEG (max F A) (min T ((k+1)*2 ^ h))=SG F T h k:=by unfold SG;rw [hA]
    rw [GUPS,MUPS,z6m,z5p,show max (max F A) ((k+1)*2 ^ h)=max F ((k+1)*2 ^ h) by omega,e,z9J]
    have h3:(GUPS (CLH1 d) F T ps (MUP d h k (SG F T h k) lv nd).2).1=_:=z6O d F T ps _ B (MUP d h k (SG F T h k) lv nd).2.1 (MUP d h k (SG F T h k) lv nd).2.2 ht hT
    rw [← h3]
theorem z8d (d:Int) {F T N:Nat} (hN:N≤4611686018427387904) (hT:T≤N) (lv nd:List Int):(GUPS (CLH1 d) F T (TPS N) (lv,nd)).1=MUPS d (TPS N) (SEG F T) lv nd:=by
  have h:=z6O d F T (TPS N) 0 N lv nd (z32 hN) hT
  rw [Nat.max_zero] at h
  exact h
theorem zdr (d:Int):GOK (CLH1 d) IsH (fun i j s=>HSS i s.1∧HSS j s.2):=
  ⟨fun i j s h=>⟨h.1.first (by omega),by have:=h.1.rest;exact ⟨this,h.2⟩⟩,fun i j s h=>⟨h.2.first (by omega),by have:=h.2.rest;exact ⟨h.1,this⟩⟩,fun i j s a b h _ _=>⟨z3G d a b,h⟩⟩
def GLV (F T:Nat) (ps:List (Nat × Nat)):Nat:=(ps.map fun s=>(SG F T s.1 s.2).length).sum
def GND (F T:Nat) (ps:List (Nat × Nat)):Nat:=(ps.map fun s=>(NEED s.1 s.2 (SG F T s.1 s.2)).length).sum
theorem z9K (F T:Nat):∀ (ps:List (Nat × Nat)) (A B:Nat),Tile A ps B→T≤B→GLV F T ps=(SEG (max F A) T).length
  | [],A,B,ht,hT=>by
    have:A=B:=ht
    rw [GLV,z0G,List.map_nil,List.sum_nil]
    omega
  | (h,k) :: ps,A,B,ht,hT=>by
    obtain ⟨hN,hA,ht⟩:Node h k∧k*2 ^ h=A∧Tile ((k+1)*2 ^ h) ps B:=ht
    have hp:A+2 ^ h=(k+1)*2 ^ h:=by rw [← hA,Nat.add_mul,Nat.one_mul]
    have h2:=Nat.two_pow_pos h
    have h3:=z9K F T ps _ B ht hT
    unfold GLV at *
    rw [List.map_cons,List.sum_cons,h3,z0G,z0G]
    simp only [SG,z0G]
    omega
theorem z9L (F T:Nat):∀ (ps:List (Nat × Nat)),GND F T ps=((ps.map fun s=>NEED s.1 s.2 (SG F T s.1 s.2)).flatten).length
  | []=>rfl
  | (h,k) :: ps=>by
    have h1:=z9L F T ps
    unfold GND at *
    rw [List.map_cons,List.sum_cons,h1,List.map_cons,List.flatten_cons,List.length_append]
theorem z9M {F T N:Nat} (hN:N≤4611686018427387904) (hT:T≤N):GLV F T (TPS N)=T - F:=by
  rw [z9K F T (TPS N) 0 N (z32 hN) hT,z0G,Nat.max_zero]
theorem z9N {F T N:Nat} (hN:N≤4611686018427387904) (hT:T≤N):GND F T (TPS N)=(SPP F T N).length:=by
  rw [z9L,z3Q hN hT]
end Go.Proofs.YthdpkaiieomdoaaGreatDoor

namespace Go.Proofs.YthdpkaiieomdoaaGreatDoor
open Go.RowKit
set_option maxRecDepth 100000
theorem zds {F T h k A B:Nat} {b:Bool} (hA:k*2 ^ h=A) (hB:(k+1)*2 ^ h=B) (hb:b=decide (min T B≤max F A)):b=decide (APRT F T h k):=by
  rw [hb]
  unfold APRT
  rw [hA,hB]
theorem z2e (h k F T:Nat) (hN:Node h k) (w:World):Calls Tryz.prog 120 #[.int .u64 ((PLC h k:Nat):Int),.int .u64 (F:Int),.int .u64 (T:Int)] w fun e w'=>e=.returned (.bool (decide (APRT F T h k)))∧Below w.heap.size w w':=by
  have cu:=z5f h k hN w
  obtain ⟨A,hA⟩:∃ A,k*2 ^ h=A:=⟨_,rfl⟩
  obtain ⟨B,hB⟩:∃ B,(k+1)*2 ^ h=B:=⟨_,rfl⟩
  obtain ⟨r,hr⟩:∃ r,decide (APRT F T h k)=r:=⟨_,rfl⟩
  rw [hA,hB] at cu
  have HD:Aside (∀ b,b=decide (min T B≤max F A)→b=r):=fun b hb=>hr ▸ zds hA hB hb
  rw [hr]
  clear hA hB hN hr
  go_enter Tryz.func120,Tryz.ntmps120
  go_wp2_with fail
  refine cu.mono ?_
  rintro e w1 ⟨rfl,hb⟩
  clear cu
  have HB:Aside (Below w.heap.size w w1):=hb
  clear hb
  go_wp2
  all_goals
    go_ret
    refine ⟨congrArg (fun b=>Ending.returned (.bool b)) (HD.out _ ?_),HB.out⟩
    congr 1
    simp only [eq_iff_iff]
    omega
def z3R (w0:World) (bp:Nat) (acc l:List Nat) (e:Ending) (w':World):Prop:=e=.returned (.tuple #[])∧TAKING w0 w' bp (acc ++ l)
set_option maxHeartbeats 1000000 in
theorem zdt {w0 w:World} {bp:Nat} {acc:List Nat} (hK:TAKING w0 w bp acc) (p:Nat) (hn:acc.length≤2 ^ 30):Calls Tryz.prog 83 #[.int .u64 (p:Int),.pointer (some ⟨bp,0,none⟩)] w fun e w'=>e=.returned (.tuple #[])∧TAKING w0 w' bp (acc ++ [p]):=by
  obtain ⟨v,hv,hown⟩:=hK.row
  obtain ⟨a,c,rfl⟩:=z23 hown
  have c0:w.cell? ⟨bp,0,none⟩=some (.slice a acc.length c):=hv.cell 0
  have HA:Aside (TAKING w0 w bp acc∧acc.length≤2 ^ 30∧Has w bp #[.slice a acc.length c] 81∧w.ownsRow w0.heap.size 24 1 (.slice a acc.length c) acc.length (z0h acc)):=⟨hK,hn,hv,hown⟩
  clear hK hn hv hown
  obtain ⟨n,hn⟩:∃ n,acc.length=n:=⟨_,rfl⟩
  rw [hn] at HA c0
  have HN:Aside (acc.length=n):=hn
  clear hn
  go_enter Tryz.func83,Tryz.ntmps83
  go_wp2_with (first
    | (at_builtin;refine zeu _ rfl (.tmp 3) (.tmp 5) rfl w0.heap.size (.slice a n c) n acc rfl (HA.out.2.2.2.alloc _) w.heap.size 1 p rfl ((Has.new _ _ _).cell 0) HA.out.2.1 (by have:=HA.out.1.below.size;simp;omega) ?_;intro g1 c1 w1 hown1 hgrow1 hg1
       have hbp:Has w1 bp #[.slice a n c] 81:=by
         refine (hgrow1.block bp (by have:=HA.out.2.2.1.lt;simp;omega) (fun e=>?_)).trans (HA.out.2.2.1.alloc _)
         have:=(HA.out.2.2.2.lt bp e.symm).1
         have:=HA.out.1.lt
         omega
       have x0:=hbp.cell 0
       have x1:=hbp.frozen 0
       have FN:Aside (TAKING w0 (w1.setCell ⟨bp,0,none⟩ (.slice (some ⟨g1,0,none⟩) (n+1) c1)) bp (acc ++ [p])):=by
         have hlt:=HA.out.1.lt
         have hsz:=HA.out.1.below.size
         refine ⟨⟨.slice (some ⟨g1,0,none⟩) (n+1) c1,hbp.set 0 _,?_⟩,fun b hb hne=>?_,hlt,?_⟩
         · rw [List.length_append,HN.out]
           exact ownsRow_setCell_below hown1 (a:=⟨bp,0,none⟩) hlt _
         · rw [Below.heap_setCell _ _ _ _ (by exact hne),hgrow1.block b (by simp;omega) (fun e=>by have:=(HA.out.2.2.2.lt b e.symm).1;omega),Below.heap_alloc _ _ _ (by omega)]
           exact HA.out.1.keep b hb hne
         · refine ((HA.out.1.below.alloc (by omega) _).grown hgrow1 (by simp;omega) (fun k e=>?_)).setCell (Nat.le_refl _) _
           have:=(HA.out.2.2.2.lt k e).1
           omega
       clear hown1 hgrow1 hg1 hbp c0))
  exact bodyPost_end (v:=.tuple #[]) (by simp [results,Tryz.f83]) rfl ⟨rfl,FN.out⟩
theorem TAKING.stays {w0 w w':World} {bp:Nat} {acc:List Nat} (h:TAKING w0 w bp acc) (hb:Below w.heap.size w w'):TAKING w0 w' bp acc:=by
  obtain ⟨v,h1,h2⟩:=h.row
  have hs:=h.below.size
  have hlt:=h.lt
  refine ⟨⟨v,h1.keep hb,?_⟩,fun b hb0 hne=>(hb.block b (by omega)).trans (h.keep b hb0 hne),hlt,h.below.trans (hb.mono (by omega))⟩
  refine ⟨h2.1,h2.2.imp id ?_⟩
  rintro ⟨g',c,cur,rfl,b,r,rest⟩
  exact ⟨g',c,cur,rfl,b,(hb.block g' (Array.getElem?_eq_some_iff.1 r).1).trans r,rest⟩
set_option maxHeartbeats 2000000 in
theorem z4s (w0:World) (CP F T h k:Nat) (hN:Node h k) (e:APRT F T h k) (acc:List Nat) (w:World) (hw:TAKING w0 w CP acc) (hlen:acc.length≤2 ^ 30):
    Calls Tryz.prog 123 #[.int .u64 ((PLC h k:Nat):Int),.int .u64 (F:Int),.int .u64 (T:Int),.func (.func 83) #[] #[.pointer (some ⟨CP,0,none⟩)]] w (z3R w0 CP acc [PLC h k]):=by
  have ca:=z2e h k F T hN w
  rw [decide_eq_true e] at ca
  have HS:Aside (TAKING w0 w CP acc∧acc.length≤2 ^ 30):=⟨hw,hlen⟩
  clear hN e hw hlen
  go_enter Tryz.func123,Tryz.ntmps123
  go_wp2_with fail
  refine ca.mono ?_
  rintro e w1 ⟨rfl,h1⟩
  clear ca
  have ct:=zdt (HS.out.1.stays h1) (PLC h k) HS.out.2
  clear h1 HS
  go_wp2_with fail
  refine ct.mono ?_
  rintro e w2 ⟨rfl,h2⟩
  clear ct
  have FN:Aside (TAKING w0 w2 CP (acc ++ [PLC h k])):=h2
  clear h2
  go_wp2_with fail
  exact bodyPost_ret (v:=.tuple #[]) (by simp [results,Tryz.f123]) rfl ⟨rfl,FN.out⟩
set_option maxHeartbeats 2000000 in
theorem z3X (w0:World) (CP F T h k:Nat) (hN:Node h k) (e:z0N F T h k) (acc:List Nat) (w:World) (hw:TAKING w0 w CP acc):
    Calls Tryz.prog 123 #[.int .u64 ((PLC h k:Nat):Int),.int .u64 (F:Int),.int .u64 (T:Int),.func (.func 83) #[] #[.pointer (some ⟨CP,0,none⟩)]] w (z3R w0 CP acc []):=by
  have ca:=z2e h k F T hN w
  rw [decide_eq_false (z2D e)] at ca
  have cu:=fun w=>z5f h k hN w
  have e1:F≤k*2 ^ h:=e.1
  have e2:(k+1)*2 ^ h≤T:=e.2
  have HS:Aside (TAKING w0 w CP acc):=hw
  generalize k*2 ^ h=A at *
  generalize (k+1)*2 ^ h=B at *
  have g1:(F:Int)≤(A:Int):=by omega
  have g2:(B:Int)≤(T:Int):=by omega
  clear hN e hw
  go_enter Tryz.func123,Tryz.ntmps123
  go_wp2_with fail
  refine ca.mono ?_
  rintro e w1 ⟨rfl,h1⟩
  clear ca
  have H1:Aside (TAKING w0 w1 CP acc):=HS.out.stays h1
  clear h1 HS
  go_wp2_with fail
  refine (cu w1).mono ?_
  rintro e w2 ⟨rfl,h2⟩
  clear cu
  have FN:Aside (TAKING w0 w2 CP (acc ++ [])):=by rw [List.append_nil];exact H1.out.stays h2
  clear h2 H1
  go_wp2_with fail
  exact bodyPost_ret (v:=.tuple #[]) (by simp [results,Tryz.f123]) rfl ⟨rfl,FN.out⟩
set_option maxHeartbeats 2000000 in
theorem z94 (w0:World) (CP F T h k:Nat) (hN:Node (h+1) k) (e:¬ APRT F T (h+1) k) (e':¬ z0N F T (h+1) k) (acc:List Nat) (w:World) (hw:TAKING w0 w CP acc) (hlen:acc.length+(NEED (h+1) k (SG F T (h+1) k)).length≤2 ^ 30)
    (ih:∀ (k:Nat),Node h k→∀ (acc:List Nat) (w:World),TAKING w0 w CP acc→acc.length+(NEED h k (SG F T h k)).length≤2 ^ 30→Calls Tryz.prog 123 #[.int .u64 ((PLC h k:Nat):Int),.int .u64 (F:Int),.int .u64 (T:Int),.func (.func 83) #[] #[.pointer (some ⟨CP,0,none⟩)]] w (z3R w0 CP acc (NEED h k (SG F T h k)))):
    Calls Tryz.prog 123 #[.int .u64 ((PLC (h+1) k:Nat):Int),.int .u64 (F:Int),.int .u64 (T:Int),.func (.func 83) #[] #[.pointer (some ⟨CP,0,none⟩)]] w (z3R w0 CP acc (NEED (h+1) k (SG F T (h+1) k))):=by
  have ca:=z2e (h+1) k F T hN w
  rw [decide_eq_false e] at ca
  have cu:=fun w=>z5f (h+1) k hN w
  have ck:=fun w=>z9q h k hN w
  obtain ⟨hNl,hNr⟩:=hN.kid
  rw [z1E e,List.length_append] at hlen
  rw [z1E e]
  obtain ⟨LL,hLL⟩:∃ LL,NEED h (2*k) (SG F T h (2*k))=LL:=⟨_,rfl⟩
  obtain ⟨LR,hLR⟩:∃ LR,NEED h (2*k+1) (SG F T h (2*k+1))=LR:=⟨_,rfl⟩
  have il:=fun acc w=>ih (2*k) hNl acc w
  have ir:=fun acc w=>ih (2*k+1) hNr acc w
  rw [hLL] at il hlen ⊢
  rw [hLR] at ir hlen ⊢
  have HS:Aside (TAKING w0 w CP acc):=hw
  have IH:Aside (_∧_∧acc.length+(LL.length+LR.length)≤2 ^ 30):=⟨il,ir,hlen⟩
  have hw':¬ (F≤k*2 ^ (h+1)∧(k+1)*2 ^ (h+1)≤T):=e'
  generalize k*2 ^ (h+1)=A at *
  generalize (k+1)*2 ^ (h+1)=B at *
  have g1:¬ (F:Int)≤(A:Int)∨((F:Int)≤(A:Int)∧¬ (B:Int)≤(T:Int)):=by
    by_cases h1:F≤A
    · exact .inr ⟨by omega,fun h2=>hw' ⟨h1,by omega⟩⟩
    · exact .inl (by omega)
  clear hN e e' hw ih il ir hLL hLR hlen hNl hNr hw'
  rcases g1 with g1 | ⟨g1,g2⟩
  all_goals
    go_enter Tryz.func123,Tryz.ntmps123
    go_wp2_with fail
    refine ca.mono ?_
    rintro e w1 ⟨rfl,h1⟩
    clear ca
    have H1:Aside (TAKING w0 w1 CP acc):=HS.out.stays h1
    clear h1 HS
    go_wp2_with fail
    refine (cu w1).mono ?_
    rintro e w2 ⟨rfl,h2⟩
    clear cu
    have H2:Aside (TAKING w0 w2 CP acc):=H1.out.stays h2
    clear h2 H1
    go_wp2_with fail
    refine (ck w2).mono ?_
    rintro e w3 ⟨rfl,h3⟩
    clear ck
    have c1:=IH.out.1 acc w3 (H2.out.stays h3) (by have:=IH.out.2.2;omega)
    clear h3 H2
    go_wp2_with fail
    refine c1.mono ?_
    rintro e w4 ⟨rfl,h4⟩
    clear c1
    have c2:=IH.out.2.1 (acc ++ LL) w4 h4 (by rw [List.length_append];have:=IH.out.2.2;omega)
    clear h4 IH
    go_wp2_with fail
    refine c2.mono ?_
    rintro e w5 ⟨rfl,h5⟩
    clear c2
    have FN:Aside (TAKING w0 w5 CP (acc ++ (LL ++ LR))):=by rw [List.append_assoc] at h5;exact h5
    clear h5
    go_wp2_with fail
    exact bodyPost_end (v:=.tuple #[]) (by simp [results,Tryz.f123]) rfl ⟨rfl,FN.out⟩
theorem zc8 (w0:World) (CP F T:Nat):∀ (h k:Nat),Node h k→∀ (acc:List Nat) (w:World),TAKING w0 w CP acc→acc.length+(NEED h k (SG F T h k)).length≤2 ^ 30→
    Calls Tryz.prog 123 #[.int .u64 ((PLC h k:Nat):Int),.int .u64 (F:Int),.int .u64 (T:Int),.func (.func 83) #[] #[.pointer (some ⟨CP,0,none⟩)]] w (z3R w0 CP acc (NEED h k (SG F T h k))):=by
  intro h
  induction h with
  | zero=>
    intro k hN acc w hw hlen
    by_cases e:APRT F T 0 k
    · rw [z25 e] at hlen ⊢
      exact z4s w0 CP F T 0 k hN e acc w hw (by omega)
    · rw [z0Z (z1l e)]
      exact z3X w0 CP F T 0 k hN (z1l e) acc w hw
  | succ h ih=>
    intro k hN acc w hw hlen
    by_cases e:APRT F T (h+1) k
    · rw [z25 e] at hlen ⊢
      exact z4s w0 CP F T (h+1) k hN e acc w hw (by omega)
    · by_cases e':z0N F T (h+1) k
      · rw [z0Z e']
        exact z3X w0 CP F T (h+1) k hN e' acc w hw
      · exact z94 w0 CP F T h k hN e e' acc w hw hlen ih
end Go.Proofs.YthdpkaiieomdoaaGreatDoor

namespace Go.Proofs.YthdpkaiieomdoaaGreatDoor
open Go.RowKit
set_option maxRecDepth 100000
@[go_sem] def SUQOPSq0:Oper:=⟨some 32,.load 131 (.tmp 6),131,"climb.go:23",#[],none⟩
@[go_sem] def SUQOPSq1:Oper:=⟨some 33,.load 23 (.tmp 12),23,"climb.go:23",#[],none⟩
@[go_sem] def SUQOPSq2:Oper:=⟨some 34,.load 102 (.tmp 5),102,"climb.go:23",#[],none⟩
@[go_sem] def SUQOPSq3:Oper:=⟨some 35,.move (.tmp 10),24,"climb.go:23",#[],none⟩
@[go_sem] def SUQOPSq4:Oper:=⟨some 36,.call {callee:=.value (.tmp 34),args:=#[.tmp 35],argTypes:=#[24]},23,"climb.go:23",#[⟨2,.data⟩,⟨3,.data⟩],none⟩
@[go_sem] def SUQOPSq5:Oper:=⟨some 37,.call {callee:=.value (.tmp 32),args:=#[.tmp 33,.tmp 36],argTypes:=#[23,23]},23,"climb.go:23",#[⟨0,.data⟩,⟨1,.data⟩,⟨4,.data⟩,⟨4,.chain⟩],none⟩
@[go_sem] def SUQOPSq6:Oper:=⟨none,.store 23 (.tmp 8) (.tmp 37),0,"climb.go:23",#[⟨5,.data⟩,⟨5,.chain⟩,⟨0,.phase⟩,⟨1,.phase⟩,⟨2,.phase⟩,⟨3,.phase⟩,⟨4,.phase⟩,⟨5,.phase⟩],none⟩
def z5V:Array Oper:=#[SUQOPSq0,SUQOPSq1,SUQOPSq2,SUQOPSq3,SUQOPSq4,SUQOPSq5,SUQOPSq6]
set_option maxHeartbeats 2000000 in
theorem sup7 {Q:Exit→Act→World→Prop} {u0 u7 u9 u11 u13 u14 u15 u16 u17 u18 u19 u20 u21 u22 u23 u24 u25 u26 u27 u28 u29 u30 u31 u32 u33 u34 u35 u36 u37:Value} (W:World) (B:Nat) (bw b8 bl:Nat) (r:Int) (A X Y:List Int) (lA:A.length=32) (lY:Y.length=32) (P0 P1 P2 P3:World→Prop) (h0:P0 W.drew) (t0:∀ w,P0 w→(fun w:World=>w.cell? ⟨B+4,0,none⟩=some (.func (.func 79) #[] #[.pointer (some ⟨bw,0,none⟩)])∧w.rangeAt bl 0 (z00 A)∧w.cell? ⟨B+5,0,none⟩=some (.func (.func 119) #[] #[.pointer (some ⟨B,0,none⟩),.pointer (some ⟨(B+1),0,none⟩),.pointer (some ⟨(B+3),0,none⟩),.pointer (some ⟨(B+2),0,none⟩),.pointer (some ⟨(B+5),0,none⟩),.pointer (some ⟨(B+4),0,none⟩)])) w) (t1:∀ w,P1 w→(fun w:World=>w.cell? ⟨B+4,0,none⟩=some (.func (.func 79) #[] #[.pointer (some ⟨bw,0,none⟩)])∧w.rangeAt bl 0 (z00 A)∧w.cell? ⟨B+5,0,none⟩=some (.func (.func 119) #[] #[.pointer (some ⟨B,0,none⟩),.pointer (some ⟨(B+1),0,none⟩),.pointer (some ⟨(B+3),0,none⟩),.pointer (some ⟨(B+2),0,none⟩),.pointer (some ⟨(B+5),0,none⟩),.pointer (some ⟨(B+4),0,none⟩)])) w) (t2:∀ w,P2 w→(fun w:World=>w.cell? ⟨B+4,0,none⟩=some (.func (.func 79) #[] #[.pointer (some ⟨bw,0,none⟩)])∧w.rangeAt bl 0 (z00 A)∧w.cell? ⟨B+5,0,none⟩=some (.func (.func 119) #[] #[.pointer (some ⟨B,0,none⟩),.pointer (some ⟨(B+1),0,none⟩),.pointer (some ⟨(B+3),0,none⟩),.pointer (some ⟨(B+2),0,none⟩),.pointer (some ⟨(B+5),0,none⟩),.pointer (some ⟨(B+4),0,none⟩)])) w) (t3:∀ w,P3 w→(fun w:World=>w.cell? ⟨B+4,0,none⟩=some (.func (.func 79) #[] #[.pointer (some ⟨bw,0,none⟩)])∧w.rangeAt bl 0 (z00 A)∧w.cell? ⟨B+5,0,none⟩=some (.func (.func 119) #[] #[.pointer (some ⟨B,0,none⟩),.pointer (some ⟨(B+1),0,none⟩),.pointer (some ⟨(B+3),0,none⟩),.pointer (some ⟨(B+2),0,none⟩),.pointer (some ⟨(B+5),0,none⟩),.pointer (some ⟨(B+4),0,none⟩)])) w)
    (c0:∀ w,P0 w→Calls Tryz.prog 119 #[.int .u64 r,.pointer (some ⟨B,0,none⟩),.pointer (some ⟨(B+1),0,none⟩),.pointer (some ⟨(B+3),0,none⟩),.pointer (some ⟨(B+2),0,none⟩),.pointer (some ⟨(B+5),0,none⟩),.pointer (some ⟨(B+4),0,none⟩)] w fun e w'=>e=.returned (.agg (z00 X).toArray)∧P1 w') (c1:∀ w,P1 w→Calls Tryz.prog 79 #[.agg (z00 A).toArray,.agg (z00 X).toArray,.pointer (some ⟨bw,0,none⟩)] w fun e w'=>e=.returned (.agg (z00 Y).toArray)∧P2 w') (st:∀ w,P2 w→Has w b8 (z00 ZND).toArray 23) (s2:∀ w,P2 w→P3 (w.setRow b8 (z00 Y).toArray)) (hQ:∀ c (a:Act) (t:Tmp) (v:Value) w,Q (.panic c) (a.put (some t) v) w→Q (.panic c) a w)
    (hfin:∀ (w:World),(P3 w)→Q .normal {tmps:=#[u0,.pointer (some ⟨B,0,none⟩),.pointer (some ⟨(B+1),0,none⟩),.pointer (some ⟨(B+3),0,none⟩),.pointer (some ⟨(B+2),0,none⟩),.pointer (some ⟨(B+5),0,none⟩),.pointer (some ⟨(B+4),0,none⟩),u7,.pointer (some ⟨b8,0,none⟩),u9,.int .u64 r,u11,.pointer (some ⟨bl,0,none⟩),u13,u14,u15,u16,u17,u18,u19,u20,u21,u22,u23,u24,u25,u26,u27,u28,u29,u30,u31,.func (.func 79) #[] #[.pointer (some ⟨bw,0,none⟩)],.agg (z00 A).toArray,.func (.func 119) #[] #[.pointer (some ⟨B,0,none⟩),.pointer (some ⟨(B+1),0,none⟩),.pointer (some ⟨(B+3),0,none⟩),.pointer (some ⟨(B+2),0,none⟩),.pointer (some ⟨(B+5),0,none⟩),.pointer (some ⟨(B+4),0,none⟩)],.int .u64 r,.agg (z00 X).toArray,.agg (z00 Y).toArray],defers:=[]} w):(Code.region 7 z5V true).wp Tryz.prog Q {tmps:=#[u0,.pointer (some ⟨B,0,none⟩),.pointer (some ⟨(B+1),0,none⟩),.pointer (some ⟨(B+3),0,none⟩),.pointer (some ⟨(B+2),0,none⟩),.pointer (some ⟨(B+5),0,none⟩),.pointer (some ⟨(B+4),0,none⟩),u7,.pointer (some ⟨b8,0,none⟩),u9,.int .u64 r,u11,.pointer (some ⟨bl,0,none⟩),u13,u14,u15,u16,u17,u18,u19,u20,u21,u22,u23,u24,u25,u26,u27,u28,u29,u30,u31,u32,u33,u34,u35,u36,u37],defers:=[]} W:=by
  have kst4_5_6:∀ (w:World),(P3 w)→wpAnyH Tryz.prog .any z5V Q (fun w:World=>w.cell? ⟨B+4,0,none⟩=some (.func (.func 79) #[] #[.pointer (some ⟨bw,0,none⟩)])∧w.rangeAt bl 0 (z00 A)∧w.cell? ⟨B+5,0,none⟩=some (.func (.func 119) #[] #[.pointer (some ⟨B,0,none⟩),.pointer (some ⟨(B+1),0,none⟩),.pointer (some ⟨(B+3),0,none⟩),.pointer (some ⟨(B+2),0,none⟩),.pointer (some ⟨(B+5),0,none⟩),.pointer (some ⟨(B+4),0,none⟩)])) 0 #[true,true,true,true,true,true,true] {tmps:=#[u0,.pointer (some ⟨B,0,none⟩),.pointer (some ⟨(B+1),0,none⟩),.pointer (some ⟨(B+3),0,none⟩),.pointer (some ⟨(B+2),0,none⟩),.pointer (some ⟨(B+5),0,none⟩),.pointer (some ⟨(B+4),0,none⟩),u7,.pointer (some ⟨b8,0,none⟩),u9,.int .u64 r,u11,.pointer (some ⟨bl,0,none⟩),u13,u14,u15,u16,u17,u18,u19,u20,u21,u22,u23,u24,u25,u26,u27,u28,u29,u30,u31,.func (.func 79) #[] #[.pointer (some ⟨bw,0,none⟩)],.agg (z00 A).toArray,.func (.func 119) #[] #[.pointer (some ⟨B,0,none⟩),.pointer (some ⟨(B+1),0,none⟩),.pointer (some ⟨(B+3),0,none⟩),.pointer (some ⟨(B+2),0,none⟩),.pointer (some ⟨(B+5),0,none⟩),.pointer (some ⟨(B+4),0,none⟩)],.int .u64 r,.agg (z00 X).toArray,.agg (z00 Y).toArray],defers:=[]} w:=fun  w hp=>by
    exact wpAnyH_done (by kernel_rfl) (hfin  w hp) _
  have kst:∀ (w:World),(P0 w)→wpAnyH Tryz.prog .any z5V Q (fun w:World=>w.cell? ⟨B+4,0,none⟩=some (.func (.func 79) #[] #[.pointer (some ⟨bw,0,none⟩)])∧w.rangeAt bl 0 (z00 A)∧w.cell? ⟨B+5,0,none⟩=some (.func (.func 119) #[] #[.pointer (some ⟨B,0,none⟩),.pointer (some ⟨(B+1),0,none⟩),.pointer (some ⟨(B+3),0,none⟩),.pointer (some ⟨(B+2),0,none⟩),.pointer (some ⟨(B+5),0,none⟩),.pointer (some ⟨(B+4),0,none⟩)])) 3 #[true,true,true,true,false,false,false] {tmps:=#[u0,.pointer (some ⟨B,0,none⟩),.pointer (some ⟨(B+1),0,none⟩),.pointer (some ⟨(B+3),0,none⟩),.pointer (some ⟨(B+2),0,none⟩),.pointer (some ⟨(B+5),0,none⟩),.pointer (some ⟨(B+4),0,none⟩),u7,.pointer (some ⟨b8,0,none⟩),u9,.int .u64 r,u11,.pointer (some ⟨bl,0,none⟩),u13,u14,u15,u16,u17,u18,u19,u20,u21,u22,u23,u24,u25,u26,u27,u28,u29,u30,u31,.func (.func 79) #[] #[.pointer (some ⟨bw,0,none⟩)],.agg (z00 A).toArray,.func (.func 119) #[] #[.pointer (some ⟨B,0,none⟩),.pointer (some ⟨(B+1),0,none⟩),.pointer (some ⟨(B+3),0,none⟩),.pointer (some ⟨(B+2),0,none⟩),.pointer (some ⟨(B+5),0,none⟩),.pointer (some ⟨(B+4),0,none⟩)],.int .u64 r,u36,u37],defers:=[]} w:=fun  w hp=>by
    refine wpAnyH_ready (rs:=[4]) (by kernel_rfl) (by simp) ?_
    refine AllReadyH.cons (o:=SUQOPSq4) rfl (fun KQ hKQ=>?_) ?_
    · rw [if_pos (by rfl)]
      go_simp
      refine (show Calls _ _ _ w (fun e w'=>e=.returned (.agg (z00 X).toArray)∧(P1 w')) from c0 w hp).mono ?_
      rintro e w ⟨rfl,hp⟩
      refine hKQ.out _ _ (t1 _ hp) (fun _=>?_)
      simp only [List.setIfInBounds_toArray,List.set]
      refine wpAnyH_ready (rs:=[5]) (by kernel_rfl) (by simp) ?_
      refine AllReadyH.cons (o:=SUQOPSq5) rfl (fun KQ hKQ=>?_) ?_
      · rw [if_pos (by rfl)]
        go_simp
        refine (show Calls _ _ _ w (fun e w'=>e=.returned (.agg (z00 Y).toArray)∧(P2 w')) from c1 w hp).mono ?_
        rintro e w ⟨rfl,hp⟩
        refine hKQ.out _ _ (t2 _ hp) (fun _=>?_)
        simp only [List.setIfInBounds_toArray,List.set]
        refine wpAnyH_ready (rs:=[6]) (by kernel_rfl) (by simp) ?_
        refine AllReadyH.cons (o:=SUQOPSq6) rfl (fun KQ hKQ=>?_) ?_
        · exact z0J (by rfl) (z0W (z1D (st _ hp) rfl lY)) (have hp:(fun (w:World)=>(P3 w))  _:=s2 w hp;hKQ.out _ _ (t3 _ hp) (fun _=>kst4_5_6  _ hp))
        exact AllReadyH.nil
      exact AllReadyH.nil
    exact AllReadyH.nil
  have hp:=h0
  have hww:(fun w:World=>w.cell? ⟨B+4,0,none⟩=some (.func (.func 79) #[] #[.pointer (some ⟨bw,0,none⟩)])∧w.rangeAt bl 0 (z00 A)∧w.cell? ⟨B+5,0,none⟩=some (.func (.func 119) #[] #[.pointer (some ⟨B,0,none⟩),.pointer (some ⟨(B+1),0,none⟩),.pointer (some ⟨(B+3),0,none⟩),.pointer (some ⟨(B+2),0,none⟩),.pointer (some ⟨(B+5),0,none⟩),.pointer (some ⟨(B+4),0,none⟩)])) W.drew:=t0 _ hp
  have last:=kst W.drew hp
  have z:wpAnyH Tryz.prog .any z5V Q (fun w:World=>w.cell? ⟨B+4,0,none⟩=some (.func (.func 79) #[] #[.pointer (some ⟨bw,0,none⟩)])∧w.rangeAt bl 0 (z00 A)∧w.cell? ⟨B+5,0,none⟩=some (.func (.func 119) #[] #[.pointer (some ⟨B,0,none⟩),.pointer (some ⟨(B+1),0,none⟩),.pointer (some ⟨(B+3),0,none⟩),.pointer (some ⟨(B+2),0,none⟩),.pointer (some ⟨(B+5),0,none⟩),.pointer (some ⟨(B+4),0,none⟩)])) 7 #[false,false,false,false,false,false,false] {tmps:=#[u0,.pointer (some ⟨B,0,none⟩),.pointer (some ⟨(B+1),0,none⟩),.pointer (some ⟨(B+3),0,none⟩),.pointer (some ⟨(B+2),0,none⟩),.pointer (some ⟨(B+5),0,none⟩),.pointer (some ⟨(B+4),0,none⟩),u7,.pointer (some ⟨b8,0,none⟩),u9,.int .u64 r,u11,.pointer (some ⟨bl,0,none⟩),u13,u14,u15,u16,u17,u18,u19,u20,u21,u22,u23,u24,u25,u26,u27,u28,u29,u30,u31,u32,u33,u34,u35,u36,u37],defers:=[]} W.drew:=by
    refine tkH SUQOPSq0 (.func (.func 79) #[] #[.pointer (some ⟨bw,0,none⟩)]) 0 hQ (Or.inl ⟨by rfl,fun w hw=>by have hx:=hw.1;go_simp⟩) hww ?_
    simp only [List.set]
    refine tkH SUQOPSq1 (.agg (z00 A).toArray) 1 hQ (yieldsIf_load_mid (by rfl) 23 (.tmp 12) rfl bl 0 rfl (z00 A) _ (fun w h=>h.2.1) Tryz.underlying23 rfl (z0j lA)) hww ?_
    simp only [List.set]
    refine tkH SUQOPSq2 (.func (.func 119) #[] #[.pointer (some ⟨B,0,none⟩),.pointer (some ⟨(B+1),0,none⟩),.pointer (some ⟨(B+3),0,none⟩),.pointer (some ⟨(B+2),0,none⟩),.pointer (some ⟨(B+5),0,none⟩),.pointer (some ⟨(B+4),0,none⟩)]) 2 hQ (Or.inl ⟨by rfl,fun w hw=>by have hx:=hw.2.2;go_simp⟩) hww ?_
    simp only [List.set]
    refine tkP SUQOPSq3 (.int .u64 r) 3 hQ hww ?_
    simp only [List.set]
    exact last
  exact wp_region_held_drew (S:=(fun w:World=>w.cell? ⟨B+4,0,none⟩=some (.func (.func 79) #[] #[.pointer (some ⟨bw,0,none⟩)])∧w.rangeAt bl 0 (z00 A)∧w.cell? ⟨B+5,0,none⟩=some (.func (.func 119) #[] #[.pointer (some ⟨B,0,none⟩),.pointer (some ⟨(B+1),0,none⟩),.pointer (some ⟨(B+3),0,none⟩),.pointer (some ⟨(B+2),0,none⟩),.pointer (some ⟨(B+5),0,none⟩),.pointer (some ⟨(B+4),0,none⟩)]))) (by kernel_rfl) hww (fun _=>z)
end Go.Proofs.YthdpkaiieomdoaaGreatDoor
