/- Texts of ManyVerifies, one behind the other: PosCoversPlain, CutTopsPlain, ProofPlain, PosRef, PosRefSpot, PosRefKin, PosTops, PosRefPeaks, PosRefPeak, PosRefPath, PosAwake, PosFour, CutCalls, CutHas, CutSpan, CutOver, ProofPlaces, ProofBytes, ProofEncode, CutRefSpan, ProofRefPlaces, ProofLists, RegionSteps. -/
import Derived.Deep.QuietTactic
import Derived.BigQuiet
import Derived.Deep.MidRow
import Derived.Test.YtlicfinmibbpdaaGreatDoorProg
import Derived.WalkKit
import Derived.WalkLawsBesides
import Derived.Deep.RegionHeld3
import Derived.Deep.CutRange
import Derived.Test.YtlicfinmibbpdaaGreatDoorManyVerifiesP4
namespace Go.Proofs.YtlicfinmibbpdaaGreatDoor
theorem z2F {n:Nat} (h:PC n=0):n=0:=by
  induction n using Nat.strongRecOn with
  | _ n ih=>
    by_cases h0:n=0
    · exact h0
    · rw [z0F] at h
      have:=ih (n / 2) (by omega) (by omega)
      omega
theorem z7j (n a b:Nat) (hab:a≤b):n / 2 ^ a=n / 2 ^ b*2 ^ (b - a)+n / 2 ^ a % 2 ^ (b - a)∧PC (n / 2 ^ a)=PC (n / 2 ^ b)+PC (n / 2 ^ a % 2 ^ (b - a)):=by
  have e:n / 2 ^ b=n / 2 ^ a / 2 ^ (b - a):=by rw [Nat.div_div_eq_div_mul,← Nat.pow_add,show a+(b - a)=b by omega]
  have h1:n / 2 ^ a=n / 2 ^ b*2 ^ (b - a)+n / 2 ^ a % 2 ^ (b - a):=by
    rw [e,Nat.mul_comm]
    exact (Nat.div_add_mod _ _).symm
  refine ⟨h1,?_⟩
  have h2:=z5m (b - a) (n / 2 ^ b) (n / 2 ^ a % 2 ^ (b - a)) (Nat.mod_lt _ (Nat.two_pow_pos _))
  rw [← h1] at h2
  exact h2
theorem ze8 (n:Nat) {a b:Nat} (hab:a≤b):PC (n / 2 ^ b)≤PC (n / 2 ^ a):=by
  have:=(z7j n a b hab).2
  omega
theorem z7k (n:Nat) {a b:Nat} (hab:a≤b) (h:PC (n / 2 ^ a)=PC (n / 2 ^ b)):n / 2 ^ a*2 ^ a=n / 2 ^ b*2 ^ b:=by
  obtain ⟨h1,h2⟩:=z7j n a b hab
  have h3:n / 2 ^ a % 2 ^ (b - a)=0:=z2F (by omega)
  rw [h3,Nat.add_zero] at h1
  rw [h1,Nat.mul_assoc,← Nat.pow_add,show b - a+a=b by omega]
theorem zcL {n:Nat} (hn:n<2 ^ 64):∀ h,h≤64→∀ i,i<PC (n / 2 ^ h)→∃ g,h≤g∧g<64∧(HS h n)[i]?=some g∧n / 2 ^ g % 2=1∧i=PC (n / 2 ^ (g+1)):=by
  have key:∀ d h,h+d=64→∀ i,i<PC (n / 2 ^ h)→∃ g,h≤g∧g<64∧(HS h n)[i]?=some g∧n / 2 ^ g % 2=1∧i=PC (n / 2 ^ (g+1)):=by
    intro d
    induction d with
    | zero=>
      intro h e i hi
      obtain rfl:h=64:=by omega
      rw [Nat.div_eq_of_lt hn,z1b] at hi
      omega
    | succ d ih=>
      intro h e i hi
      have hl:=z3Z hn (h+1) (by omega)
      have hs:PC (n / 2 ^ h)=n / 2 ^ h % 2+PC (n / 2 ^ (h+1)):=by rw [z0F,z2i]
      rcases Nat.lt_or_ge i (PC (n / 2 ^ (h+1))) with h1 | h1
      · obtain ⟨g,a,b,c,r⟩:=ih (h+1) (by omega) i h1
        refine ⟨g,by omega,b,?_,r⟩
        by_cases hb:n / 2 ^ h % 2=1
        · rw [z3m (by omega) hb,List.getElem?_append_left (by omega)]
          exact c
        · rw [z2U (by omega) hb]
          exact c
      · have hb:n / 2 ^ h % 2=1:=by omega
        have hi':i=PC (n / 2 ^ (h+1)):=by omega
        refine ⟨h,Nat.le_refl _,by omega,?_,hb,hi'⟩
        rw [z3m (by omega) hb,List.getElem?_append_right (by omega),hl,hi']
        simp
  intro h hh
  exact key (64 - h) h (by omega)
def HGT (n i:Nat):Nat:=(HS 0 n).getD i 0
def z6Z (n:Nat):Nat→Nat
  | 0=>0
  | i+1=>n / 2 ^ HGT n i*2 ^ HGT n i
theorem z2W {n i:Nat} (hn:n<2 ^ 64) (hi:i<PC n):(HS 0 n)[i]?=some (HGT n i)∧n / 2 ^ HGT n i % 2=1∧i=PC (n / 2 ^ (HGT n i+1)):=by
  obtain ⟨g,_,_,c,d,e⟩:=zcL hn 0 (by omega) i (by rw [Nat.pow_zero,Nat.div_one];exact hi)
  have hg:HGT n i=g:=by unfold HGT;rw [List.getD_eq_getElem?_getD,c];rfl
  rw [hg]
  exact ⟨c,d,e⟩
def KGT (n i:Nat):Nat:=2*(n / 2 ^ (HGT n i+1))
theorem zb9 {n i:Nat} (hn:n≤4611686018427387904) (hi:i<PC n):Node (HGT n i) (KGT n i):=Node.peak hn (z2W (by omega) hi).2.1
theorem z5a {n i:Nat} (hn:n<2 ^ 64) (hi:i<PC n):PC (n / 2 ^ HGT n i)=i+1:=by
  obtain ⟨_,h2,h3⟩:=z2W hn hi
  rw [z0F,← z2i]
  omega
theorem z6q {n i:Nat} (hn:n<2 ^ 64) (hi:i+1<PC n):HGT n (i+1)<HGT n i:=by
  have h1:=z5a hn (i:=i) (by omega)
  have h2:=(z2W hn hi).2.2
  rcases Nat.lt_or_ge (HGT n (i+1)) (HGT n i) with h | h
  · exact h
  · have h3:=ze8 n (a:=HGT n i+1) (b:=HGT n (i+1)+1) (by omega)
    have h4:=(z2W hn (i:=i) (by omega)).2.2
    omega
theorem z9U {n i:Nat} (hn:n<2 ^ 64) (hi:i<PC n):KGT n i*2 ^ HGT n i=z6Z n i:=by
  have hk:KGT n i*2 ^ HGT n i=n / 2 ^ (HGT n i+1)*2 ^ (HGT n i+1):=z15 _ _
  have h2:=(z2W hn hi).2.2
  cases i with
  | zero=>
    rw [hk,z2F h2.symm,Nat.zero_mul]
    rfl
  | succ i=>
    have h1:=z5a hn (i:=i) (by omega)
    have h3:=z6q hn hi
    rw [hk]
    exact z7k n (by omega) (by omega)
theorem zcM {n i:Nat} (hn:n<2 ^ 64) (hi:i<PC n):(KGT n i+1)*2 ^ HGT n i=z6Z n (i+1):=by
  have:=z5p (z2W hn hi).2.1
  show (2*(n / 2 ^ (HGT n i+1))+1)*2 ^ HGT n i=n / 2 ^ HGT n i*2 ^ HGT n i
  rw [← this]
theorem zba {n:Nat} (hn:n<2 ^ 64):z6Z n (PC n)=n:=by
  cases h:PC n with
  | zero=>
    rw [z2F h]
    rfl
  | succ i=>
    have h1:=z5a hn (i:=i) (by omega)
    have h2:=z7k n (a:=0) (b:=HGT n i) (by omega) (by rw [Nat.pow_zero,Nat.div_one];omega)
    rw [Nat.pow_zero,Nat.div_one,Nat.mul_one] at h2
    exact h2.symm
end Go.Proofs.YtlicfinmibbpdaaGreatDoor

namespace Go.Proofs.YtlicfinmibbpdaaGreatDoor
def PKS (n j c:Nat):List (Nat × Nat):=(List.range' j c).map fun i=>(HGT n i,KGT n i)
theorem z7l (n j c:Nat):PKS n j (c+1)=(HGT n j,KGT n j) :: PKS n (j+1) c:=by simp [PKS,List.range'_succ]
theorem zeW {n c i:Nat} (h:i<c):(PKS n 0 c)[i]?=some (HGT n i,KGT n i):=by
  simp [PKS,h]
theorem zcN {n:Nat} (hn:n≤4611686018427387904):∀ c j,j+c=PC n→Tile (z6Z n j) (PKS n j c) n∧Irr (PKS n j c):=by
  intro c
  induction c with
  | zero=>
    intro j e
    obtain rfl:j=PC n:=by omega
    exact ⟨zba (by omega),trivial⟩
  | succ c ih=>
    intro j e
    obtain ⟨i1,i2⟩:=ih (j+1) (by omega)
    rw [z7l]
    refine ⟨⟨zb9 hn (by omega),z9U (by omega) (by omega),?_⟩,?_,i2⟩
    · show Tile ((KGT n j+1)*2 ^ HGT n j) _ n
      rw [zcM (by omega) (by omega)]
      exact i1
    · intro y hy ⟨h1,_,_⟩
      cases c with
      | zero=>simp [PKS] at hy
      | succ c=>
        rw [z7l] at hy
        simp at hy
        subst hy
        have:=z6q (n:=n) (i:=j) (by omega) (by omega)
        dsimp only at h1
        omega
end Go.Proofs.YtlicfinmibbpdaaGreatDoor

namespace Go.Proofs.YtlicfinmibbpdaaGreatDoor
def Off (s t:Nat × Nat):Prop:=(s.2+1)*2 ^ s.1≤t.2*2 ^ t.1∨(t.2+1)*2 ^ t.1≤s.2*2 ^ s.1
def SIZE (l:List (Nat × Nat)):Nat:=(l.map fun s=>2 ^ s.1).sum
theorem z7m (k h:Nat):(k+1)*2 ^ h=k*2 ^ h+2 ^ h:=by rw [Nat.add_mul,Nat.one_mul]
theorem Tile.size {l:List (Nat × Nat)}:∀ {a b:Nat},Tile a l b→a+SIZE l=b:=by
  induction l with
  | nil=>intro a b h;have:a=b:=h;simp [SIZE,this]
  | cons s l ih=>
    intro a b ⟨h1,h2,h3⟩
    have:=ih h3
    rw [z7m,h2] at this
    simp only [SIZE,List.map_cons,List.sum_cons] at this ⊢
    omega
theorem Tile.within {l:List (Nat × Nat)}:∀ {a b:Nat},Tile a l b→∀ s∈l,a≤s.2*2 ^ s.1∧(s.2+1)*2 ^ s.1≤b∧Node s.1 s.2:=by
  induction l with
  | nil=>intro a b _ s hs;simp at hs
  | cons t l ih=>
    intro a b ⟨h1,h2,h3⟩ s hs
    rcases List.mem_cons.1 hs with rfl | hs
    · exact ⟨by omega,h3.bound.1,h1⟩
    · have:=ih h3 s hs
      have h4:=z7m t.2 t.1
      have h5:=Nat.two_pow_pos t.1
      exact ⟨by omega,this.2⟩
theorem Tile.off {l:List (Nat × Nat)}:∀ {a b:Nat},Tile a l b→l.Pairwise Off:=by
  induction l with
  | nil=>intro a b _;exact List.Pairwise.nil
  | cons t l ih=>
    intro a b ⟨h1,h2,h3⟩
    refine List.Pairwise.cons (fun s hs=>?_) (ih h3)
    exact .inl (h3.within s hs).1
end Go.Proofs.YtlicfinmibbpdaaGreatDoor

namespace Go.Proofs.YtlicfinmibbpdaaGreatDoor
open Go.RowKit
theorem z1Y (n:Nat) (hn:n<64) (w:World):Calls Tryz.prog 62 #[.int .i64 (n:Int)] w fun e w'=>e=.returned (.int .u64 ((2 ^ n:Nat):Int))∧w=w':=by
  have HN:Aside (n<64):=hn
  clear hn
  go_enter Tryz.func62,Tryz.ntmps62
  go_wp2
  go_loopg [3,4] n (fun g s3 s4 wx=>∃ i v:Nat,s3=.int .u64 (v:Int)∧s4=.int .i64 (i:Int)∧Aside (v=2 ^ i∧i+g=n)∧wx=w)
  case atStart=>exact ⟨0,1,rfl,rfl,⟨rfl,by omega⟩,rfl⟩
  case round=>
    obtain ⟨i,v,rfl,rfl,A,hw⟩:=hrel
    subst hw
    cases gk with
    | zero=>
      have hi:¬ (i:Int)<(n:Int):=by have:=A.out.2;omega
      go_wp2
      go_ret
      obtain ⟨r1,r2⟩:=A.out
      refine ⟨?_,rfl⟩
      rw [r1,show i=n by omega]
      rfl
    | succ g=>
      have hi:(i:Int)<(n:Int):=by have:=A.out.2;omega
      go_wp2
      go_roundg g
      case measure=>omega
      case rel=>
        obtain ⟨r1,r2⟩:=A.out
        have h64:=HN.out
        have hp:2 ^ (i+1)≤2 ^ 63:=Nat.pow_le_pow_right (by decide) (by omega)
        refine ⟨i+1,2 ^ (i+1),?_,?_,⟨rfl,by omega⟩,rfl⟩
        · congr 1
          rw [z09,r1]
          rw [Nat.pow_succ] at hp ⊢
          omega
        · congr 1
          unfold wrap64
          omega
theorem z8f (n:Nat) (hn:n≤4611686018427387904) (w:World):Calls Tryz.prog 129 #[.int .u64 (n:Int)] w fun e w'=>e=.returned (.tuple #[.int .u64 ((z0s n:Nat):Int),.bool true])∧w=w':=by
  have HN:Aside (n≤4611686018427387904):=hn
  have hd:¬ (4611686018427387904:Int)<(n:Int):=by omega
  clear hn
  go_enter Tryz.func129,Tryz.ntmps129
  go_wp2
  go_loopg [0,4] n (fun g s0 s4 wx=>∃ v:Nat,s0=.int .u64 (g:Int)∧s4=.int .u64 (v:Int)∧Aside (v+z0s g=z0s n)∧wx=w)
  case atStart=>exact ⟨0,rfl,rfl,by unfold Aside;omega,rfl⟩
  case round=>
    obtain ⟨v,rfl,rfl,A,hw⟩:=hrel
    subst hw
    cases gk with
    | zero=>
      go_wp2
      go_ret2
      have r1:=A.out
      rw [z2C] at r1
      refine ⟨?_,rfl⟩
      rw [← r1]
      rfl
    | succ g=>
      have hi:(0:Int)<(((g+1:Nat)):Int):=by omega
      have e1:Aside (IntKind.u64.wrap ((v:Int)+((g+1:Nat):Int))=((v+(g+1):Nat):Int)):=by
        have h1:=z3x (g+1)
        have h2:=A.out
        have h3:=z40 HN.out
        unfold Aside
        rw [z09]
        omega
      have e2:Aside (IntKind.u64.wrap (((g+1:Nat):Int) / 2)=(((g+1) / 2:Nat):Int)):=by
        have h1:=zcp (g+1)
        have h2:=A.out
        have h3:=z40 HN.out
        unfold Aside
        rw [z09]
        omega
      generalize hG:g+1=G at *
      go_wp2
      go_roundg (G / 2)
      case measure=>omega
      case rel=>
        refine ⟨v+G,?_,?_,?_,rfl⟩
        · first | rfl | (congr 1;omega) | (rw [e2.out])
        · rw [e1.out]
        · have h1:=z3x G
          have h2:=A.out
          unfold Aside
          omega
end Go.Proofs.YtlicfinmibbpdaaGreatDoor

namespace Go.Proofs.YtlicfinmibbpdaaGreatDoor
open Go.RowKit
end Go.Proofs.YtlicfinmibbpdaaGreatDoor

namespace Go.Proofs.YtlicfinmibbpdaaGreatDoor
open Go.RowKit
theorem z7n (h k:Nat) (t z y l a r:Int) (w:World) (hh:h≤62) (hm:wrap64 (h:Int)=(h:Int)) (hm2:IntKind.u64.wrap (h:Int)=(h:Int)) (ht:wrap64 (62 - (h:Int))=t) (hk:decide (y≤(k:Int))=false)
    (cy:∀ w,Calls Tryz.prog 62 #[.int .i64 t] w fun e w'=>e=.returned (.int .u64 y)∧w=w') (cz:∀ w,Calls Tryz.prog 62 #[.int .i64 (h:Int)] w fun e w'=>e=.returned (.int .u64 z)∧w=w')
    (e0:IntKind.u64.wrap ((k:Int)+1)=(k:Int)+1) (e1:IntKind.u64.wrap (IntKind.u64.wrap (((k:Int)+1)*z) - 1)=l) (ca:∀ w,Calls Tryz.prog 129 #[.int .u64 l] w fun e w'=>e=.returned (.tuple #[.int .u64 a,.bool true])∧w=w') (e2:IntKind.u64.wrap (a+(h:Int))=r):
    Calls Tryz.prog 100 #[SPOT h k] w fun e w'=>e=.returned (.tuple #[.int .u64 r,.bool true])∧Below w.heap.size w w':=by
  have hd:decide ((62:Int)<(h:Int))=false:=by simp;omega
  go_enter Tryz.func100,Tryz.ntmps100
  go_wp2
  have hc0:(w.alloc (.cells #[.int .u8 (h:Int),.int .u64 (k:Int)] 67)).cell? ⟨w.heap.size,0,none⟩=some (.int .u8 (h:Int)):=by simp
  have hc1:(w.alloc (.cells #[.int .u8 (h:Int),.int .u64 (k:Int)] 67)).cell? ⟨w.heap.size,1,none⟩=some (.int .u64 (k:Int)):=by simp
  have R2:Aside (Below w.heap.size w (w.alloc (.cells #[.int .u8 (h:Int),.int .u64 (k:Int)] 67))):=(Below.refl _ _).alloc (Nat.le_refl _) _
  generalize w.alloc (.cells #[.int .u8 (h:Int),.int .u64 (k:Int)] 67)=W at *
  generalize hb:w.heap.size=b at *
  clear hh
  go_quiet ((go_at_call 62;exact z0C (cy _)))
  have R3:Aside (Below b w (W.drewN nq)):=below_drewN R2.out nq
  have hc0':(W.drewN nq).cell? ⟨b,0,none⟩=some (.int .u8 (h:Int)):=hc0
  have hc1':(W.drewN nq).cell? ⟨b,1,none⟩=some (.int .u64 (k:Int)):=hc1
  clear hc0 hc1 R2 cy
  generalize W.drewN nq=W2 at *
  go_wp2
  go_quiet (first | (go_at_call 62;exact z0C (cz _)) | (go_at_call 129;exact z0C (ca _)))
  go_wp2
  go_ret2
  exact ⟨rfl,by rw [hb];exact below_drewN R3.out _⟩
theorem z8g (h k:Nat) (hN:Node h k) (w:World):Calls Tryz.prog 100 #[SPOT h k] w fun e w'=>e=.returned (.tuple #[.int .u64 ((PLC h k:Nat):Int),.bool true])∧Below w.heap.size w w':=by
  have h1:=hN.1
  have h2:=hN.2
  have h3:=hN.span
  have h4:=hN.index_lt
  have h5:=hN.lt
  have h7:=zcr h k
  have h8:=zdQ h k
  refine z7n h k ((62 - h:Nat):Int) ((2 ^ h:Nat):Int) ((2 ^ (62 - h):Nat):Int) (((k+1)*2 ^ h - 1:Nat):Int) ((z0s ((k+1)*2 ^ h - 1):Nat):Int) _ w h1 (by unfold wrap64;omega) (by rw [z09];omega) (by unfold wrap64;omega) (by simp only [decide_eq_false_iff_not];omega) (fun w=>z1Y _ (by omega) w) (fun w=>z1Y _ (by omega) w) (by rw [z09];omega) ?_ (fun w=>z8f _ (by omega) w) ?_
  · rw [show (((k:Int)+1)*((2 ^ h:Nat):Int))=(((k+1)*2 ^ h:Nat):Int) by rw [Int.natCast_mul];rfl]
    generalize (k+1)*2 ^ h=x at *
    rw [z09,z09]
    omega
  · rw [z09]
    omega
end Go.Proofs.YtlicfinmibbpdaaGreatDoor

namespace Go.Proofs.YtlicfinmibbpdaaGreatDoor
open Go.RowKit
def TOPS (h n:Nat):List (Nat × Nat):=(HS h n).map fun g=>(g,2*(n / 2 ^ (g+1)))
theorem zcO {h n:Nat} (hh:h<64) (hb:n / 2 ^ h % 2=1):TOPS h n=TOPS (h+1) n ++ [(h,2*(n / 2 ^ (h+1)))]:=by
  unfold TOPS
  rw [z3m hh hb,List.map_append]
  rfl
theorem z9V {h n:Nat} (hh:h<64) (hb:¬ n / 2 ^ h % 2=1):TOPS h n=TOPS (h+1) n:=by
  unfold TOPS
  rw [z2U hh hb]
theorem z4H {n:Nat} (hn:n<2 ^ 64) (h:Nat) (hh:h≤64):(TOPS h n).length=PC (n / 2 ^ h):=by
  unfold TOPS
  rw [List.length_map]
  exact z3Z hn h hh
theorem z9W {n h at' r:Nat} (ha:at'=n / 2 ^ (h+1)*2 ^ (h+1)) (hr:r=n - at'):at'≤n∧(2 ^ h≤r↔n / 2 ^ h % 2=1)∧at' / 2 ^ h=2*(n / 2 ^ (h+1))∧(n / 2 ^ h % 2=1→at'+2 ^ h=n / 2 ^ h*2 ^ h)∧(¬ n / 2 ^ h % 2=1→at'=n / 2 ^ h*2 ^ h):=by
  have hp:=Nat.two_pow_pos h
  have e1:at'=2*(n / 2 ^ (h+1))*2 ^ h:=by rw [ha,z15]
  have hd:=Nat.div_add_mod n (2 ^ h)
  have hm:=Nat.mod_lt n hp
  rw [Nat.mul_comm] at hd
  have hq:at' / 2 ^ h=2*(n / 2 ^ (h+1)):=by rw [e1,Nat.mul_div_cancel _ hp]
  by_cases hb:n / 2 ^ h % 2=1
  · have h2:=z5p hb
    have e2:n / 2 ^ h*2 ^ h=at'+2 ^ h:=by rw [h2,Nat.add_mul,Nat.one_mul,← e1]
    exact ⟨by omega,⟨fun _=>hb,fun _=>by omega⟩,hq,fun _=>e2.symm,fun h=>absurd hb h⟩
  · have h2:=z7c hb
    have e2:n / 2 ^ h*2 ^ h=at':=by rw [h2,← e1]
    exact ⟨by omega,⟨fun _=>by omega,fun h=>absurd h hb⟩,hq,fun h=>absurd h hb,fun _=>e2.symm⟩
set_option maxHeartbeats 1000000 in
theorem z5Z (n:Nat) (hn:n≤4611686018427387904) (w:World):Calls Tryz.prog 29 #[.int .u64 (n:Int)] w fun e w'=>
    ∃ v,e=.returned v∧w'.ownsRow w.heap.size 67 2 v (PC n) (z0c (TOPS 0 n))∧Below w.heap.size w w':=by
  have HN:Aside (n≤4611686018427387904):=hn
  have hd:¬ (4611686018427387904:Int)<(n:Int):=by omega
  clear hn
  go_enter Tryz.func29,Tryz.ntmps29
  go_wp2
  go_loopg [3,4,5] 63 (fun q s3 s4 s5 wx=>∃ a:Nat,s4=.int .u64 (a:Int)∧s5=.int .i64 ((q:Int) - 1)∧Aside (q≤63∧a=n / 2 ^ q*2 ^ q∧wx.ownsRow w.heap.size 67 2 s3 (PC (n / 2 ^ q)) (z0c (TOPS q n))∧Below w.heap.size w wx))
  case atStart=>
    have hz:n / 2 ^ 63=0:=Nat.div_eq_of_lt (by have:=HN.out;omega)
    refine ⟨0,rfl,rfl,by omega,by rw [hz,Nat.zero_mul],?_,Below.refl _ _⟩
    rw [hz,z1b]
    have ht:TOPS 63 n=[]:=by
      unfold TOPS
      rw [z7b (by have:=HN.out;omega)]
      rfl
    rw [ht]
    exact ⟨rfl,.inl ⟨rfl,rfl⟩⟩
  case round=>
    obtain ⟨a,rfl,rfl,A⟩:=hrel
    cases gk with
    | zero=>
      have hlt:¬ (0:Int)≤((0:Nat):Int) - 1:=by omega
      go_wp2
      go_ret
      obtain ⟨_,_,hown,hbel⟩:=A.out
      rw [Nat.pow_zero,Nat.div_one] at hown
      exact ⟨_,rfl,hown,hbel⟩
    | succ h=>
      obtain ⟨h63,ha,hown,hbel⟩:=A.out
      have hnn:=HN.out
      obtain ⟨r,hr⟩:∃ r,r=n - a:=⟨_,rfl⟩
      obtain ⟨p1,p2,p3,p4,p5⟩:=z9W ha hr
      have c:=z1Y h (by omega)
      have hpw:2 ^ h≤2 ^ 62:=Nat.pow_le_pow_right (by decide) (by omega)
      have hp0:=Nat.two_pow_pos h
      have e0:((h+1:Nat):Int) - 1=(h:Int):=by omega
      have e0':¬ (h:Int)<0:=by omega
      have e1:IntKind.u64.wrap ((n:Int) - (a:Int))=(r:Int):=by rw [z09];omega
      have e3:(h:Int) % 256=(h:Int):=by omega
      have e4:wrap64 ((h:Int) - 1)=(h:Int) - 1:=by unfold wrap64;omega
      rw [e0]
      by_cases hb:n / 2 ^ h % 2=1
      · have hge:2 ^ h≤r:=p2.2 hb
        have pq:=p4 hb
        have e5:(a:Int) / ((2 ^ h:Nat):Int)=((2*(n / 2 ^ (h+1)):Nat):Int):=by rw [← p3,Int.natCast_ediv]
        have hT:=zcO (n:=n) (h:=h) (by omega) hb
        have hPC:PC (n / 2 ^ h)=PC (n / 2 ^ (h+1))+1:=by rw [z0F,← z2i];omega
        have hlen:PC (n / 2 ^ (h+1))≤1000:=by have:=z19 64 (n / 2 ^ (h+1)) (Nat.lt_of_le_of_lt (Nat.div_le_self _ _) (by omega));omega
        have hk64:2*(n / 2 ^ (h+1))<2 ^ 64:=by rw [← p3];exact Nat.lt_of_le_of_lt (Nat.div_le_self _ _) (by omega)
        generalize 2*(n / 2 ^ (h+1))=k at *
        have e7:IntKind.u64.wrap (k:Int)=(k:Int):=by rw [z09];omega
        have e6:IntKind.u64.wrap ((a:Int)+((2 ^ h:Nat):Int))=((n / 2 ^ h*2 ^ h:Nat):Int):=by rw [z09,← pq];omega
        have hge':((2 ^ h:Nat):Int)≤(r:Int):=by omega
        have hz0:¬ ((2 ^ h:Nat):Int)=0:=by omega
        generalize hm:PC (n / 2 ^ (h+1))=m at *
        generalize hl:TOPS (h+1) n=l at *
        generalize ((2 ^ h:Nat):Int)=z at *
        generalize hx:n / 2 ^ h*2 ^ h=x at *
        have R:Aside (h≤62∧x=n / 2 ^ h*2 ^ h∧wr.ownsRow w.heap.size 67 2 u3 m (z0c l)∧Below w.heap.size w wr∧m≤1000∧PC (n / 2 ^ h)=m+1∧TOPS h n=l ++ [(h,k)]):=⟨by omega,hx.symm,hown,hbel,hlen,hPC,hT⟩
        clear A HN h63 ha hown hbel hnn hr p1 p2 p3 p4 p5 hpw hp0 hb hge pq hT hPC hlen hk64 hm hl hx
        go_wp2_with fail
        refine (c _).mono ?_
        rintro e w' ⟨rfl,rfl⟩
        go_wp2_with fail
        refine (c _).mono ?_
        rintro e w' ⟨rfl,rfl⟩
        go_wp2_with (at_builtin;refine zcH _ rfl (.tmp 19) (.tmp 27) rfl w.heap.size u3 m l rfl (R.out.2.2.1.alloc _) wr.heap.size 1 h k rfl (by rw [World.cell?_alloc_at _ _ _ _ rfl];rfl) (by rw [World.cell?_alloc_at _ _ _ _ rfl];rfl) R.out.2.2.2.2.1 (by have:=R.out.2.2.2.1.size;simp;omega) ?_;intro g' cap w1 hown hgrow hg)
        obtain ⟨r1,r2,r3,r4,r5,r6,r7⟩:=R.out
        have R2:Aside (h≤63∧x=n / 2 ^ h*2 ^ h∧w1.ownsRow w.heap.size 67 2 (.slice (some ⟨g',0,none⟩) (m+1) cap) (PC (n / 2 ^ h)) (z0c (TOPS h n))∧Below w.heap.size w w1):=⟨by omega,r2,by rw [r6,r7];exact hown,(r4.alloc r4.size _).grown hgrow (by have:=r4.size;simp;omega) (fun k e=>(r3.lt k e).1)⟩
        clear hown hgrow hg R r1 r2 r3 r4 r5 r6 r7
        refine (c _).mono ?_
        rintro e w' ⟨rfl,rfl⟩
        clear c
        go_wp2
        go_roundg h
        case measure=>omega
        case rel=>exact ⟨x,by first | rfl | (rw [e6]),by first | rfl | (rw [e4]),R2.out⟩
      · have hge:¬ 2 ^ h≤r:=fun h=>hb (p2.1 h)
        have pq:=p5 hb
        have hge':¬ ((2 ^ h:Nat):Int)≤(r:Int):=by omega
        have hT:=z9V (n:=n) (h:=h) (by omega) hb
        have hPC:PC (n / 2 ^ h)=PC (n / 2 ^ (h+1)):=by rw [z0F,← z2i];omega
        generalize ((2 ^ h:Nat):Int)=z at *
        have R:Aside (h≤63∧a=n / 2 ^ h*2 ^ h∧wr.ownsRow w.heap.size 67 2 u3 (PC (n / 2 ^ h)) (z0c (TOPS h n))∧Below w.heap.size w wr):=⟨by omega,pq,by rw [hT,hPC];exact hown,hbel⟩
        clear A HN h63 ha hown hbel hnn hr p1 p2 p3 p4 p5 hpw hp0 hb hge pq hT hPC
        go_wp2_with fail
        refine (c _).mono ?_
        rintro e w' ⟨rfl,rfl⟩
        clear c
        go_wp2
        go_roundg h
        case measure=>omega
        case rel=>exact ⟨a,rfl,by first | rfl | (rw [e4]),R.out⟩
end Go.Proofs.YtlicfinmibbpdaaGreatDoor

namespace Go.Proofs.YtlicfinmibbpdaaGreatDoor
open Go.RowKit
theorem z9X (n:Nat) (hn:n≤4611686018427387904) (w:World):Calls Tryz.prog 29 #[.int .u64 (n:Int)] w fun e w'=>
    ∃ a cap,e=.returned (.slice a (PC n) cap)∧Spots w' a (TOPS 0 n)∧Below w.heap.size w w':=by
  refine (z5Z n hn w).mono ?_
  rintro e w' ⟨v,rfl,hown,hb⟩
  have hl:=z4H (n:=n) (by omega) 0 (by omega)
  rw [Nat.pow_zero,Nat.div_one] at hl
  obtain ⟨a,cap,rfl,hs⟩:=z6p hl hown
  exact ⟨a,cap,rfl,hs,hb⟩
end Go.Proofs.YtlicfinmibbpdaaGreatDoor

namespace Go.Proofs.YtlicfinmibbpdaaGreatDoor
open Go.RowKit
end Go.Proofs.YtlicfinmibbpdaaGreatDoor

namespace Go.Proofs.YtlicfinmibbpdaaGreatDoor
open Go.RowKit
end Go.Proofs.YtlicfinmibbpdaaGreatDoor

namespace Go.Proofs.YtlicfinmibbpdaaGreatDoor
open Go.RowKit
end Go.Proofs.YtlicfinmibbpdaaGreatDoor

namespace Go.Proofs.YtlicfinmibbpdaaGreatDoor
open Go.RowKit
def Nums (w:World) (v:Value) (l:List Nat):Prop:=∃ a cap,v=.slice a l.length cap∧(0<l.length→∃ g,a=some ⟨g,0,none⟩∧g<w.heap.size∧∀ (j:Nat),j<l.length→w.cell? ⟨g,j,none⟩=some (.int .u64 ((l.getD j 0:Nat):Int)))
theorem Nums.below {w w':World} {v:Value} {l:List Nat} {B:Nat} (h:Nums w v l) (hb:Below B w w') (hB:w.heap.size≤B):Nums w' v l:=by
  obtain ⟨a,cap,rfl,h⟩:=h
  refine ⟨a,cap,rfl,fun h0=>?_⟩
  obtain ⟨g,e,hg,hc⟩:=h h0
  exact ⟨g,e,Nat.lt_of_lt_of_le hg hb.size,fun j hj=>(hb.cell (p:=⟨g,j,none⟩) (Nat.lt_of_lt_of_le hg hB)).trans (hc j hj)⟩
structure Four (w:World) (B:Nat) (K:Nat→Prop) (v:Nat→Value) (n:Nat→Nat) (xs:Nat→List Value):Prop where
  row:∀ x,x<4→w.ownsRow B 23 1 (v x) (n x) (xs x)
  apart:∀ x y,x<4→y<4→x≠y→∀ g,(v x).ownBlock=some g→(v y).ownBlock≠some g
  off:∀ x,x<4→∀ g,(v x).ownBlock=some g→¬ K g
def UPD {α:Type} (f:Nat→α) (x:Nat) (a:α):Nat→α:=fun z=>if z=x then a else f z
theorem zeX {α:Type} (f:Nat→α) (x:Nat) (a:α):UPD f x a x=a:=by simp [UPD]
theorem zbb {α:Type} (f:Nat→α) {x z:Nat} (a:α) (h:z≠x):UPD f x a z=f z:=by simp [UPD,h]
theorem Four.alloc {w:World} {B:Nat} {K:Nat→Prop} {v:Nat→Value} {n:Nat→Nat} {xs:Nat→List Value} (h:Four w B K v n xs) (o:Obj):Four (w.alloc o) B K v n xs:=⟨fun x hx=>(h.row x hx).alloc o,h.apart,h.off⟩
theorem Four.below {w w':World} {B:Nat} {K:Nat→Prop} {v:Nat→Value} {n:Nat→Nat} {xs:Nat→List Value} (h:Four w B K v n xs) (hb:Below w.heap.size w w'):Four w' B K v n xs:=⟨fun x hx=>z0o (h.row x hx) hb,h.apart,h.off⟩
theorem z2w (W:World) (b j:Nat) (v:Value):W.grownBy (W.setCell ⟨b,j,none⟩ v) (some b):=
  ⟨rfl,rfl,rfl,(KeepsWalks.setCell W _ v).size,fun k _ hk=>Below.heap_setCell _ _ _ k (fun e=>hk (by rw [e]))⟩
theorem Four.other {w:World} {B:Nat} {K:Nat→Prop} {v:Nat→Value} {n:Nat→Nat} {xs:Nat→List Value} (h:Four w B K v n xs) {b:Nat} (hb:K b) (j:Nat) (u:Value):Four (w.setCell ⟨b,j,none⟩ u) B K v n xs:=
  ⟨fun x hx=>(h.row x hx).kept (z2w w b j u) (.inr fun e=>h.off x hx b e hb),h.apart,h.off⟩
theorem Four.store {w:World} {B:Nat} {K:Nat→Prop} {v:Nat→Value} {n:Nat→Nat} {xs:Nat→List Value} (h:Four w B K v n xs) {x g m cap:Nat} (hx:x<4) (hv:v x=.slice (some ⟨g,0,none⟩) m cap) (j:Nat) (u:Value):
    Four (w.setCell ⟨g,j,none⟩ u) B K v n (UPD xs x ((xs x).set j u)):=by
  refine ⟨fun z hz=>?_,h.apart,h.off⟩
  by_cases e:z=x
  · subst e
    have hr:=h.row z hz
    rw [hv] at hr ⊢
    have hm:m=n z:=by
      rcases hr.2 with ⟨e,_⟩ | ⟨_,_,_,e,_⟩
      · simp at e
      · simp at e
        omega
    subst hm
    rw [zeX]
    exact (hr.stored j u).1
  · rw [zbb xs _ e]
    refine (h.row z hz).kept (z2w w g j u) (.inr fun e2=>?_)
    exact h.apart x z hx hz (fun e3=>e e3.symm) g (by rw [hv];rfl) e2
theorem Has.grown {w w':World} {g:Nat} {c:Array Value} {t:TypeId} {row:Option Nat} (h:Has w g c t) (hg:w.grownBy w' row) (hne:row≠some g):Has w' g c t:=by
  obtain ⟨_,_,_,_,hk⟩:=hg
  exact (hk g h.lt (fun e=>hne e.symm)).trans h
theorem Four.of {w:World} {B b1 b2 b3 b4:Nat} {K:Nat→Prop} {v0 v1 v2 v3:Value} {n m:Nat} {xs ys:List Value} (h0:w.ownsRow B 23 1 v0 n xs) (h1:w.ownsRow b1 23 1 v1 n xs) (h2:w.ownsRow b2 23 1 v2 m ys) (h3:w.ownsRow b3 23 1 v3 m ys)
    (l0:∀ k,v0.ownBlock=some k→k<b1) (l1:∀ k,v1.ownBlock=some k→k<b2) (l2:∀ k,v2.ownBlock=some k→k<b3) (l3:∀ k,v3.ownBlock=some k→k<b4) (o1:B≤b1) (o2:b1≤b2) (o3:b2≤b3) (o4:b3≤b4) (hK:∀ k,K k→b4≤k):
    ∃ (V:Nat→Value) (N:Nat→Nat) (XS:Nat→List Value),Four w B K V N XS∧V 0=v0∧V 1=v1∧V 2=v2∧V 3=v3∧(∀ x,x<4→N x=n∨N x=m):=by
  have key:∀ x,x<4→x=0∨x=1∨x=2∨x=3:=fun x hx=>by omega
  have bnd:∀ x,x<4→∀ k,((if x=0 then v0 else if x=1 then v1 else if x=2 then v2 else v3:Value)).ownBlock=some k→(if x=0 then B else if x=1 then b1 else if x=2 then b2 else b3)≤k∧k<(if x=0 then b1 else if x=1 then b2 else if x=2 then b3 else b4):=fun x hx k hk=>by
    rcases key x hx with rfl | rfl | rfl | rfl
    · exact ⟨(h0.lt k hk).1,l0 k hk⟩
    · exact ⟨(h1.lt k hk).1,l1 k hk⟩
    · exact ⟨(h2.lt k hk).1,l2 k hk⟩
    · exact ⟨(h3.lt k hk).1,l3 k hk⟩
  refine ⟨fun x=>if x=0 then v0 else if x=1 then v1 else if x=2 then v2 else v3,fun x=>if x<2 then n else m,fun x=>if x<2 then xs else ys,⟨fun x hx=>?_,fun x y hx hy hne k hk hk2=>?_,fun x hx k hk hkk=>?_⟩,rfl,rfl,rfl,rfl,fun x hx=>?_⟩
  · rcases key x hx with rfl | rfl | rfl | rfl
    · exact h0
    · exact z0f h1 o1
    · exact z0f h2 (Nat.le_trans o1 o2)
    · exact z0f h3 (Nat.le_trans o1 (Nat.le_trans o2 o3))
  · have hx':=bnd x hx k hk
    have hy':=bnd y hy k hk2
    rcases key x hx with rfl | rfl | rfl | rfl <;> rcases key y hy with rfl | rfl | rfl | rfl <;> simp at hx' hy' hne <;> omega
  · have hx':=bnd x hx k hk
    have:=hK k hkk
    rcases key x hx with rfl | rfl | rfl | rfl <;> simp at hx' <;> omega
  · rcases key x hx with rfl | rfl | rfl | rfl <;> simp
end Go.Proofs.YtlicfinmibbpdaaGreatDoor

namespace Go.Proofs.YtlicfinmibbpdaaGreatDoor
open Go.RowKit
end Go.Proofs.YtlicfinmibbpdaaGreatDoor

namespace Go.Proofs.YtlicfinmibbpdaaGreatDoor
open Go.RowKit
end Go.Proofs.YtlicfinmibbpdaaGreatDoor

namespace Go.Proofs.YtlicfinmibbpdaaGreatDoor
open Go.RowKit
end Go.Proofs.YtlicfinmibbpdaaGreatDoor

namespace Go.Proofs.YtlicfinmibbpdaaGreatDoor
open Go.RowKit
def Lie (w:World) (a:Option Addr) (l:List (Nat × Nat)):Prop:=0<l.length→∃ g o,a=some ⟨g,o,none⟩∧g<w.heap.size∧∀ (j h k:Nat),l[j]?=some (h,k)→w.cell? ⟨g,o+j*2,none⟩=some (.int .u8 (h:Int))∧w.cell? ⟨g,o+j*2+1,none⟩=some (.int .u64 (k:Int))
theorem Lie.below {w w':World} {a:Option Addr} {l:List (Nat × Nat)} (h:Lie w a l) (hb:Below w.heap.size w w'):Lie w' a l:=fun h0=>by
  obtain ⟨g,o,e,hg,hc⟩:=h h0
  exact ⟨g,o,e,Nat.lt_of_lt_of_le hg hb.size,fun j x y he=>⟨(hb.cell (p:=⟨g,o+j*2,none⟩) hg).trans (hc j x y he).1,(hb.cell (p:=⟨g,o+j*2+1,none⟩) hg).trans (hc j x y he).2⟩⟩
theorem Lie.of {w:World} {a:Option Addr} {l:List (Nat × Nat)} (h:Spots w a l):Lie w a l:=fun h0=>by
  obtain ⟨g,e,hg,hc⟩:=h h0
  refine ⟨g,0,e,hg,fun j x y he=>?_⟩
  rw [Nat.zero_add]
  exact hc j x y he
end Go.Proofs.YtlicfinmibbpdaaGreatDoor

namespace Go.Proofs.YtlicfinmibbpdaaGreatDoor
open Go.RowKit
end Go.Proofs.YtlicfinmibbpdaaGreatDoor

namespace Go.Proofs.YtlicfinmibbpdaaGreatDoor
open Go.RowKit
set_option maxRecDepth 100000
def Flat (w:World) (a:Option Addr) (n:Nat) (l:List Int):Prop:=
  l.length=32*n∧(0<n→∃ b o,a=some ⟨b,o,none⟩∧b<w.heap.size∧∀ j,j<32*n→w.cell? ⟨b,o+j,none⟩=some (.int .u8 (l.getD j 0)))∧∀ x∈l,0≤x∧x≤255
theorem Flat.below {w w':World} {a:Option Addr} {n:Nat} {l:List Int} (h:Flat w a n l) (hb:Below w.heap.size w w'):Flat w' a n l:=
  ⟨h.1,fun hn=>by
    obtain ⟨b,o,e,hl,hc⟩:=h.2.1 hn
    exact ⟨b,o,e,Nat.lt_of_lt_of_le hl hb.size,fun i hi=>(hb.cell (by exact hl)).trans (hc i hi)⟩,h.2.2⟩
def HSH (l:List Int) (i:Nat):List Int:=(l.drop (32*i)).take 32
theorem z0U {l:List Int} {n i:Nat} (hl:l.length=32*n) (hi:i<n):(HSH l i).length=32:=by
  unfold HSH
  rw [List.length_take,List.length_drop]
  omega
theorem zbc {l:List Int} {i j:Nat} (hj:j<32):(HSH l i).getD j 0=l.getD (32*i+j) 0:=by
  unfold HSH
  rw [List.getD_eq_getElem?_getD,List.getElem?_take,if_pos hj,List.getElem?_drop,List.getD_eq_getElem?_getD]
theorem z9j {l:List Int} {i:Nat} {x:Int} (h:x∈HSH l i):x∈l:=List.mem_of_mem_drop (List.mem_of_mem_take h)
theorem z3A (l:List Int) (i:Nat):l.take (32*(i+1))=l.take (32*i) ++ HSH l i:=by
  unfold HSH
  rw [show 32*(i+1)=32*i+32 by omega,List.take_add]
theorem z4I:(Tryz.prog.info? 38).map (·.size)=some 32:=by kernel_rfl
theorem z0j {h:List Int} (hl:h.length=32):(Tryz.prog.info? 38).map (·.size)=some (z00 h).length:=by
  rw [z4I,show (z00 h).length=32 by simp [z00,hl]]
theorem z05 {h:List Int} (hl:h.length=32):(Tryz.prog.info? 38).map (·.size)=some (z00 h).toArray.size:=by
  rw [z4I,show (z00 h).toArray.size=32 by simp [z00,hl]]
theorem z0l (h:List Int):(z00 h).toArray.all (·.oneCell')=true:=by
  rw [Array.all_eq_true_iff_forall_mem]
  intro v hv
  exact z0K h v (by simpa using hv)
theorem Flat.at {w:World} {b o n:Nat} {l:List Int} {i:Nat} (h:Flat w (some ⟨b,o,none⟩) n l) (hi:i<n):w.rangeAt b (o+i*32) (z00 (HSH l i)):=by
  intro j v hv
  obtain ⟨b',o',e,_,hc⟩:=h.2.1 (by omega)
  simp only [Option.some.injEq,Addr.mk.injEq] at e
  obtain ⟨rfl,rfl,_⟩:=e
  have hj:j<32:=by
    have:=(List.getElem?_eq_some_iff.1 hv).1
    rw [show (z00 (HSH l i)).length=32 by simp [z00,z0U h.1 hi]] at this
    exact this
  rw [z0p _ _ (by rw [z0U h.1 hi];exact hj),zbc hj] at hv
  rw [show o+i*32+j=o+(32*i+j) by omega,hc _ (by omega)]
  exact hv
theorem zbd (w:World) {h:List Int} (hl:h.length=32) (hr:∀ x∈h,0≤x∧x≤255) (t:TypeId):Bytes (w.alloc (.cells (z00 h).toArray t)) (some ⟨w.heap.size,0,none⟩) 32 h:=by
  refine ⟨hl,fun _=>⟨w.heap.size,0,rfl,by simp,fun i hi=>?_⟩,hr⟩
  rw [Nat.zero_add,World.cell?_alloc_at _ _ _ _ rfl,List.getElem?_toArray,z0p h i (by omega)]
theorem z4u (w:World) (x:Int):(w.alloc (.cells #[.int .u8 x] 5)).ownsRow w.heap.size 5 1 (.slice (some ⟨w.heap.size,0,none⟩) 1 1) 1 (z00 [x]):=
  World.ownsRow_lit w #[.int .u8 x] 1 (Nat.le_refl _) (by simp [maxLen]) rfl
theorem z9k {w:World} {base n:Nat} {v:Value} {l:List Int} (h:w.ownsRow base 5 1 v n (z00 l)):l.length=n:=by
  have:=h.1
  simpa [z00] using this
end Go.Proofs.YtlicfinmibbpdaaGreatDoor

namespace Go.Proofs.YtlicfinmibbpdaaGreatDoor
open Go.RowKit
set_option maxRecDepth 100000
end Go.Proofs.YtlicfinmibbpdaaGreatDoor

namespace Go.Proofs.YtlicfinmibbpdaaGreatDoor
open Go.RowKit
end Go.Proofs.YtlicfinmibbpdaaGreatDoor

namespace Go.Proofs.YtlicfinmibbpdaaGreatDoor
open Go.RowKit
set_option maxRecDepth 100000
end Go.Proofs.YtlicfinmibbpdaaGreatDoor

namespace Go.Proofs.YtlicfinmibbpdaaGreatDoor
open Go.RowKit
set_option maxRecDepth 100000
theorem z9Y {w w':World} {r:Option Nat} (h:w.grownBy w' r):w.heap.size≤w'.heap.size:=by
  obtain ⟨_,_,_,hs,_⟩:=h
  exact hs
theorem z3B {w:World} {B n g m c:Nat} {xs:List Value} (h:w.ownsRow B 23 1 (.slice (some ⟨g,0,none⟩) m c) n xs):m=n:=by
  rcases h.2 with ⟨e,_⟩ | ⟨_,_,_,e,_⟩
  · simp at e
  · simp at e
    omega
end Go.Proofs.YtlicfinmibbpdaaGreatDoor

namespace Go.Proofs.YtlicfinmibbpdaaGreatDoor
open Go.RowKit
set_option maxRecDepth 100000
theorem z3C {ops:Array Oper} {o:Oper} {a:Act} {w w':World} {K:Act→World→Prop} {Q:Exit→Act→World→Prop} {E:Prop} {v:Value} (hg:o.guard=none)
    (hrun:(execOp a.eval o).run Tryz.prog w=.ok (.value v) w') (h:K (a.put o.dst v) w'):if Region.wanted o (yielded ops a.tmps)=true then Oper.wp Tryz.prog o a w K Q else E:=by
  have hw:Region.wanted o (yielded ops a.tmps)=true:=by simp [Region.wanted,hg]
  rw [if_pos hw]
  unfold Oper.wp
  rw [hrun]
  exact h
theorem z0S {ops:Array Oper} {o:Oper} {a:Act} {w w':World} {K:Act→World→Prop} {Q:Exit→Act→World→Prop} {E:Prop} (hg:o.guard=none)
    (hrun:(execOp a.eval o).run Tryz.prog w=.ok .skip w') (h:K (a.put o.dst undef) w'):if Region.wanted o (yielded ops a.tmps)=true then Oper.wp Tryz.prog o a w K Q else E:=by
  have hw:Region.wanted o (yielded ops a.tmps)=true:=by simp [Region.wanted,hg]
  rw [if_pos hw]
  unfold Oper.wp
  rw [hrun]
  exact h
theorem z7o {s:Sem Unit} {w w':World} (h:s.run Tryz.prog w=.ok () w'):(do s;pure Next.skip:Sem Next).run Tryz.prog w=.ok .skip w':=by
  simp [h]
theorem z24 {s:Sem Value} {w w':World} {v:Value} (h:s.run Tryz.prog w=.ok v w'):(do pure (Next.value (← s)):Sem Next).run Tryz.prog w=.ok (.value v) w':=by
  simp [h,Result.andThen]
end Go.Proofs.YtlicfinmibbpdaaGreatDoor
