/- Texts of ManyVerifies, one behind the other: ManyPeaks, ManySetsPlain, ManyRise, ManyRefPlain, ManyTake, ManyRefUnder. -/
import Derived.WalkLawsBesides
import Derived.Test.YtlicfinmibbpdaaGreatDoorManyVerifiesP19
namespace Go.Proofs.YtlicfinmibbpdaaGreatDoor
set_option maxRecDepth 100000
def TPS (n:Nat):List (Nat × Nat):=(HS 0 n).map fun h=>(h,2*(n / 2 ^ (h+1)))
theorem z4x {α:Type}:∀ {l:List α} {j:Nat} {x:α},l[j]?=some x→l.drop j=x :: l.drop (j+1)
  | [],j,x,h=>by simp at h
  | y :: l,0,x,h=>by
    simp only [List.getElem?_cons_zero,Option.some.injEq] at h
    rw [h]
    rfl
  | y :: l,j+1,x,h=>by
    rw [List.getElem?_cons_succ] at h
    rw [List.drop_succ_cons,List.drop_succ_cons]
    exact z4x h
theorem z1k {n:Nat} (hn:n<2 ^ 64):(TPS n).length=PC n:=by
  rw [TPS,List.length_map,z3Z hn 0 (by decide),Nat.pow_zero,Nat.div_one]
theorem z3P {n j h k:Nat} (e:(TPS n)[j]?=some (h,k)):(z2D n)[j]?=some (PLC h k):=by
  unfold TPS at e
  unfold z2D
  rw [List.getElem?_map] at e ⊢
  cases hj:(HS 0 n)[j]? with
  | none=>rw [hj] at e;cases e
  | some x=>
    rw [hj] at e
    simp only [Option.map_some,Option.some.injEq,Prod.mk.injEq] at e
    obtain ⟨rfl,rfl⟩:=e
    rfl
theorem z7O {h k:Nat} (hh:h≤62) (hs:(k+1)*2 ^ h≤2 ^ 62):Node h k:=by
  refine ⟨hh,?_⟩
  rcases Nat.lt_or_ge k (2 ^ (62 - h)) with h1 | h1
  · exact h1
  · have h2:(2 ^ (62 - h)+1)*2 ^ h≤(k+1)*2 ^ h:=Nat.mul_le_mul_right _ (by omega)
    rw [Nat.add_mul,← Nat.pow_add,show 62 - h+h=62 by omega] at h2
    have:=Nat.two_pow_pos h
    omega
theorem z1c {n h k:Nat} (hn:n≤2 ^ 62) (hm:(h,k)∈TPS n):h≤62∧(k+1)*2 ^ h≤n∧Node h k:=by
  unfold TPS at hm
  rw [List.mem_map] at hm
  obtain ⟨x,hx,e⟩:=hm
  simp only [Prod.mk.injEq] at e
  obtain ⟨rfl,rfl⟩:=e
  obtain ⟨_,h2,h3⟩:=zb5 0 x (by decide) hx
  have h4:2*(n / 2 ^ (x+1))+1=n / 2 ^ x:=by
    rw [Nat.pow_succ,← Nat.div_div_eq_div_mul]
    omega
  have h5:(2*(n / 2 ^ (x+1))+1)*2 ^ x≤n:=by rw [h4];exact Nat.div_mul_le_self n (2 ^ x)
  have h6:x≤62:=by
    rcases Nat.lt_or_ge 62 x with h7 | h7
    · have h8:2 ^ 63≤2 ^ x:=Nat.pow_le_pow_right (by decide) h7
      have h9:1*2 ^ x≤(2*(n / 2 ^ (x+1))+1)*2 ^ x:=Nat.mul_le_mul_right _ (by omega)
      omega
    · exact h7
  exact ⟨h6,h5,z7O h6 (by omega)⟩
theorem z2c:∀ (ps:List (Nat × Nat)) (L:List Nat),(∀ p∈ps,p.1≤62)→(z04 ps L).length≤L.length*62+ps.length
  | [],L,_=>by simp [z04]
  | (h,k) :: ps,L,hp=>by
    rw [z04,List.length_append,List.length_cons]
    have h1:=z6A h k (L.filter fun y=>decide (y<(k+1)*2 ^ h))
    have h2:=z2c ps (L.filter fun y=>!decide (y<(k+1)*2 ^ h)) (fun p hm=>hp p (List.mem_cons_of_mem _ hm))
    have h3:=z1R (fun y=>decide (y<(k+1)*2 ^ h)) L
    have h4:h≤62:=hp (h,k) (List.mem_cons_self ..)
    have h5:(L.filter fun y=>decide (y<(k+1)*2 ^ h)).length*h≤(L.filter fun y=>decide (y<(k+1)*2 ^ h)).length*62:=Nat.mul_le_mul_left _ h4
    generalize (L.filter fun y=>decide (y<(k+1)*2 ^ h)).length*h=u at *
    generalize (L.filter fun y=>decide (y<(k+1)*2 ^ h)).length=p at *
    generalize (L.filter fun y=>!decide (y<(k+1)*2 ^ h)).length=q at *
    omega
end Go.Proofs.YtlicfinmibbpdaaGreatDoor

namespace Go.Proofs.YtlicfinmibbpdaaGreatDoor
set_option maxRecDepth 100000
def NSP:Nat→Nat→List Nat→List (Nat × Nat)
  | h,k,[]=>[(h,k)]
  | 0,_,_ :: _=>[]
  | h+1,k,x :: l=>NSP h (2*k) ((x :: l).filter fun y=>decide (y<(2*k+1)*2 ^ h)) ++ NSP h (2*k+1) ((x :: l).filter fun y=>!decide (y<(2*k+1)*2 ^ h))
def SPL (s:Nat × Nat):Nat:=PLC s.1 s.2
theorem z4y (h k:Nat):NSP h k []=[(h,k)]:=by cases h <;> rfl
theorem z3Q:∀ (h k:Nat) (L:List Nat),NEED h k L=(NSP h k L).map SPL
  | h,k,[]=>by rw [z0P,z4y];rfl
  | 0,_,_ :: _=>rfl
  | h+1,k,x :: l=>by rw [z4e,NSP,List.map_append,← z3Q h,← z3Q h]
def NSPS:List (Nat × Nat)→List Nat→List (Nat × Nat)
  | [],_=>[]
  | (h,k) :: ps,L=>NSP h k (L.filter fun y=>decide (y<(k+1)*2 ^ h)) ++ NSPS ps (L.filter fun y=>!decide (y<(k+1)*2 ^ h))
theorem z5F:∀ (ps:List (Nat × Nat)) (L:List Nat),z04 ps L=(NSPS ps L).map SPL
  | [],_=>rfl
  | (h,k) :: ps,L=>by rw [z04,NSPS,List.map_append,z3Q,z5F ps]
def FRS (s:Nat × Nat):Nat:=s.2*2 ^ s.1
def TOE (s:Nat × Nat):Nat:=(s.2+1)*2 ^ s.1
structure COVER (A B:Nat) (L:List Nat) (l:List (Nat × Nat)):Prop where
  within:∀ s∈l,A≤FRS s∧TOE s≤B
  off:∀ s∈l,∀ x∈L,¬ (FRS s≤x∧x<TOE s)
  sum:(l.map fun s=>2 ^ s.1).sum+L.length=B - A
  order:l.Pairwise fun s t=>TOE s≤FRS t
def MET (L:List Nat) (s:Nat × Nat):Prop:=∃ x∈L,FRS (s.1+1,s.2 / 2)≤x∧x<TOE (s.1+1,s.2 / 2)
theorem MET.mono {L L':List Nat} {s:Nat × Nat} (h:MET L s) (hm:∀ x∈L,x∈L'):MET L' s:=by
  obtain ⟨x,hx,h1⟩:=h
  exact ⟨x,hm x hx,h1⟩
theorem zf8 {n:Nat} (hn:n≤4611686018427387904):TPS n=PKS n 0 (PC n):=by
  apply List.ext_getElem?
  intro i
  by_cases hi:i<PC n
  · rw [zeW hi]
    unfold TPS
    rw [List.getElem?_map,(z2W (by omega) hi).1]
    rfl
  · rw [List.getElem?_eq_none (by rw [z1k (by omega)];omega),List.getElem?_eq_none (by simp [PKS];omega)]
theorem z3R {n:Nat} (hn:n≤4611686018427387904):Tile 0 (TPS n) n:=by
  rw [zf8 hn]
  exact (zcN hn (PC n) 0 (by omega)).1
end Go.Proofs.YtlicfinmibbpdaaGreatDoor

namespace Go.Proofs.YtlicfinmibbpdaaGreatDoor
open Go.RowKit
set_option maxRecDepth 100000
def z1M:Option Nat→Nat→Bool
  | none,_=>false
  | some y,x=>decide (x≤y)
def RCHK (n:Nat):Option Nat→List Nat→Int
  | _,[]=>0
  | prev,x :: l=>if z1M prev x=true then 71 else if n≤x then 32 else RCHK n (some x) l
def z07 (L:List Nat) (n:Nat):Int:=if 4611686018427387904<n then 30 else RCHK n none L
theorem z9u {n:Nat}:∀ {prev:Option Nat} {L:List Nat},RCHK n prev L=0→(∀ x∈L,x<n)∧RISES L∧∀ y,prev=some y→∀ x∈L,y<x
  | _,[],_=>⟨(fun x h=>by cases h),(fun i j x y _ h=>by simp at h),(fun y _ x h=>by cases h)⟩
  | prev, x :: l,h=>by
    rw [RCHK] at h
    split at h
    · cases h
    · rename_i h1
      split at h
      · cases h
      · rename_i h2
        obtain ⟨a1,a2,a3⟩:=z9u h
        refine ⟨fun y hy=>?_,fun i j u v hij hu hv=>?_,fun y hy z hz=>?_⟩
        · rcases List.mem_cons.1 hy with rfl | hy
          · omega
          · exact a1 y hy
        · cases i with
          | zero=>
            cases j with
            | zero=>omega
            | succ j=>
              simp only [List.getElem?_cons_zero,Option.some.injEq] at hu
              rw [List.getElem?_cons_succ] at hv
              subst hu
              exact a3 x rfl v (List.mem_of_getElem? hv)
          | succ i=>
            cases j with
            | zero=>omega
            | succ j=>
              rw [List.getElem?_cons_succ] at hu hv
              exact a2 i j u v (by omega) hu hv
        · subst hy
          have h1:¬ x≤y:=fun h=>h1 (decide_eq_true h)
          rcases List.mem_cons.1 hz with rfl | hz
          · omega
          · have:=a3 x rfl z hz
            omega
theorem z1I {n:Nat} {L:List Nat} (h:z07 L n=0):n≤4611686018427387904∧RISES L∧∀ x∈L,x<n:=by
  unfold z07 at h
  split at h
  · cases h
  · obtain ⟨a1,a2,_⟩:=z9u h
    exact ⟨by omega,a2,a1⟩
def z0z (x:Int):List PanicEntry:=[{v:=.iface 70 (.int .i64 x),recovered:=false}]
def ROSE (L:List Nat) (n:Nat) (w:World) (e:Ending) (w':World):Prop:=w=w'∧((z07 L n=0∧e=.returned (.tuple #[]))∨(z07 L n≠0∧e=.panicked (z0z (z07 L n))))
def AHD (L:List Nat):Nat→Option Nat
  | 0=>none
  | j+1=>L[j]?
theorem z3a {L:List Nat} {j x:Nat} (h:L[j]?=some x):L.drop j=x :: L.drop (j+1):=by
  induction L generalizing j with
  | nil=>simp at h
  | cons y l ih=>
    cases j with
    | zero=>simp at h;simp [h]
    | succ j=>simp at h;simp;exact ih h
set_option maxHeartbeats 1000000 in
theorem zdi (L:List Nat) (n:Nat) (hn:(4611686018427387904:Int)<(n:Int)) (a:Option Addr) (m c:Nat) (w:World):Calls Tryz.prog 66 #[.slice a m c,.int .u64 (n:Int)] w (ROSE L n w):=by
  have e:z07 L n=30:=by unfold z07;rw [if_pos (by omega)]
  have E:Aside (z07 L n=30):=e
  clear e
  go_enter Tryz.func66,Tryz.ntmps66
  go_wp2_with fail
  exact ⟨rfl,rfl,.inr ⟨by rw [E.out];decide,by rw [E.out];rfl⟩⟩
set_option maxHeartbeats 2000000 in
theorem z4Z (L:List Nat) (n:Nat) (a:Option Addr) (m c:Nat) (hl:L.length=m) (hm:m<2 ^ 40) (w:World) (hL:NUML w a L):Calls Tryz.prog 66 #[.slice a m c,.int .u64 (n:Int)] w (ROSE L n w):=by
  by_cases hn:(4611686018427387904:Int)<(n:Int)
  · exact zdi L n hn a m c w
  · have e:z07 L n=RCHK n none L:=by unfold z07;rw [if_neg (by omega)]
    have HA:Aside (L.length=m∧m<2 ^ 40∧NUML w a L∧z07 L n=RCHK n none L):=⟨hl,hm,hL,e⟩
    clear hl hm hL e
    go_enter Tryz.func66,Tryz.ntmps66
    go_wp2_with fail
    go_loopg [11] m (fun q s11 wx=>∃ j:Nat,s11=.int .i64 (j:Int)∧Aside (j+q=m∧z07 L n=RCHK n (AHD L j) (L.drop j))∧wx=w)
    case atStart=>exact ⟨0,rfl,⟨by omega,HA.out.2.2.2⟩,rfl⟩
    case round=>
      obtain ⟨j,rfl,A,rfl⟩:=hrel
      cases gk with
      | zero=>
        obtain rfl:j=m:=by have:=A.out.1;omega
        have hlt:¬ (j:Int)<(j:Int):=by omega
        have FN:Aside (z07 L n=0):=by
          have h1:=A.out.2
          rw [List.drop_of_length_le (by have:=HA.out.1;omega)] at h1
          exact h1
        clear A HA
        go_wp2_with fail
        exact bodyPost_end (v:=.tuple #[]) (by simp [results,Tryz.f66]) rfl ⟨rfl,.inl ⟨FN.out,rfl⟩⟩
      | succ q=>
        have hjm:j<m:=by have:=A.out.1;omega
        have hlt:(j:Int)<(m:Int):=by omega
        obtain ⟨x,ex⟩:∃ x,L[j]?=some x:=⟨_,List.getElem?_eq_getElem (by have:=HA.out.1;omega)⟩
        obtain ⟨b,o,rfl,hb,hcc⟩:=HA.out.2.2.1 (by have:=HA.out.1;omega)
        have x0:=hcc j x ex
        have ej:wrap64 ((j:Int)+1)=((j+1:Nat):Int):=by have:=HA.out.2.1;unfold wrap64;omega
        have hch:z07 L n=if z1M (AHD L j) x=true then 71 else if n≤x then 32 else RCHK n (some x) (L.drop (j+1)):=by
          rw [A.out.2,z3a ex,RCHK]
        have hnx:AHD L (j+1)=some x:=ex
        rcases Nat.eq_zero_or_pos j with hj0 | hj0
        · have hz:¬ (0:Int)<(j:Int):=by omega
          have hch:z07 L n=if n≤x then 32 else RCHK n (some x) (L.drop (j+1)):=by
            rw [hch,hj0,if_neg (by simp [AHD,z1M])]
          by_cases hx:n≤x
          · have hx':(n:Int)≤(x:Int):=by omega
            rw [if_pos hx] at hch
            have FN:Aside (z07 L n=32):=hch
            clear A HA hch hnx hcc hx hj0 ex hjm
            go_wp2_with fail
            exact ⟨rfl,rfl,.inr ⟨by rw [FN.out];decide,by rw [FN.out];rfl⟩⟩
          · have hx':¬ (n:Int)≤(x:Int):=by omega
            rw [if_neg hx] at hch
            have Z:Aside (j+1+q=m∧z07 L n=RCHK n (AHD L (j+1)) (L.drop (j+1))):=⟨by have:=A.out.1;clear ej;omega,by rw [hnx];exact hch⟩
            clear A hch hnx hcc hx hj0 ex hjm
            go_wp2_with fail
            go_roundg q
            case measure=>exact Nat.lt_succ_self _
            case rel=>exact ⟨j+1,by first | rfl | (rw [ej]),Z.out,rfl⟩
        · obtain ⟨i,hi⟩:∃ i,j=i+1:=⟨j - 1,by omega⟩
          obtain ⟨y,ey⟩:∃ y,L[i]?=some y:=⟨_,List.getElem?_eq_getElem (by have:=HA.out.1;omega)⟩
          have y0:=hcc i y ey
          have ei:wrap64 ((j:Int) - 1)=(i:Int):=by have:=HA.out.2.1;unfold wrap64;omega
          have him:(i:Int)<(m:Int):=by omega
          have hi0:(0:Int)<(j:Int):=by omega
          have hch:z07 L n=if z1M (some y) x=true then 71 else if n≤x then 32 else RCHK n (some x) (L.drop (j+1)):=by
            rw [hch,show AHD L j=some y by rw [hi];exact ey]
          by_cases hxy:x≤y
          · have hxy':(x:Int)≤(y:Int):=by omega
            rw [if_pos (show z1M (some y) x=true from decide_eq_true hxy)] at hch
            have FN:Aside (z07 L n=71):=hch
            clear A HA hch hnx hcc hxy hj0 hi ex ey hjm
            go_wp2_with fail
            exact ⟨rfl,rfl,.inr ⟨by rw [FN.out];decide,by rw [FN.out];rfl⟩⟩
          · have hxy':¬ (x:Int)≤(y:Int):=by omega
            rw [if_neg (show ¬ z1M (some y) x=true from fun h=>hxy (of_decide_eq_true h))] at hch
            by_cases hx:n≤x
            · have hx':(n:Int)≤(x:Int):=by omega
              rw [if_pos hx] at hch
              have FN:Aside (z07 L n=32):=hch
              clear A HA hch hnx hcc hx hxy hj0 hi ex ey hjm
              go_wp2_with fail
              exact ⟨rfl,rfl,.inr ⟨by rw [FN.out];decide,by rw [FN.out];rfl⟩⟩
            · have hx':¬ (n:Int)≤(x:Int):=by omega
              rw [if_neg hx] at hch
              have Z:Aside (j+1+q=m∧z07 L n=RCHK n (AHD L (j+1)) (L.drop (j+1))):=⟨by have:=A.out.1;clear ej ei;omega,by rw [hnx];exact hch⟩
              clear A hch hnx hcc hx hxy hj0 hi ex ey hjm
              go_wp2_with fail
              go_roundg q
              case measure=>exact Nat.lt_succ_self _
              case rel=>exact ⟨j+1,by first | rfl | (rw [ej]),Z.out,rfl⟩
end Go.Proofs.YtlicfinmibbpdaaGreatDoor

namespace Go.Proofs.YtlicfinmibbpdaaGreatDoor
set_option maxRecDepth 100000
def UND (h k:Nat) (L:List Nat):List Nat:=L.filter fun y=>decide (y / 2 ^ h=k)
theorem z2P {h k y:Nat} {L:List Nat} (hy:y∈UND h k L):y∈L∧y / 2 ^ h=k:=⟨(List.mem_filter.1 hy).1,of_decide_eq_true (List.mem_filter.1 hy).2⟩
theorem z1u (h k:Nat) (L:List Nat):(UND h k L).length≤L.length:=List.length_filter_le _ _
theorem z4z {h k y:Nat} (e:y / 2 ^ (h+1)=k):(y<(2*k+1)*2 ^ h↔y / 2 ^ h=2*k)∧(¬ y<(2*k+1)*2 ^ h↔y / 2 ^ h=2*k+1):=by
  have h1:y / 2 ^ h / 2=k:=by rw [Nat.div_div_eq_div_mul,← Nat.pow_succ];exact e
  have h2:=Nat.div_lt_iff_lt_mul (Nat.two_pow_pos h) (x:=y) (y:=2*k+1)
  rw [← h2]
  generalize y / 2 ^ h=q at *
  omega
theorem zer (h k:Nat) (L:List Nat) (hL:UND (h+1) k L≠[]):NSP (h+1) k (UND (h+1) k L)=NSP h (2*k) (UND h (2*k) (UND (h+1) k L)) ++ NSP h (2*k+1) (UND h (2*k+1) (UND (h+1) k L)):=by
  have hm:∀ y∈UND (h+1) k L,y / 2 ^ (h+1)=k:=fun y hy=>(z2P hy).2
  generalize UND (h+1) k L=M at *
  cases M with
  | nil=>exact absurd rfl hL
  | cons x l=>
    rw [NSP]
    have e1:((x :: l).filter fun y=>decide (y<(2*k+1)*2 ^ h))=UND h (2*k) (x :: l):=List.filter_congr fun y hy=>decide_eq_decide.2 (z4z (hm y hy)).1
    have e2:((x :: l).filter fun y=>!decide (y<(2*k+1)*2 ^ h))=UND h (2*k+1) (x :: l):=List.filter_congr fun y hy=>by rw [← decide_not];exact decide_eq_decide.2 (z4z (hm y hy)).2
    rw [e1,e2]
def RNS (ps:List (Nat × Nat)) (L:List Nat):List (Nat × Nat):=ps.flatMap fun s=>NSP s.1 s.2 (UND s.1 s.2 L)
theorem zbI {ps:List (Nat × Nat)} {L M:List Nat} (h:∀ s∈ps,UND s.1 s.2 L=UND s.1 s.2 M):RNS ps L=RNS ps M:=by
  induction ps with
  | nil=>rfl
  | cons s ps ih=>
    rw [RNS,RNS,List.flatMap_cons,List.flatMap_cons,h s (List.mem_cons_self ..)]
    exact congrArg _ (ih fun t ht=>h t (List.mem_cons_of_mem _ ht))
theorem z7P:∀ (ps:List (Nat × Nat)) (A B:Nat) (L:List Nat),Tile A ps B→(∀ x∈L,A≤x∧x<B)→RNS ps L=NSPS ps L
  | [],_,_,_,_,_=>rfl
  | (h, k) :: ps,A,B,L,ht,hm=>by
    obtain ⟨hN,hA,ht⟩:Node h k∧k*2 ^ h=A∧Tile ((k+1)*2 ^ h) ps B:=ht
    have e1:UND h k L=L.filter fun y=>decide (y<(k+1)*2 ^ h):=List.filter_congr fun y hy=>decide_eq_decide.2 (by
      have h1:=Nat.div_lt_iff_lt_mul (Nat.two_pow_pos h) (x:=y) (y:=k+1)
      have h2:=Nat.le_div_iff_mul_le (Nat.two_pow_pos h) (x:=k) (y:=y)
      have h3:=(hm y hy).1
      rw [← h1]
      rw [hA] at h2
      generalize y / 2 ^ h=q at *
      omega)
    have e2:RNS ps L=RNS ps (L.filter fun y=>!decide (y<(k+1)*2 ^ h)):=zbI fun s hs=>by
      have h1:=(ht.within s hs).1
      unfold UND
      rw [List.filter_filter]
      refine List.filter_congr fun y hy=>?_
      by_cases e:y / 2 ^ s.1=s.2
      · have h2:s.2*2 ^ s.1≤y:=by rw [← e];exact Nat.div_mul_le_self _ _
        have h3:¬ y<(k+1)*2 ^ h:=by omega
        simp [e,h3]
      · simp [e]
    have e3:=z7P ps ((k+1)*2 ^ h) B (L.filter fun y=>!decide (y<(k+1)*2 ^ h)) ht (fun y hy=>by
      obtain ⟨a,b⟩:=List.mem_filter.1 hy
      have b:¬ y<(k+1)*2 ^ h:=by simpa using b
      exact ⟨by omega,(hm y a).2⟩)
    have e4:RNS ((h,k) :: ps) L=NSP h k (UND h k L) ++ RNS ps L:=rfl
    rw [e4,NSPS,e1,e2,e3]
theorem zes {N:Nat} {L:List Nat} (hr:z07 L N=0):z04 (TPS N) L=(RNS (TPS N) L).map SPL:=by
  obtain ⟨h1,h2,h3⟩:=z1I hr
  rw [z5F,z7P (TPS N) 0 N L (z3R h1) (fun x hx=>⟨Nat.zero_le _,h3 x hx⟩)]
theorem z3S (h k:Nat) (L:List Nat):(NSP h k L).length≤L.length*h+1:=by
  have:=z6A h k L
  rwa [z3Q,List.length_map] at this
theorem z5g:∀ (h k:Nat) (L:List Nat),Node h k→∀ s∈NSP h k L,Node s.1 s.2
  | h,k,[],hN,s,hs=>by
    rw [z4y,List.mem_singleton] at hs
    subst hs
    exact hN
  | 0,_,_ :: _,_,s,hs=>by cases hs
  | h+1,k,x :: l,hN,s,hs=>by
    rw [NSP] at hs
    rcases List.mem_append.1 hs with hs | hs
    · exact z5g h (2*k) _ hN.kid.1 s hs
    · exact z5g h (2*k+1) _ hN.kid.2 s hs
end Go.Proofs.YtlicfinmibbpdaaGreatDoor

namespace Go.Proofs.YtlicfinmibbpdaaGreatDoor
open Go.RowKit
set_option maxRecDepth 100000
theorem z3q {ops:Array Oper} {rest:List Oper} {o:Oper} {a:Act} {Q:Exit→Act→World→Prop} (w:World) (hgd:o.guard=none) (s x:Operand)
    (ho:o.op=.call {callee:=.builtin .append,args:=#[s,x],argTypes:=#[24,24]})
    (base:Nat) (v:Value) (n:Nat) (xs:List Nat) (hs:a.eval s=v) (hown:w.ownsRow base 23 1 v n (z02 xs))
    (b c:Nat) (y:Nat) (hx:a.eval x=.slice (some ⟨b,0,none⟩) 1 c) (hc:w.cell? ⟨b,0,none⟩=some (.int .u64 (y:Int)))
    (hb:n≤2 ^ 30) (hbase:base≤w.heap.size)
    (h:∀ g cap w',w'.ownsRow base 23 1 (.slice (some ⟨g,0,none⟩) (n+1) cap) (n+1) (z02 (xs ++ [y]))→w.grownBy w' v.ownBlock→g<w'.heap.size→wpList Tryz.prog ops Q rest (a.put o.dst (.slice (some ⟨g,0,none⟩) (n+1) cap)) w'):wpList Tryz.prog ops Q (o :: rest) a w:=by
  obtain ⟨i,hi,hz,hs1,hby⟩:=info_parts z1r
  refine wpList_append_lies w hgd s x 24 ho base 23 i (.int .u64 0) 1 8 Tryz.underlying24 hi hz hs1 hby rfl (by decide) v n (z02 xs) hs hown ⟨b,0,none⟩ 1 c [.int .u64 (y:Int)] hx rfl ?_ (fun u hu=>by simp at hu;subst hu;rfl) (by decide) (by simp only [maxLen];omega) (by omega) hbase w.heap.size rfl ?_
  · intro j u hj
    cases j with
    | zero=>
      simp only [List.getElem?_cons_zero,Option.some.injEq] at hj
      subst hj
      exact hc
    | succ j=>simp at hj
  · intro g cap w' h1 h2 _ h4
    rw [← z1y] at h1
    exact h g cap w' h1 h2 h4
structure TAKING (w0 w:World) (bp:Nat) (acc:List Nat):Prop where
  row:∃ v,Has w bp #[v] 24∧w.ownsRow w0.heap.size 23 1 v acc.length (z02 acc)
  keep:∀ b,b<w0.heap.size→b≠bp→w.heap[b]?=w0.heap[b]?
  lt:bp<w0.heap.size
  below:Below bp w0 w
theorem z18 {w:World} {B s n:Nat} {t:TypeId} {v:Value} {xs:List Value} (h:w.ownsRow B t s v n xs):∃ a c,v=.slice a n c:=by
  rcases h.2 with ⟨e,h0⟩ | ⟨g,cap,cur,e,_⟩
  · exact ⟨none,0,by rw [e,h0]⟩
  · exact ⟨_,_,e⟩
set_option maxHeartbeats 1000000 in
theorem zdj {w0 w:World} {bp:Nat} {acc:List Nat} (hK:TAKING w0 w bp acc) (p:Nat) (hn:acc.length≤2 ^ 30):Calls Tryz.prog 73 #[.int .u64 (p:Int),.pointer (some ⟨bp,0,none⟩)] w fun e w'=>e=.returned (.tuple #[])∧TAKING w0 w' bp (acc ++ [p]):=by
  obtain ⟨v,hv,hown⟩:=hK.row
  obtain ⟨a,c,rfl⟩:=z18 hown
  have c0:w.cell? ⟨bp,0,none⟩=some (.slice a acc.length c):=hv.cell 0
  have HA:Aside (TAKING w0 w bp acc∧acc.length≤2 ^ 30∧Has w bp #[.slice a acc.length c] 24∧w.ownsRow w0.heap.size 23 1 (.slice a acc.length c) acc.length (z02 acc)):=⟨hK,hn,hv,hown⟩
  clear hK hn hv hown
  obtain ⟨n,hn⟩:∃ n,acc.length=n:=⟨_,rfl⟩
  rw [hn] at HA c0
  have HN:Aside (acc.length=n):=hn
  clear hn
  go_enter Tryz.func73,Tryz.ntmps73
  go_wp2_with (first
    | (at_builtin;refine z3q _ rfl (.tmp 3) (.tmp 5) rfl w0.heap.size (.slice a n c) n acc rfl (HA.out.2.2.2.alloc _) w.heap.size 1 p rfl ((Has.new _ _ _).cell 0) HA.out.2.1 (by have:=HA.out.1.below.size;simp;omega) ?_;intro g1 c1 w1 hown1 hgrow1 hg1
       have hbp:Has w1 bp #[.slice a n c] 24:=by
         refine (hgrow1.block bp (by have:=HA.out.2.2.1.lt;simp;omega) (fun e=>?_)).trans (HA.out.2.2.1.alloc _)
         have:=(HA.out.2.2.2.lt bp e.symm).1
         have:=HA.out.1.lt
         omega
       have x0:=hbp.cell 0
       have x1:=hbp.frozen 0
       have FN:Aside (TAKING w0 (w1.setCell ⟨bp,0,none⟩ (.slice (some ⟨g1,0,none⟩) (n+1) c1)) bp (acc ++ [p])):=by
         have hlt:=HA.out.1.lt
         have hsz:=HA.out.1.below.size
         refine ⟨⟨.slice (some ⟨g1,0,none⟩) (n+1) c1,hbp.set 0 _,?_⟩,fun b hb hne=>?_,hlt,?_⟩
         · rw [List.length_append,HN.out]
           exact ownsRow_setCell_below hown1 (a:=⟨bp,0,none⟩) hlt _
         · rw [Below.heap_setCell _ _ _ _ (by exact hne),hgrow1.block b (by simp;omega) (fun e=>by have:=(HA.out.2.2.2.lt b e.symm).1;omega),Below.heap_alloc _ _ _ (by omega)]
           exact HA.out.1.keep b hb hne
         · refine ((HA.out.1.below.alloc (by omega) _).grown hgrow1 (by simp;omega) (fun k e=>?_)).setCell (Nat.le_refl _) _
           have:=(HA.out.2.2.2.lt k e).1
           omega
       clear hown1 hgrow1 hg1 hbp c0))
  exact bodyPost_end (v:=.tuple #[]) (by simp [results,Tryz.f73]) rfl ⟨rfl,FN.out⟩
end Go.Proofs.YtlicfinmibbpdaaGreatDoor

namespace Go.Proofs.YtlicfinmibbpdaaGreatDoor
open Go.RowKit
set_option maxRecDepth 100000
theorem zdk {h k j x:Nat} {L:List Nat} (e:L[j]?=some x):UND h k (L.take (j+1))=UND h k (L.take j) ++ (if x / 2 ^ h=k then [x] else []):=by
  unfold UND
  rw [List.take_add_one,e,List.filter_append]
  congr 1
  by_cases hx:x / 2 ^ h=k <;> simp [hx]
set_option maxHeartbeats 2000000 in
theorem z2A (h k:Nat) (hh:h<64) (L:List Nat) (a:Option Addr) (n c:Nat) (hl:L.length=n) (hn:n<2 ^ 20) (hx:∀ x∈L,x<2 ^ 64) (w:World) (hL:NUML w a L):
    Calls Tryz.prog 63 #[SPOT h k,.slice a n c] w fun e w'=>∃ a' c',e=.returned (.slice a' (UND h k L).length c')∧w'.ownsRow w.heap.size 23 1 (.slice a' (UND h k L).length c') (UND h k L).length (z02 (UND h k L))∧Below w.heap.size w w':=by
  have cp:=z1Y h hh
  have hm:wrap64 (h:Int)=(h:Int):=by unfold wrap64;omega
  obtain ⟨w1,e1⟩:∃ w1,w.alloc (.cells #[.int .u8 (h:Int),.int .u64 (k:Int)] 67)=w1:=⟨_,rfl⟩
  have hB:Has w1 w.heap.size #[.int .u8 (h:Int),.int .u64 (k:Int)] 67:=by rw [← e1];exact Has.new w _ _
  have hb1:Below w.heap.size w w1:=by rw [← e1];exact (Below.refl _ _).alloc (Nat.le_refl _) _
  have c0:=hB.cell 0
  obtain ⟨z,hz⟩:∃ z:Int,((2 ^ h:Nat):Int)=z:=⟨_,rfl⟩
  have hz1:¬ z=0:=by have:=Nat.two_pow_pos h;rw [← hz];generalize 2 ^ h=y at *;omega
  have hz0:(z == 0)=false:=by simpa using hz1
  rw [hz] at cp
  have HA:Aside (L.length=n∧n<2 ^ 20∧(∀ x∈L,x<2 ^ 64)∧NUML w a L∧Has w1 w.heap.size #[.int .u8 (h:Int),.int .u64 (k:Int)] 67∧Below w.heap.size w w1∧((2 ^ h:Nat):Int)=z):=⟨hl,hn,hx,hL,hB,hb1,hz⟩
  clear hh hl hn hx hL hB hb1 hz
  go_enter Tryz.func63,Tryz.ntmps63
  go_wp2_with fail
  refine (cp _).mono ?_
  rintro e w' ⟨rfl,rfl⟩
  clear cp c0 hm
  go_wp2_with fail
  clear e1
  go_loopg [6,7] n (fun q s6 s7 wx=>∃ (j:Nat) (v:Value),v=s6∧s7=.int .i64 (j:Int)∧Aside (j+q=n∧wx.ownsRow w1.heap.size 23 1 v (UND h k (L.take j)).length (z02 (UND h k (L.take j)))∧Below w1.heap.size w1 wx))
  case atStart=>exact ⟨0,_,rfl,rfl,by omega,⟨rfl,.inl ⟨rfl,rfl⟩⟩,Below.refl _ _⟩
  case round =>
    obtain ⟨j,v,rfl,rfl,A⟩:=hrel
    obtain ⟨av,cv,rfl⟩:=z18 A.out.2.1
    cases gk with
    | zero=>
      obtain rfl:j=n:=by have:=A.out.1;omega
      have hlt:¬ (j:Int)<(j:Int):=by omega
      have FN:Aside (wr.ownsRow w.heap.size 23 1 (.slice av (UND h k L).length cv) (UND h k L).length (z02 (UND h k L))∧Below w.heap.size w wr∧UND h k (L.take j)=UND h k L):=by
        obtain ⟨_,h2,h3⟩:=A.out
        have e:L.take j=L:=List.take_of_length_le (by have:=HA.out.1;omega)
        rw [e] at h2
        have hb:=HA.out.2.2.2.2.2.1
        exact ⟨z0f h2 hb.size,hb.trans (h3.mono hb.size),by rw [e]⟩
      clear A HA
      rw [FN.out.2.2]
      go_wp2_with fail
      go_ret
      exact ⟨_,_,rfl,FN.out.1,FN.out.2.1⟩
    | succ q =>
      have hjn:j<n:=by have:=A.out.1;omega
      have hlt:(j:Int)<(n:Int):=by omega
      obtain ⟨x,ex⟩:∃ x,L[j]?=some x:=⟨_,List.getElem?_eq_getElem (by have:=HA.out.1;omega)⟩
      obtain ⟨b,o,rfl,hb,hcc⟩:=HA.out.2.2.2.1 (by have:=HA.out.1;omega)
      have hb1:=HA.out.2.2.2.2.2.1
      have x0:wr.cell? ⟨b,o+j,none⟩=some (.int .u64 (x:Int)):=(A.out.2.2.cell (p:=⟨b,o+j,none⟩) (by have:=hb1.size;show b<w1.heap.size;omega)).trans ((hb1.cell (p:=⟨b,o+j,none⟩) hb).trans (hcc j x ex))
      have x1:wr.cell? ⟨w.heap.size,1,none⟩=some (.int .u64 (k:Int)):=(A.out.2.2.cell (p:=⟨w.heap.size,1,none⟩) HA.out.2.2.2.2.1.lt).trans (HA.out.2.2.2.2.1.cell 1)
      have hx64:=HA.out.2.2.1 x (List.mem_of_getElem? ex)
      have hz:=HA.out.2.2.2.2.2.2
      obtain ⟨t,ht⟩:∃ t:Int,((x / 2 ^ h:Nat):Int)=t:=⟨_,rfl⟩
      have ed:(x:Int) / z=t:=by rw [← hz,← ht];exact (Int.natCast_ediv _ _).symm
      have ew:IntKind.u64.wrap t=t:=by have:=Nat.div_le_self x (2 ^ h);rw [← ht,z09];generalize x / 2 ^ h=y at *;omega
      have ej:wrap64 ((j:Int)+1)=((j+1:Nat):Int):=by have:=HA.out.2.1;unfold wrap64;omega
      have hs:=zdk (h:=h) (k:=k) ex
      have hlen:=z1u h k (L.take j)
      by_cases hxk:x / 2 ^ h=k
      · have hq:(t == (k:Int))=true:=by rw [← ht,hxk];exact beq_self_eq_true _
        rw [if_pos hxk] at hs
        have R:Aside (j+1+q=n∧wr.ownsRow w1.heap.size 23 1 (.slice av (UND h k (L.take j)).length cv) (UND h k (L.take j)).length (z02 (UND h k (L.take j)))∧Below w1.heap.size w1 wr∧(UND h k (L.take j)).length≤2 ^ 20∧UND h k (L.take (j+1))=UND h k (L.take j) ++ [x]):=⟨by have:=A.out.1;clear ej ew;omega,A.out.2.1,A.out.2.2,by have:=HA.out.2.1;rw [List.length_take] at hlen;clear ej ew;omega,hs⟩
        generalize UND h k (L.take j)=U at *
        generalize hU2:UND h k (L.take (j+1))=U2 at *
        have HU2:Aside (UND h k (L.take (j+1))=U2):=hU2
        generalize hu:U.length=u at *
        clear A hs hlen hcc hb hb1 hx64 hjn ex hxk hz hU2 ht
        go_wp2_with fail
        go_quiet (fail)
        have R1:Aside (j+1+q=n∧(wr.drewN nq).ownsRow w1.heap.size 23 1 (.slice av u cv) u (z02 U)∧Below w1.heap.size w1 (wr.drewN nq)∧u≤2 ^ 20∧U2=U ++ [x]):=⟨R.out.1,R.out.2.1,below_drewN R.out.2.2.1 _,R.out.2.2.2⟩
        have y0:(wr.drewN nq).cell? ⟨b,o+j,none⟩=some (.int .u64 (x:Int)):=x0
        clear x0 x1 R
        generalize wr.drewN nq=w2 at *
        go_wp2_with (first
          | (at_builtin;refine z3q _ rfl (.tmp 27) (.tmp 32) rfl w1.heap.size (.slice av u cv) u U rfl (R1.out.2.1.alloc _) w2.heap.size 1 x rfl ((Has.new _ _ _).cell 0) (by have:=R1.out.2.2.2.1;omega) (by have:=R1.out.2.2.1.size;simp;omega) ?_;intro g3 c3 w3 hown hgrow hg
             have R2:Aside (j+1+q=n∧w3.ownsRow w1.heap.size 23 1 (.slice (some ⟨g3,0,none⟩) (u+1) c3) (UND h k (L.take (j+1))).length (z02 (UND h k (L.take (j+1))))∧Below w1.heap.size w1 w3):=by
               obtain ⟨r1,r2,r3,r4,r5⟩:=R1.out
               have e:(UND h k (L.take (j+1))).length=u+1:=by rw [HU2.out,r5,List.length_append,hu];rfl
               refine ⟨r1,?_,(r3.alloc r3.size _).grown hgrow (by have:=r3.size;simp;omega) (fun k e=>(r2.lt k e).1)⟩
               rw [e,HU2.out,r5]
               exact hown
             clear hown hgrow hg R1))
        go_roundg q
        case measure=>exact Nat.lt_succ_self _
        case rel=>exact ⟨j+1,_,rfl,by first | rfl | (rw [ej]),R2.out⟩
      · have hq:(t == (k:Int))=false:=by rw [← ht];generalize x / 2 ^ h=y at *;simp;omega
        rw [if_neg hxk,List.append_nil] at hs
        have R:Aside (j+1+q=n∧wr.ownsRow w1.heap.size 23 1 (.slice av (UND h k (L.take j)).length cv) (UND h k (L.take (j+1))).length (z02 (UND h k (L.take (j+1))))∧Below w1.heap.size w1 wr):=⟨by have:=A.out.1;clear ej ew;omega,by rw [hs];exact A.out.2.1,A.out.2.2⟩
        clear A hs hlen hcc hb hb1 hx64 hjn ex hxk hz ht
        go_wp2_with fail
        go_quiet (fail)
        have R1:Aside (j+1+q=n∧(wr.drewN nq).ownsRow w1.heap.size 23 1 (.slice av (UND h k (L.take j)).length cv) (UND h k (L.take (j+1))).length (z02 (UND h k (L.take (j+1))))∧Below w1.heap.size w1 (wr.drewN nq)):=⟨R.out.1,R.out.2.1,below_drewN R.out.2.2 _⟩
        clear x0 x1 R
        generalize wr.drewN nq=w2 at *
        go_wp2_with fail
        go_roundg q
        case measure=>exact Nat.lt_succ_self _
        case rel=>exact ⟨j+1,_,rfl,by first | rfl | (rw [ej]),R1.out⟩
end Go.Proofs.YtlicfinmibbpdaaGreatDoor
