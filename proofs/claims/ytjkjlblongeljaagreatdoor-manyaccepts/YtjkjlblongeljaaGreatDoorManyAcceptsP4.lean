/- Texts of ManyAccepts, one behind the other: PosOk, ManySearch, ManyPlain, HashPlain, NumSlice, HashWordCalls. -/
import Derived.WalkKit
import Derived.WalkLawsBesides
import Derived.OpenShut
import Derived.Laws.BitsAllLaws
import Derived.Test.YtjkjlblongeljaaGreatDoorProg
import Derived.Deep.LoopGhost
import Derived.Deep.OwnRows
import Derived.Deep.QuietTactic
import Derived.BigQuiet
import Derived.Test.YtjkjlblongeljaaGreatDoorManyAcceptsP3
namespace Go.Proofs.YtjkjlblongeljaaGreatDoor
open Go.RowKit
theorem zeK (k:Nat) (hk:k<2 ^ 64):bits .and .u64 (k:Int) 1=((k % 2:Nat):Int):=by
  have:bits .and .u64 (k:Int) ((1:Nat):Int)=((k &&& 1:Nat):Int):=z47 hk (by decide)
  rw [Nat.and_one_is_mod] at this
  exact this
theorem zbA (k:Nat) (hk:k<2 ^ 64):(bits .and .u64 (k:Int) 1 == 1)=decide (k % 2=1):=by
  rw [zeK k hk,Bool.eq_iff_iff]
  simp
  omega
theorem z7s (a h:Nat) (hh:h≤62) (hl:a*2 ^ h<2 ^ 64):IntKind.u64.wrap ((a:Int)*2 ^ min h 64)=((a*2 ^ h:Nat):Int):=by
  rw [show min h 64=h by omega,z53,Nat.mod_eq_of_lt hl]
theorem z8s (h k:Nat):PLC h (SIB k)=if k % 2=1 then PLC h k - TREE h else PLC h k+TREE h:=by
  unfold SIB
  split
  · have:=z4x h (k / 2)
    rw [show 2*(k / 2)+1=k by omega,show 2*(k / 2)=k - 1 by omega] at this
    omega
  · have:=z4x h (k / 2)
    rw [show 2*(k / 2)=k by omega] at this
    omega
theorem z73 {h k:Nat} (hk:k % 2=1):TREE h≤PLC h k:=by
  have:=z4x h (k / 2)
  rw [show 2*(k / 2)+1=k by omega] at this
  omega
theorem zbB (h k:Nat) (hN:Node h k) (hh:h<62) (w:World):Calls Tryz.prog 110 #[.int .u64 ((PLC h k:Nat):Int),.int .i64 (h:Int),.bool (decide (k % 2=1))] w fun e w'=>e=.returned (.int .u64 ((PLC h (SIB k):Nat):Int))∧w=w':=by
  have h0:=hN.lt
  have h1:=(hN.sib hh).lt
  have h2:=z8s h k
  by_cases hk:k % 2=1
  · rw [if_pos hk] at h2
    rw [decide_eq_true hk]
    have h3:=z73 (h:=h) hk
    have:=z49 (PLC h k:Nat) (h:Int) (TREE h:Nat) w (fun w=>z2I h (by omega) w)
    rw [show IntKind.u64.wrap (((PLC h k:Nat):Int) - ((TREE h:Nat):Int))=((PLC h (SIB k):Nat):Int) by rw [z0e];omega] at this
    exact this
  · rw [if_neg hk] at h2
    rw [decide_eq_false hk]
    have:=z8o (PLC h k:Nat) (h:Int) (TREE h:Nat) w (fun w=>z2I h (by omega) w)
    rw [show IntKind.u64.wrap (((PLC h k:Nat):Int)+((TREE h:Nat):Int))=((PLC h (SIB k):Nat):Int) by rw [z0e];omega] at this
    exact this
theorem zan (h k:Nat) (hN:Node h k) (hh:h<62) (w:World):Calls Tryz.prog 68 #[.int .u64 ((PLC h k:Nat):Int)] w fun e w'=>e=.returned (.tuple #[.int .u64 ((PLC h (SIB k):Nat):Int),.bool true])∧Below w.heap.size w w':=
  z8r _ h k (decide (k % 2=1)) _ w (by simp;omega) (by unfold wrap64;omega) (zbA k (by have:=hN.index_lt;omega)) (.node hN) (fun w=>zbB h k hN hh w)
theorem Node.kid {h k:Nat} (a:Node (h+1) k):Node h (2*k)∧Node h (2*k+1):=by
  have h1:=a.1
  have h2:=a.2
  have e:2 ^ (62 - h)=2 ^ (62 - (h+1))*2:=by rw [← Nat.pow_succ];congr 1;omega
  exact ⟨⟨by omega,by rw [e];omega⟩,⟨by omega,by rw [e];omega⟩⟩
theorem z4y (h k:Nat) (hN:Node (h+1) k) (w:World):Calls Tryz.prog 145 #[.int .u64 ((PLC (h+1) k:Nat):Int)] w fun e w'=>e=.returned (.tuple #[.int .u64 ((PLC h (2*k):Nat):Int),.int .u64 ((PLC h (2*k+1):Nat):Int),.bool true])∧Below w.heap.size w w':=by
  have h1:=hN.1
  have h2:=z2P h k
  have h3:=z4x h k
  have h4:=hN.lt
  refine zdi _ ((PLC h (2*k+1):Nat):Int) (h+1) h k _ w (by simp;omega) (by unfold wrap64;omega) (by unfold wrap64;omega) (by rw [z0e];omega) (.node hN) (fun w=>?_)
  have:=z49 (PLC h (2*k+1):Nat) (h:Int) (TREE h:Nat) w (fun w=>z2I h (by omega) w)
  rw [show IntKind.u64.wrap (((PLC h (2*k+1):Nat):Int) - ((TREE h:Nat):Int))=((PLC h (2*k):Nat):Int) by rw [z0e];omega] at this
  exact this
theorem right_ok (h k:Nat) (hN:Node h k) (w:World):Calls Tryz.prog 30 #[.int .u64 ((PLC h k:Nat):Int)] w fun e w'=>e=.returned (.bool (decide (k % 2=1)))∧Below w.heap.size w w':=
  z4c _ h k _ w (zbA k (by have:=hN.index_lt;omega)) (.node hN)
theorem zdj (h k:Nat) (hN:Node h k) (w:World):Calls Tryz.prog 143 #[.int .u64 ((PLC h k:Nat):Int)] w fun e w'=>e=.returned (.tuple #[.int .u64 ((k*2 ^ h:Nat):Int),.int .u64 (((k+1)*2 ^ h:Nat):Int),.bool true])∧Below w.heap.size w w':=by
  have h1:=hN.1
  have h3:=hN.span
  have h4:=hN.index_lt
  have h5:k*2 ^ h≤(k+1)*2 ^ h:=Nat.mul_le_mul_right _ (by omega)
  refine zbz _ h k _ _ w (by rw [z0e];omega) (z7s k h h1 (by omega)) ?_ (.node hN)
  have:=z7s (k+1) h h1 (by omega)
  rw [show (((k+1:Nat)):Int)=(k:Int)+1 by omega] at this
  exact this
end Go.Proofs.YtjkjlblongeljaaGreatDoor

namespace Go.Proofs.YtjkjlblongeljaaGreatDoor
open Go.RowKit
set_option maxRecDepth 100000
def NUML (w:World) (a:Option Addr) (L:List Nat):Prop:=0<L.length→∃ b o,a=some ⟨b,o,none⟩∧b<w.heap.size∧∀ i x,L[i]?=some x→w.cell? ⟨b,o+i,none⟩=some (.int .u64 ((x:Nat):Int))
theorem NUML.below {w w':World} {a:Option Addr} {L:List Nat} {B:Nat} (h:NUML w a L) (hb:Below B w w') (hB:∀ x,a=some x→x.block<B):NUML w' a L:=fun h0=>by
  obtain ⟨b,o,e,hl,hc⟩:=h h0
  have h1:b<B:=hB _ e
  exact ⟨b,o,e,by have:=hb.size;omega,fun i x hx=>(hb.cell (p:=⟨b,o+i,none⟩) h1).trans (hc i x hx)⟩
def RISES (L:List Nat):Prop:=∀ (i j x y:Nat),i<j→L[i]?=some x→L[j]?=some y→x<y
theorem z7t {i j:Nat} (h:i<j):∃ m,i≤m∧m<j∧m=(i+j) / 2:=⟨(i+j) / 2,by omega,by omega,rfl⟩
theorem z2S (i j S m:Nat) (hj:j<2 ^ 40) (hi:i<j) (hS:i+j=S) (hm:m=(i+j) / 2):wrap64 ((i:Int)+(j:Int))=(S:Int)∧IntKind.u64.wrap ((i:Int)+(j:Int))=(S:Int)∧(S:Int) / 2=(m:Int)∧wrap64 (m:Int)=(m:Int)∧wrap64 ((m:Int)+1)=((m+1:Nat):Int)∧IntKind.u64.wrap (S:Int)=(S:Int):=by
  rw [z0e,z0e]
  unfold wrap64
  omega
theorem z3D (x:Int) (w:World):Calls Tryz.prog 168 #[.int .u64 x] w fun e w'=>e=.returned (.bool false)∧w=w':=by
  go_enter Tryz.func168,Tryz.ntmps168
  go_wp2
  go_ret
  exact ⟨rfl,rfl⟩
theorem zbC (x:Int) (w:World):Calls Tryz.prog 164 #[.int .u64 x] w fun e w'=>e=.returned (.bool false)∧w=w':=by
  go_enter Tryz.func164,Tryz.ntmps164
  go_wp2
  go_ret
  exact ⟨rfl,rfl⟩
theorem z9s (x y:Nat) (w:World):Calls Tryz.prog 167 #[.int .u64 (x:Int),.int .u64 (y:Int)] w fun e w'=>e=.returned (.bool (decide (x<y)))∧w=w':=by
  have c:=zbC (x:Int) w
  go_enter Tryz.func167,Tryz.ntmps167
  go_wp2_with fail
  refine c.mono ?_
  rintro e w' ⟨rfl,rfl⟩
  clear c
  go_wp2_with fail
  go_ret
  exact ⟨rfl,rfl⟩
theorem zdk (x y:Nat) (h:x<y) (w:World):Calls Tryz.prog 167 #[.int .u64 (x:Int),.int .u64 (y:Int)] w fun e w'=>e=.returned (.bool true)∧w=w':=by
  have:=z9s x y w
  rwa [decide_eq_true h] at this
theorem zeL (x y:Nat) (h:¬ x<y) (w:World):Calls Tryz.prog 167 #[.int .u64 (x:Int),.int .u64 (y:Int)] w fun e w'=>e=.returned (.bool false)∧w=w':=by
  have:=z9s x y w
  rwa [decide_eq_false h] at this
structure RANKS (L:List Nat) (t k:Nat):Prop where
  le:k≤L.length
  lo:∀ i x,i<k→L[i]?=some x→x<t
  hi:∀ i x,k≤i→L[i]?=some x→t≤x
def zfH (L:List Nat) (t:Nat) (w:World) (e:Ending) (w':World):Prop:=∃ (k:Nat) (b:Bool),e=.returned (.tuple #[.int .i64 (k:Int),.bool b])∧RANKS L t k∧w=w'
set_option maxHeartbeats 1000000 in
theorem z4d (a:Option Addr) (n cap:Nat) (L:List Nat) (t:Nat) (hl:L.length=n) (hn:n<2 ^ 40) (hR:RISES L) (w:World) (hL:NUML w a L):Calls Tryz.prog 144 #[.slice a n cap,.int .u64 (t:Int)] w fun e w'=>zfH L t w e w':=by
  have H:Aside (L.length=n∧n<2 ^ 40∧RISES L∧NUML w a L):=⟨hl,hn,hR,hL⟩
  clear hl hn hR hL
  go_enter Tryz.func144,Tryz.ntmps144
  go_wp2
  go_loopg [7,8] n (fun gg s7 s8 wx=>∃ i j:Nat,s7=.int .i64 (i:Int)∧s8=.int .i64 (j:Int)∧Aside (i+gg=j∧j≤n∧(∀ (k:Nat) (x:Nat),k<i→L[k]?=some x→x<t)∧(∀ (k:Nat) (x:Nat),j≤k→L[k]?=some x→t≤x))∧wx=w)
  case atStart=>exact ⟨0,n,rfl,rfl,⟨by omega,Nat.le_refl _,fun k x h=>by omega,fun k x h e=>by have:=(List.getElem?_eq_some_iff.1 e).1;have:=H.out.1;omega⟩,rfl⟩
  case round=>
    obtain ⟨i,j,rfl,rfl,I,rfl⟩:=hrel
    cases gk with
    | zero=>
      obtain ⟨i1,i2,i3,i4⟩:=I.out
      obtain rfl:i=j:=by omega
      have hlt:¬ (i:Int)<(i:Int):=by omega
      rcases Nat.lt_or_ge i n with hin | hin
      · have hi2:(i:Int)<(n:Int):=by omega
        have hi0:(0:Int)≤(i:Int):=by omega
        obtain ⟨h1,h2,h3,h4⟩:=H.out
        obtain ⟨x,ex⟩:∃ x,L[i]?=some x:=⟨_,List.getElem?_eq_getElem (by omega)⟩
        obtain ⟨g,o,rfl,hg,hc⟩:=h4 (by omega)
        have x0:=hc i x ex
        have cc:=z3D (x:Int)
        have R:Aside (RANKS L t i):=⟨by omega,i3,i4⟩
        clear i1 i2 i3 i4 h1 h2 h3 h4 hc ex I H
        by_cases hx:x=t
        · subst hx
          go_wp2_with fail
          go_ret2
          exact ⟨i,_,rfl,R.out,rfl⟩
        · have hx':¬ (x:Int)=(t:Int):=by omega
          go_wp2_with fail
          refine (cc _).mono ?_
          rintro e w2 ⟨rfl,rfl⟩
          clear cc
          go_wp2_with fail
          go_ret2
          exact ⟨i,_,rfl,R.out,rfl⟩
      · have hi2:¬ (i:Int)<(n:Int):=by omega
        have R:Aside (RANKS L t i):=⟨by have:=H.out.1;omega,i3,i4⟩
        clear i1 i2 i3 i4 I H
        go_wp2
        go_ret2
        exact ⟨i,false,rfl,R.out,rfl⟩
    | succ gg=>
      obtain ⟨i1,i2,i3,i4⟩:=I.out
      have hij:(i:Int)<(j:Int):=by omega
      obtain ⟨h1,h2,h3,h4⟩:=H.out
      obtain ⟨m,m1,m2,m3⟩:=z7t (i:=i) (j:=j) (by omega)
      obtain ⟨S,hS⟩:∃ S,i+j=S:=⟨_,rfl⟩
      have HW:Aside _:=z2S i j S m (by omega) (by omega) hS m3
      clear hS
      have hm2:(m:Int)<(n:Int):=by omega
      have hm0:(0:Int)≤(m:Int):=by omega
      obtain ⟨x,ex⟩:∃ x,L[m]?=some x:=⟨_,List.getElem?_eq_getElem (by omega)⟩
      obtain ⟨g,o,rfl,hg,hc⟩:=h4 (by omega)
      have x0:=hc m x ex
      have LO:Aside (x<t→∀ (k:Nat) (y:Nat),k<m+1→L[k]?=some y→y<t):=fun h k y hk e=>by
        rcases Nat.lt_or_ge k m with hkm | hkm
        · have:=h3 k m y x hkm e ex
          omega
        · obtain rfl:k=m:=by omega
          rw [ex] at e
          cases e
          exact h
      have HI:Aside (¬ x<t→∀ (k:Nat) (y:Nat),m≤k→L[k]?=some y→t≤y):=fun h k y hk e=>by
        rcases Nat.lt_or_ge m k with hkm | hkm
        · have:=h3 m k x y hkm ex e
          omega
        · obtain rfl:k=m:=by omega
          rw [ex] at e
          cases e
          omega
      have R:Aside (i≤m∧m<j∧j≤n∧i+(gg+1)=j∧(∀ (k:Nat) (y:Nat),k<i→L[k]?=some y→y<t)∧(∀ (k:Nat) (y:Nat),j≤k→L[k]?=some y→t≤y)):=⟨m1,m2,i2,i1,i3,i4⟩
      clear i1 i2 i3 i4 h1 h2 h3 h4 hc ex I m1 m2 m3
      obtain ⟨q1,q2,q3,q4,q5,q6⟩:=HW.out
      by_cases hlt:x<t
      · have cc:=zdk x t hlt
        have LL:Aside (∀ (k:Nat) (y:Nat),k<m+1→L[k]?=some y→y<t):=LO.out hlt
        clear hlt LO HI
        go_wp2_with fail
        refine (cc _).mono ?_
        rintro e w2 ⟨rfl,rfl⟩
        clear cc x0
        go_wp2
        go_roundg (j - (m+1))
        case measure=>have:=R.out;clear q1 q2 q3 q4 q5 q6;omega
        case rel=>exact ⟨m+1,j,by first | rfl | (rw [q5]),rfl,⟨by have:=R.out;clear q1 q2 q3 q4 q5 q6;omega,R.out.2.2.1,LL.out,R.out.2.2.2.2.2⟩,rfl⟩
      · have cc:=zeL x t hlt
        have LL:Aside (∀ (k:Nat) (y:Nat),m≤k→L[k]?=some y→t≤y):=HI.out hlt
        clear hlt LO HI
        go_wp2_with fail
        refine (cc _).mono ?_
        rintro e w2 ⟨rfl,rfl⟩
        clear cc x0
        go_wp2
        go_roundg (m - i)
        case measure=>have:=R.out;clear q1 q2 q3 q4 q5 q6;omega
        case rel=>exact ⟨i,m,rfl,by first | rfl | (rw [q4]),⟨by have:=R.out;clear q1 q2 q3 q4 q5 q6;omega,by have:=R.out;clear q1 q2 q3 q4 q5 q6;omega,R.out.2.2.2.2.1,LL.out⟩,rfl⟩
end Go.Proofs.YtjkjlblongeljaaGreatDoor

namespace Go.Proofs.YtjkjlblongeljaaGreatDoor
set_option maxRecDepth 100000
def NEED:Nat→Nat→List Nat→List Nat
  | h,k,[]=>[PLC h k]
  | 0,_,_ :: _=>[]
  | h+1,k,x :: l=>NEED h (2*k) ((x :: l).filter fun y=>decide (y<(2*k+1)*2 ^ h)) ++ NEED h (2*k+1) ((x :: l).filter fun y=>!decide (y<(2*k+1)*2 ^ h))
theorem z0v (h k:Nat):NEED h k []=[PLC h k]:=by cases h <;> rfl
theorem z6x (k x:Nat) (l:List Nat):NEED 0 k (x :: l)=[]:=rfl
theorem z4e (h k x:Nat) (l:List Nat):NEED (h+1) k (x :: l)=NEED h (2*k) ((x :: l).filter fun y=>decide (y<(2*k+1)*2 ^ h)) ++ NEED h (2*k+1) ((x :: l).filter fun y=>!decide (y<(2*k+1)*2 ^ h)):=rfl
theorem RANKS.take:∀ {L:List Nat} {t r:Nat},RANKS L t r→L.take r=L.filter fun y=>decide (y<t)
  | [],t,r,_=>by simp
  | x :: l,t,0,h=>by
    rw [List.take_zero]
    symm
    rw [List.filter_eq_nil_iff]
    intro y hy
    obtain ⟨i,hi⟩:=List.getElem?_of_mem hy
    have:=h.hi i y (Nat.zero_le _) hi
    simp
    omega
  | x :: l,t,r+1,h=>by
    have hx:x<t:=h.lo 0 x (by omega) rfl
    have h':RANKS l t r:=⟨by have:=h.le;simp at this;omega,fun i y hi hy=>h.lo (i+1) y (by omega) (by simpa using hy),fun i y hi hy=>h.hi (i+1) y (by omega) (by simpa using hy)⟩
    rw [List.take_succ_cons,List.filter_cons_of_pos (by simpa using hx),h'.take]
theorem RANKS.drop:∀ {L:List Nat} {t r:Nat},RANKS L t r→L.drop r=L.filter fun y=>!decide (y<t)
  | [],t,r,_=>by simp
  | x :: l,t,0,h=>by
    rw [List.drop_zero]
    symm
    rw [List.filter_eq_self]
    intro y hy
    obtain ⟨i,hi⟩:=List.getElem?_of_mem hy
    have:=h.hi i y (Nat.zero_le _) hi
    simp
    omega
  | x :: l,t,r+1,h=>by
    have hx:x<t:=h.lo 0 x (by omega) rfl
    have h':RANKS l t r:=⟨by have:=h.le;simp at this;omega,fun i y hi hy=>h.lo (i+1) y (by omega) (by simpa using hy),fun i y hi hy=>h.hi (i+1) y (by omega) (by simpa using hy)⟩
    rw [List.drop_succ_cons,List.filter_cons_of_neg (by simpa using hx),h'.drop]
theorem RISES.take {L:List Nat} (h:RISES L) (r:Nat):RISES (L.take r):=fun i j x y hij hx hy=>by
  rw [List.getElem?_take] at hx hy
  split at hx
  · split at hy
    · exact h i j x y hij hx hy
    · cases hy
  · cases hx
theorem RISES.drop {L:List Nat} (h:RISES L) (r:Nat):RISES (L.drop r):=fun i j x y hij hx hy=>by
  rw [List.getElem?_drop] at hx hy
  exact h (r+i) (r+j) x y (by omega) hx hy
theorem z1A {h k r:Nat} {L:List Nat} (hL:L≠[]) (hr:RANKS L ((2*k+1)*2 ^ h) r):NEED (h+1) k L=NEED h (2*k) (L.take r) ++ NEED h (2*k+1) (L.drop r):=by
  cases L with
  | nil=>exact absurd rfl hL
  | cons x l=>rw [z4e,hr.take,hr.drop]
def z08:List (Nat × Nat)→List Nat→List Nat
  | [],_=>[]
  | (h,k) :: ps,L=>NEED h k (L.filter fun y=>decide (y<(k+1)*2 ^ h)) ++ z08 ps (L.filter fun y=>!decide (y<(k+1)*2 ^ h))
theorem z1p {h k r:Nat} {L:List Nat} (ps:List (Nat × Nat)) (hr:RANKS L ((k+1)*2 ^ h) r):z08 ((h,k) :: ps) L=NEED h k (L.take r) ++ z08 ps (L.drop r):=by
  rw [z08,hr.take,hr.drop]
theorem z3l (p:Nat→Bool):∀ l:List Nat,(l.filter p).length+(l.filter fun y=>!p y).length=l.length
  | []=>rfl
  | x :: l=>by
    have:=z3l p l
    cases h:p x <;> simp [List.filter,h] <;> omega
theorem z3E:∀ (h k:Nat) (L:List Nat),L≠[]→(NEED h k L).length≤L.length*h
  | _,_,[],hL=>absurd rfl hL
  | 0,_,_ :: _,_=>by simp [NEED]
  | h + 1,k,x :: l,_=>by
    rw [z4e,List.length_append]
    generalize hA:((x :: l).filter fun y=>decide (y<(2*k+1)*2 ^ h))=A
    generalize hB:((x :: l).filter fun y=>!decide (y<(2*k+1)*2 ^ h))=B
    have hAB:A.length+B.length=(x :: l).length:=by
      rw [← hA,← hB]
      exact z3l _ _
    have h1:(NEED h (2*k) A).length≤A.length*h+(if A.length=0 then 1 else 0):=by
      cases A with
      | nil=>rw [z0v];simp
      | cons y m=>exact Nat.le_trans (z3E h (2*k) (y :: m) (by simp)) (Nat.le_add_right _ _)
    have h2:(NEED h (2*k+1) B).length≤B.length*h+(if B.length=0 then 1 else 0):=by
      cases B with
      | nil=>rw [z0v];simp
      | cons y m=>exact Nat.le_trans (z3E h (2*k+1) (y :: m) (by simp)) (Nat.le_add_right _ _)
    have h3:0<(x :: l).length:=by simp
    have h4:A.length*h+B.length*h=(x :: l).length*h:=by rw [← Nat.add_mul,hAB]
    rw [Nat.mul_succ]
    generalize (NEED h (2*k) A).length=u at *
    generalize (NEED h (2*k+1) B).length=v at *
    generalize A.length*h=p at *
    generalize B.length*h=q at *
    generalize (x :: l).length*h=s at *
    generalize (x :: l).length=m at *
    split at h1 <;> split at h2 <;> omega
theorem zbD (h k:Nat) (L:List Nat):(NEED h k L).length≤L.length*h+1:=by
  cases L with
  | nil=>rw [z0v];simp
  | cons x l=>exact Nat.le_trans (z3E h k (x :: l) (by simp)) (Nat.le_add_right _ _)
end Go.Proofs.YtjkjlblongeljaaGreatDoor

namespace Go.Proofs.YtjkjlblongeljaaGreatDoor.HX
open Go.RowKit
def ROTR (n x:Nat):Nat:=x / 2 ^ n+x % 2 ^ n*2 ^ (32 - n)
theorem z1I {n x:Nat} (hn:n≤32) (hx:x<2 ^ 32):ROTR n x<2 ^ 32:=by
  unfold ROTR
  have h1:(2:Nat) ^ 32=2 ^ n*2 ^ (32 - n):=by rw [← Nat.pow_add];congr 1;omega
  have h2:x / 2 ^ n<2 ^ (32 - n):=by
    apply Nat.div_lt_of_lt_mul
    rw [← h1];exact hx
  have h3:x % 2 ^ n+1≤2 ^ n:=Nat.mod_lt _ (Nat.two_pow_pos n)
  have h4:=Nat.mul_le_mul_right (2 ^ (32 - n)) h3
  rw [Nat.add_mul,Nat.one_mul,← h1] at h4
  omega
theorem zfI {n x:Nat} (hn:n≤32) (hx:x<2 ^ 32):x*2 ^ (32 - n) % 2 ^ 32 ||| x / 2 ^ n=ROTR n x:=by
  have h1:(2:Nat) ^ 32=2 ^ n*2 ^ (32 - n):=by rw [← Nat.pow_add];congr 1;omega
  have h2:x / 2 ^ n<2 ^ (32 - n):=by
    apply Nat.div_lt_of_lt_mul
    rw [← h1];exact hx
  have h3:x*2 ^ (32 - n) % 2 ^ 32=x % 2 ^ n*2 ^ (32 - n):=by
    rw [h1,Nat.mul_mod_mul_right]
  rw [h3,nat_join (32 - n) _ _ (Nat.mul_mod_left _ _) h2]
  unfold ROTR
  omega
def MIX (i j k x:Nat):Nat:=ROTR i x ^^^ ROTR j x ^^^ ROTR k x
def z2C (i j k x:Nat):Nat:=ROTR i x ^^^ ROTR j x ^^^ x / 2 ^ k
def CHO (x y z:Nat):Nat:=(x &&& y) ^^^ ((4294967295 - x) &&& z)
def MAJ (x y z:Nat):Nat:=(x &&& y) ^^^ (x &&& z) ^^^ (y &&& z)
def z0b (s:Nat→Nat) (o:Nat):Nat:=s o*16777216+s (o+1)*65536+s (o+2)*256+s (o+3)
theorem z1e {s:Nat→Nat} (o:Nat) (h:∀ i,s i<256):z0b s o<2 ^ 32:=by
  have h0:=h o;have h1:=h (o+1);have h2:=h (o+2);have h3:=h (o+3)
  unfold z0b
  omega
def SCHL (b:Nat→Nat):Nat→Nat→Nat
  | 0,t=>if t<16 then z0b b (4*t) else 0
  | k+1,t=>if t=16+k then (z2C 17 19 10 (SCHL b k (14+k))+SCHL b k (9+k)+z2C 7 18 3 (SCHL b k (1+k))+SCHL b k k) % 4294967296 else SCHL b k t
def SCH (b:Nat→Nat):Nat→Nat:=SCHL b 48
theorem z64 {b:Nat→Nat} (h:∀ i,b i<256):∀ k t,SCHL b k t<2 ^ 32
  | 0,t=>by
    unfold SCHL
    split
    · exact z1e _ h
    · decide
  | k+1,t=>by
    unfold SCHL
    split
    · exact Nat.mod_lt _ (by decide)
    · exact z64 h k t
def KLIST:List Nat:=[1116352408,1899447441,3049323471,3921009573,961987163,1508970993,2453635748,2870763221,3624381080,310598401,607225278,1426881987,1925078388,2162078206,2614888103,3248222580,3835390401,4022224774,264347078,604807628,770255983,1249150122,1555081692,1996064986,2554220882,2821834349,2952996808,3210313671,3336571891,3584528711,113926993,338241895,666307205,773529912,1294757372,1396182291,1695183700,1986661051,2177026350,2456956037,2730485921,2820302411,3259730800,3345764771,3516065817,3600352804,4094571909,275423344,430227734,506948616,659060556,883997877,958139571,1322822218,1537002063,1747873779,1955562222,2024104815,2227730452,2361852424,2428436474,2756734187,3204031479,3329325298]
def KC (t:Nat):Nat:=KLIST.getD t 0
structure ST where
  a:Nat
  b:Nat
  c:Nat
  d:Nat
  e:Nat
  f:Nat
  g:Nat
  h:Nat
def T1 (k x:Nat) (s:ST):Nat:=(s.h+MIX 6 11 25 s.e+CHO s.e s.f s.g+k+x) % 4294967296
def T2 (s:ST):Nat:=(MIX 2 13 22 s.a+MAJ s.a s.b s.c) % 4294967296
def RND (k x:Nat) (s:ST):ST:={a:=(T1 k x s+T2 s) % 4294967296,b:=s.a,c:=s.b,d:=s.c,e:=(s.d+T1 k x s) % 4294967296,f:=s.e,g:=s.f,h:=s.g}
def Small (s:ST):Prop:=s.a<2 ^ 32∧s.b<2 ^ 32∧s.c<2 ^ 32∧s.d<2 ^ 32∧s.e<2 ^ 32∧s.f<2 ^ 32∧s.g<2 ^ 32∧s.h<2 ^ 32
theorem Small.rnd {s:ST} (h:Small s) (k x:Nat):Small (RND k x s):=by
  obtain ⟨h1,h2,h3,h4,h5,h6,h7,h8⟩:=h
  exact ⟨Nat.mod_lt _ (by decide),h1,h2,h3,Nat.mod_lt _ (by decide),h5,h6,h7⟩
def RUN (x:Nat→Nat) (s:ST):Nat→ST
  | 0=>s
  | t+1=>RND (KC t) (x t) (RUN x s t)
theorem z6y (x:Nat→Nat) {s:ST} (h:Small s):∀ t,Small (RUN x s t)
  | 0=>h
  | t+1=>(z6y x h t).rnd _ _
def STOF (s:Nat→Nat):ST:={a:=z0b s 0,b:=z0b s 4,c:=z0b s 8,d:=z0b s 12,e:=z0b s 16,f:=z0b s 20,g:=z0b s 24,h:=z0b s 28}
theorem zao {s:Nat→Nat} (h:∀ i,s i<256):Small (STOF s):=
  ⟨z1e _ h,z1e _ h,z1e _ h,z1e _ h,z1e _ h,z1e _ h,z1e _ h,z1e _ h⟩
def ST.at (s:ST):Nat→Nat
  | 0=>s.a
  | 1=>s.b
  | 2=>s.c
  | 3=>s.d
  | 4=>s.e
  | 5=>s.f
  | 6=>s.g
  | 7=>s.h
  | _=>0
def OUTW (s b:Nat→Nat) (i:Nat):Nat:=(z0b s (4*i)+(RUN (SCH b) (STOF s) 64).at i) % 4294967296
def z0o (x:Nat→Nat) (i:Nat):Nat:=x (i / 4) / 2 ^ (24 - 8*(i % 4)) % 256
def WID (w:Int):Nat:=(min (max w 1) 32).toNat
def z0Z (w:Int) (s:Nat→Nat) (i:Nat):Nat:=if i<WID w then s i else 0
def COMP (w:Int) (s b:Nat→Nat):Nat→Nat:=z0Z w (z0o (OUTW s b))
theorem z7u (x:Nat→Nat) (i:Nat):z0o x i<256:=Nat.mod_lt _ (by decide)
theorem z6z {w:Int} {s:Nat→Nat} (h:∀ i,s i<256) (i:Nat):z0Z w s i<256:=by
  unfold z0Z
  split
  · exact h i
  · decide
theorem zeM (w:Int) (s b:Nat→Nat) (i:Nat):COMP w s b i<256:=z6z (z7u _) i
end Go.Proofs.YtjkjlblongeljaaGreatDoor.HX

namespace Go.Proofs.YtjkjlblongeljaaGreatDoor
open Go.RowKit
def BARR (n:Nat) (f:Nat→Int):Array Value:=((List.range n).map fun i=>Value.int .u8 (f i)).toArray
theorem z24 (n:Nat) (f:Nat→Int):(BARR n f).size=n:=by simp [BARR]
theorem z1B (n:Nat) (f:Nat→Int) (i:Nat) (h:i<n):(BARR n f)[i]?=some (.int .u8 (f i)):=by simp [BARR,h]
theorem z7v {n:Nat} {f g:Nat→Int} (h:∀ i,i<n→f i=g i):BARR n f=BARR n g:=by
  unfold BARR
  congr 1
  apply List.map_congr_left
  intro i hi
  rw [h i (by simpa using hi)]
theorem z57 (n:Nat) (f:Nat→Int) (i:Nat) (v:Int):(BARR n f).setIfInBounds i (.int .u8 v)=BARR n fun j=>if j=i then v else f j:=by
  apply Array.ext_getElem?
  intro j
  by_cases hj:j<n
  · rw [z1B _ _ j hj,Array.getElem?_setIfInBounds]
    by_cases h:i=j
    · subst h
      simp [z24,hj]
    · have h':¬ j=i:=fun e=>h e.symm
      simp [h,h',z1B _ _ j hj]
  · rw [Array.getElem?_eq_none (by simp [z24];omega),Array.getElem?_eq_none (by simp [z24];omega)]
theorem z4f (n:Nat):madeCells #[Value.int .u8 0] n=BARR n fun _=>0:=by
  apply Array.ext_getElem?
  intro j
  by_cases hj:j<n
  · rw [z1B _ _ j hj]
    simp [madeCells,hj,Nat.mod_one]
  · rw [Array.getElem?_eq_none (by simp [madeCells];omega),Array.getElem?_eq_none (by simp [z24];omega)]
theorem z0S:(Tryz.prog.info? 5).map (fun i=>(i.zero,i.size,i.bytes))=some (some (.int .u8 0),1,1):=by kernel_rfl
theorem z5v (n:Nat) (hn:n≤1000000) (w:World):(Instr.makeSlice 53 (.int .i64 (n:Int)) (.int .i64 (n:Int))).run Tryz.prog w=.ok (.slice (some ⟨w.heap.size,0,none⟩) n n) (w.alloc (.cells (BARR n fun _=>0) 5)):=by
  rw [run_make_row' 53 5 (.int .u8 0) 1 Tryz.underlying53 z0S rfl .i64 .i64 n (by omega) (by omega) w,z4f]
def IsRow (k:IntKind) (w:World) (a:Option Addr) (len cap:Nat) (zs:List Int):Prop:=
  (a=none∧len=0∧cap=0∧zs=[])∨
  ∃ x,a=some x∧len≤cap∧cap≤maxLen∧zs.length=cap∧(∀ i,i<zs.length→w.cell? (x.add i)=some (.int k (zs.getD i 0)))∧∀ n∈zs,(Lit.int k n).wf=true
def Bytes (w:World) (a:Option Addr) (n:Nat) (l:List Int):Prop:=
  l.length=n∧(0<n→∃ b off,a=some ⟨b,off,none⟩∧b<w.heap.size∧∀ i,i<n→w.cell? ⟨b,off+i,none⟩=some (.int .u8 (l.getD i 0)))∧∀ x∈l,0≤x∧x≤255
theorem Bytes.below {w w':World} {a:Option Addr} {n:Nat} {l:List Int} (h:Bytes w a n l) (hb:Below w.heap.size w w'):Bytes w' a n l:=
  ⟨h.1,fun hn=>by
    obtain ⟨b,off,e,hl,hc⟩:=h.2.1 hn
    exact ⟨b,off,e,Nat.lt_of_lt_of_le hl hb.size,fun i hi=>(hb.cell (by exact hl)).trans (hc i hi)⟩,h.2.2⟩
theorem Bytes.get {w:World} {a:Option Addr} {n:Nat} {l:List Int} (h:Bytes w a n l) (i:Nat):0≤l.getD i 0∧l.getD i 0≤255:=by
  by_cases hi:i<l.length
  · rw [List.getD_eq_getElem?_getD,List.getElem?_eq_getElem hi]
    exact h.2.2 _ (List.getElem_mem hi)
  · rw [List.getD_eq_getElem?_getD,List.getElem?_eq_none (by omega)]
    simp
theorem z19 (b off i:Nat):(⟨b,off,none⟩:Addr).add i=⟨b,off+i,none⟩:=by unfold Addr.add;split <;> simp_all
theorem IsRow.bytes {w:World} {a:Option Addr} {n c:Nat} {zs:List Int} (h:IsRow .u8 w a n c zs):Bytes w a n (zs.take n):=by
  rcases h with ⟨rfl,rfl,rfl,rfl⟩ | ⟨x,rfl,hl,_,hz,hcell,hwf⟩
  · exact ⟨rfl,fun h=>by omega,fun x hx=>by simp at hx⟩
  · refine ⟨by simp [hz,hl],fun hn=>?_,fun y hy=>?_⟩
    · obtain ⟨b,off,spot⟩:=x
      have hc:=hcell 0 (by omega)
      have hspot:spot=none:=by simpa [Addr.add] using World.cell?_spot hc
      subst hspot
      refine ⟨b,off,rfl,block_lt_of_cell (by simpa [Addr.add] using hc),fun i hi=>?_⟩
      have:=hcell i (by omega)
      rw [z19] at this
      rw [this]
      congr 2
      simp [List.getD_eq_getElem?_getD,hi]
    · have:=bounds_u8 (hwf y (List.mem_of_mem_take hy))
      exact this
end Go.Proofs.YtjkjlblongeljaaGreatDoor

namespace Go.Proofs.YtjkjlblongeljaaGreatDoor.HX
open Go.RowKit
theorem z4z (z:Int):IntKind.u32.wrap z=z % 2 ^ 32:=by rw [IntKind.wrap_u32];rfl
theorem z3d {a b:Nat} (ha:a<2 ^ 32) (hb:b<2 ^ 32):bits .xor .u32 (a:Int) (b:Int)=((a ^^^ b:Nat):Int):=u32_xor_nat a b ha hb
theorem z5w {a b:Nat} (ha:a<2 ^ 32) (hb:b<2 ^ 32):bits .and .u32 (a:Int) (b:Int)=((a &&& b:Nat):Int):=u32_and_nat a b ha hb
theorem or32 {a b:Nat} (ha:a<2 ^ 32) (hb:b<2 ^ 32):bits .or .u32 (a:Int) (b:Int)=((a ||| b:Nat):Int):=u32_or_nat a b ha hb
theorem zdl (x n s a b r:Int) (w:World) (hs:bits .and .u64 (IntKind.u64.wrap n) 31=s) (h0:0≤s) (h1:0≤IntKind.u64.wrap (32 - s)) (ha:IntKind.u32.wrap (x*2 ^ min s.toNat 32)=a) (hb:x / 2 ^ min (IntKind.u64.wrap (32 - s)).toNat 32=b) (hr:bits .or .u32 a b=r):
    Calls Tryz.prog 190 #[.int .u32 x,.int .i64 n] w fun e w'=>e=.returned (.int .u32 r)∧w=w':=by
  go_enter Tryz.func190,Tryz.ntmps190
  go_wp2
  go_ret
  exact ⟨rfl,rfl⟩
theorem zgf (n:Nat) (h1:1≤n) (h2:n<32):bits .and .u64 (IntKind.u64.wrap (wrap64 (-(n:Int)))) 31=((32 - n:Nat):Int):=by
  have e:IntKind.u64.wrap (wrap64 (-(n:Int)))=((18446744073709551616 - n:Nat):Int):=by
    rw [z0e]
    unfold wrap64
    omega
  have f:(31:Int)=((31:Nat):Int):=rfl
  rw [e,f,z47 (by omega) (by decide)]
  congr 1
  have:(31:Nat)=2 ^ 5 - 1:=rfl
  rw [this,Nat.and_two_pow_sub_one_eq_mod]
  omega
theorem zeN (X n:Nat) (hX:X<2 ^ 32) (h1:1≤n) (h2:n<32) (w:World):Calls Tryz.prog 190 #[.int .u32 (X:Int),.int .i64 (wrap64 (-(n:Int)))] w fun e w'=>e=.returned (.int .u32 ((ROTR n X:Nat):Int))∧w=w':=by
  have e:IntKind.u64.wrap (32 - ((32 - n:Nat):Int))=(n:Int):=by rw [z0e];omega
  refine zdl X _ ((32 - n:Nat):Int) ((X*2 ^ (32 - n) % 2 ^ 32:Nat):Int) ((X / 2 ^ n:Nat):Int) _ w (zgf n h1 h2) (by omega) (by rw [e];omega) ?_ ?_ ?_
  · rw [Int.toNat_natCast,show min (32 - n) 32=32 - n by omega,z4z]
    simp
  · rw [e,Int.toNat_natCast,show min n 32=n by omega,z2N]
  · rw [or32 (Nat.mod_lt _ (by decide)) (Nat.lt_of_le_of_lt (Nat.div_le_self _ _) hX),zfI (by omega) hX]
theorem z4c (x n r:Int) (w:World) (c:∀ w,Calls Tryz.prog 190 #[.int .u32 x,.int .i64 (wrap64 (-n))] w fun e w'=>e=.returned (.int .u32 r)∧w=w'):
    Calls Tryz.prog 184 #[.int .u32 x,.int .i64 n] w fun e w'=>e=.returned (.int .u32 r)∧w=w':=by
  go_enter Tryz.func184,Tryz.ntmps184
  go_wp2_with fail
  refine (c _).mono ?_
  rintro e w' ⟨rfl,rfl⟩
  go_wp2
  go_ret
  exact ⟨rfl,rfl⟩
theorem right_ok (X n:Nat) (hX:X<2 ^ 32) (h1:1≤n) (h2:n<32) (w:World):Calls Tryz.prog 184 #[.int .u32 (X:Int),.int .i64 (n:Int)] w fun e w'=>e=.returned (.int .u32 ((ROTR n X:Nat):Int))∧w=w':=
  z4c X n _ w (fun w=>zeN X n hX h1 h2 w)
theorem zeO (x i j k a b c p r:Int) (w:World) (e1:bits .xor .u32 a b=p) (e2:bits .xor .u32 p c=r)
    (ca:∀ w,Calls Tryz.prog 184 #[.int .u32 x,.int .i64 i] w fun e w'=>e=.returned (.int .u32 a)∧w=w')
    (cb:∀ w,Calls Tryz.prog 184 #[.int .u32 x,.int .i64 j] w fun e w'=>e=.returned (.int .u32 b)∧w=w')
    (cc:∀ w,Calls Tryz.prog 184 #[.int .u32 x,.int .i64 k] w fun e w'=>e=.returned (.int .u32 c)∧w=w'):
    Calls Tryz.prog 161 #[.int .u32 x,.int .i64 i,.int .i64 j,.int .i64 k] w fun e w'=>e=.returned (.int .u32 r)∧w=w':=by
  go_enter Tryz.func161,Tryz.ntmps161
  go_wp2_with fail
  refine (ca _).mono ?_
  rintro e w' ⟨rfl,rfl⟩
  clear ca
  go_wp2_with fail
  refine (cb _).mono ?_
  rintro e w' ⟨rfl,rfl⟩
  clear cb
  go_wp2_with fail
  refine (cc _).mono ?_
  rintro e w' ⟨rfl,rfl⟩
  clear cc
  go_wp2
  go_ret
  exact ⟨rfl,rfl⟩
theorem zbE (X i j k:Nat) (hX:X<2 ^ 32) (hi:1≤i∧i<32) (hj:1≤j∧j<32) (hk:1≤k∧k<32) (w:World):Calls Tryz.prog 161 #[.int .u32 (X:Int),.int .i64 (i:Int),.int .i64 (j:Int),.int .i64 (k:Int)] w fun e w'=>e=.returned (.int .u32 ((MIX i j k X:Nat):Int))∧w=w':=
  zeO X i j k _ _ _ _ _ w (z3d (z1I (by omega) hX) (z1I (by omega) hX)) (z3d (Nat.xor_lt_two_pow (z1I (by omega) hX) (z1I (by omega) hX)) (z1I (by omega) hX)) (fun w=>right_ok X i hX hi.1 hi.2 w) (fun w=>right_ok X j hX hj.1 hj.2 w) (fun w=>right_ok X k hX hk.1 hk.2 w)
theorem zdm {X:Nat} (hX:X<2 ^ 32):4294967295 ^^^ X=4294967295 - X:=by
  apply Nat.eq_of_testBit_eq
  intro i
  have e:(4294967295:Nat)=2 ^ 32 - 1:=rfl
  have e2:4294967295 - X=2 ^ 32 - (X+1):=by omega
  rw [e2,Nat.testBit_two_pow_sub_succ hX,Nat.testBit_xor,e,Nat.testBit_two_pow_sub_one]
  by_cases h:i<32
  · simp [h]
  · have:X.testBit i=false:=Nat.testBit_lt_two_pow (Nat.lt_of_lt_of_le hX (Nat.pow_le_pow_right (by decide) (by omega)))
    simp [h,this]
theorem zgg {X:Nat} (hX:X<2 ^ 32):bits .xor .u32 IntKind.u32.max (X:Int)=((4294967295 - X:Nat):Int):=by
  rw [← zdm hX]
  exact z3d (a:=4294967295) (by decide) hX
theorem zap (x y z p q s r:Int) (w:World) (e1:bits .and .u32 x y=p) (e2:bits .xor .u32 IntKind.u32.max x=q) (e3:bits .and .u32 q z=s) (e4:bits .xor .u32 p s=r):
    Calls Tryz.prog 162 #[.int .u32 x,.int .u32 y,.int .u32 z] w fun e w'=>e=.returned (.int .u32 r)∧w=w':=by
  go_enter Tryz.func162,Tryz.ntmps162
  go_wp2
  go_ret
  exact ⟨rfl,rfl⟩
theorem zbF (X Y Z:Nat) (hX:X<2 ^ 32) (hY:Y<2 ^ 32) (hZ:Z<2 ^ 32) (w:World):Calls Tryz.prog 162 #[.int .u32 (X:Int),.int .u32 (Y:Int),.int .u32 (Z:Int)] w fun e w'=>e=.returned (.int .u32 ((CHO X Y Z:Nat):Int))∧w=w':=
  zap X Y Z _ ((4294967295 - X:Nat):Int) _ _ w (z5w hX hY) (zgg hX) (z5w (by omega) hZ) (z3d (Nat.lt_of_le_of_lt Nat.and_le_left hX) (Nat.lt_of_le_of_lt Nat.and_le_right hZ))
theorem z7w (x y z p q s t r:Int) (w:World) (e1:bits .and .u32 x y=p) (e2:bits .and .u32 x z=q) (e3:bits .xor .u32 p q=s) (e4:bits .and .u32 y z=t) (e5:bits .xor .u32 s t=r):
    Calls Tryz.prog 163 #[.int .u32 x,.int .u32 y,.int .u32 z] w fun e w'=>e=.returned (.int .u32 r)∧w=w':=by
  go_enter Tryz.func163,Tryz.ntmps163
  go_wp2
  go_ret
  exact ⟨rfl,rfl⟩
theorem z8t (X Y Z:Nat) (hX:X<2 ^ 32) (hY:Y<2 ^ 32) (hZ:Z<2 ^ 32) (w:World):Calls Tryz.prog 163 #[.int .u32 (X:Int),.int .u32 (Y:Int),.int .u32 (Z:Int)] w fun e w'=>e=.returned (.int .u32 ((MAJ X Y Z:Nat):Int))∧w=w':=
  z7w X Y Z _ _ _ _ _ w (z5w hX hY) (z5w hX hZ) (z3d (Nat.lt_of_le_of_lt Nat.and_le_left hX) (Nat.lt_of_le_of_lt Nat.and_le_left hX)) (z5w hY hZ) (z3d (Nat.xor_lt_two_pow (Nat.lt_of_le_of_lt Nat.and_le_left hX) (Nat.lt_of_le_of_lt Nat.and_le_left hX)) (Nat.lt_of_le_of_lt Nat.and_le_left hY))
theorem z3C {P:Program} {f:FuncId} {args:Array Value} {w:World} {n:Nat} {v:Value}
    (h:Calls P f args (w.drewN n) fun e w'=>e=.returned v∧w.drewN n=w'):Calls P f args (w.drewN n) fun e w''=>e=.returned v∧∃ m,w''=w.drewN m:=
  h.mono fun _ _ ⟨he,hm⟩=>⟨he,n,hm.symm⟩
theorem zbG (x i j k c p r:Int) (R:Int→Int) (w:World) (hi:1≤i∧i<32) (hj:1≤j∧j<32) (hk:0≤k) (e1:bits .xor .u32 (R i) (R j)=p) (e2:bits .xor .u32 p c=r) (e3:x / 2 ^ min k.toNat 32=c)
    (ca:∀ n:Int,1≤n∧n<32→∀ w,Calls Tryz.prog 184 #[.int .u32 x,.int .i64 n] w fun e w'=>e=.returned (.int .u32 (R n))∧w=w'):
    Calls Tryz.prog 183 #[.int .u32 x,.int .i64 i,.int .i64 j,.int .i64 k] w fun e w'=>e=.returned (.int .u32 r)∧∃ m,w'=w.drewN m:=by
  go_enter Tryz.func183,Tryz.ntmps183
  go_wp2
  go_quiet ((go_at_call 184;exact z3C (ca _ (by assumption) _)))
  go_wp2
  go_ret
  exact ⟨rfl,_,rfl⟩
theorem z7x (X i j k:Nat) (hX:X<2 ^ 32) (hi:1≤i∧i<32) (hj:1≤j∧j<32) (hk:k<32) (w:World):Calls Tryz.prog 183 #[.int .u32 (X:Int),.int .i64 (i:Int),.int .i64 (j:Int),.int .i64 (k:Int)] w fun e w'=>e=.returned (.int .u32 ((z2C i j k X:Nat):Int))∧∃ m,w'=w.drewN m:=by
  refine zbG X i j k ((X / 2 ^ k:Nat):Int) ((ROTR i X ^^^ ROTR j X:Nat):Int) _ (fun n=>((ROTR n.toNat X:Nat):Int)) w (by omega) (by omega) (by omega) ?_ ?_ ?_ ?_
  · simp only [Int.toNat_natCast]
    exact z3d (z1I (by omega) hX) (z1I (by omega) hX)
  · exact z3d (Nat.xor_lt_two_pow (z1I (by omega) hX) (z1I (by omega) hX)) (Nat.lt_of_le_of_lt (Nat.div_le_self _ _) hX)
  · rw [Int.toNat_natCast,show min k 32=k by omega,z2N]
  · intro n hn w
    obtain ⟨N,rfl⟩:∃ N:Nat,n=(N:Int):=⟨n.toNat,by omega⟩
    exact right_ok X N hX (by omega) (by omega) w
theorem zdn (b o n c:Nat) (v0 v1 v2 v3 x0 x1 x2 y1 y2 r:Int) (w:World) (hn:4≤n) (c0:w.cell? ⟨b,o,none⟩=some (.int .u8 v0)) (c1:w.cell? ⟨b,o+1,none⟩=some (.int .u8 v1)) (c2:w.cell? ⟨b,o+2,none⟩=some (.int .u8 v2)) (c3:w.cell? ⟨b,o+3,none⟩=some (.int .u8 v3))
    (e0:v0 % 4294967296*16777216 % 4294967296=x0) (e1:v1 % 4294967296*65536 % 4294967296=x1) (e2:v2 % 4294967296*256 % 4294967296=x2) (f1:bits .or .u32 x0 x1=y1) (f2:bits .or .u32 y1 x2=y2) (f3:bits .or .u32 y2 (v3 % 4294967296)=r):
    Calls Tryz.prog 182 #[.slice (some ⟨b,o,none⟩) n c] w fun e w'=>e=.returned (.int .u32 r)∧∃ m,w'=w.drewN m:=by
  have h0:(0:Int)<(n:Int):=by omega
  have h1:(1:Int)<(n:Int):=by omega
  have h2:(2:Int)<(n:Int):=by omega
  have h3:(3:Int)<(n:Int):=by omega
  clear hn
  go_enter Tryz.func182,Tryz.ntmps182
  go_wp2
  go_quiet (fail)
  go_wp2
  go_ret
  exact ⟨rfl,_,rfl⟩
theorem zaq {a b k:Nat} (ha:a % 2 ^ k=0) (hb:b<2 ^ k) (h1:a<2 ^ 32) (h2:b<2 ^ 32):bits .or .u32 (a:Int) (b:Int)=((a+b:Nat):Int):=by
  rw [or32 h1 h2,nat_join k a b ha hb]
theorem z9t (b o n c:Nat) (s:Nat→Nat) (h:∀ i,s i<256) (i:Nat) (w:World) (hn:4≤n) (hc:∀ j,j<4→w.cell? ⟨b,o+j,none⟩=some (.int .u8 (s (i+j):Int))):
    Calls Tryz.prog 182 #[.slice (some ⟨b,o,none⟩) n c] w fun e w'=>e=.returned (.int .u32 ((z0b s i:Nat):Int))∧∃ m,w'=w.drewN m:=by
  have h0:=h i;have h1:=h (i+1);have h2:=h (i+2);have h3:=h (i+3)
  have w3:((s (i+3):Nat):Int) % 4294967296=((s (i+3):Nat):Int):=by omega
  refine zdn b o n c (s i:Nat) (s (i+1):Nat) (s (i+2):Nat) (s (i+3):Nat) ((s i*16777216:Nat):Int) ((s (i+1)*65536:Nat):Int) ((s (i+2)*256:Nat):Int) _ _ _ w hn (hc 0 (by omega)) (hc 1 (by omega)) (hc 2 (by omega)) (hc 3 (by omega)) ?_ ?_ ?_ (zaq (k:=24) ?_ ?_ ?_ ?_) (zaq (k:=16) ?_ ?_ ?_ ?_) (by rw [w3];exact zaq (k:=8) (by omega) (by omega) (by omega) (by omega))
  all_goals omega
end Go.Proofs.YtjkjlblongeljaaGreatDoor.HX
