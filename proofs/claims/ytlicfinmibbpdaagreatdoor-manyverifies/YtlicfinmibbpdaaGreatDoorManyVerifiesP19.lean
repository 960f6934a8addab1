/- Texts of ManyVerifies, one behind the other: ManyPlain, ProofSlices, ManyClimbPlain, ManySplit, ManyNext, ManyMup. -/
import Derived.BigQuiet
import Derived.Deep.Cut
import Derived.Test.YtlicfinmibbpdaaGreatDoorManyVerifiesP18
namespace Go.Proofs.YtlicfinmibbpdaaGreatDoor
set_option maxRecDepth 100000
def NEED:Nat→Nat→List Nat→List Nat
  | h,k,[]=>[PLC h k]
  | 0,_,_ :: _=>[]
  | h+1,k,x :: l=>NEED h (2*k) ((x :: l).filter fun y=>decide (y<(2*k+1)*2 ^ h)) ++ NEED h (2*k+1) ((x :: l).filter fun y=>!decide (y<(2*k+1)*2 ^ h))
theorem z0P (h k:Nat):NEED h k []=[PLC h k]:=by cases h <;> rfl
theorem z4e (h k x:Nat) (l:List Nat):NEED (h+1) k (x :: l)=NEED h (2*k) ((x :: l).filter fun y=>decide (y<(2*k+1)*2 ^ h)) ++ NEED h (2*k+1) ((x :: l).filter fun y=>!decide (y<(2*k+1)*2 ^ h)):=rfl
theorem RANKS.take:∀ {L:List Nat} {t r:Nat},RANKS L t r→L.take r=L.filter fun y=>decide (y<t)
  | [],t,r,_=>by simp
  | x :: l,t,0,h=>by
    rw [List.take_zero]
    symm
    rw [List.filter_eq_nil_iff]
    intro y hy
    obtain ⟨i,hi⟩:=List.getElem?_of_mem hy
    have:=h.hi i y (Nat.zero_le _) hi
    simp
    omega
  | x :: l,t,r+1,h=>by
    have hx:x<t:=h.lo 0 x (by omega) rfl
    have h':RANKS l t r:=⟨by have:=h.le;simp at this;omega,fun i y hi hy=>h.lo (i+1) y (by omega) (by simpa using hy),fun i y hi hy=>h.hi (i+1) y (by omega) (by simpa using hy)⟩
    rw [List.take_succ_cons,List.filter_cons_of_pos (by simpa using hx),h'.take]
theorem RANKS.drop:∀ {L:List Nat} {t r:Nat},RANKS L t r→L.drop r=L.filter fun y=>!decide (y<t)
  | [],t,r,_=>by simp
  | x :: l,t,0,h=>by
    rw [List.drop_zero]
    symm
    rw [List.filter_eq_self]
    intro y hy
    obtain ⟨i,hi⟩:=List.getElem?_of_mem hy
    have:=h.hi i y (Nat.zero_le _) hi
    simp
    omega
  | x :: l,t,r+1,h=>by
    have hx:x<t:=h.lo 0 x (by omega) rfl
    have h':RANKS l t r:=⟨by have:=h.le;simp at this;omega,fun i y hi hy=>h.lo (i+1) y (by omega) (by simpa using hy),fun i y hi hy=>h.hi (i+1) y (by omega) (by simpa using hy)⟩
    rw [List.drop_succ_cons,List.filter_cons_of_neg (by simpa using hx),h'.drop]
theorem RISES.take {L:List Nat} (h:RISES L) (r:Nat):RISES (L.take r):=fun i j x y hij hx hy=>by
  rw [List.getElem?_take] at hx hy
  split at hx
  · split at hy
    · exact h i j x y hij hx hy
    · cases hy
  · cases hx
theorem RISES.drop {L:List Nat} (h:RISES L) (r:Nat):RISES (L.drop r):=fun i j x y hij hx hy=>by
  rw [List.getElem?_drop] at hx hy
  exact h (r+i) (r+j) x y (by omega) hx hy
theorem z2z {h k r:Nat} {L:List Nat} (hL:L≠[]) (hr:RANKS L ((2*k+1)*2 ^ h) r):NEED (h+1) k L=NEED h (2*k) (L.take r) ++ NEED h (2*k+1) (L.drop r):=by
  cases L with
  | nil=>exact absurd rfl hL
  | cons x l=>rw [z4e,hr.take,hr.drop]
def z04:List (Nat × Nat)→List Nat→List Nat
  | [],_=>[]
  | (h,k) :: ps,L=>NEED h k (L.filter fun y=>decide (y<(k+1)*2 ^ h)) ++ z04 ps (L.filter fun y=>!decide (y<(k+1)*2 ^ h))
theorem z2a {h k r:Nat} {L:List Nat} (ps:List (Nat × Nat)) (hr:RANKS L ((k+1)*2 ^ h) r):z04 ((h,k) :: ps) L=NEED h k (L.take r) ++ z04 ps (L.drop r):=by
  rw [z04,hr.take,hr.drop]
theorem z1R (p:Nat→Bool):∀ l:List Nat,(l.filter p).length+(l.filter fun y=>!p y).length=l.length
  | []=>rfl
  | x :: l=>by
    have:=z1R p l
    cases h:p x <;> simp [List.filter,h] <;> omega
theorem z3O:∀ (h k:Nat) (L:List Nat),L≠[]→(NEED h k L).length≤L.length*h
  | _,_,[],hL=>absurd rfl hL
  | 0,_,_ :: _,_=>by simp [NEED]
  | h + 1,k,x :: l,_=>by
    rw [z4e,List.length_append]
    generalize hA:((x :: l).filter fun y=>decide (y<(2*k+1)*2 ^ h))=A
    generalize hB:((x :: l).filter fun y=>!decide (y<(2*k+1)*2 ^ h))=B
    have hAB:A.length+B.length=(x :: l).length:=by
      rw [← hA,← hB]
      exact z1R _ _
    have h1:(NEED h (2*k) A).length≤A.length*h+(if A.length=0 then 1 else 0):=by
      cases A with
      | nil=>rw [z0P];simp
      | cons y m=>exact Nat.le_trans (z3O h (2*k) (y :: m) (by simp)) (Nat.le_add_right _ _)
    have h2:(NEED h (2*k+1) B).length≤B.length*h+(if B.length=0 then 1 else 0):=by
      cases B with
      | nil=>rw [z0P];simp
      | cons y m=>exact Nat.le_trans (z3O h (2*k+1) (y :: m) (by simp)) (Nat.le_add_right _ _)
    have h3:0<(x :: l).length:=by simp
    have h4:A.length*h+B.length*h=(x :: l).length*h:=by rw [← Nat.add_mul,hAB]
    rw [Nat.mul_succ]
    generalize (NEED h (2*k) A).length=u at *
    generalize (NEED h (2*k+1) B).length=v at *
    generalize A.length*h=p at *
    generalize B.length*h=q at *
    generalize (x :: l).length*h=s at *
    generalize (x :: l).length=m at *
    split at h1 <;> split at h2 <;> omega
theorem z6A (h k:Nat) (L:List Nat):(NEED h k L).length≤L.length*h+1:=by
  cases L with
  | nil=>rw [z0P];simp
  | cons x l=>exact Nat.le_trans (z3O h k (x :: l) (by simp)) (Nat.le_add_right _ _)
end Go.Proofs.YtlicfinmibbpdaaGreatDoor

namespace Go.Proofs.YtlicfinmibbpdaaGreatDoor
open Go.RowKit
set_option maxRecDepth 100000
def SLA (a:Option Addr) (c k:Nat):Option Addr:=match a with
  | none=>none
  | some ad=>if c=k then some ad else some ⟨ad.block,ad.off+k*32,none⟩
theorem z7M (b off n c k:Nat) (hk:k≤n) (hc:n≤c) (w:World):(Instr.slice 22 (.slice (some ⟨b,off,none⟩) n c) (some (.int .i64 (k:Int))) none none).run Tryz.prog w=.ok (.slice (SLA (some ⟨b,off,none⟩) c k) (n - k) (c - k)) w:=by
  have k1:(k:Int)≤(n:Int):=by omega
  by_cases e:c=k
  · obtain rfl:n=c:=by omega
    subst e
    simp [SLA,go_sem]
  · simp [SLA,e,go_sem,k1,Addr.add]
theorem Flat.behind {w:World} {a:Option Addr} {n c:Nat} {l:List Int} (h:Flat w a n l) (k:Nat) (hk:k≤n) (hc:n≤c):Flat w (SLA a c k) (n - k) (l.drop (32*k)):=by
  refine ⟨by rw [List.length_drop,h.1];omega,fun h0=>?_,fun x hx=>h.2.2 x (List.mem_of_mem_drop hx)⟩
  obtain ⟨b,o,rfl,hb,hcs⟩:=h.2.1 (by omega)
  have hck:¬ c=k:=by omega
  refine ⟨b,o+k*32,by simp [SLA,hck],hb,fun j hj=>?_⟩
  rw [show o+k*32+j=o+(32*k+j) by omega,hcs (32*k+j) (by omega)]
  congr 2
  rw [List.getD_eq_getElem?_getD,List.getD_eq_getElem?_getD,List.getElem?_drop]
end Go.Proofs.YtlicfinmibbpdaaGreatDoor

namespace Go.Proofs.YtlicfinmibbpdaaGreatDoor
set_option maxRecDepth 100000
def MUP (d:Int):Nat→Nat→List Nat→List Int→List Int→List Int × List Int × List Int
  | _,_,[],lv,nd=>(HSH nd 0,lv,nd.drop 32)
  | 0,_,_ :: _,lv,nd=>(HSH lv 0,lv.drop 32,nd)
  | h + 1,k,x :: l,lv,nd=>
    (z1V d (MUP d h (2*k) ((x :: l).filter fun y=>decide (y<(2*k+1)*2 ^ h)) lv nd).1
      (MUP d h (2*k+1) ((x :: l).filter fun y=>!decide (y<(2*k+1)*2 ^ h)) (MUP d h (2*k) ((x :: l).filter fun y=>decide (y<(2*k+1)*2 ^ h)) lv nd).2.1 (MUP d h (2*k) ((x :: l).filter fun y=>decide (y<(2*k+1)*2 ^ h)) lv nd).2.2).1,
     (MUP d h (2*k+1) ((x :: l).filter fun y=>!decide (y<(2*k+1)*2 ^ h)) (MUP d h (2*k) ((x :: l).filter fun y=>decide (y<(2*k+1)*2 ^ h)) lv nd).2.1 (MUP d h (2*k) ((x :: l).filter fun y=>decide (y<(2*k+1)*2 ^ h)) lv nd).2.2).2)
theorem zeq (d:Int) (h k:Nat) (lv nd:List Int):MUP d h k [] lv nd=(HSH nd 0,lv,nd.drop 32):=by cases h <;> rfl
theorem z7N {d:Int} {h k r:Nat} {L:List Nat} {lv nd:List Int} (hL:L≠[]) (hr:RANKS L ((2*k+1)*2 ^ h) r):
    MUP d (h+1) k L lv nd=(z1V d (MUP d h (2*k) (L.take r) lv nd).1 (MUP d h (2*k+1) (L.drop r) (MUP d h (2*k) (L.take r) lv nd).2.1 (MUP d h (2*k) (L.take r) lv nd).2.2).1,(MUP d h (2*k+1) (L.drop r) (MUP d h (2*k) (L.take r) lv nd).2.1 (MUP d h (2*k) (L.take r) lv nd).2.2).2):=by
  cases L with
  | nil=>exact absurd rfl hL
  | cons x l=>rw [hr.take,hr.drop];rfl
theorem z2I:∀ {L:List Nat},RISES L→∀ t,∃ r,RANKS L t r
  | [],_,t=>⟨0,by simp,(fun i x h=>by omega),fun i x _ h=>by simp at h⟩
  | x :: l,hR,t=>by
    by_cases hx:x<t
    · obtain ⟨r,hr⟩:=z2I (L:=l) (fun i j a b hij ha hb=>hR (i+1) (j+1) a b (by omega) (by simpa using ha) (by simpa using hb)) t
      refine ⟨r+1,by have:=hr.le;simp;omega,fun i y hi hy=>?_,fun i y hi hy=>?_⟩
      · cases i with
        | zero=>simp at hy;omega
        | succ i=>exact hr.lo i y (by omega) (by simpa using hy)
      · cases i with
        | zero=>omega
        | succ i=>exact hr.hi i y (by omega) (by simpa using hy)
    · refine ⟨0,Nat.zero_le _,(fun i y h=>by omega),fun i y _ hy=>?_⟩
      cases i with
      | zero=>simp at hy;omega
      | succ i=>have:=hR 0 (i+1) x y (by omega) rfl hy;omega
def UNR (h k:Nat) (L:List Nat):Prop:=RISES L∧∀ x∈L,k*2 ^ h≤x∧x<(k+1)*2 ^ h
theorem UNR.leaf {k x:Nat} {l:List Nat} (h:UNR 0 k (x :: l)):l=[]:=by
  cases l with
  | nil=>rfl
  | cons y m=>
    have h1:=h.1 0 1 x y (by omega) rfl rfl
    have h2:=h.2 x (by simp)
    have h3:=h.2 y (by simp)
    simp at h2 h3
    omega
theorem z4f (h k:Nat):(2*k)*2 ^ h=k*2 ^ (h+1)∧(2*k+1+1)*2 ^ h=(k+1)*2 ^ (h+1):=by
  rw [Nat.pow_succ]
  constructor
  · rw [Nat.mul_comm 2 k,Nat.mul_assoc,Nat.mul_comm 2]
  · rw [show 2*k+1+1=2*(k+1) by omega,Nat.mul_comm 2 (k+1),Nat.mul_assoc,Nat.mul_comm 2]
theorem UNR.left {h k r:Nat} {L:List Nat} (hL:UNR (h+1) k L) (hr:RANKS L ((2*k+1)*2 ^ h) r):UNR h (2*k) (L.take r):=by
  refine ⟨hL.1.take r,fun x hx=>?_⟩
  have h1:=hL.2 x (List.mem_of_mem_take hx)
  obtain ⟨i,hi⟩:=List.getElem?_of_mem hx
  rw [List.getElem?_take] at hi
  split at hi
  · rename_i hlt
    have h2:=hr.lo i x hlt hi
    have h3:=z4f h k
    omega
  · cases hi
theorem UNR.right {h k r:Nat} {L:List Nat} (hL:UNR (h+1) k L) (hr:RANKS L ((2*k+1)*2 ^ h) r):UNR h (2*k+1) (L.drop r):=by
  refine ⟨hL.1.drop r,fun x hx=>?_⟩
  have h1:=hL.2 x (List.mem_of_mem_drop hx)
  obtain ⟨i,hi⟩:=List.getElem?_of_mem hx
  rw [List.getElem?_drop] at hi
  have h2:=hr.hi (r+i) x (by omega) hi
  have h3:=z4f h k
  omega
def HSS (n:Nat) (l:List Int):Prop:=l.length=32*n∧∀ x∈l,0≤x∧x≤255
theorem HSS.first {n:Nat} {l:List Int} (h:HSS n l) (hn:0<n):IsH (HSH l 0):=by
  refine ⟨?_,fun x hx=>h.2 x (List.mem_of_mem_drop (List.mem_of_mem_take hx))⟩
  unfold HSH
  rw [List.length_take,List.length_drop,h.1]
  omega
theorem HSS.rest {n:Nat} {l:List Int} (h:HSS n l):HSS (n - 1) (l.drop 32):=⟨by rw [List.length_drop,h.1];omega,fun x hx=>h.2 x (List.mem_of_mem_drop hx)⟩
theorem z1Z (d:Int):∀ (h k:Nat) (L:List Nat) (lv nd:List Int) (i j:Nat),UNR h k L→HSS i lv→HSS j nd→L.length≤i→(NEED h k L).length≤j→
    IsH (MUP d h k L lv nd).1∧HSS (i - L.length) (MUP d h k L lv nd).2.1∧HSS (j - (NEED h k L).length) (MUP d h k L lv nd).2.2:=by
  intro h
  induction h with
  | zero=>
    intro k L lv nd i j hU hi hj h1 h2
    cases L with
    | nil=>rw [z0P] at h2 ⊢;exact ⟨hj.first h2,hi,hj.rest⟩
    | cons x l=>
      obtain rfl:=hU.leaf
      exact ⟨hi.first h1,hi.rest,hj⟩
  | succ h ih=>
    intro k L lv nd i j hU hi hj h1 h2
    by_cases hL:L=[]
    · subst hL
      rw [z0P] at h2 ⊢
      exact ⟨hj.first h2,hi,hj.rest⟩
    · obtain ⟨r,hr⟩:∃ r,RANKS L ((2*k+1)*2 ^ h) r:=z2I hU.1 _
      have hN:=z2z hL hr
      rw [hN,List.length_append] at h2
      have hle:=hr.le
      have q1:=ih (2*k) (L.take r) lv nd i j (hU.left hr) hi hj (by rw [List.length_take];omega) (by omega)
      have q2:=ih (2*k+1) (L.drop r) _ _ _ _ (hU.right hr) q1.2.1 q1.2.2 (by rw [List.length_take,List.length_drop];omega) (by omega)
      rw [z7N hL hr,hN,List.length_append]
      refine ⟨z5d _ _ _,?_,?_⟩
      · have:=q2.2.1
        rwa [List.length_take,List.length_drop,show i - min r L.length - (L.length - r)=i - L.length by omega] at this
      · have:=q2.2.2
        rwa [Nat.sub_sub] at this
def MUPS (d:Int):List (Nat × Nat)→List Nat→List Int→List Int→List Int
  | [],_,_,_=>[]
  | (h,k) :: ps,L,lv,nd=>(MUP d h k (L.filter fun y=>decide (y<(k+1)*2 ^ h)) lv nd).1 ++ MUPS d ps (L.filter fun y=>!decide (y<(k+1)*2 ^ h)) (MUP d h k (L.filter fun y=>decide (y<(k+1)*2 ^ h)) lv nd).2.1 (MUP d h k (L.filter fun y=>decide (y<(k+1)*2 ^ h)) lv nd).2.2
theorem z6B {d:Int} {h k r:Nat} {L:List Nat} {lv nd:List Int} (ps:List (Nat × Nat)) (hr:RANKS L ((k+1)*2 ^ h) r):MUPS d ((h,k) :: ps) L lv nd=(MUP d h k (L.take r) lv nd).1 ++ MUPS d ps (L.drop r) (MUP d h k (L.take r) lv nd).2.1 (MUP d h k (L.take r) lv nd).2.2:=by
  rw [MUPS,hr.take,hr.drop]
end Go.Proofs.YtlicfinmibbpdaaGreatDoor

namespace Go.Proofs.YtlicfinmibbpdaaGreatDoor
open Go.RowKit
set_option maxRecDepth 100000
def TOLD (S P:List Nat→World→Prop) (X:List PanicEntry) (acc l:List Nat) (e:Ending) (w':World):Prop:=(e=.returned (.tuple #[])∧S (acc ++ l) w')∨∃ pre p,(pre ++ [p]) <+: (acc ++ l)∧e=.panicked X∧P pre w'
structure SPLIT (w w':World) (a:Option Addr) (n c:Nat) (L:List Nat) (t r:Nat) (a':Option Addr):Prop where
  rank:RANKS L t r
  lies:NUML w a' (L.drop r)
  nil:a'=none→c - r=0
  block:∀ x,a'=some x→∃ y,a=some y∧x.block=y.block
  spot:∀ x,a'=some x→x.spot=none
  below:Below w.heap.size w w'
set_option maxHeartbeats 1000000 in
theorem z1H (h k:Nat) (hN:Node h k) (a:Option Addr) (n c:Nat) (L:List Nat) (hl:L.length=n) (hn:n<2 ^ 40) (hR:RISES L) (hc:n≤c) (hnil:a=none→c=0) (hsp:∀ x,a=some x→x.spot=none) (w:World) (hL:NUML w a L):
    Calls Tryz.prog 70 #[.slice a n c,.int .u64 ((PLC h k:Nat):Int)] w fun e w'=>∃ r a',e=.returned (.tuple #[.slice a r c,.slice a' (n - r) (c - r)])∧SPLIT w w' a n c L ((k+1)*2 ^ h) r a':=by
  have cu:=zcD h k hN w
  obtain ⟨t,ht⟩:∃ t,(k+1)*2 ^ h=t:=⟨_,rfl⟩
  rw [ht] at cu ⊢
  have HA:Aside (L.length=n∧n<2 ^ 40∧RISES L∧NUML w a L∧n≤c):=⟨hl,hn,hR,hL,hc⟩
  have NI:Aside (a=none→c=0):=hnil
  have SP:Aside (∀ x,a=some x→x.spot=none):=hsp
  clear hl hn hR hL hc hnil hsp ht
  go_enter Tryz.func70,Tryz.ntmps70
  go_wp2_with fail
  refine cu.mono ?_
  rintro e w1 ⟨rfl,hb1⟩
  clear cu
  have cs:=zbG a n c L t HA.out.1 HA.out.2.1 HA.out.2.2.1 w1 (fun h0=>by
    obtain ⟨b,o,e,hl,hc⟩:=HA.out.2.2.2.1 h0
    exact ⟨b,o,e,Nat.lt_of_lt_of_le hl hb1.size,fun i x hx=>(hb1.cell (p:=⟨b,o+i,none⟩) hl).trans (hc i x hx)⟩)
  have B1:Aside (Below w.heap.size w w1):=hb1
  clear hb1
  go_wp2_with fail
  refine cs.mono ?_
  rintro e w2 ⟨r,f,rfl,hr,rfl⟩
  clear cs
  have hrn:r≤n:=by have:=hr.le;have:=HA.out.1;omega
  have y1:(r:Int)≤(c:Int):=by have:=HA.out.2.2.2.2;omega
  have y2:(r:Int)≤(n:Int):=by omega
  have y3:(0:Int)≤(r:Int):=by omega
  have RK:Aside (RANKS L t r):=hr
  clear hr
  cases a with
  | none=>
    have h0:=NI.out rfl
    subst h0
    have hr0:r=0:=by omega
    subst hr0
    have hn0:n=0:=by have:=HA.out.2.2.2.2;omega
    subst hn0
    have FN:Aside (∀ W,Below w.heap.size w W→SPLIT w W none 0 0 L t 0 none):=fun W hb=>⟨RK.out,fun h=>by have:=HA.out.1;simp at h;omega,fun _=>rfl,(fun x e=>by cases e),(fun x e=>by cases e),hb⟩
    clear HA NI SP RK
    go_upto_region 3 with fail
    go_quiet (fail)
    go_wp2
    go_ret2
    exact ⟨0,none,rfl,FN.out _ (below_drewN B1.out _)⟩
  | some x=>
    obtain ⟨b,o,sp⟩:=x
    have hsp:sp=none:=SP.out _ rfl
    subst hsp
    by_cases hcr:c=r
    · have FN:Aside (∀ W,Below w.heap.size w W→SPLIT w W (some ⟨b,o,none⟩) n c L t r (some ⟨b,o,none⟩)):=fun W hb=>⟨RK.out,fun h=>by have:=HA.out.1;have:=HA.out.2.2.2.2;simp at h;omega,(fun e=>by cases e),(fun x e=>⟨_,rfl,by cases e;rfl⟩),(fun x e=>by cases e;rfl),hb⟩
      clear HA NI SP RK
      go_upto_region 3 with fail
      go_quiet (fail)
      go_wp2
      go_ret2
      exact ⟨r,_,by rw [hcr,Nat.sub_self];rfl,FN.out _ (below_drewN B1.out _)⟩
    · have FN:Aside (∀ W,Below w.heap.size w W→SPLIT w W (some ⟨b,o,none⟩) n c L t r (some ⟨b,o+r,none⟩)):=fun W hb=>by
        refine ⟨RK.out,fun h=>?_,(fun e=>by cases e),(fun x e=>⟨_,rfl,by cases e;rfl⟩),(fun x e=>by cases e;rfl),hb⟩
        obtain ⟨b',o',e,hl,hc⟩:=HA.out.2.2.2.1 (by simp at h;omega)
        cases e
        refine ⟨b,o+r,rfl,hl,fun i x hx=>?_⟩
        rw [List.getElem?_drop] at hx
        rw [Nat.add_assoc]
        exact hc (r+i) x hx
      clear HA NI SP RK
      go_upto_region 3 with fail
      go_quiet (fail)
      go_wp2
      go_ret2
      exact ⟨r,_,rfl,FN.out _ (below_drewN B1.out _)⟩
end Go.Proofs.YtlicfinmibbpdaaGreatDoor

namespace Go.Proofs.YtlicfinmibbpdaaGreatDoor
open Go.RowKit
set_option maxRecDepth 100000
def BUT (bc:Nat) (w w':World):Prop:=(∀ q,q<w.heap.size→q≠bc→w'.heap[q]?=w.heap[q]?)∧Below bc w w'
theorem BUT.refl (bc:Nat) (w:World):BUT bc w w:=⟨fun _ _ _=>rfl,Below.refl _ _⟩
theorem BUT.trans {bc:Nat} {w w1 w2:World} (h:BUT bc w w1) (h':BUT bc w1 w2):BUT bc w w2:=
  ⟨fun q hq hne=>(h'.1 q (Nat.lt_of_lt_of_le hq h.2.size) hne).trans (h.1 q hq hne),h.2.trans h'.2⟩
theorem BUT.of_below {bc:Nat} {w w':World} (hb:Below w.heap.size w w') (hc:bc≤w.heap.size):BUT bc w w':=⟨fun q hq _=>hb.block q hq,hb.mono hc⟩
theorem Flat.but {bc:Nat} {w w':World} {a:Option Addr} {n:Nat} {l:List Int} (h:Flat w a n l) (hb:BUT bc w w') (ha:∀ x,a=some x→x.block≠bc):Flat w' a n l:=by
  refine ⟨h.1,fun h0=>?_,h.2.2⟩
  obtain ⟨b,o,e,hlt,hc⟩:=h.2.1 h0
  exact ⟨b,o,e,Nat.lt_of_lt_of_le hlt hb.2.size,fun j hj=>(World.cell?_of_block (w:=w) (by exact hb.1 b hlt (ha _ e))).trans (hc j hj)⟩
theorem z1X {fn:Func} {p:Tmp} {ty:TypeId} (h:fn.results=#[.cell p ty]) (tmps:Array Value) (w:World) (g:Nat) (t:TypeId) (cs:Array Value) (fr:Nat × Nat) (k:Nat) (el:TypeId)
    (hp:tmps.getD p undef=.pointer (some ⟨g,0,none⟩)) (hg:w.heap[g]?=some (.cells cs t fr))
    (hu:Tryz.prog.underlying ty=some (.array k el)) (hi:(Tryz.prog.info? ty).map (·.size)=some cs.size):
    (results fn tmps).run Tryz.prog w=.ok (.agg cs) w:=by
  have hp':tmps[p]?.getD undef=.pointer (some ⟨g,0,none⟩):=by simpa using hp
  simp [results,h,hp',asAddr,run_loadVar_row w g t ty cs fr (.array k el) hg hu rfl hi]
theorem z4g (b off n c:Nat) (hk:0<n) (hc:n≤c) (w:World):(Instr.slice 22 (.slice (some ⟨b,off,none⟩) n c) (some (.int .i64 1)) none none).run Tryz.prog w=.ok (.slice (SLA (some ⟨b,off,none⟩) c 1) (n - 1) (c - 1)) w:=z7M b off n c 1 hk hc w
set_option maxHeartbeats 4000000 in
theorem z9t (bc i b o n c:Nat) (l:List Int) (cs:Array Value) (w:World) (hH:Has w bc cs 113) (hi:cs[i]?=some (.slice (some ⟨b,o,none⟩) n c)) (hn:0<n) (hc:n≤c) (hb:b≠bc) (hF:Flat w (some ⟨b,o,none⟩) n l):
    Calls Tryz.prog 109 #[.pointer (some ⟨bc,i,none⟩)] w fun e w'=>e=.returned (.agg (z00 (HSH l 0)).toArray)∧Has w' bc (cs.setIfInBounds i (.slice (SLA (some ⟨b,o,none⟩) c 1) (n - 1) (c - 1))) 113∧BUT bc w w':=by
  have y32:=z0U hF.1 hn
  have hbl:=hH.lt
  obtain ⟨W0,hW0⟩:∃ W0,w.alloc (.cells ZARR 38)=W0:=⟨_,rfl⟩
  obtain ⟨b2,hb2⟩:∃ b2,w.heap.size=b2:=⟨_,rfl⟩
  have R0:Aside (Below w.heap.size w W0∧Has W0 b2 (z00 ZND).toArray 38∧Has W0 bc cs 113∧bc<b2∧w.heap.size=b2):=by
    rw [← hW0,← hb2]
    exact ⟨(Below.refl _ _).alloc (Nat.le_refl _) _,by rw [z0Z];exact Has.new _ _ _,hH.alloc _,hbl,rfl⟩
  have hlt:(0:Int)<(n:Int):=by omega
  have hat:W0.rangeAt b (o+0*32) (z00 (HSH l 0)):=(hF.below R0.out.1).at hn
  have x0:W0.cell? ⟨bc,i,none⟩=some (.slice (some ⟨b,o,none⟩) n c):=(R0.out.2.2.1.cell i).trans hi
  have hsl:Aside (∀ w,(Instr.slice 22 (.slice (some ⟨b,o,none⟩) n c) (some (.int .i64 1)) none none).run Tryz.prog w=.ok (.slice (SLA (some ⟨b,o,none⟩) c 1) (n - 1) (c - 1)) w):=z4g b o n c hn hc
  have B:Aside (b≠bc):=hb
  have HI:Aside (cs[i]?=some (.slice (some ⟨b,o,none⟩) n c)):=hi
  clear hF hn hc hH hbl hb hi
  generalize HSH l 0=Y at *
  generalize SLA (some ⟨b,o,none⟩) c 1=a' at *
  generalize n - 1=n' at *
  generalize c - 1=c' at *
  go_enter Tryz.func109,Tryz.ntmps109
  go_upto_region 2 with (first
    | (refine wpList_load_mid rfl 38 (.tmp 7) rfl b (o+0*32) rfl (z00 Y) _ hat Tryz.underlying38 rfl (z0j y32) ?_)
    | (refine wpList_store_row rfl 38 (.tmp 3) (.tmp 8) rfl _ _ rfl rfl 38 _ (Has.new W0 _ _) (z05 y32) (by simp [z00,y32]) (z0l Y) ?_;rw [World.setRow_alloc_new]))
  clear hW0 hat x0 hlt
  have R1:Aside (Below w.heap.size w (W0.alloc (.cells (z00 Y).toArray 38))∧Has (W0.alloc (.cells (z00 Y).toArray 38)) b2 (z00 ZND).toArray 38∧Has (W0.alloc (.cells (z00 Y).toArray 38)) W0.heap.size (z00 Y).toArray 38∧Has (W0.alloc (.cells (z00 Y).toArray 38)) bc cs 113∧b2<W0.heap.size):=⟨R0.out.1.alloc R0.out.1.size _,R0.out.2.1.alloc _,Has.new _ _ _,R0.out.2.2.1.alloc _,R0.out.2.1.lt⟩
  generalize W0.alloc (.cells (z00 Y).toArray 38)=W1 at *
  generalize W0.heap.size=b3 at *
  have x1:W1.cell? ⟨bc,i,none⟩=some (.slice (some ⟨b,o,none⟩) n c):=(R1.out.2.2.2.1.cell i).trans HI.out
  have f1:=R1.out.2.2.2.1.frozen i
  have hs2:=hsl.out
  obtain ⟨V,hV⟩:∃ V,Value.slice a' n' c'=V:=⟨_,rfl⟩
  have H3:Has (W1.setCell ⟨bc,i,none⟩ V) b3 (z00 Y).toArray 38:=R1.out.2.2.1.other (by show b3≠bc;have:=R1.out.2.2.2.2;have:=R0.out.2.2.2.1;omega) _
  have H2:Has (W1.setCell ⟨bc,i,none⟩ V) b2 (z00 ZND).toArray 38:=R1.out.2.1.other (by show b2≠bc;have:=R0.out.2.2.2.1;omega) _
  have FN:Aside (Has ((W1.setCell ⟨bc,i,none⟩ V).setRow b2 (z00 Y).toArray) bc (cs.setIfInBounds i V) 113∧BUT bc w ((W1.setCell ⟨bc,i,none⟩ V).setRow b2 (z00 Y).toArray)):=by
    have h1:=R0.out.2.2.2
    refine ⟨(R1.out.2.2.2.1.set i V).row_other (by omega) _,fun q hq hne=>?_,?_⟩
    · rw [setRow_other _ b2 q _ (by omega),Below.heap_setCell _ _ _ _ (by exact hne)]
      exact R1.out.1.block q hq
    · exact z06 ((R1.out.1.mono (by show bc≤_;omega)).setCell (p:=⟨bc,i,none⟩) (Nat.le_refl _) _) (by show bc≤_;omega) _
  subst hV
  clear hsl R0 R1 B HI
  go_wp2_with (first
    | (refine wpList_load_row rfl 38 (.tmp 3) rfl b3 rfl 38 (z00 Y).toArray (0,0) _ H3 Tryz.underlying38 rfl (z05 y32) ?_)
    | (refine wpList_store_row rfl 38 (.tmp 2) (.tmp 15) rfl _ _ rfl rfl 38 _ H2 (z05 y32) (by simp [z00,y32];rfl) (z0l Y) ?_))
  refine bodyPost_ret (v:=.agg (z00 Y).toArray) (z1X rfl _ _ b2 38 _ (0,0) _ _ rfl (Has.row H2 _) Tryz.underlying38 (z05 y32)) rfl ⟨rfl,FN.out⟩
end Go.Proofs.YtlicfinmibbpdaaGreatDoor

namespace Go.Proofs.YtlicfinmibbpdaaGreatDoor
open Go.RowKit
set_option maxRecDepth 100000
def MSTP (A B Y:List Int):Array Value:=(z00 A ++ z00 B ++ z00 Y).toArray
theorem z66 (l:List Int) (h:l.length=32):∃ f:Nat→Int,l=(List.range 32).map f:=by
  refine ⟨fun i=>l.getD i 0,List.ext_getElem (by simp [h]) fun i h1 h2=>?_⟩
  simp [List.getD_eq_getElem?_getD,List.getElem?_eq_getElem h1]
theorem z4X (A B Y:List Int) (lA:A.length=32) (lB:B.length=32) (lY:Y.length=32):Tryz.prog.built 73 [(0,.agg (z00 A).toArray),(1,.agg (z00 B).toArray),(2,.agg (z00 Y).toArray)]=some (MSTP A B Y):=by
  obtain ⟨f,rfl⟩:=z66 A lA
  obtain ⟨g,rfl⟩:=z66 B lB
  obtain ⟨h,rfl⟩:=z66 Y lY
  kernel_rfl
theorem z6C {A B Y:List Int} (lA:A.length=32) (lB:B.length=32) (lY:Y.length=32):(MSTP A B Y).size=96:=by simp [MSTP,z00,lA,lB,lY]
theorem z5E {A B Y:List Int} (lA:A.length=32) (lB:B.length=32) (lY:Y.length=32):(Tryz.prog.info? 73).map (·.size)=some (z00 A ++ z00 B ++ z00 Y).length:=by
  have e:(z00 A ++ z00 B ++ z00 Y).length=96:=by simp [z00,lA,lB,lY]
  have h:(Tryz.prog.info? 73).map (·.size)=some 96:=by kernel_rfl
  rw [e]
  exact h
theorem z3i {s:Sem Value} {w w':World} {v:Value} (h:s.run Tryz.prog w=.ok v w'):(do pure (Next.value (← s)):Sem Next).run Tryz.prog w=.ok (.value v) w':=by
  simp [h]
theorem z17 {s:Sem Unit} {w w':World} (h:s.run Tryz.prog w=.ok () w'):(do s;pure Next.skip:Sem Next).run Tryz.prog w=.ok .skip w':=by
  simp [h]
theorem z4Y {a:Act} (w:World) (o:Oper) (ho:o.op=.alloc 73):(execOp a.eval o).run Tryz.prog w=.ok (.value (.pointer (some ⟨w.heap.size,0,none⟩))) (w.alloc (.cells (MSTP ZND ZND ZND) 73)):=by
  simp [execOp,ho,go_sem]
  rfl
theorem z2b {w:World} {g:Nat} {A X:List Int} (h:Has w g (z00 A).toArray 38) (lA:A.length=32) (lX:X.length=32):(Instr.storeAt 38 (.pointer (some ⟨g,0,none⟩)) (.agg (z00 X).toArray)).run Tryz.prog w=.ok () (w.setRow g (z00 X).toArray):=by
  simp only [Instr.storeAt,Instr.sureAddr,Sem.run_bind,Sem.run_pure,Result.andThen]
  exact run_storeVar_row w g 38 38 (z00 A).toArray (z00 X).toArray h (z05 lX) (by simp [z00,lA,lX]) (z0l X)
theorem z8F {w:World} {g:Nat} {A B Y:List Int} (h:Has w g (MSTP ZND ZND ZND) 73) (lA:A.length=32) (lB:B.length=32) (lY:Y.length=32):(Instr.storeAt 73 (.pointer (some ⟨g,0,none⟩)) (.agg (MSTP A B Y))).run Tryz.prog w=.ok () (w.setRow g (MSTP A B Y)):=by
  simp only [Instr.storeAt,Instr.sureAddr,Sem.run_bind,Sem.run_pure,Result.andThen]
  exact run_storeVar_row w g 73 73 (MSTP ZND ZND ZND) (MSTP A B Y) h (by rw [z6C lA lB lY];exact (z5E lA lB lY).trans (by simp [z00,lA,lB,lY])) (by rw [z6C lA lB lY];rfl) (by
    rw [Array.all_eq_true_iff_forall_mem]
    intro v hv
    have hv:v∈z00 A ++ z00 B ++ z00 Y:=by simpa [MSTP] using hv
    rcases List.mem_append.1 hv with hv | hv
    · rcases List.mem_append.1 hv with hv | hv
      · exact z0K A v hv
      · exact z0K B v hv
    · exact z0K Y v hv)
theorem z2J {w:World} {g:Nat} {cs:Array Value} {a1 a2:Option Addr} {n1 n2 c1 c2:Nat} (h:Has w g cs 61) (hc:cs.size=2):(Instr.storeAt 61 (.pointer (some ⟨g,0,none⟩)) (.agg #[.slice a1 n1 c1,.slice a2 n2 c2])).run Tryz.prog w=.ok () (w.setRow g #[.slice a1 n1 c1,.slice a2 n2 c2]):=by
  simp only [Instr.storeAt,Instr.sureAddr,Sem.run_bind,Sem.run_pure,Result.andThen]
  exact run_storeVar_row w g 61 61 cs _ h (by kernel_rfl) (by rw [hc];rfl) (by simp [go_sem,Value.oneCell'])
theorem zbH {w:World} {g:Nat} {a1 a2:Option Addr} {n1 n2 c1 c2:Nat} (h:Has w g #[.slice a1 n1 c1,.slice a2 n2 c2] 61):(Instr.loadAt 61 (.pointer (some ⟨g,0,none⟩))).run Tryz.prog w=.ok (.agg #[.slice a1 n1 c1,.slice a2 n2 c2]) w:=by
  have x:=h.cell 0
  have y:=h.cell 1
  simp only [Instr.loadAt,Instr.sureAddr,Sem.run_bind,Sem.run_pure,Result.andThen]
  exact run_loadVar_row w g 61 61 _ (0,0) _ h Tryz.underlying61 rfl (by kernel_rfl)
end Go.Proofs.YtlicfinmibbpdaaGreatDoor
