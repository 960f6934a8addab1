/- Texts of SpanVerifies, one behind the other: ManyClimbPlain, ManySplit, ManyNext, ManyMup, ManyOverRegions, ManyPeaks, ManySetsPlain, ManyRise, ManyRefPlain, ManyTake, ManyRefUnder, ManyRefOver, ManyLies, ManyRefOverNode, ManyRefSpots, ManyRefNeedsRegion, ManyRefNeeds, ManyNeedP, ManyFace, ManyFaceP, ManyPlacesCall, ManyRefPlaces, ManyNeedE, ManyWritten, ManyWhole, ManyFaceE, ManyEncode. -/
import Derived.BigQuiet
import Derived.Deep.Cut
import Derived.WalkLawsBesides
import Derived.Laws.AppendOwnNone
import Derived.Defers
import Derived.Recover
import Derived.Test.YthdpkaiieomdoaaGreatDoorSpanVerifiesP17
namespace Go.Proofs.YthdpkaiieomdoaaGreatDoor
set_option maxRecDepth 100000
def MUP (d:Int):Nat→Nat→List Nat→List Int→List Int→List Int × List Int × List Int
  | _,_,[],lv,nd=>(HSH nd 0,lv,nd.drop 32)
  | 0,_,_ :: _,lv,nd=>(HSH lv 0,lv.drop 32,nd)
  | h + 1,k,x :: l,lv,nd=>
    (z1R d (MUP d h (2*k) ((x :: l).filter fun y=>decide (y<(2*k+1)*2 ^ h)) lv nd).1
      (MUP d h (2*k+1) ((x :: l).filter fun y=>!decide (y<(2*k+1)*2 ^ h)) (MUP d h (2*k) ((x :: l).filter fun y=>decide (y<(2*k+1)*2 ^ h)) lv nd).2.1 (MUP d h (2*k) ((x :: l).filter fun y=>decide (y<(2*k+1)*2 ^ h)) lv nd).2.2).1,
     (MUP d h (2*k+1) ((x :: l).filter fun y=>!decide (y<(2*k+1)*2 ^ h)) (MUP d h (2*k) ((x :: l).filter fun y=>decide (y<(2*k+1)*2 ^ h)) lv nd).2.1 (MUP d h (2*k) ((x :: l).filter fun y=>decide (y<(2*k+1)*2 ^ h)) lv nd).2.2).2)
theorem zet (d:Int) (h k:Nat) (lv nd:List Int):MUP d h k [] lv nd=(HSH nd 0,lv,nd.drop 32):=by cases h <;> rfl
theorem zdk {d:Int} {h k r:Nat} {L:List Nat} {lv nd:List Int} (hL:L≠[]) (hr:RANKS L ((2*k+1)*2 ^ h) r):
    MUP d (h+1) k L lv nd=(z1R d (MUP d h (2*k) (L.take r) lv nd).1 (MUP d h (2*k+1) (L.drop r) (MUP d h (2*k) (L.take r) lv nd).2.1 (MUP d h (2*k) (L.take r) lv nd).2.2).1,(MUP d h (2*k+1) (L.drop r) (MUP d h (2*k) (L.take r) lv nd).2.1 (MUP d h (2*k) (L.take r) lv nd).2.2).2):=by
  cases L with
  | nil=>exact absurd rfl hL
  | cons x l=>rw [hr.take,hr.drop];rfl
theorem z3L:∀ {L:List Nat},RISES L→∀ t,∃ r,RANKS L t r
  | [],_,t=>⟨0,by simp,(fun i x h=>by omega),fun i x _ h=>by simp at h⟩
  | x :: l,hR,t=>by
    by_cases hx:x<t
    · obtain ⟨r,hr⟩:=z3L (L:=l) (fun i j a b hij ha hb=>hR (i+1) (j+1) a b (by omega) (by simpa using ha) (by simpa using hb)) t
      refine ⟨r+1,by have:=hr.le;simp;omega,fun i y hi hy=>?_,fun i y hi hy=>?_⟩
      · cases i with
        | zero=>simp at hy;omega
        | succ i=>exact hr.lo i y (by omega) (by simpa using hy)
      · cases i with
        | zero=>omega
        | succ i=>exact hr.hi i y (by omega) (by simpa using hy)
    · refine ⟨0,Nat.zero_le _,(fun i y h=>by omega),fun i y _ hy=>?_⟩
      cases i with
      | zero=>simp at hy;omega
      | succ i=>have:=hR 0 (i+1) x y (by omega) rfl hy;omega
def UNR (h k:Nat) (L:List Nat):Prop:=RISES L∧∀ x∈L,k*2 ^ h≤x∧x<(k+1)*2 ^ h
theorem UNR.leaf {k x:Nat} {l:List Nat} (h:UNR 0 k (x :: l)):l=[]:=by
  cases l with
  | nil=>rfl
  | cons y m=>
    have h1:=h.1 0 1 x y (by omega) rfl rfl
    have h2:=h.2 x (by simp)
    have h3:=h.2 y (by simp)
    simp at h2 h3
    omega
theorem z4l (h k:Nat):(2*k)*2 ^ h=k*2 ^ (h+1)∧(2*k+1+1)*2 ^ h=(k+1)*2 ^ (h+1):=by
  rw [Nat.pow_succ]
  constructor
  · rw [Nat.mul_comm 2 k,Nat.mul_assoc,Nat.mul_comm 2]
  · rw [show 2*k+1+1=2*(k+1) by omega,Nat.mul_comm 2 (k+1),Nat.mul_assoc,Nat.mul_comm 2]
theorem UNR.left {h k r:Nat} {L:List Nat} (hL:UNR (h+1) k L) (hr:RANKS L ((2*k+1)*2 ^ h) r):UNR h (2*k) (L.take r):=by
  refine ⟨hL.1.take r,fun x hx=>?_⟩
  have h1:=hL.2 x (List.mem_of_mem_take hx)
  obtain ⟨i,hi⟩:=List.getElem?_of_mem hx
  rw [List.getElem?_take] at hi
  split at hi
  · rename_i hlt
    have h2:=hr.lo i x hlt hi
    have h3:=z4l h k
    omega
  · cases hi
theorem UNR.right {h k r:Nat} {L:List Nat} (hL:UNR (h+1) k L) (hr:RANKS L ((2*k+1)*2 ^ h) r):UNR h (2*k+1) (L.drop r):=by
  refine ⟨hL.1.drop r,fun x hx=>?_⟩
  have h1:=hL.2 x (List.mem_of_mem_drop hx)
  obtain ⟨i,hi⟩:=List.getElem?_of_mem hx
  rw [List.getElem?_drop] at hi
  have h2:=hr.hi (r+i) x (by omega) hi
  have h3:=z4l h k
  omega
def HSS (n:Nat) (l:List Int):Prop:=l.length=32*n∧∀ x∈l,0≤x∧x≤255
theorem HSS.first {n:Nat} {l:List Int} (h:HSS n l) (hn:0<n):IsH (HSH l 0):=by
  refine ⟨?_,fun x hx=>h.2 x (List.mem_of_mem_drop (List.mem_of_mem_take hx))⟩
  unfold HSH
  rw [List.length_take,List.length_drop,h.1]
  omega
theorem HSS.rest {n:Nat} {l:List Int} (h:HSS n l):HSS (n - 1) (l.drop 32):=⟨by rw [List.length_drop,h.1];omega,fun x hx=>h.2 x (List.mem_of_mem_drop hx)⟩
theorem z3M (d:Int):∀ (h k:Nat) (L:List Nat) (lv nd:List Int) (i j:Nat),UNR h k L→HSS i lv→HSS j nd→L.length≤i→(NEED h k L).length≤j→
    IsH (MUP d h k L lv nd).1∧HSS (i - L.length) (MUP d h k L lv nd).2.1∧HSS (j - (NEED h k L).length) (MUP d h k L lv nd).2.2:=by
  intro h
  induction h with
  | zero=>
    intro k L lv nd i j hU hi hj h1 h2
    cases L with
    | nil=>rw [z3K] at h2 ⊢;exact ⟨hj.first h2,hi,hj.rest⟩
    | cons x l=>
      obtain rfl:=hU.leaf
      exact ⟨hi.first h1,hi.rest,hj⟩
  | succ h ih=>
    intro k L lv nd i j hU hi hj h1 h2
    by_cases hL:L=[]
    · subst hL
      rw [z3K] at h2 ⊢
      exact ⟨hj.first h2,hi,hj.rest⟩
    · obtain ⟨r,hr⟩:∃ r,RANKS L ((2*k+1)*2 ^ h) r:=z3L hU.1 _
      have hN:=zbS hL hr
      rw [hN,List.length_append] at h2
      have hle:=hr.le
      have q1:=ih (2*k) (L.take r) lv nd i j (hU.left hr) hi hj (by rw [List.length_take];omega) (by omega)
      have q2:=ih (2*k+1) (L.drop r) _ _ _ _ (hU.right hr) q1.2.1 q1.2.2 (by rw [List.length_take,List.length_drop];omega) (by omega)
      rw [zdk hL hr,hN,List.length_append]
      refine ⟨z3G _ _ _,?_,?_⟩
      · have:=q2.2.1
        rwa [List.length_take,List.length_drop,show i - min r L.length - (L.length - r)=i - L.length by omega] at this
      · have:=q2.2.2
        rwa [Nat.sub_sub] at this
def MUPS (d:Int):List (Nat × Nat)→List Nat→List Int→List Int→List Int
  | [],_,_,_=>[]
  | (h,k) :: ps,L,lv,nd=>(MUP d h k (L.filter fun y=>decide (y<(k+1)*2 ^ h)) lv nd).1 ++ MUPS d ps (L.filter fun y=>!decide (y<(k+1)*2 ^ h)) (MUP d h k (L.filter fun y=>decide (y<(k+1)*2 ^ h)) lv nd).2.1 (MUP d h k (L.filter fun y=>decide (y<(k+1)*2 ^ h)) lv nd).2.2
theorem zbT {d:Int} {h k r:Nat} {L:List Nat} {lv nd:List Int} (ps:List (Nat × Nat)) (hr:RANKS L ((k+1)*2 ^ h) r):MUPS d ((h,k) :: ps) L lv nd=(MUP d h k (L.take r) lv nd).1 ++ MUPS d ps (L.drop r) (MUP d h k (L.take r) lv nd).2.1 (MUP d h k (L.take r) lv nd).2.2:=by
  rw [MUPS,hr.take,hr.drop]
end Go.Proofs.YthdpkaiieomdoaaGreatDoor

namespace Go.Proofs.YthdpkaiieomdoaaGreatDoor
open Go.RowKit
set_option maxRecDepth 100000
structure SPLIT (w w':World) (a:Option Addr) (n c:Nat) (L:List Nat) (t r:Nat) (a':Option Addr):Prop where
  rank:RANKS L t r
  lies:NUML w a' (L.drop r)
  nil:a'=none→c - r=0
  block:∀ x,a'=some x→∃ y,a=some y∧x.block=y.block
  spot:∀ x,a'=some x→x.spot=none
  below:Below w.heap.size w w'
end Go.Proofs.YthdpkaiieomdoaaGreatDoor

namespace Go.Proofs.YthdpkaiieomdoaaGreatDoor
open Go.RowKit
set_option maxRecDepth 100000
def BUT (bc:Nat) (w w':World):Prop:=(∀ q,q<w.heap.size→q≠bc→w'.heap[q]?=w.heap[q]?)∧Below bc w w'
theorem BUT.refl (bc:Nat) (w:World):BUT bc w w:=⟨fun _ _ _=>rfl,Below.refl _ _⟩
theorem BUT.trans {bc:Nat} {w w1 w2:World} (h:BUT bc w w1) (h':BUT bc w1 w2):BUT bc w w2:=
  ⟨fun q hq hne=>(h'.1 q (Nat.lt_of_lt_of_le hq h.2.size) hne).trans (h.1 q hq hne),h.2.trans h'.2⟩
theorem BUT.of_below {bc:Nat} {w w':World} (hb:Below w.heap.size w w') (hc:bc≤w.heap.size):BUT bc w w':=⟨fun q hq _=>hb.block q hq,hb.mono hc⟩
theorem Flat.but {bc:Nat} {w w':World} {a:Option Addr} {n:Nat} {l:List Int} (h:Flat w a n l) (hb:BUT bc w w') (ha:∀ x,a=some x→x.block≠bc):Flat w' a n l:=by
  refine ⟨h.1,fun h0=>?_,h.2.2⟩
  obtain ⟨b,o,e,hlt,hc⟩:=h.2.1 h0
  exact ⟨b,o,e,Nat.lt_of_lt_of_le hlt hb.2.size,fun j hj=>(World.cell?_of_block (w:=w) (by exact hb.1 b hlt (ha _ e))).trans (hc j hj)⟩
theorem z1p {fn:Func} {p:Tmp} {ty:TypeId} (h:fn.results=#[.cell p ty]) (tmps:Array Value) (w:World) (g:Nat) (t:TypeId) (cs:Array Value) (fr:Nat × Nat) (k:Nat) (el:TypeId)
    (hp:tmps.getD p undef=.pointer (some ⟨g,0,none⟩)) (hg:w.heap[g]?=some (.cells cs t fr))
    (hu:Tryz.prog.underlying ty=some (.array k el)) (hi:(Tryz.prog.info? ty).map (·.size)=some cs.size):
    (results fn tmps).run Tryz.prog w=.ok (.agg cs) w:=by
  have hp':tmps[p]?.getD undef=.pointer (some ⟨g,0,none⟩):=by simpa using hp
  simp [results,h,hp',asAddr,run_loadVar_row w g t ty cs fr (.array k el) hg hu rfl hi]
theorem z6H (b off n c:Nat) (hk:0<n) (hc:n≤c) (w:World):(Instr.slice 25 (.slice (some ⟨b,off,none⟩) n c) (some (.int .i64 1)) none none).run Tryz.prog w=.ok (.slice (SLA (some ⟨b,off,none⟩) c 1) (n - 1) (c - 1)) w:=z7U b off n c 1 hk hc w
end Go.Proofs.YthdpkaiieomdoaaGreatDoor

namespace Go.Proofs.YthdpkaiieomdoaaGreatDoor
open Go.RowKit
set_option maxRecDepth 100000
theorem z8U {s:Sem Value} {w w':World} {v:Value} (h:s.run Tryz.prog w=.ok v w'):(do pure (Next.value (← s)):Sem Next).run Tryz.prog w=.ok (.value v) w':=by
  simp [h]
theorem z0W {s:Sem Unit} {w w':World} (h:s.run Tryz.prog w=.ok () w'):(do s;pure Next.skip:Sem Next).run Tryz.prog w=.ok .skip w':=by
  simp [h]
theorem z1D {w:World} {g:Nat} {A X:List Int} (h:Has w g (z00 A).toArray 23) (lA:A.length=32) (lX:X.length=32):(Instr.storeAt 23 (.pointer (some ⟨g,0,none⟩)) (.agg (z00 X).toArray)).run Tryz.prog w=.ok () (w.setRow g (z00 X).toArray):=by
  simp only [Instr.storeAt,Instr.sureAddr,Sem.run_bind,Sem.run_pure,Result.andThen]
  exact run_storeVar_row w g 23 23 (z00 A).toArray (z00 X).toArray h (z03 lX) (by simp [z00,lA,lX]) (z0i X)
end Go.Proofs.YthdpkaiieomdoaaGreatDoor

namespace Go.Proofs.YthdpkaiieomdoaaGreatDoor
open Go.RowKit
set_option maxRecDepth 100000
end Go.Proofs.YthdpkaiieomdoaaGreatDoor

namespace Go.Proofs.YthdpkaiieomdoaaGreatDoor
set_option maxRecDepth 100000
def TPS (n:Nat):List (Nat × Nat):=(HS 0 n).map fun h=>(h,2*(n / 2 ^ (h+1)))
theorem z9G {α:Type}:∀ {l:List α} {j:Nat} {x:α},l[j]?=some x→l.drop j=x :: l.drop (j+1)
  | [],j,x,h=>by simp at h
  | y :: l,0,x,h=>by
    simp only [List.getElem?_cons_zero,Option.some.injEq] at h
    rw [h]
    rfl
  | y :: l,j+1,x,h=>by
    rw [List.getElem?_cons_succ] at h
    rw [List.drop_succ_cons,List.drop_succ_cons]
    exact z9G h
theorem z1I {n:Nat} (hn:n<2 ^ 64):(TPS n).length=PC n:=by
  rw [TPS,List.length_map,z44 hn 0 (by decide),Nat.pow_zero,Nat.div_one]
theorem z7V {n j h k:Nat} (e:(TPS n)[j]?=some (h,k)):(z3u n)[j]?=some (PLC h k):=by
  unfold TPS at e
  unfold z3u
  rw [List.getElem?_map] at e ⊢
  cases hj:(HS 0 n)[j]? with
  | none=>rw [hj] at e;cases e
  | some x=>
    rw [hj] at e
    simp only [Option.map_some,Option.some.injEq,Prod.mk.injEq] at e
    obtain ⟨rfl,rfl⟩:=e
    rfl
theorem z7W {h k:Nat} (hh:h≤62) (hs:(k+1)*2 ^ h≤2 ^ 62):Node h k:=by
  refine ⟨hh,?_⟩
  rcases Nat.lt_or_ge k (2 ^ (62 - h)) with h1 | h1
  · exact h1
  · have h2:(2 ^ (62 - h)+1)*2 ^ h≤(k+1)*2 ^ h:=Nat.mul_le_mul_right _ (by omega)
    rw [Nat.add_mul,← Nat.pow_add,show 62 - h+h=62 by omega] at h2
    have:=Nat.two_pow_pos h
    omega
theorem z2c {n h k:Nat} (hn:n≤2 ^ 62) (hm:(h,k)∈TPS n):h≤62∧(k+1)*2 ^ h≤n∧Node h k:=by
  unfold TPS at hm
  rw [List.mem_map] at hm
  obtain ⟨x,hx,e⟩:=hm
  simp only [Prod.mk.injEq] at e
  obtain ⟨rfl,rfl⟩:=e
  obtain ⟨_,h2,h3⟩:=zbg 0 x (by decide) hx
  have h4:2*(n / 2 ^ (x+1))+1=n / 2 ^ x:=by
    rw [Nat.pow_succ,← Nat.div_div_eq_div_mul]
    omega
  have h5:(2*(n / 2 ^ (x+1))+1)*2 ^ x≤n:=by rw [h4];exact Nat.div_mul_le_self n (2 ^ x)
  have h6:x≤62:=by
    rcases Nat.lt_or_ge 62 x with h7 | h7
    · have h8:2 ^ 63≤2 ^ x:=Nat.pow_le_pow_right (by decide) h7
      have h9:1*2 ^ x≤(2*(n / 2 ^ (x+1))+1)*2 ^ x:=Nat.mul_le_mul_right _ (by omega)
      omega
    · exact h7
  exact ⟨h6,h5,z7W h6 (by omega)⟩
end Go.Proofs.YthdpkaiieomdoaaGreatDoor

namespace Go.Proofs.YthdpkaiieomdoaaGreatDoor
set_option maxRecDepth 100000
def NSP:Nat→Nat→List Nat→List (Nat × Nat)
  | h,k,[]=>[(h,k)]
  | 0,_,_ :: _=>[]
  | h+1,k,x :: l=>NSP h (2*k) ((x :: l).filter fun y=>decide (y<(2*k+1)*2 ^ h)) ++ NSP h (2*k+1) ((x :: l).filter fun y=>!decide (y<(2*k+1)*2 ^ h))
def SPL (s:Nat × Nat):Nat:=PLC s.1 s.2
theorem z6i (h k:Nat):NSP h k []=[(h,k)]:=by cases h <;> rfl
theorem z31:∀ (h k:Nat) (L:List Nat),NEED h k L=(NSP h k L).map SPL
  | h,k,[]=>by rw [z3K,z6i];rfl
  | 0,_,_ :: _=>rfl
  | h+1,k,x :: l=>by rw [z4k,NSP,List.map_append,← z31 h,← z31 h]
def FRS (s:Nat × Nat):Nat:=s.2*2 ^ s.1
def TOE (s:Nat × Nat):Nat:=(s.2+1)*2 ^ s.1
structure COVER (A B:Nat) (L:List Nat) (l:List (Nat × Nat)):Prop where
  within:∀ s∈l,A≤FRS s∧TOE s≤B
  off:∀ s∈l,∀ x∈L,¬ (FRS s≤x∧x<TOE s)
  sum:(l.map fun s=>2 ^ s.1).sum+L.length=B - A
  order:l.Pairwise fun s t=>TOE s≤FRS t
theorem COVER.join {A B C:Nat} {L1 L2 L:List Nat} {l1 l2:List (Nat × Nat)} (h1:COVER A B L1 l1) (h2:COVER B C L2 l2) (hAB:A≤B) (hBC:B≤C) (m1:∀ x∈L1,x<B) (m2:∀ x∈L2,B≤x) (hm:∀ x∈L,x∈L1∨x∈L2) (hl:L1.length+L2.length=L.length):COVER A C L (l1 ++ l2):=by
  refine ⟨fun s hs=>?_,fun s hs x hx=>?_,?_,?_⟩
  · rcases List.mem_append.1 hs with h | h
    · have:=h1.within s h;omega
    · have:=h2.within s h;omega
  · rcases List.mem_append.1 hs with h | h
    · rcases hm x hx with hx | hx
      · exact h1.off s h x hx
      · have:=(h1.within s h).2
        have:=m2 x hx
        omega
    · rcases hm x hx with hx | hx
      · have:=(h2.within s h).1
        have:=m1 x hx
        omega
      · exact h2.off s h x hx
  · rw [List.map_append,List.sum_append]
    have e1:=h1.sum
    have e2:=h2.sum
    omega
  · rw [List.pairwise_append]
    refine ⟨h1.order,h2.order,fun s hs t ht=>?_⟩
    have e1:=(h1.within s hs).2
    have e2:=(h2.within t ht).1
    omega
theorem zbU (h k:Nat):k*2 ^ (h+1)=2*k*2 ^ h∧(k+1)*2 ^ (h+1)=(2*k+1+1)*2 ^ h:=by
  constructor
  · rw [Nat.pow_succ,Nat.mul_comm (2 ^ h) 2,← Nat.mul_assoc,Nat.mul_comm k 2]
  · rw [Nat.pow_succ,Nat.mul_comm (2 ^ h) 2,← Nat.mul_assoc,Nat.mul_comm (k+1) 2,show 2*(k+1)=2*k+1+1 by omega]
def MET (L:List Nat) (s:Nat × Nat):Prop:=∃ x∈L,FRS (s.1+1,s.2 / 2)≤x∧x<TOE (s.1+1,s.2 / 2)
theorem MET.mono {L L':List Nat} {s:Nat × Nat} (h:MET L s) (hm:∀ x∈L,x∈L'):MET L' s:=by
  obtain ⟨x,hx,h1⟩:=h
  exact ⟨x,hm x hx,h1⟩
theorem zfh {n:Nat} (hn:n≤4611686018427387904):TPS n=PKS n 0 (PC n):=by
  apply List.ext_getElem?
  intro i
  by_cases hi:i<PC n
  · rw [zf8 hi]
    unfold TPS
    rw [List.getElem?_map,(z2R (by omega) hi).1]
    rfl
  · rw [List.getElem?_eq_none (by rw [z1I (by omega)];omega),List.getElem?_eq_none (by simp [PKS];omega)]
theorem z32 {n:Nat} (hn:n≤4611686018427387904):Tile 0 (TPS n) n:=by
  rw [zfh hn]
  exact (zcS hn (PC n) 0 (by omega)).1
end Go.Proofs.YthdpkaiieomdoaaGreatDoor

namespace Go.Proofs.YthdpkaiieomdoaaGreatDoor
open Go.RowKit
set_option maxRecDepth 100000
end Go.Proofs.YthdpkaiieomdoaaGreatDoor

namespace Go.Proofs.YthdpkaiieomdoaaGreatDoor
set_option maxRecDepth 100000
theorem z5o:∀ (h k:Nat) (L:List Nat),Node h k→∀ s∈NSP h k L,Node s.1 s.2
  | h,k,[],hN,s,hs=>by
    rw [z6i,List.mem_singleton] at hs
    subst hs
    exact hN
  | 0,_,_ :: _,_,s,hs=>by cases hs
  | h+1,k,x :: l,hN,s,hs=>by
    rw [NSP] at hs
    rcases List.mem_append.1 hs with hs | hs
    · exact z5o h (2*k) _ hN.kid.1 s hs
    · exact z5o h (2*k+1) _ hN.kid.2 s hs
end Go.Proofs.YthdpkaiieomdoaaGreatDoor

namespace Go.Proofs.YthdpkaiieomdoaaGreatDoor
open Go.RowKit
set_option maxRecDepth 100000
theorem zeu {ops:Array Oper} {rest:List Oper} {o:Oper} {a:Act} {Q:Exit→Act→World→Prop} (w:World) (hgd:o.guard=none) (s x:Operand)
    (ho:o.op=.call {callee:=.builtin .append,args:=#[s,x],argTypes:=#[81,81]})
    (base:Nat) (v:Value) (n:Nat) (xs:List Nat) (hs:a.eval s=v) (hown:w.ownsRow base 24 1 v n (z0h xs))
    (b c:Nat) (y:Nat) (hx:a.eval x=.slice (some ⟨b,0,none⟩) 1 c) (hc:w.cell? ⟨b,0,none⟩=some (.int .u64 (y:Int)))
    (hb:n≤2 ^ 30) (hbase:base≤w.heap.size)
    (h:∀ g cap w',w'.ownsRow base 24 1 (.slice (some ⟨g,0,none⟩) (n+1) cap) (n+1) (z0h (xs ++ [y]))→w.grownBy w' v.ownBlock→g<w'.heap.size→wpList Tryz.prog ops Q rest (a.put o.dst (.slice (some ⟨g,0,none⟩) (n+1) cap)) w'):wpList Tryz.prog ops Q (o :: rest) a w:=by
  obtain ⟨i,hi,hz,hs1,hby⟩:=info_parts z1w
  refine wpList_append_lies w hgd s x 81 ho base 24 i (.int .u64 0) 1 8 Tryz.underlying81 hi hz hs1 hby rfl (by decide) v n (z0h xs) hs hown ⟨b,0,none⟩ 1 c [.int .u64 (y:Int)] hx rfl ?_ (fun u hu=>by simp at hu;subst hu;rfl) (by decide) (by simp only [maxLen];omega) (by omega) hbase w.heap.size rfl ?_
  · intro j u hj
    cases j with
    | zero=>
      simp only [List.getElem?_cons_zero,Option.some.injEq] at hj
      subst hj
      exact hc
    | succ j=>simp at hj
  · intro g cap w' h1 h2 _ h4
    rw [← z2g] at h1
    exact h g cap w' h1 h2 h4
structure TAKING (w0 w:World) (bp:Nat) (acc:List Nat):Prop where
  row:∃ v,Has w bp #[v] 81∧w.ownsRow w0.heap.size 24 1 v acc.length (z0h acc)
  keep:∀ b,b<w0.heap.size→b≠bp→w.heap[b]?=w0.heap[b]?
  lt:bp<w0.heap.size
  below:Below bp w0 w
theorem z23 {w:World} {B s n:Nat} {t:TypeId} {v:Value} {xs:List Value} (h:w.ownsRow B t s v n xs):∃ a c,v=.slice a n c:=by
  rcases h.2 with ⟨e,h0⟩ | ⟨g,cap,cur,e,_⟩
  · exact ⟨none,0,by rw [e,h0]⟩
  · exact ⟨_,_,e⟩
end Go.Proofs.YthdpkaiieomdoaaGreatDoor

namespace Go.Proofs.YthdpkaiieomdoaaGreatDoor
open Go.RowKit
set_option maxRecDepth 100000
end Go.Proofs.YthdpkaiieomdoaaGreatDoor

namespace Go.Proofs.YthdpkaiieomdoaaGreatDoor
open Go.RowKit
set_option maxRecDepth 100000
theorem z8V (d:Int) (l r:List Int) (hl:IsH l) (hr:IsH r) (w:World):Calls Tryz.prog 78 #[.int .i64 d,.agg (z00 l).toArray,.agg (z00 r).toArray] w fun e w'=>e=.returned (.agg (z00 (z1R d l r)).toArray)∧Below w.heap.size w w':=by
  rw [z0F hl,z0F hr]
  refine (HX.zaz d (FNC l) (FNC r) (z1N hl) (z1N hr) w).mono ?_
  rintro e w' ⟨rfl,hb⟩
  exact ⟨by rw [z1j];rfl,hb⟩
theorem z33 {fn:Func} {p q:Tmp} {ty ty2:TypeId} (h:fn.results=#[.cell p ty,.cell q ty2]) (tmps:Array Value) (w:World) (g g2:Nat) (v v2:Value)
    (hp:tmps.getD p undef=.pointer (some ⟨g,0,none⟩)) (hq:tmps.getD q undef=.pointer (some ⟨g2,0,none⟩)) (h1:(loadVar ty ⟨g,0,none⟩).run Tryz.prog w=.ok v w) (h2:(loadVar ty2 ⟨g2,0,none⟩).run Tryz.prog w=.ok v2 w):
    (results fn tmps).run Tryz.prog w=.ok (.tuple #[v,v2]) w:=by
  have hp':tmps[p]?.getD undef=.pointer (some ⟨g,0,none⟩):=by simpa using hp
  have hq':tmps[q]?.getD undef=.pointer (some ⟨g2,0,none⟩):=by simpa using hq
  simp [results,h,hp',hq',asAddr,h1,h2]
def LFT (w:World) (a:Option Addr) (n c:Nat) (l:List Int):Prop:=Flat w a n l∧n≤c
def OVR (w0 w:World) (Y lv nd:List Int) (i j:Nat) (e:Ending) (w':World):Prop:=∃ ya yc xa xc,e=.returned (.tuple #[.agg (z00 Y).toArray,.agg #[.slice ya i yc,.slice xa j xc]])∧LFT w0 ya i yc lv∧LFT w0 xa j xc nd∧Below w.heap.size w w'
theorem LFT.rest {w:World} {b o n c:Nat} {l:List Int} (h:LFT w (some ⟨b,o,none⟩) n c l) (hn:0<n):LFT w (SLA (some ⟨b,o,none⟩) c 1) (n - 1) (c - 1) (l.drop 32):=⟨h.1.behind 1 hn h.2,by have:=h.2;omega⟩
end Go.Proofs.YthdpkaiieomdoaaGreatDoor

namespace Go.Proofs.YthdpkaiieomdoaaGreatDoor
open Go.RowKit
set_option maxRecDepth 100000
theorem NUML.keep {w w':World} {a:Option Addr} {L:List Nat} (h:NUML w a L) (hb:Below w.heap.size w w'):NUML w' a L:=fun h0=>by
  obtain ⟨b,o,e,hl,hc⟩:=h h0
  exact ⟨b,o,e,Nat.lt_of_lt_of_le hl hb.size,fun i x hx=>(hb.cell (p:=⟨b,o+i,none⟩) hl).trans (hc i x hx)⟩
end Go.Proofs.YthdpkaiieomdoaaGreatDoor

namespace Go.Proofs.YthdpkaiieomdoaaGreatDoor
open Go.RowKit
set_option maxRecDepth 100000
end Go.Proofs.YthdpkaiieomdoaaGreatDoor

namespace Go.Proofs.YthdpkaiieomdoaaGreatDoor
open Go.RowKit
set_option maxRecDepth 100000
theorem z72 (l k:List (Nat × Nat)):z0b (l ++ k)=z0b l ++ z0b k:=by unfold z0b;rw [List.flatMap_append]
theorem zaE (l:List (Nat × Nat)):∀ u∈z0b l,u.oneCell'=true:=fun u hu=>by
  unfold z0b at hu
  obtain ⟨x,_,hx⟩:=List.mem_flatMap.1 hu
  simp at hx
  rcases hx with rfl | rfl <;> rfl
theorem z57 {ops:Array Oper} {rest:List Oper} {o:Oper} {a:Act} {Q:Exit→Act→World→Prop} (w:World) (hgd:o.guard=none) (s x:Operand)
    (ho:o.op=.call {callee:=.builtin .append,args:=#[s,x],argTypes:=#[73,73]})
    (base:Nat) (v:Value) (n:Nat) (xs:List (Nat × Nat)) (hs:a.eval s=v) (hown:w.ownsRow base 78 2 v n (z0b xs))
    (B:Nat) (ad:Option Addr) (m c:Nat) (l:List (Nat × Nat)) (hx:a.eval x=.slice ad m c) (hsrc:w.ownsRow B 78 2 (.slice ad m c) m (z0b l))
    (hb:n+m≤2 ^ 26) (hbase:base≤w.heap.size)
    (hh:∀ a' c' w',w'.ownsRow base 78 2 (.slice a' (n+m) c') (n+m) (z0b (xs ++ l))→w.grownBy w' v.ownBlock→wpList Tryz.prog ops Q rest (a.put o.dst (.slice a' (n+m) c')) w'):wpList Tryz.prog ops Q (o :: rest) a w:=by
  obtain ⟨i,hi,hz,hs1,hby⟩:=info_parts z6v
  have hlm:(z0b l).length=m*2:=hsrc.1
  cases ad with
  | none=>
    have h0:m=0∧c=0:=by
      rcases hsrc.2 with ⟨e,h0⟩ | ⟨_,_,_,e,_⟩
      · cases e;exact ⟨rfl,rfl⟩
      · cases e
    obtain ⟨rfl,rfl⟩:=h0
    have hl0:l=[]:=by
      cases l with
      | nil=>rfl
      | cons y l=>simp [z0b] at hlm
    subst hl0
    refine wpList_append_own_none hgd s x 73 ho base 78 i 2 Tryz.underlying73 hi v n (z0b xs) hs hown hx ?_
    obtain ⟨a',c',rfl⟩:=z23 hown
    have:=hh a' c' w (by simpa using hown) ⟨rfl,rfl,rfl,Nat.le_refl _,fun _ _ _=>rfl⟩
    simpa using this
  | some ad=>
    obtain ⟨g,rfl⟩:∃ g,ad=⟨g,0,none⟩:=by
      rcases hsrc.2 with ⟨e,h0⟩ | ⟨g,_,_,e,_⟩
      · cases e
      · cases e;exact ⟨g,rfl⟩
    refine wpList_append_own w hgd s x 73 ho base 78 i _ 2 16 Tryz.underlying73 hi hz hs1 hby rfl (by decide) v n (z0b xs) hs hown ⟨g,0,none⟩ m c (z0b l) hx hlm (fun j u hu=>?_) (zaE l) (by simp only [maxLen];omega) (by omega) hbase ?_
    · have hj:j<m*2:=by rw [← hlm];exact (List.getElem?_eq_some_iff.1 hu).1
      rw [show (⟨g,0,none⟩:Addr).add j=⟨g,j,none⟩ by unfold Addr.add;split <;> simp_all]
      exact (hsrc.cellAt j hj).trans hu
    · intro v' w' h1 h2 _
      obtain ⟨a',c',rfl⟩:=z23 h1
      rw [← z72] at h1
      exact hh a' c' w' h1 h2
theorem zaF (w:World):(w.alloc (.cells #[] 78)).ownsRow w.heap.size 78 2 (.slice (some ⟨w.heap.size,0,none⟩) 0 0) 0 (z0b []):=
  World.ownsRow_lit w #[] 0 (Nat.le_refl _) (by simp [maxLen]) rfl
theorem zbV (w:World) (h k:Nat):(w.alloc (.cells #[.int .u8 (h:Int),.int .u64 (k:Int)] 78)).ownsRow w.heap.size 78 2 (.slice (some ⟨w.heap.size,0,none⟩) 1 1) 1 (z0b [(h,k)]):=
  World.ownsRow_lit w #[.int .u8 (h:Int),.int .u64 (k:Int)] 1 (Nat.le_refl _) (by simp [maxLen]) rfl
theorem z0n {w w':World} {B s n:Nat} {t:TypeId} {v:Value} {xs:List Value} (h:w.ownsRow B t s v n xs) (hk:∀ k,v.ownBlock=some k→w'.heap[k]?=w.heap[k]?):w'.ownsRow B t s v n xs:=by
  refine ⟨h.1,?_⟩
  rcases h.2 with h | ⟨g,cap,cur,rfl,hb,hg,r⟩
  · exact .inl h
  · exact .inr ⟨g,cap,cur,rfl,hb,by rw [hk g rfl];exact hg,r⟩
end Go.Proofs.YthdpkaiieomdoaaGreatDoor

namespace Go.Proofs.YthdpkaiieomdoaaGreatDoor
open Go.RowKit
set_option maxRecDepth 100000
theorem z1a {w:World} {B s n:Nat} {t:TypeId} {v:Value} {xs:List Value} (h:w.ownsRow B t s v n xs) (o:Obj):(w.alloc o).ownsRow B t s v n xs:=z0n h fun k e=>Below.heap_alloc w o k (h.lt k e).2
end Go.Proofs.YthdpkaiieomdoaaGreatDoor

namespace Go.Proofs.YthdpkaiieomdoaaGreatDoor
open Go.RowKit
set_option maxRecDepth 100000
end Go.Proofs.YthdpkaiieomdoaaGreatDoor

namespace Go.Proofs.YthdpkaiieomdoaaGreatDoor
open Go.RowKit
set_option maxRecDepth 100000
end Go.Proofs.YthdpkaiieomdoaaGreatDoor

namespace Go.Proofs.YthdpkaiieomdoaaGreatDoor
open Go.RowKit
set_option maxRecDepth 100000
end Go.Proofs.YthdpkaiieomdoaaGreatDoor

namespace Go.Proofs.YthdpkaiieomdoaaGreatDoor
open Go.RowKit
set_option maxRecDepth 100000
end Go.Proofs.YthdpkaiieomdoaaGreatDoor

namespace Go.Proofs.YthdpkaiieomdoaaGreatDoor
open Go.RowKit
set_option maxRecDepth 100000
theorem TAKING.still {w0 w w':World} {bp:Nat} {acc:List Nat} (h:TAKING w0 w bp acc) (hb:Below w.heap.size w w'):TAKING w0 w' bp acc:=by
  obtain ⟨v,h1,h2⟩:=h.row
  have hs:=h.below.size
  have hlt:=h.lt
  refine ⟨⟨v,h1.keep hb,?_⟩,fun b hb0 hne=>(hb.block b (by omega)).trans (h.keep b hb0 hne),hlt,h.below.trans (hb.mono (by omega))⟩
  refine ⟨h2.1,h2.2.imp id ?_⟩
  rintro ⟨g',c,cur,rfl,b,r,rest⟩
  exact ⟨g',c,cur,rfl,b,(hb.block g' (Array.getElem?_eq_some_iff.1 r).1).trans r,rest⟩
end Go.Proofs.YthdpkaiieomdoaaGreatDoor

namespace Go.Proofs.YthdpkaiieomdoaaGreatDoor
open Go.RowKit
set_option maxRecDepth 100000
theorem zbW {ops:Array Oper} {rest:List Oper} {o:Oper} {a:Act} {Q:Exit→Act→World→Prop} (w:World) (hgd:o.guard=none) (s x:Operand)
    (ho:o.op=.call {callee:=.builtin .append,args:=#[s,x],argTypes:=#[81,81]})
    (base:Nat) (v:Value) (n:Nat) (xs:List Nat) (hs:a.eval s=v) (hown:w.ownsRow base 24 1 v n (z0h xs))
    (b c:Nat) (y:Nat) (hx:a.eval x=.slice (some ⟨b,0,none⟩) 1 c) (hc:w.cell? ⟨b,0,none⟩=some (.int .u64 (y:Int)))
    (hb:n≤2 ^ 30) (hbase:base≤w.heap.size)
    (h:∀ g cap w',w'.ownsRow base 24 1 (.slice (some ⟨g,0,none⟩) (n+1) cap) (n+1) (z0h (xs ++ [y]))→w.grownBy w' v.ownBlock→(v.ownBlock=some g∨g=w.heap.size)→g<w'.heap.size→wpList Tryz.prog ops Q rest (a.put o.dst (.slice (some ⟨g,0,none⟩) (n+1) cap)) w'):wpList Tryz.prog ops Q (o :: rest) a w:=by
  obtain ⟨i,hi,hz,hs1,hby⟩:=info_parts z1w
  refine wpList_append_lies w hgd s x 81 ho base 24 i (.int .u64 0) 1 8 Tryz.underlying81 hi hz hs1 hby rfl (by decide) v n (z0h xs) hs hown ⟨b,0,none⟩ 1 c [.int .u64 (y:Int)] hx rfl ?_ (fun u hu=>by simp at hu;subst hu;rfl) (by decide) (by simp only [maxLen];omega) (by omega) hbase w.heap.size rfl ?_
  · intro j u hj
    cases j with
    | zero=>
      simp only [List.getElem?_cons_zero,Option.some.injEq] at hj
      subst hj
      exact hc
    | succ j=>simp at hj
  · intro g cap w' h1 h2 h3 h4
    rw [← z2g] at h1
    exact h g cap w' h1 h2 h3 h4
end Go.Proofs.YthdpkaiieomdoaaGreatDoor

namespace Go.Proofs.YthdpkaiieomdoaaGreatDoor
open Go.RowKit
set_option maxRecDepth 100000
end Go.Proofs.YthdpkaiieomdoaaGreatDoor

namespace Go.Proofs.YthdpkaiieomdoaaGreatDoor
open Go.RowKit
set_option maxRecDepth 100000
end Go.Proofs.YthdpkaiieomdoaaGreatDoor

namespace Go.Proofs.YthdpkaiieomdoaaGreatDoor
open Go.RowKit
set_option maxRecDepth 100000
structure COUNTING (K:Nat) (w0 w:World) (bl:Nat) (acc:List Nat):Prop where
  le:acc.length≤K
  row:Has w bl #[.int .i64 ((K - acc.length:Nat):Int)] 3
  keep:∀ b,b<w0.heap.size→b≠bl→w.heap[b]?=w0.heap[b]?
  lt:bl<w0.heap.size
  below:Below bl w0 w
theorem COUNTING.still {K:Nat} {w0 w w':World} {bl:Nat} {acc:List Nat} (h:COUNTING K w0 w bl acc) (hb:Below w.heap.size w w'):COUNTING K w0 w' bl acc:=by
  have hs:=h.below.size
  have hlt:=h.lt
  exact ⟨h.le,h.row.keep hb,fun b hb0 hne=>(hb.block b (by omega)).trans (h.keep b hb0 hne),hlt,h.below.trans (hb.mono (by omega))⟩
end Go.Proofs.YthdpkaiieomdoaaGreatDoor

namespace Go.Proofs.YthdpkaiieomdoaaGreatDoor
open Go.RowKit
set_option maxRecDepth 100000
end Go.Proofs.YthdpkaiieomdoaaGreatDoor

namespace Go.Proofs.YthdpkaiieomdoaaGreatDoor
open Go.RowKit
set_option maxRecDepth 100000
theorem zev {w:World} {B s n:Nat} {t:TypeId} {v:Value} {xs:List Value} (h:w.ownsRow B t s v n xs):∃ a c,v=.slice a n c:=by
  rcases h.2 with ⟨e,h0⟩ | ⟨g,cap,cur,e,_⟩
  · exact ⟨none,0,by rw [e,h0]⟩
  · exact ⟨_,_,e⟩
structure ENCD (w w':World) (b1:Nat) (Z:List Int):Prop where
  row:∃ v,Has w' b1 #[v] 26∧w'.ownsRow w.heap.size 5 1 v Z.length (z00 Z)
  keep:∀ b,b<w.heap.size→b≠b1→w'.heap[b]?=w.heap[b]?
  below:Below b1 w w'
end Go.Proofs.YthdpkaiieomdoaaGreatDoor
