/- Texts of VerifyGrowth, one behind the other: ProofPlain, PosRef, PosRefSpot, PosRefKin, PosTops, PosRefPeaks, PosRefPeak, PosRefPath, PosAwake, PosFour, CutCalls, CutHas, CutSpan, CutOver. -/
import Derived.Deep.QuietTactic
import Derived.BigQuiet
import Derived.Test.YthjeeblddipiiaaGreatDoorVerifyGrowthP3
import Derived.Test.YthjeeblddipiiaaGreatDoorVerifyGrowthP4
import Derived.Test.YthjeeblddipiiaaGreatDoorVerifyGrowthP5
namespace Go.Proofs.YthjeeblddipiiaaGreatDoor
def PLCS (l:List (Nat × Nat)):List Nat:=l.map fun s=>PLC s.1 s.2
theorem z0o (l:List (Nat × Nat)):(PLCS l).length=l.length:=by simp [PLCS]
theorem z3u (l m:List (Nat × Nat)):PLCS (l ++ m)=PLCS l ++ PLCS m:=by simp [PLCS]
theorem z9S {l:List (Nat × Nat)} {j h k:Nat} (e:l[j]?=some (h,k)):(PLCS l).getD j 0=PLC h k:=by
  simp [PLCS,List.getD,e]
theorem z2v {n:Nat} (hn:n≤4611686018427387904):z1l n=PLCS (SPAN 0 n):=by
  have hl:=z2f (n:=n) (by omega)
  apply List.ext_getElem?
  intro j
  by_cases hj:j<PC n
  · have h1:=zea (n:=n) (by omega) hj
    have h2:=z1y hn hj
    rw [List.getD,List.getElem?_eq_getElem (by omega)] at h1
    rw [List.getElem?_eq_getElem (by omega)]
    simp only [Option.getD_some] at h1
    rw [h1]
    simp [PLCS,h2]
  · rw [List.getElem?_eq_none (by omega),List.getElem?_eq_none (by rw [z0o,z0A hn];omega)]
def WAYS (i H:Nat):List (Nat × Nat):=(List.range H).map fun h=>(h,SIB (i / 2 ^ h))
theorem z3k (i H:Nat):WAYS i (H+1)=WAYS i H ++ [(H,SIB (i / 2 ^ H))]:=by simp [WAYS,List.range_succ]
theorem z91 (i H:Nat):(WAYS i H).length=H:=by simp [WAYS]
theorem zce (i H:Nat):WAY i H=PLCS (WAYS i H):=by simp [WAY,WAYS,PLCS]
theorem zcf {α β:Type} (f:α→β):∀ (l:List α) (k:Nat),(l.map f).eraseIdx k=(l.eraseIdx k).map f:=by
  intro l
  induction l with
  | nil=>intro k;simp
  | cons a l ih=>
    intro k
    cases k with
    | zero=>simp
    | succ k=>simp [ih]
theorem z5x {α:Type} (x:α):∀ (l:List α) (k:Nat),(l ++ [x]).eraseIdx k=if k=l.length then l.eraseIdx k else l.eraseIdx k ++ [x]:=by
  intro l
  induction l with
  | nil=>
    intro k
    cases k with
    | zero=>simp
    | succ k=>simp
  | cons a l ih=>
    intro k
    cases k with
    | zero=>simp
    | succ k=>
      have:=ih k
      rw [List.cons_append,List.eraseIdx_cons_succ,this,List.length_cons,List.eraseIdx_cons_succ]
      by_cases e:k=l.length
      · rw [if_pos e,if_pos (by omega)]
      · rw [if_neg e,if_neg (by omega)]
        rfl
def PSP (i n:Nat):List (Nat × Nat):=WAYS i (RISE i n) ++ (SPAN 0 n).eraseIdx (KTH i n)
theorem zaG {i n:Nat} (hn:n≤4611686018427387904):PLCS (PSP i n)=WAY i (RISE i n) ++ (z1l n).eraseIdx (KTH i n):=by
  unfold PSP
  rw [z3u,zce,z2v hn]
  unfold PLCS
  rw [zcf]
def PXS (m n:Nat):List (Nat × Nat):=SPAN 0 m ++ SPAN m n
theorem z2p {m n:Nat} (hmn:m≤n) (hn:n≤4611686018427387904):Tile 0 (PXS m n) n:=(z1d (by omega) (Nat.zero_le _)).append (z1d hn hmn)
theorem zaH {m n:Nat} (hmn:m≤n) (hn:n≤4611686018427387904):PLCS (PXS m n)=z1l m ++ PLCS (SPAN m n):=by
  unfold PXS
  rw [z3u,z2v (by omega)]
theorem z3V {m n:Nat} (hmn:m≤n) (hn:n≤4611686018427387904):(PXS m n).length≤188:=by
  have h1:=z0A (n:=m) (by omega)
  have h2:=z1c 64 m (by omega)
  have h3:=z3t (a:=m) hn
  unfold PXS
  rw [List.length_append]
  omega
theorem zaI {i n:Nat} (hi:i<n) (hn:n≤4611686018427387904):(PSP i n).length+1=RISE i n+PC n:=by
  have h1:=z7N hi hn
  have h2:=z0A hn
  unfold PSP
  rw [List.length_append,z91,List.length_eraseIdx,if_pos (by omega)]
  omega
theorem z9T {i n:Nat} (hi:i<n) (hn:n≤4611686018427387904):(PSP i n).length≤126:=by
  have h1:=zaI hi hn
  have h2:=(z1m hi hn).2.1
  have h3:=z1c 64 n (by omega)
  omega
def Off (s t:Nat × Nat):Prop:=(s.2+1)*2 ^ s.1≤t.2*2 ^ t.1∨(t.2+1)*2 ^ t.1≤s.2*2 ^ s.1
def SIZE (l:List (Nat × Nat)):Nat:=(l.map fun s=>2 ^ s.1).sum
theorem z92 (l m:List (Nat × Nat)):SIZE (l ++ m)=SIZE l+SIZE m:=by simp [SIZE]
theorem zcg (l:List (Nat × Nat)) (s:Nat × Nat):SIZE (l ++ [s])=SIZE l+2 ^ s.1:=by simp [SIZE]
theorem z32 (k h:Nat):(k+1)*2 ^ h=k*2 ^ h+2 ^ h:=by rw [Nat.add_mul,Nat.one_mul]
theorem Tile.size {l:List (Nat × Nat)}:∀ {a b:Nat},Tile a l b→a+SIZE l=b:=by
  induction l with
  | nil=>intro a b h;have:a=b:=h;simp [SIZE,this]
  | cons s l ih=>
    intro a b ⟨h1,h2,h3⟩
    have:=ih h3
    rw [z32,h2] at this
    simp only [SIZE,List.map_cons,List.sum_cons] at this ⊢
    omega
theorem Tile.within {l:List (Nat × Nat)}:∀ {a b:Nat},Tile a l b→∀ s∈l,a≤s.2*2 ^ s.1∧(s.2+1)*2 ^ s.1≤b∧Node s.1 s.2:=by
  induction l with
  | nil=>intro a b _ s hs;simp at hs
  | cons t l ih=>
    intro a b ⟨h1,h2,h3⟩ s hs
    rcases List.mem_cons.1 hs with rfl | hs
    · exact ⟨by omega,h3.bound.1,h1⟩
    · have:=ih h3 s hs
      have h4:=z32 t.2 t.1
      have h5:=Nat.two_pow_pos t.1
      exact ⟨by omega,this.2⟩
theorem Tile.off {l:List (Nat × Nat)}:∀ {a b:Nat},Tile a l b→l.Pairwise Off:=by
  induction l with
  | nil=>intro a b _;exact List.Pairwise.nil
  | cons t l ih=>
    intro a b ⟨h1,h2,h3⟩
    refine List.Pairwise.cons (fun s hs=>?_) (ih h3)
    exact .inl (h3.within s hs).1
theorem z3l (i H:Nat):i / 2 ^ H*2 ^ H≤i∧i<(i / 2 ^ H+1)*2 ^ H:=by
  have h1:=Nat.div_add_mod i (2 ^ H)
  have h2:=Nat.mod_lt i (Nat.two_pow_pos H)
  rw [Nat.mul_comm] at h1
  rw [z32]
  omega
theorem z3W (k h:Nat):(SIB k % 2≠k % 2)∧k / 2*2 ^ (h+1)≤SIB k*2 ^ h∧(SIB k+1)*2 ^ h≤(k / 2+1)*2 ^ (h+1)∧k / 2*2 ^ (h+1)≤k*2 ^ h∧(k+1)*2 ^ h≤(k / 2+1)*2 ^ (h+1)∧((SIB k+1)*2 ^ h≤k*2 ^ h∨(k+1)*2 ^ h≤SIB k*2 ^ h):=by
  have e:=z2E h
  have up:∀ m,m*2 ^ (h+1)=(2*m)*2 ^ h:=fun m=>by rw [e,Nat.mul_comm 2 m,Nat.mul_assoc]
  rw [up,up]
  have mono:∀ {a b:Nat},a≤b→a*2 ^ h≤b*2 ^ h:=fun hab=>Nat.mul_le_mul_right _ hab
  unfold SIB
  split
  · exact ⟨by omega,mono (by omega),mono (by omega),mono (by omega),mono (by omega),.inl (mono (by omega))⟩
  · exact ⟨by omega,mono (by omega),mono (by omega),mono (by omega),mono (by omega),.inr (mono (by omega))⟩
theorem z3v (i:Nat):∀ H,∀ s∈WAYS i H,i / 2 ^ H*2 ^ H≤s.2*2 ^ s.1∧(s.2+1)*2 ^ s.1≤(i / 2 ^ H+1)*2 ^ H:=by
  intro H
  induction H with
  | zero=>intro s hs;simp [WAYS] at hs
  | succ H ih=>
    intro s hs
    rw [z3k,List.mem_append,List.mem_singleton] at hs
    have h1:=z3W (i / 2 ^ H) H
    rw [z0v]
    rcases hs with hs | rfl
    · have:=ih s hs
      omega
    · exact ⟨h1.2.1,h1.2.2.1⟩
theorem zed (i:Nat):∀ H,(WAYS i H).Pairwise Off:=by
  intro H
  induction H with
  | zero=>simp [WAYS]
  | succ H ih=>
    rw [z3k,List.pairwise_append]
    refine ⟨ih,by simp,fun s hs t ht=>?_⟩
    rw [List.mem_singleton] at ht
    subst ht
    have h1:=(z3W (i / 2 ^ H) H).2.2.2.2.2
    have h2:=z3v i H s hs
    unfold Off
    dsimp only
    omega
theorem zch (i:Nat):∀ H,SIZE (WAYS i H)+1=2 ^ H:=by
  intro H
  induction H with
  | zero=>simp [WAYS,SIZE]
  | succ H ih=>
    rw [z3k,zcg,z2E]
    dsimp only
    omega
theorem zci (i:Nat):∀ H,∀ s∈WAYS i H,¬ (s.2*2 ^ s.1≤i∧i<(s.2+1)*2 ^ s.1):=by
  intro H
  induction H with
  | zero=>intro s hs;simp [WAYS] at hs
  | succ H ih=>
    intro s hs
    rw [z3k,List.mem_append,List.mem_singleton] at hs
    rcases hs with hs | rfl
    · exact ih s hs
    · have h1:=(z3W (i / 2 ^ H) H).2.2.2.2.2
      have h2:=z3l i H
      dsimp only
      omega
theorem zcj {i:Nat} (hi:i<4611686018427387904):∀ H,H≤62→∀ s∈WAYS i H,Node s.1 s.2:=by
  intro H hH s hs
  simp only [WAYS,List.mem_map,List.mem_range] at hs
  obtain ⟨h,hh,rfl⟩:=hs
  exact (Node.over hi h (by omega)).sib (by omega)
theorem z2T {h k n:Nat} (hn:(k+1)*2 ^ h≤n):PLC h k<z05 n:=by
  have h1:=z3N hn
  have h2:=z0N ((k+1)*2 ^ h)
  rw [z2l] at h2
  have h3:=z1Z h k
  have h4:=z9E k
  have h5:2 ^ (h+1)*(k+1)=2*((k+1)*2 ^ h):=by rw [z2E,Nat.mul_assoc,Nat.mul_comm (2 ^ h)]
  omega
theorem zee {i n:Nat} (hi:i<n) (hn:n≤4611686018427387904):(SPAN 0 n)[KTH i n]?=some (RISE i n,i / 2 ^ RISE i n)∧(z1l n).getD (KTH i n) 0=PLC (RISE i n) (i / 2 ^ RISE i n):=by
  have h1:=zc4 hi hn
  have h2:=z7N hi hn
  have h3:=z1y hn h2
  have h4:HGT n (KTH i n)=RISE i n:=by simp [HGT,List.getD,h1]
  have h5:KGT n (KTH i n)=i / 2 ^ RISE i n:=by
    unfold KGT
    rw [h4]
    exact (z1m hi hn).2.2.2.2.symm
  rw [h4,h5] at h3
  refine ⟨h3,?_⟩
  rw [z2v hn]
  exact z9S h3
theorem Pairwise.at_lt {α:Type} {R:α→α→Prop} {l:List α} (h:l.Pairwise R) {a b:Nat} {x y:α} (hab:a<b) (ha:l[a]?=some x) (hb:l[b]?=some y):R x y:=by
  obtain ⟨h1,rfl⟩:=List.getElem?_eq_some_iff.1 ha
  obtain ⟨h2,rfl⟩:=List.getElem?_eq_some_iff.1 hb
  exact (List.pairwise_iff_getElem.1 h) a b h1 h2 hab
theorem zck {α:Type} {l:List α} {k:Nat} {x:α} (h:x∈l.eraseIdx k):∃ j,j≠k∧l[j]?=some x:=by
  obtain ⟨j,hj⟩:=List.mem_iff_getElem?.1 h
  rw [List.getElem?_eraseIdx] at hj
  split at hj
  · exact ⟨j,by omega,hj⟩
  · exact ⟨j+1,by omega,hj⟩
theorem zef {s t:Nat × Nat} (h:Off s t):Off t s:=h.elim .inr .inl
theorem zaJ:∀ (l:List (Nat × Nat)) (k:Nat) (s:Nat × Nat),l[k]?=some s→SIZE (l.eraseIdx k)+2 ^ s.1=SIZE l:=by
  intro l
  induction l with
  | nil=>intro k s h;simp at h
  | cons a l ih=>
    intro k s h
    cases k with
    | zero=>
      simp at h
      subst h
      simp [SIZE]
      omega
    | succ k=>
      have:=ih k s (by simpa using h)
      simp only [SIZE,List.eraseIdx_cons_succ,List.map_cons,List.sum_cons] at this ⊢
      omega
theorem zeg {i n:Nat} (hi:i<n) (hn:n≤4611686018427387904):
    (∀ s∈PSP i n,Node s.1 s.2∧PLC s.1 s.2<z05 n∧¬ (s.2*2 ^ s.1≤i∧i<(s.2+1)*2 ^ s.1))∧(PSP i n).Pairwise Off∧SIZE (PSP i n)+1=n:=by
  obtain ⟨hK,_⟩:=zee hi hn
  have h62:=(z1m hi hn).2.1
  have hT:=z1d hn (Nat.zero_le n)
  have hp:=z3l i (RISE i n)
  have hin:=hT.within _ (List.mem_of_getElem? hK)
  dsimp only at hin
  have hoff:=hT.off
  have hother:∀ s∈(SPAN 0 n).eraseIdx (KTH i n),Off s (RISE i n,i / 2 ^ RISE i n):=by
    intro s hs
    obtain ⟨j,hj,e⟩:=zck hs
    rcases Nat.lt_or_ge j (KTH i n) with h | h
    · exact Pairwise.at_lt hoff h e hK
    · exact zef (Pairwise.at_lt hoff (by omega:KTH i n<j) hK e)
  refine ⟨fun s hs=>?_,?_,?_⟩
  · unfold PSP at hs
    rcases List.mem_append.1 hs with hs | hs
    · have h1:=z3v i _ s hs
      exact ⟨zcj (by omega) _ h62 s hs,z2T (by omega),zci i _ s hs⟩
    · have h1:=hT.within s (List.mem_of_mem_eraseIdx hs)
      have h2:=hother s hs
      unfold Off at h2
      dsimp only at h2
      exact ⟨h1.2.2,z2T h1.2.1,by omega⟩
  · unfold PSP
    rw [List.pairwise_append]
    refine ⟨zed i _,hoff.sublist (List.eraseIdx_sublist _ _),fun s hs t ht=>?_⟩
    have h1:=z3v i _ s hs
    have h2:=hother t ht
    unfold Off at h2 ⊢
    dsimp only at h2
    omega
  · unfold PSP
    rw [z92]
    have h1:=zch i (RISE i n)
    have h2:=zaJ _ _ _ hK
    have h3:=hT.size
    dsimp only at h2
    omega
end Go.Proofs.YthjeeblddipiiaaGreatDoor

namespace Go.Proofs.YthjeeblddipiiaaGreatDoor
open Go.RowKit
end Go.Proofs.YthjeeblddipiiaaGreatDoor

namespace Go.Proofs.YthjeeblddipiiaaGreatDoor
open Go.RowKit
end Go.Proofs.YthjeeblddipiiaaGreatDoor

namespace Go.Proofs.YthjeeblddipiiaaGreatDoor
open Go.RowKit
end Go.Proofs.YthjeeblddipiiaaGreatDoor

namespace Go.Proofs.YthjeeblddipiiaaGreatDoor
open Go.RowKit
end Go.Proofs.YthjeeblddipiiaaGreatDoor

namespace Go.Proofs.YthjeeblddipiiaaGreatDoor
open Go.RowKit
end Go.Proofs.YthjeeblddipiiaaGreatDoor

namespace Go.Proofs.YthjeeblddipiiaaGreatDoor
open Go.RowKit
end Go.Proofs.YthjeeblddipiiaaGreatDoor

namespace Go.Proofs.YthjeeblddipiiaaGreatDoor
open Go.RowKit
end Go.Proofs.YthjeeblddipiiaaGreatDoor

namespace Go.Proofs.YthjeeblddipiiaaGreatDoor
open Go.RowKit
theorem zcl {w:World} {base g n cap:Nat} {l:List Nat} (h:w.ownsRow base 23 1 (.slice (some ⟨g,0,none⟩) n cap) n (UCELLS l)) (i:Nat) (hi:i<l.length):w.cell? ⟨g,i,none⟩=some (.int .u64 (l.getD i 0:Nat)):=by
  have hlen:l.length=n:=by have:=h.1;simpa [UCELLS] using this
  rw [h.cellAt i (by omega)]
  unfold UCELLS
  rw [List.getElem?_map,List.getD_eq_getElem?_getD,List.getElem?_eq_getElem hi]
  rfl
end Go.Proofs.YthjeeblddipiiaaGreatDoor

namespace Go.Proofs.YthjeeblddipiiaaGreatDoor
open Go.RowKit
def Nums (w:World) (v:Value) (l:List Nat):Prop:=∃ a cap,v=.slice a l.length cap∧(0<l.length→∃ g,a=some ⟨g,0,none⟩∧g<w.heap.size∧∀ (j:Nat),j<l.length→w.cell? ⟨g,j,none⟩=some (.int .u64 ((l.getD j 0:Nat):Int)))
theorem Nums.below {w w':World} {v:Value} {l:List Nat} {B:Nat} (h:Nums w v l) (hb:Below B w w') (hB:w.heap.size≤B):Nums w' v l:=by
  obtain ⟨a,cap,rfl,h⟩:=h
  refine ⟨a,cap,rfl,fun h0=>?_⟩
  obtain ⟨g,e,hg,hc⟩:=h h0
  exact ⟨g,e,Nat.lt_of_lt_of_le hg hb.size,fun j hj=>(hb.cell (p:=⟨g,j,none⟩) (Nat.lt_of_lt_of_le hg hB)).trans (hc j hj)⟩
theorem zeh {w:World} {base:Nat} {v:Value} {l:List Nat} (h:w.ownsRow base 23 1 v l.length (UCELLS l)):Nums w v l:=by
  rcases h.2 with ⟨rfl,h0⟩ | ⟨g,cap,cur,rfl,hb,hg,r⟩
  · rw [List.length_eq_zero_iff] at h0
    subst h0
    exact ⟨none,0,rfl,fun h=>absurd h (by simp)⟩
  · exact ⟨_,cap,rfl,fun h0=>⟨g,rfl,(Array.getElem?_eq_some_iff.1 hg).1,fun j hj=>zcl h j hj⟩⟩
structure Four (w:World) (B:Nat) (K:Nat→Prop) (v:Nat→Value) (n:Nat→Nat) (xs:Nat→List Value):Prop where
  row:∀ x,x<4→w.ownsRow B 23 1 (v x) (n x) (xs x)
  apart:∀ x y,x<4→y<4→x≠y→∀ g,(v x).ownBlock=some g→(v y).ownBlock≠some g
  off:∀ x,x<4→∀ g,(v x).ownBlock=some g→¬ K g
def UPD {α:Type} (f:Nat→α) (x:Nat) (a:α):Nat→α:=fun z=>if z=x then a else f z
theorem z33 {α:Type} (f:Nat→α) (x:Nat) (a:α):UPD f x a x=a:=by simp [UPD]
theorem z1A {α:Type} (f:Nat→α) {x z:Nat} (a:α) (h:z≠x):UPD f x a z=f z:=by simp [UPD,h]
theorem Four.alloc {w:World} {B:Nat} {K:Nat→Prop} {v:Nat→Value} {n:Nat→Nat} {xs:Nat→List Value} (h:Four w B K v n xs) (o:Obj):Four (w.alloc o) B K v n xs:=⟨fun x hx=>(h.row x hx).alloc o,h.apart,h.off⟩
theorem Four.more {w:World} {B:Nat} {K K':Nat→Prop} {v:Nat→Value} {n:Nat→Nat} {xs:Nat→List Value} (h:Four w B K v n xs) (hK:∀ g,g<w.heap.size→K' g→K g):Four w B K' v n xs:=
  ⟨h.row,h.apart,fun x hx g hg hk=>h.off x hx g hg (hK g ((h.row x hx).lt g hg).2 hk)⟩
theorem Four.below {w w':World} {B:Nat} {K:Nat→Prop} {v:Nat→Value} {n:Nat→Nat} {xs:Nat→List Value} (h:Four w B K v n xs) (hb:Below w.heap.size w w'):Four w' B K v n xs:=⟨fun x hx=>z0c (h.row x hx) hb,h.apart,h.off⟩
theorem z2F (W:World) (b j:Nat) (v:Value):W.grownBy (W.setCell ⟨b,j,none⟩ v) (some b):=
  ⟨rfl,rfl,rfl,(KeepsWalks.setCell W _ v).size,fun k _ hk=>Below.heap_setCell _ _ _ k (fun e=>hk (by rw [e]))⟩
theorem Four.other {w:World} {B:Nat} {K:Nat→Prop} {v:Nat→Value} {n:Nat→Nat} {xs:Nat→List Value} (h:Four w B K v n xs) {b:Nat} (hb:K b) (j:Nat) (u:Value):Four (w.setCell ⟨b,j,none⟩ u) B K v n xs:=
  ⟨fun x hx=>(h.row x hx).kept (z2F w b j u) (.inr fun e=>h.off x hx b e hb),h.apart,h.off⟩
theorem Four.store {w:World} {B:Nat} {K:Nat→Prop} {v:Nat→Value} {n:Nat→Nat} {xs:Nat→List Value} (h:Four w B K v n xs) {x g m cap:Nat} (hx:x<4) (hv:v x=.slice (some ⟨g,0,none⟩) m cap) (j:Nat) (u:Value):
    Four (w.setCell ⟨g,j,none⟩ u) B K v n (UPD xs x ((xs x).set j u)):=by
  refine ⟨fun z hz=>?_,h.apart,h.off⟩
  by_cases e:z=x
  · subst e
    have hr:=h.row z hz
    rw [hv] at hr ⊢
    have hm:m=n z:=by
      rcases hr.2 with ⟨e,_⟩ | ⟨_,_,_,e,_⟩
      · simp at e
      · simp at e
        omega
    subst hm
    rw [z33]
    exact (hr.stored j u).1
  · rw [z1A xs _ e]
    refine (h.row z hz).kept (z2F w g j u) (.inr fun e2=>?_)
    exact h.apart x z hx hz (fun e3=>e e3.symm) g (by rw [hv];rfl) e2
theorem z0O {w:World} {B n:Nat} {v:Value} {xs:List Value} (h:w.ownsRow B 23 1 v n xs):∃ a cap,v=.slice a n cap∧(0<n→∃ g,a=some ⟨g,0,none⟩∧g<w.heap.size∧B≤g):=by
  rcases h.2 with ⟨rfl,h0⟩ | ⟨g,cap,cur,rfl,hb,hg,r⟩
  · subst h0
    exact ⟨none,0,rfl,fun h=>by omega⟩
  · exact ⟨_,cap,rfl,fun _=>⟨g,rfl,(Array.getElem?_eq_some_iff.1 hg).1,hb⟩⟩
theorem z7Z {ops:Array Oper} {rest:List Oper} {o:Oper} {a:Act} {Q:Exit→Act→World→Prop} (w:World) (hgd:o.guard=none) (s x:Operand)
    (ho:o.op=.call {callee:=.builtin .append,args:=#[s,x],argTypes:=#[62,62]})
    (base:Nat) (v:Value) (n:Nat) (xs:List Value) (hs:a.eval s=v) (hown:w.ownsRow base 23 1 v n xs)
    (b c:Nat) (y:Int) (hx:a.eval x=.slice (some ⟨b,0,none⟩) 1 c) (hc:w.cell? ⟨b,0,none⟩=some (.int .u64 y))
    (hb:n≤1000) (hbase:base≤w.heap.size)
    (h:∀ g cap w',w'.ownsRow base 23 1 (.slice (some ⟨g,0,none⟩) (n+1) cap) (n+1) (xs ++ [.int .u64 y])→w.grownBy w' v.ownBlock→(v.ownBlock=some g∨g=w.heap.size)→g<w'.heap.size→wpList Tryz.prog ops Q rest (a.put o.dst (.slice (some ⟨g,0,none⟩) (n+1) cap)) w'):wpList Tryz.prog ops Q (o :: rest) a w:=by
  obtain ⟨i,hi,hz,hs1,hby⟩:=info_parts z3P
  refine wpList_append_lies w hgd s x 62 ho base 23 i (.int .u64 0) 1 8 Tryz.underlying62 hi hz hs1 hby rfl (by decide) v n xs hs hown ⟨b,0,none⟩ 1 c [.int .u64 y] hx rfl ?_ (fun u hu=>by simp at hu;subst hu;rfl) (by decide) (by simp only [maxLen];omega) (by omega) hbase w.heap.size rfl h
  intro j u hj
  cases j with
  | zero=>
    simp only [List.getElem?_cons_zero,Option.some.injEq] at hj
    subst hj
    exact hc
  | succ j=>simp at hj
theorem Has.grown {w w':World} {g:Nat} {c:Array Value} {t:TypeId} {row:Option Nat} (h:Has w g c t) (hg:w.grownBy w' row) (hne:row≠some g):Has w' g c t:=by
  obtain ⟨_,_,_,_,hk⟩:=hg
  exact (hk g h.lt (fun e=>hne e.symm)).trans h
end Go.Proofs.YthjeeblddipiiaaGreatDoor

namespace Go.Proofs.YthjeeblddipiiaaGreatDoor
open Go.RowKit
theorem z6k (X:Nat) (hX:X<2 ^ 64):∃ t:Nat,t≤64∧(X=0→t=64)∧(∀ h,h≤64→(X % 2 ^ h=0↔h≤t))∧∀ w,Tabled w→Calls Tryz.prog 71 #[.int .u64 (X:Int)] w fun e w'=>e=.returned (.int .i64 (t:Int))∧w=w':=by
  by_cases h0:X=0
  · subst h0
    exact ⟨64,Nat.le_refl _,fun _=>rfl,fun h hh=>by simp [hh],fun w _=>z6c _ _ w (zfi w)⟩
  · obtain ⟨t,q,e⟩:=z6M X h0
    have ht:=(z6b hX e).2
    refine ⟨t,by omega,fun c=>absurd c h0,?_,fun w hT=>z6c _ _ w (zf6 X t q hX e w hT)⟩
    intro h _
    constructor
    · intro hm
      rcases Nat.lt_or_ge t h with c | c
      · have h1:2 ^ (t+1) ∣ 2 ^ h:=Nat.pow_dvd_pow 2 c
        have h2:X % 2 ^ (t+1)=0:=Nat.mod_eq_zero_of_dvd (Nat.dvd_trans h1 (Nat.dvd_of_mod_eq_zero hm))
        rw [e,Nat.mul_comm] at h2
        have:=z2S.1 h2
        omega
      · exact c
    · intro hm
      have h1:2 ^ h ∣ 2 ^ t:=Nat.pow_dvd_pow 2 hm
      exact Nat.mod_eq_zero_of_dvd (Nat.dvd_trans h1 ⟨_,e⟩)
theorem zgy {a b t:Nat} (hab:a<b) (hb:b≤4611686018427387904) (ht:t≤64) (hd:∀ h,h≤64→(a % 2 ^ h=0↔h≤t)):min (t:Int) ((LEN (b - a):Nat) - 1:Int)=((HT a b:Nat):Int):=by
  obtain ⟨l1,l2,l3⟩:=z58 (b - a) (by omega) (by omega)
  have l4:LEN (b - a) - 1≤62:=by
    rcases Nat.lt_or_ge 62 (LEN (b - a) - 1) with h | h
    · have:2 ^ 63≤2 ^ (LEN (b - a) - 1):=Nat.pow_le_pow_right (by decide) h
      omega
    · exact h
  have:min t (LEN (b - a) - 1)=HT a b:=by
    refine z6j hab hb ⟨(hd _ (by omega)).2 (by omega),?_⟩ ?_
    · have:2 ^ min t (LEN (b - a) - 1)≤2 ^ (LEN (b - a) - 1):=Nat.pow_le_pow_right (by decide) (by omega)
      omega
    · intro c
      rcases Nat.lt_or_ge t (LEN (b - a) - 1) with h | h
      · have:=(hd _ (by omega)).1 c.1
        omega
      · have h1:=c.2
        have:2 ^ LEN (b - a)≤2 ^ (min t (LEN (b - a) - 1)+1):=Nat.pow_le_pow_right (by decide) (by omega)
        omega
  rw [← this]
  omega
theorem zft (h k:Nat) (s r:Int) (w:World) (e1:IntKind.u64.wrap ((k:Int)+1)=s) (e:IntKind.u64.wrap (s*2 ^ min h 64)=r):Calls Tryz.prog 73 #[SPOT h k] w fun e w'=>e=.returned (.int .u64 r)∧Below w.heap.size w w':=by
  subst e
  go_enter Tryz.func73,Tryz.ntmps73
  go_wp2
  go_ret
  exact ⟨rfl,(Below.refl _ _).alloc (Nat.le_refl _) _⟩
theorem zcm (h k:Nat) (hN:Node h k) (w:World):Calls Tryz.prog 73 #[SPOT h k] w fun e w'=>e=.returned (.int .u64 (((k+1)*2 ^ h:Nat):Int))∧Below w.heap.size w w':=by
  have h1:=hN.span
  have h3:=hN.index_lt
  refine zft h k ((k+1:Nat):Int) _ w (by rw [z0g];omega) ?_
  exact z7P (k+1) h hN.1 (by omega)
end Go.Proofs.YthjeeblddipiiaaGreatDoor

namespace Go.Proofs.YthjeeblddipiiaaGreatDoor
open Go.RowKit
theorem Has.grew {w w':World} {g:Nat} {c:Array Value} {t:TypeId} {row:Option Nat} (h:Has w g c t) (hg:w.grownBy w' row) (hne:row≠some g):Has w' g c t:=by
  obtain ⟨_,_,_,_,hk⟩:=hg
  exact (hk g h.lt (fun e=>hne e.symm)).trans h
theorem zei {wr w1:World} {c:Array Value} {t t':TypeId} {base s n:Nat} {v:Value} {xs:List Value} {o:Obj} (hown:wr.ownsRow base t' s v n xs) (hgrow:((wr.alloc (.cells c t)).alloc o).grownBy w1 v.ownBlock):Has w1 wr.heap.size c t:=
  ((Has.new wr c t).alloc o).grew hgrow (fun e=>by have:=(hown.lt _ e).2;omega)
end Go.Proofs.YthjeeblddipiiaaGreatDoor

namespace Go.Proofs.YthjeeblddipiiaaGreatDoor
open Go.RowKit
set_option maxHeartbeats 1000000 in
theorem zfu (a b:Nat) (ha:a<2 ^ 64) (hb:b≤4611686018427387904) (w:World) (hT:Tabled w) (h0:0<w.heap.size):Calls Tryz.prog 65 #[.int .u64 (a:Int),.int .u64 (b:Int)] w fun e w'=>
    ∃ v,e=.returned v∧w'.ownsRow w.heap.size 81 2 v (SPAN a b).length (z0i (SPAN a b))∧Below w.heap.size w w':=by
  have HA:Aside (b≤4611686018427387904∧Tabled w∧0<w.heap.size):=⟨hb,hT,h0⟩
  have hd:¬ (4611686018427387904:Int)<(b:Int):=by omega
  clear hT h0
  go_enter Tryz.func65,Tryz.ntmps65
  go_wp2
  go_loopg [0,5] (b - a) (fun g s0 s5 wx=>∃ (c:Nat) (pre:List (Nat × Nat)),s0=.int .u64 (c:Int)∧Aside (g=b - c∧c<2 ^ 64∧pre ++ SPAN c b=SPAN a b∧wx.ownsRow w.heap.size 81 2 s5 pre.length (z0i pre)∧Below w.heap.size w wx))
  case atStart=>exact ⟨a,[],rfl,rfl,ha,rfl,World.ownsRow_nil _ _ _ _,Below.refl _ _⟩
  case round=>
    obtain ⟨c,pre,rfl,A⟩:=hrel
    obtain ⟨hg,hc,hp,hown,hbel⟩:=A.out
    by_cases hlt:c<b
    · have hlt':(c:Int)<(b:Int):=by omega
      obtain ⟨t,ht,_,hd2,cl⟩:=z6k c hc
      have hm:=zgy hlt hb ht hd2
      have ch:=z4C (b - c) (by omega)
      obtain ⟨s1,s2,s3⟩:=z2R hlt hb
      obtain ⟨n1,n2,n3⟩:=s2.node s1 hb
      have es:IntKind.u64.wrap ((b:Int) - (c:Int))=((b - c:Nat):Int):=by rw [z0g];omega
      replace cl:=cl wr (HA.out.2.1.below HA.out.2.2 hbel)
      have ce:=fun w=>zcm (HT c b) (c / 2 ^ HT c b) n1 w
      rw [n3] at ce
      have hsp:=z1K hlt
      have e8:((HT c b:Nat):Int) % 256=((HT c b:Nat):Int):=by omega
      have e9:(c:Int) / 2 ^ min (HT c b) 64=((c / 2 ^ HT c b:Nat):Int):=by rw [show min (HT c b) 64=HT c b by omega,z1r]
      have hpos:=Nat.two_pow_pos (HT c b)
      have R:Aside (gk=b - c∧c<2 ^ 64∧pre ++ SPAN c b=SPAN a b∧wr.ownsRow w.heap.size 81 2 u5 pre.length (z0i pre)∧Below w.heap.size w wr∧c+2 ^ HT c b≤b∧0<2 ^ HT c b∧pre.length≤1000∧SPAN c b=(HT c b,c / 2 ^ HT c b) :: SPAN (c+2 ^ HT c b) b):=⟨hg,hc,hp,hown,hbel,s2.2,hpos,by have:=congrArg List.length hp;have:=z3t (a:=a) hb;rw [List.length_append] at *;omega,hsp⟩
      have h0:¬ ((HT c b:Nat):Int)<0:=by omega
      obtain ⟨u,hu⟩:∃ u:Int,((LEN (b - c):Nat):Int) - 1=u:=⟨_,rfl⟩
      rw [hu] at hm ch
      obtain ⟨H,hH⟩:∃ H,HT c b=H:=⟨_,rfl⟩
      obtain ⟨K,hK⟩:∃ K,c / 2 ^ H=K:=⟨_,rfl⟩
      obtain ⟨c',hc'⟩:∃ c',c+2 ^ H=c':=⟨_,rfl⟩
      rw [hH] at hm ce e8 e9 R h0
      rw [hK] at ce e9 R
      rw [hc'] at ce R
      have hcase:(H=t∧(H:Int)≤u)∨(u=(H:Int)∧¬ (t:Int)≤(H:Int)):=by
        rcases Int.le_total (t:Int) u with h | h
        · rw [Int.min_eq_left h] at hm
          exact .inl ⟨by omega,by omega⟩
        · rw [Int.min_eq_right h] at hm
          by_cases h2:(t:Int)=u
          · exact .inl ⟨by omega,by omega⟩
          · exact .inr ⟨by omega,by omega⟩
      have R2:Aside (c+2 ^ H=c'):=hc'
      clear hd2 ht s1 s2 s3 n1 n2 n3 hg hc hp hown hbel hm hu hH hK hc' hsp hpos A hlt
      rcases hcase with ⟨rfl,hle⟩ | ⟨rfl,hle⟩
      all_goals
        go_wp2_with fail
        refine cl.mono ?_
        rintro e w' ⟨rfl,rfl⟩
        clear cl
        go_wp2_with fail
        refine (ch _).mono ?_
        rintro e w' ⟨rfl,rfl⟩
        clear ch
        go_wp2_with (at_builtin;refine z7S _ rfl (.tmp 26) (.tmp 28) rfl w.heap.size u5 pre.length pre rfl ((R.out.2.2.2.1.alloc _).alloc _) (wr.heap.size+1) 1 H K rfl ((Has.at _ _ _ (by simp)).cell 0) ((Has.at _ _ _ (by simp)).cell 1) R.out.2.2.2.2.2.2.2.1 (by have:=R.out.2.2.2.2.1.size;simp;omega) ?_;intro g' cap w1 hown hgrow hg;have hH1:=zei R.out.2.2.2.1 hgrow;have hx0:w1.cell? ⟨wr.heap.size,0,none⟩=some (.int .u8 (H:Int)):=hH1.cell 0;have hx1:w1.cell? ⟨wr.heap.size,1,none⟩=some (.int .u64 (K:Int)):=hH1.cell 1)
        obtain ⟨r1,r2,r3,r4,r5,r6,r7,r8,r9⟩:=R.out
        have hr2:=R2.out
        have R3:Aside (c'<2 ^ 64∧b - c'<gk∧(pre ++ [(H,K)]) ++ SPAN c' b=SPAN a b∧w1.ownsRow w.heap.size 81 2 (.slice (some ⟨g',0,none⟩) (pre.length+1) cap) (pre.length+1) (z0i (pre ++ [(H,K)]))∧Below w.heap.size w w1):=⟨by have:=HA.out.1;omega,by omega,by rw [← r3,r9];simp,hown,((r5.alloc r5.size _).alloc (by have:=r5.size;simp;omega) _).grown hgrow (by have:=r5.size;simp;omega) (fun k e=>(r4.lt k e).1)⟩
        clear r1 r2 r3 r4 r5 r6 r7 r8 r9 hr2 hown R R2 hgrow hg
        refine (ce _).mono ?_
        rintro e w2 ⟨rfl,hb2⟩
        clear ce hx0 hx1 hH1
        go_wp2
        go_roundg (b - c')
        case measure=>exact R3.out.2.1
        case rel=>
          obtain ⟨r1,r2,r3,r4,r5⟩:=R3.out
          exact ⟨c',pre ++ [(H,K)],rfl,rfl,r1,r3,by rw [List.length_append];exact z0c r4 hb2,r5.trans (hb2.mono r5.size)⟩
    · have hlt':¬ (c:Int)<(b:Int):=by omega
      rw [z1J (a:=c) (by omega),List.append_nil] at hp
      have R:Aside (wr.ownsRow w.heap.size 81 2 u5 (SPAN a b).length (z0i (SPAN a b))∧Below w.heap.size w wr):=⟨by rw [← hp];exact hown,hbel⟩
      clear hg hc hp hown hbel A HA
      go_wp2
      go_ret
      exact ⟨u5,rfl,R.out.1,R.out.2⟩
end Go.Proofs.YthjeeblddipiiaaGreatDoor

namespace Go.Proofs.YthjeeblddipiiaaGreatDoor
open Go.RowKit
def Lie (w:World) (a:Option Addr) (l:List (Nat × Nat)):Prop:=0<l.length→∃ g o,a=some ⟨g,o,none⟩∧g<w.heap.size∧∀ (j h k:Nat),l[j]?=some (h,k)→w.cell? ⟨g,o+j*2,none⟩=some (.int .u8 (h:Int))∧w.cell? ⟨g,o+j*2+1,none⟩=some (.int .u64 (k:Int))
theorem Lie.below {w w':World} {a:Option Addr} {l:List (Nat × Nat)} (h:Lie w a l) (hb:Below w.heap.size w w'):Lie w' a l:=fun h0=>by
  obtain ⟨g,o,e,hg,hc⟩:=h h0
  exact ⟨g,o,e,Nat.lt_of_lt_of_le hg hb.size,fun j x y he=>⟨(hb.cell (p:=⟨g,o+j*2,none⟩) hg).trans (hc j x y he).1,(hb.cell (p:=⟨g,o+j*2+1,none⟩) hg).trans (hc j x y he).2⟩⟩
theorem Tile.same {l:List (Nat × Nat)}:∀ {a b a' b':Nat},l≠[]→Tile a l b→Tile a' l b'→a=a'∧b=b':=by
  have key:∀ (l:List (Nat × Nat)) (a b b':Nat),Tile a l b→Tile a l b'→b=b':=by
    intro l
    induction l with
    | nil=>intro a b b' h h';exact Eq.trans (Eq.symm h) h'
    | cons s l ih=>intro a b b' h h';exact ih _ _ _ h.2.2 h'.2.2
  intro a b a' b' h0 h h'
  cases l with
  | nil=>exact absurd rfl h0
  | cons s l=>exact ⟨h.2.1.symm.trans h'.2.1,key l _ _ _ h.2.2 h'.2.2⟩
theorem z4D {l:List (Nat × Nat)} {i h k:Nat} (e:l[i]?=some (h,k)):l=l.take i ++ (h,k) :: l.drop (i+1)∧l.take (i+1)=l.take i ++ [(h,k)]:=by
  obtain ⟨hi,e2⟩:=List.getElem?_eq_some_iff.1 e
  refine ⟨?_,?_⟩
  · rw [← e2,List.getElem_cons_drop,List.take_append_drop]
  · rw [List.take_add_one,e]
    rfl
theorem at_lt {l:List (Nat × Nat)} {i:Nat} (h:i<l.length):∃ x y,l[i]?=some (x,y):=⟨_,_,List.getElem?_eq_getElem h⟩
end Go.Proofs.YthjeeblddipiiaaGreatDoor
