/- Texts of ManyAccepts, one behind the other: PosFour, CutCalls, CutHas, CutSpan, CutOver, ProofPlaces, ProofBytes, ProofEncode, CutRefSpan, ProofRefPlaces, ProofLists, RegionSteps, ProofCells, VerifyHash, ProofSlices, ManyClimbPlain, ManySplit. -/
import Derived.Deep.QuietTactic
import Derived.BigQuiet
import Derived.Deep.MidRow
import Derived.Test.YtjkjlblongeljaaGreatDoorProg
import Derived.WalkKit
import Derived.WalkLawsBesides
import Derived.Deep.RegionHeld3
import Derived.Deep.CutRange
import Derived.Great.BuildSlice
import Derived.ChangeKeysEq
import Derived.Deep.Cut
import Derived.Test.YtjkjlblongeljaaGreatDoorManyAcceptsP10
namespace Go.Proofs.YtjkjlblongeljaaGreatDoor
open Go.RowKit
def Nums (w:World) (v:Value) (l:List Nat):Prop:=∃ a cap,v=.slice a l.length cap∧(0<l.length→∃ g,a=some ⟨g,0,none⟩∧g<w.heap.size∧∀ (j:Nat),j<l.length→w.cell? ⟨g,j,none⟩=some (.int .u64 ((l.getD j 0:Nat):Int)))
theorem Nums.below {w w':World} {v:Value} {l:List Nat} {B:Nat} (h:Nums w v l) (hb:Below B w w') (hB:w.heap.size≤B):Nums w' v l:=by
  obtain ⟨a,cap,rfl,h⟩:=h
  refine ⟨a,cap,rfl,fun h0=>?_⟩
  obtain ⟨g,e,hg,hc⟩:=h h0
  exact ⟨g,e,Nat.lt_of_lt_of_le hg hb.size,fun j hj=>(hb.cell (p:=⟨g,j,none⟩) (Nat.lt_of_lt_of_le hg hB)).trans (hc j hj)⟩
structure Four (w:World) (B:Nat) (K:Nat→Prop) (v:Nat→Value) (n:Nat→Nat) (xs:Nat→List Value):Prop where
  row:∀ x,x<4→w.ownsRow B 24 1 (v x) (n x) (xs x)
  apart:∀ x y,x<4→y<4→x≠y→∀ g,(v x).ownBlock=some g→(v y).ownBlock≠some g
  off:∀ x,x<4→∀ g,(v x).ownBlock=some g→¬ K g
def UPD {α:Type} (f:Nat→α) (x:Nat) (a:α):Nat→α:=fun z=>if z=x then a else f z
theorem z2Y {α:Type} (f:Nat→α) (x:Nat) (a:α):UPD f x a x=a:=by simp [UPD]
theorem z1m {α:Type} (f:Nat→α) {x z:Nat} (a:α) (h:z≠x):UPD f x a z=f z:=by simp [UPD,h]
theorem Four.alloc {w:World} {B:Nat} {K:Nat→Prop} {v:Nat→Value} {n:Nat→Nat} {xs:Nat→List Value} (h:Four w B K v n xs) (o:Obj):Four (w.alloc o) B K v n xs:=⟨fun x hx=>(h.row x hx).alloc o,h.apart,h.off⟩
theorem Four.more {w:World} {B:Nat} {K K':Nat→Prop} {v:Nat→Value} {n:Nat→Nat} {xs:Nat→List Value} (h:Four w B K v n xs) (hK:∀ g,g<w.heap.size→K' g→K g):Four w B K' v n xs:=
  ⟨h.row,h.apart,fun x hx g hg hk=>h.off x hx g hg (hK g ((h.row x hx).lt g hg).2 hk)⟩
theorem Four.below {w w':World} {B:Nat} {K:Nat→Prop} {v:Nat→Value} {n:Nat→Nat} {xs:Nat→List Value} (h:Four w B K v n xs) (hb:Below w.heap.size w w'):Four w' B K v n xs:=⟨fun x hx=>z0P (h.row x hx) hb,h.apart,h.off⟩
theorem z4i (W:World) (b j:Nat) (v:Value):W.grownBy (W.setCell ⟨b,j,none⟩ v) (some b):=
  ⟨rfl,rfl,rfl,(KeepsWalks.setCell W _ v).size,fun k _ hk=>Below.heap_setCell _ _ _ k (fun e=>hk (by rw [e]))⟩
theorem Four.other {w:World} {B:Nat} {K:Nat→Prop} {v:Nat→Value} {n:Nat→Nat} {xs:Nat→List Value} (h:Four w B K v n xs) {b:Nat} (hb:K b) (j:Nat) (u:Value):Four (w.setCell ⟨b,j,none⟩ u) B K v n xs:=
  ⟨fun x hx=>(h.row x hx).kept (z4i w b j u) (.inr fun e=>h.off x hx b e hb),h.apart,h.off⟩
theorem Four.store {w:World} {B:Nat} {K:Nat→Prop} {v:Nat→Value} {n:Nat→Nat} {xs:Nat→List Value} (h:Four w B K v n xs) {x g m cap:Nat} (hx:x<4) (hv:v x=.slice (some ⟨g,0,none⟩) m cap) (j:Nat) (u:Value):
    Four (w.setCell ⟨g,j,none⟩ u) B K v n (UPD xs x ((xs x).set j u)):=by
  refine ⟨fun z hz=>?_,h.apart,h.off⟩
  by_cases e:z=x
  · subst e
    have hr:=h.row z hz
    rw [hv] at hr ⊢
    have hm:m=n z:=by
      rcases hr.2 with ⟨e,_⟩ | ⟨_,_,_,e,_⟩
      · simp at e
      · simp at e
        omega
    subst hm
    rw [z2Y]
    exact (hr.stored j u).1
  · rw [z1m xs _ e]
    refine (h.row z hz).kept (z4i w g j u) (.inr fun e2=>?_)
    exact h.apart x z hx hz (fun e3=>e e3.symm) g (by rw [hv];rfl) e2
theorem Has.grown {w w':World} {g:Nat} {c:Array Value} {t:TypeId} {row:Option Nat} (h:Has w g c t) (hg:w.grownBy w' row) (hne:row≠some g):Has w' g c t:=by
  obtain ⟨_,_,_,_,hk⟩:=hg
  exact (hk g h.lt (fun e=>hne e.symm)).trans h
theorem Four.of {w:World} {B b1 b2 b3 b4:Nat} {K:Nat→Prop} {v0 v1 v2 v3:Value} {n m:Nat} {xs ys:List Value} (h0:w.ownsRow B 24 1 v0 n xs) (h1:w.ownsRow b1 24 1 v1 n xs) (h2:w.ownsRow b2 24 1 v2 m ys) (h3:w.ownsRow b3 24 1 v3 m ys)
    (l0:∀ k,v0.ownBlock=some k→k<b1) (l1:∀ k,v1.ownBlock=some k→k<b2) (l2:∀ k,v2.ownBlock=some k→k<b3) (l3:∀ k,v3.ownBlock=some k→k<b4) (o1:B≤b1) (o2:b1≤b2) (o3:b2≤b3) (o4:b3≤b4) (hK:∀ k,K k→b4≤k):
    ∃ (V:Nat→Value) (N:Nat→Nat) (XS:Nat→List Value),Four w B K V N XS∧V 0=v0∧V 1=v1∧V 2=v2∧V 3=v3∧(∀ x,x<4→N x=n∨N x=m):=by
  have key:∀ x,x<4→x=0∨x=1∨x=2∨x=3:=fun x hx=>by omega
  have bnd:∀ x,x<4→∀ k,((if x=0 then v0 else if x=1 then v1 else if x=2 then v2 else v3:Value)).ownBlock=some k→(if x=0 then B else if x=1 then b1 else if x=2 then b2 else b3)≤k∧k<(if x=0 then b1 else if x=1 then b2 else if x=2 then b3 else b4):=fun x hx k hk=>by
    rcases key x hx with rfl | rfl | rfl | rfl
    · exact ⟨(h0.lt k hk).1,l0 k hk⟩
    · exact ⟨(h1.lt k hk).1,l1 k hk⟩
    · exact ⟨(h2.lt k hk).1,l2 k hk⟩
    · exact ⟨(h3.lt k hk).1,l3 k hk⟩
  refine ⟨fun x=>if x=0 then v0 else if x=1 then v1 else if x=2 then v2 else v3,fun x=>if x<2 then n else m,fun x=>if x<2 then xs else ys,⟨fun x hx=>?_,fun x y hx hy hne k hk hk2=>?_,fun x hx k hk hkk=>?_⟩,rfl,rfl,rfl,rfl,fun x hx=>?_⟩
  · rcases key x hx with rfl | rfl | rfl | rfl
    · exact h0
    · exact z0i h1 o1
    · exact z0i h2 (Nat.le_trans o1 o2)
    · exact z0i h3 (Nat.le_trans o1 (Nat.le_trans o2 o3))
  · have hx':=bnd x hx k hk
    have hy':=bnd y hy k hk2
    rcases key x hx with rfl | rfl | rfl | rfl <;> rcases key y hy with rfl | rfl | rfl | rfl <;> simp at hx' hy' hne <;> omega
  · have hx':=bnd x hx k hk
    have:=hK k hkk
    rcases key x hx with rfl | rfl | rfl | rfl <;> simp at hx' <;> omega
  · rcases key x hx with rfl | rfl | rfl | rfl <;> simp
end Go.Proofs.YtjkjlblongeljaaGreatDoor

namespace Go.Proofs.YtjkjlblongeljaaGreatDoor
open Go.RowKit
end Go.Proofs.YtjkjlblongeljaaGreatDoor

namespace Go.Proofs.YtjkjlblongeljaaGreatDoor
open Go.RowKit
end Go.Proofs.YtjkjlblongeljaaGreatDoor

namespace Go.Proofs.YtjkjlblongeljaaGreatDoor
open Go.RowKit
end Go.Proofs.YtjkjlblongeljaaGreatDoor

namespace Go.Proofs.YtjkjlblongeljaaGreatDoor
open Go.RowKit
def Lie (w:World) (a:Option Addr) (l:List (Nat × Nat)):Prop:=0<l.length→∃ g o,a=some ⟨g,o,none⟩∧g<w.heap.size∧∀ (j h k:Nat),l[j]?=some (h,k)→w.cell? ⟨g,o+j*2,none⟩=some (.int .u8 (h:Int))∧w.cell? ⟨g,o+j*2+1,none⟩=some (.int .u64 (k:Int))
theorem Lie.below {w w':World} {a:Option Addr} {l:List (Nat × Nat)} (h:Lie w a l) (hb:Below w.heap.size w w'):Lie w' a l:=fun h0=>by
  obtain ⟨g,o,e,hg,hc⟩:=h h0
  exact ⟨g,o,e,Nat.lt_of_lt_of_le hg hb.size,fun j x y he=>⟨(hb.cell (p:=⟨g,o+j*2,none⟩) hg).trans (hc j x y he).1,(hb.cell (p:=⟨g,o+j*2+1,none⟩) hg).trans (hc j x y he).2⟩⟩
theorem Lie.of {w:World} {a:Option Addr} {l:List (Nat × Nat)} (h:Spots w a l):Lie w a l:=fun h0=>by
  obtain ⟨g,e,hg,hc⟩:=h h0
  refine ⟨g,0,e,hg,fun j x y he=>?_⟩
  rw [Nat.zero_add]
  exact hc j x y he
theorem Tile.same {l:List (Nat × Nat)}:∀ {a b a' b':Nat},l≠[]→Tile a l b→Tile a' l b'→a=a'∧b=b':=by
  have key:∀ (l:List (Nat × Nat)) (a b b':Nat),Tile a l b→Tile a l b'→b=b':=by
    intro l
    induction l with
    | nil=>intro a b b' h h';exact Eq.trans (Eq.symm h) h'
    | cons s l ih=>intro a b b' h h';exact ih _ _ _ h.2.2 h'.2.2
  intro a b a' b' h0 h h'
  cases l with
  | nil=>exact absurd rfl h0
  | cons s l=>exact ⟨h.2.1.symm.trans h'.2.1,key l _ _ _ h.2.2 h'.2.2⟩
theorem z68 {l:List (Nat × Nat)} {i h k:Nat} (e:l[i]?=some (h,k)):l=l.take i ++ (h,k) :: l.drop (i+1)∧l.take (i+1)=l.take i ++ [(h,k)]:=by
  obtain ⟨hi,e2⟩:=List.getElem?_eq_some_iff.1 e
  refine ⟨?_,?_⟩
  · rw [← e2,List.getElem_cons_drop,List.take_append_drop]
  · rw [List.take_add_one,e]
    rfl
end Go.Proofs.YtjkjlblongeljaaGreatDoor

namespace Go.Proofs.YtjkjlblongeljaaGreatDoor
open Go.RowKit
end Go.Proofs.YtjkjlblongeljaaGreatDoor

namespace Go.Proofs.YtjkjlblongeljaaGreatDoor
open Go.RowKit
set_option maxRecDepth 100000
def Flat (w:World) (a:Option Addr) (n:Nat) (l:List Int):Prop:=
  l.length=32*n∧(0<n→∃ b o,a=some ⟨b,o,none⟩∧b<w.heap.size∧∀ j,j<32*n→w.cell? ⟨b,o+j,none⟩=some (.int .u8 (l.getD j 0)))∧∀ x∈l,0≤x∧x≤255
theorem Flat.below {w w':World} {a:Option Addr} {n:Nat} {l:List Int} (h:Flat w a n l) (hb:Below w.heap.size w w'):Flat w' a n l:=
  ⟨h.1,fun hn=>by
    obtain ⟨b,o,e,hl,hc⟩:=h.2.1 hn
    exact ⟨b,o,e,Nat.lt_of_lt_of_le hl hb.size,fun i hi=>(hb.cell (by exact hl)).trans (hc i hi)⟩,h.2.2⟩
def HSH (l:List Int) (i:Nat):List Int:=(l.drop (32*i)).take 32
theorem z0w {l:List Int} {n i:Nat} (hl:l.length=32*n) (hi:i<n):(HSH l i).length=32:=by
  unfold HSH
  rw [List.length_take,List.length_drop]
  omega
theorem zfO {l:List Int} {i j:Nat} (hj:j<32):(HSH l i).getD j 0=l.getD (32*i+j) 0:=by
  unfold HSH
  rw [List.getD_eq_getElem?_getD,List.getElem?_take,if_pos hj,List.getElem?_drop,List.getD_eq_getElem?_getD]
theorem z9F {l:List Int} {i:Nat} {x:Int} (h:x∈HSH l i):x∈l:=List.mem_of_mem_drop (List.mem_of_mem_take h)
theorem z5c (l:List Int) (i:Nat):l.take (32*(i+1))=l.take (32*i) ++ HSH l i:=by
  unfold HSH
  rw [show 32*(i+1)=32*i+32 by omega,List.take_add]
theorem z4P:(Tryz.prog.info? 35).map (·.size)=some 32:=by kernel_rfl
theorem z0l {h:List Int} (hl:h.length=32):(Tryz.prog.info? 35).map (·.size)=some (z00 h).length:=by
  rw [z4P,show (z00 h).length=32 by simp [z00,hl]]
theorem z0d {h:List Int} (hl:h.length=32):(Tryz.prog.info? 35).map (·.size)=some (z00 h).toArray.size:=by
  rw [z4P,show (z00 h).toArray.size=32 by simp [z00,hl]]
theorem z0m (h:List Int):(z00 h).toArray.all (·.oneCell')=true:=by
  rw [Array.all_eq_true_iff_forall_mem]
  intro v hv
  exact z0O h v (by simpa using hv)
theorem Flat.at {w:World} {b o n:Nat} {l:List Int} {i:Nat} (h:Flat w (some ⟨b,o,none⟩) n l) (hi:i<n):w.rangeAt b (o+i*32) (z00 (HSH l i)):=by
  intro j v hv
  obtain ⟨b',o',e,_,hc⟩:=h.2.1 (by omega)
  simp only [Option.some.injEq,Addr.mk.injEq] at e
  obtain ⟨rfl,rfl,_⟩:=e
  have hj:j<32:=by
    have:=(List.getElem?_eq_some_iff.1 hv).1
    rw [show (z00 (HSH l i)).length=32 by simp [z00,z0w h.1 hi]] at this
    exact this
  rw [z0u _ _ (by rw [z0w h.1 hi];exact hj),zfO hj] at hv
  rw [show o+i*32+j=o+(32*i+j) by omega,hc _ (by omega)]
  exact hv
theorem zbY (w:World) {h:List Int} (hl:h.length=32) (hr:∀ x∈h,0≤x∧x≤255) (t:TypeId):Bytes (w.alloc (.cells (z00 h).toArray t)) (some ⟨w.heap.size,0,none⟩) 32 h:=by
  refine ⟨hl,fun _=>⟨w.heap.size,0,rfl,by simp,fun i hi=>?_⟩,hr⟩
  rw [Nat.zero_add,World.cell?_alloc_at _ _ _ _ rfl,List.getElem?_toArray,z0u h i (by omega)]
theorem z9G (w:World) (x:Int):(w.alloc (.cells #[.int .u8 x] 5)).ownsRow w.heap.size 5 1 (.slice (some ⟨w.heap.size,0,none⟩) 1 1) 1 (z00 [x]):=
  World.ownsRow_lit w #[.int .u8 x] 1 (Nat.le_refl _) (by simp [maxLen]) rfl
theorem zeW {w:World} {base n:Nat} {v:Value} {l:List Int} (h:w.ownsRow base 5 1 v n (z00 l)):l.length=n:=by
  have:=h.1
  simpa [z00] using this
end Go.Proofs.YtjkjlblongeljaaGreatDoor

namespace Go.Proofs.YtjkjlblongeljaaGreatDoor
open Go.RowKit
set_option maxRecDepth 100000
end Go.Proofs.YtjkjlblongeljaaGreatDoor

namespace Go.Proofs.YtjkjlblongeljaaGreatDoor
open Go.RowKit
end Go.Proofs.YtjkjlblongeljaaGreatDoor

namespace Go.Proofs.YtjkjlblongeljaaGreatDoor
open Go.RowKit
set_option maxRecDepth 100000
end Go.Proofs.YtjkjlblongeljaaGreatDoor

namespace Go.Proofs.YtjkjlblongeljaaGreatDoor
open Go.RowKit
set_option maxRecDepth 100000
theorem zaE {w w':World} {r:Option Nat} (h:w.grownBy w' r):w.heap.size≤w'.heap.size:=by
  obtain ⟨_,_,_,hs,_⟩:=h
  exact hs
end Go.Proofs.YtjkjlblongeljaaGreatDoor

namespace Go.Proofs.YtjkjlblongeljaaGreatDoor
open Go.RowKit
set_option maxRecDepth 100000
theorem z07 {ops:Array Oper} {o:Oper} {a:Act} {w w':World} {K:Act→World→Prop} {Q:Exit→Act→World→Prop} {E:Prop} {v:Value} (hg:o.guard=none)
    (hrun:(execOp a.eval o).run Tryz.prog w=.ok (.value v) w') (h:K (a.put o.dst v) w'):if Region.wanted o (yielded ops a.tmps)=true then Oper.wp Tryz.prog o a w K Q else E:=by
  have hw:Region.wanted o (yielded ops a.tmps)=true:=by simp [Region.wanted,hg]
  rw [if_pos hw]
  unfold Oper.wp
  rw [hrun]
  exact h
theorem z0Q {ops:Array Oper} {o:Oper} {a:Act} {w w':World} {K:Act→World→Prop} {Q:Exit→Act→World→Prop} {E:Prop} (hg:o.guard=none)
    (hrun:(execOp a.eval o).run Tryz.prog w=.ok .skip w') (h:K (a.put o.dst undef) w'):if Region.wanted o (yielded ops a.tmps)=true then Oper.wp Tryz.prog o a w K Q else E:=by
  have hw:Region.wanted o (yielded ops a.tmps)=true:=by simp [Region.wanted,hg]
  rw [if_pos hw]
  unfold Oper.wp
  rw [hrun]
  exact h
theorem z1j {s:Sem Unit} {w w':World} (h:s.run Tryz.prog w=.ok () w'):(do s;pure Next.skip:Sem Next).run Tryz.prog w=.ok .skip w':=by
  simp [h]
theorem z2K {ops:Array Oper} {Q:Exit→Act→World→Prop} {md:Region.Mode} {S:World→Prop} {fuel:Nat} {listed:Array Bool} {a:Act} {w:World} {o:Oper} (i:Nat) (hr:Region.ready md ops listed=[i]) (ho:ops[i]?=some o)
    (h:∀ K':Act→World→Prop,Shut (∀ a w,S w→(S w→wpAnyH Tryz.prog md ops Q S fuel (listed.setIfInBounds i true) a w)→K' a w)→if Region.wanted o (yielded ops a.tmps)=true then Oper.wp Tryz.prog o a w K' Q else K' (a.put o.dst undef) w):wpAnyH Tryz.prog md ops Q S (fuel+1) listed a w:=
  wpAnyH_ready hr (by simp) (AllReadyH.cons ho h AllReadyH.nil)
theorem z09 {s:Sem Value} {w w':World} {v:Value} (h:s.run Tryz.prog w=.ok v w'):(do pure (Next.value (← s)):Sem Next).run Tryz.prog w=.ok (.value v) w':=by
  simp [h,Result.andThen]
end Go.Proofs.YtjkjlblongeljaaGreatDoor

namespace Go.Proofs.YtjkjlblongeljaaGreatDoor
open Go.RowKit
set_option maxRecDepth 100000
theorem z3P {w w':World} {B:Nat} {t:TypeId} {s:Nat} {v:Value} {n:Nat} {xs:List Value} (h:w.ownsRow B t s v n xs) (hk:∀ k,v.ownBlock=some k→w'.heap[k]?=w.heap[k]?):w'.ownsRow B t s v n xs:=by
  refine ⟨h.1,?_⟩
  rcases h.2 with h | ⟨g,cap,cur,rfl,hb,hg,r⟩
  · exact .inl h
  · exact .inr ⟨g,cap,cur,rfl,hb,by rw [hk g rfl];exact hg,r⟩
def ZND:List Int:=List.replicate 32 0
abbrev ZARR:Array Value:=#[.int .u8 0,.int .u8 0,.int .u8 0,.int .u8 0,.int .u8 0,.int .u8 0,.int .u8 0,.int .u8 0,.int .u8 0,.int .u8 0,.int .u8 0,.int .u8 0,.int .u8 0,.int .u8 0,.int .u8 0,.int .u8 0,.int .u8 0,.int .u8 0,.int .u8 0,.int .u8 0,.int .u8 0,.int .u8 0,.int .u8 0,.int .u8 0,.int .u8 0,.int .u8 0,.int .u8 0,.int .u8 0,.int .u8 0,.int .u8 0,.int .u8 0,.int .u8 0]
theorem z2o:(z00 ZND).toArray=ZARR:=rfl
theorem z0q {fn:Func} {p q:Tmp} {ty:TypeId} (h:fn.results=#[.cell p ty,.tmp q]) (tmps:Array Value) (w:World) (g:Nat) (t:TypeId) (cs:Array Value) (fr:Nat × Nat) (k:Nat) (el:TypeId)
    (hp:tmps.getD p undef=.pointer (some ⟨g,0,none⟩)) (hg:w.heap[g]?=some (.cells cs t fr)) (v:Value) (hq:tmps.getD q undef=v)
    (hu:Tryz.prog.underlying ty=some (.array k el)) (hi:(Tryz.prog.info? ty).map (·.size)=some cs.size):
    (results fn tmps).run Tryz.prog w=.ok (.tuple #[.agg cs,v]) w:=by
  have hp':tmps[p]?.getD undef=.pointer (some ⟨g,0,none⟩):=by simpa using hp
  have hq':tmps[q]?.getD undef=v:=by simpa using hq
  simp [results,h,hp',hq',asAddr,run_loadVar_row w g t ty cs fr (.array k el) hg hu rfl hi]
theorem z0K:(Tryz.prog.info? 35).map (fun i=>(i.zero,i.size,i.bytes))=some (some (.agg ZARR),32,32):=by kernel_rfl
theorem z2Z {ops:Array Oper} {rest:List Oper} {o:Oper} {a:Act} {Q:Exit→Act→World→Prop} (w:World) (hgd:o.guard=none) (s x:Operand)
    (ho:o.op=.call {callee:=.builtin .append,args:=#[s,x],argTypes:=#[22,22]})
    (base:Nat) (v:Value) (n:Nat) (xs:List Value) (hs:a.eval s=v) (hown:w.ownsRow base 35 32 v n xs)
    (b c:Nat) (y:List Int) (hl:y.length=32) (hx:a.eval x=.slice (some ⟨b,0,none⟩) 1 c) (hc:Has w b (z00 y).toArray 35)
    (hb:n≤1000) (hbase:base≤w.heap.size)
    (h:∀ g cap w',w'.ownsRow base 35 32 (.slice (some ⟨g,0,none⟩) (n+1) cap) (n+1) (xs ++ z00 y)→w.grownBy w' v.ownBlock→(v.ownBlock=some g∨g=w.heap.size)→g<w'.heap.size→wpList Tryz.prog ops Q rest (a.put o.dst (.slice (some ⟨g,0,none⟩) (n+1) cap)) w'):wpList Tryz.prog ops Q (o :: rest) a w:=by
  obtain ⟨i,hi,hz,hs1,hby⟩:=info_parts z0K
  refine wpList_append_lies w hgd s x 22 ho base 35 i (.agg ZARR) 32 32 Tryz.underlying22 hi hz hs1 hby rfl (by decide) v n xs hs hown ⟨b,0,none⟩ 1 c (z00 y) hx (by rw [z00,List.length_map,hl]) ?_ (z0O y) (by decide) (by simp only [maxLen];omega) (by omega) hbase w.heap.size rfl h
  intro j u hj
  rw [z19,Nat.zero_add,hc.cell,List.getElem?_toArray]
  exact hj
theorem z1n {ops:Array Oper} {rest:List Oper} {o:Oper} {a:Act} {Q:Exit→Act→World→Prop} (w:World) (hg:o.guard=none) (t e:TypeId) (x:Operand) (ho:o.op=.buildSlice t 1 #[(0,x)]) (C:Array Value) (hx:a.eval x=.agg C) (n:Nat) (z:Value) (by':Nat)
    (hu:Tryz.prog.underlying t=some (.slice e)) (hi:(Tryz.prog.info? e).map (fun i=>(i.zero,i.size,i.bytes))=some (some z,n,by')) (hC:C.size=n) (hz:z.cells.size=n) (hn:0<n) (hs:n≤1000)
    (h:wpList Tryz.prog ops Q rest (a.put o.dst (.slice (some ⟨w.heap.size,0,none⟩) 1 1)) (w.alloc (.cells C e))):wpList Tryz.prog ops Q (o :: rest) a w:=by
  obtain ⟨i,hie,hz',hs1,_⟩:=info_parts hi
  refine wpList_buildSlice hg t e 1 _ ho C i z hu hie hz' (by rw [hs1];omega) (by rw [hs1];omega) ?_ h
  have:=Great.fill_whole (s:=n) hn [.agg C] ((Array.range (1*i.size)).map (z.cells[· % z.cells.size]!)) (fun v hv=>by simp at hv;subst hv;exact hC) (by simp [hs1])
  simp [Value.cells] at this
  rw [hs1]
  simp [hx]
  rw [hs1] at this
  exact this
theorem z4Q (d:Nat) (h g:List Int) (hh:h.length=32) (hg:g.length=32) (w:World):∀ is:List Nat,(∀ i∈is,i<32)→(Op.eqItems (d+1) 5 1 (z00 h).toArray (z00 g).toArray is).run Tryz.prog w=.ok (is.all fun i=>h.getD i 0 == g.getD i 0) w
  | [],_=>by simp [Op.eqItems]
  | i :: is,hi=>by
    have hp:Tryz.prog.plainKey 5=true:=by kernel_rfl
    have hi32:i<32:=hi i (by simp)
    have h1:=run_part_plain (P:=Tryz.prog) w hp (show (z00 h).toArray[i]?=some (.int .u8 (h.getD i 0)) by rw [List.getElem?_toArray,z0u h i (by omega)])
    have h2:=run_part_plain (P:=Tryz.prog) w hp (show (z00 g).toArray[i]?=some (.int .u8 (g.getD i 0)) by rw [List.getElem?_toArray,z0u g i (by omega)])
    have h3:=run_equalIn_int (P:=Tryz.prog) w d 5 .u8 .u8 (h.getD i 0) (g.getD i 0) Tryz.underlying5
    have ih:=z4Q d h g hh hg w is (fun j hj=>hi j (by simp [hj]))
    rw [Op.eqItems,Nat.mul_one]
    simp only [Sem.run_bind,h1,h2,h3,Result.andThen_ok]
    by_cases e:h.getD i 0=g.getD i 0
    · have e2:(h.getD i 0 == g.getD i 0)=true:=by simpa using e
      rw [List.all_cons,e2,Bool.true_and,if_neg (by simp)]
      exact ih
    · have e2:(h.getD i 0 == g.getD i 0)=false:=by simpa using e
      rw [List.all_cons,e2]
      simp
theorem z8K (h g:List Int) (hh:h.length=32) (hg:g.length=32) (w:World):(Op.equalIn 10000 35 (.agg (z00 h).toArray) (.agg (z00 g).toArray)).run Tryz.prog w=.ok ((List.range 32).all fun i=>h.getD i 0 == g.getD i 0) w:=by
  obtain ⟨i8,hi,_⟩:=Option.map_eq_some_iff.1 z0S
  rw [run_equalIn_array (P:=Tryz.prog) w 9999 (z00 h).toArray (z00 g).toArray Tryz.underlying35 hi]
  have hc:Tryz.prog.cellsOf 5=1:=by kernel_rfl
  rw [hc]
  exact z4Q 9998 h g hh hg w _ (fun i hi=>by simpa using hi)
theorem zbZ {h g:List Int} (hh:h.length=32) (hg:g.length=32):((List.range 32).all fun i=>h.getD i 0 == g.getD i 0)=decide (h=g):=by
  by_cases e:h=g
  · subst e
    simp
  · rw [decide_eq_false e,Bool.eq_false_iff]
    intro hx
    rw [List.all_eq_true] at hx
    apply e
    apply List.ext_getElem (by omega)
    intro i h1 h2
    have:=hx i (by simp;omega)
    simpa [List.getD,h1,h2] using this
theorem z7N {h g:List Int} (hh:h.length=32) (hg:g.length=32) (w:World):(Op.equalIn 10000 35 (.agg (z00 h).toArray) (.agg (z00 g).toArray)).run Tryz.prog w=.ok (decide (h=g)) w:=by
  rw [z8K h g hh hg,zbZ hh hg]
theorem z5D {h g:List Int} (hh:h.length=32) (hg:g.length=32) (x y:Operand) (w:World):(do eqGuard .neq 35 x y (.agg (z00 h).toArray) (.agg (z00 g).toArray);binOp .neq 35 (.agg (z00 h).toArray) (.agg (z00 g).toArray):Sem Value).run Tryz.prog w=.ok (.bool (!decide (h=g))) w:=by
  simp only [Sem.run_bind,run_eqGuard_agg (P:=Tryz.prog) w .neq 35 x y _ _ (by kernel_rfl),Result.andThen_ok,run_neq_struct,z7N hh hg]
end Go.Proofs.YtjkjlblongeljaaGreatDoor

namespace Go.Proofs.YtjkjlblongeljaaGreatDoor
open Go.RowKit
set_option maxRecDepth 100000
def LST (f:Nat→Nat):List Int:=(List.range 32).map fun i=>((f i:Nat):Int)
def FNC (h:List Int) (i:Nat):Nat:=(h.getD i 0).toNat
def IsH (h:List Int):Prop:=h.length=32∧∀ x∈h,0≤x∧x≤255
theorem z2E (f:Nat→Nat):(LST f).length=32:=by simp [LST]
theorem z5E {f:Nat→Nat} (h:∀ i,f i<256):IsH (LST f):=⟨z2E f,fun x hx=>by
  obtain ⟨i,_,rfl⟩:=List.mem_map.1 hx
  have:=h i
  omega⟩
theorem z1K (f:Nat→Nat):HX.UARR .u8 32 f=(z00 (LST f)).toArray:=by
  unfold HX.UARR z00 LST
  rw [List.map_map]
  rfl
theorem z4B {h:List Int} (hh:IsH h):LST (FNC h)=h:=by
  apply List.ext_getElem (by rw [z2E,hh.1])
  intro i h1 h2
  simp only [LST,List.getElem_map,List.getElem_range,FNC]
  have:=hh.2 h[i] (List.getElem_mem h2)
  rw [List.getD_eq_getElem?_getD,List.getElem?_eq_getElem h2,Option.getD_some]
  omega
theorem z1g {h:List Int} (hh:IsH h):(z00 h).toArray=HX.UARR .u8 32 (FNC h):=by rw [z1K,z4B hh]
theorem z30 {h:List Int} (hh:IsH h) (i:Nat):FNC h i<256:=by
  unfold FNC
  by_cases hi:i<h.length
  · rw [List.getD_eq_getElem?_getD,List.getElem?_eq_getElem hi,Option.getD_some]
    have:=hh.2 h[i] (List.getElem_mem hi)
    omega
  · rw [List.getD_eq_getElem?_getD,List.getElem?_eq_none (by omega)]
    decide
def NATS (h:List Int):List Nat:=(List.range 32).map (FNC h)
def z1S (d:Int) (l r:List Int):List Int:=LST (HX.z0y d (1 :: (NATS l ++ NATS r)))
def z4C (d:Int) (l r:List Int):List Int:=LST (HX.z0y d (2 :: (NATS l ++ NATS r)))
def z17 (d:Int) (n:Nat) (r:List Int):List Int:=LST (HX.z0y d (3 :: (HX.BE8 n ++ NATS r)))
theorem z7O (d:Int) (l r:List Int):IsH (z1S d l r):=z5E fun i=>HX.z1X d _ _ i
theorem zdF (d:Int) (l r:List Int):IsH (z4C d l r):=z5E fun i=>HX.z1X d _ _ i
theorem z5d (d:Int) (n:Nat) (r:List Int):IsH (z17 d n r):=z5E fun i=>HX.z1X d _ _ i
theorem zdG (d:Int) (l r:List Int) (hl:IsH l) (hr:IsH r) (w:World) (hT:HX.Tabled w):Calls Tryz.prog 31 #[.int .i64 d,.agg (z00 l).toArray,.agg (z00 r).toArray] w fun e w'=>e=.returned (.agg (z00 (z1S d l r)).toArray)∧Below w.heap.size w w':=by
  rw [z1g hl,z1g hr]
  refine (HX.z9w d (FNC l) (FNC r) (z30 hl) (z30 hr) w hT).mono ?_
  rintro e w' ⟨rfl,hb⟩
  exact ⟨by rw [z1K];rfl,hb⟩
theorem zdH (d:Int) (l r:List Int) (hl:IsH l) (hr:IsH r) (w:World) (hT:HX.Tabled w):Calls Tryz.prog 123 #[.int .i64 d,.agg (z00 l).toArray,.agg (z00 r).toArray] w fun e w'=>e=.returned (.agg (z00 (z4C d l r)).toArray)∧Below w.heap.size w w':=by
  rw [z1g hl,z1g hr]
  refine (HX.z9x d (FNC l) (FNC r) (z30 hl) (z30 hr) w hT).mono ?_
  rintro e w' ⟨rfl,hb⟩
  exact ⟨by rw [z1K];rfl,hb⟩
theorem zdI (d:Int) (n:Nat) (hn:n<2 ^ 64) (r:List Int) (hr:IsH r) (w:World) (hT:HX.Tabled w):Calls Tryz.prog 94 #[.int .i64 d,.int .u64 (n:Int),.agg (z00 r).toArray] w fun e w'=>e=.returned (.agg (z00 (z17 d n r)).toArray)∧Below w.heap.size w w':=by
  rw [z1g hr]
  refine (HX.z9y d n hn (FNC r) (z30 hr) w hT).mono ?_
  rintro e w' ⟨rfl,hb⟩
  exact ⟨by rw [z1K];rfl,hb⟩
end Go.Proofs.YtjkjlblongeljaaGreatDoor

namespace Go.Proofs.YtjkjlblongeljaaGreatDoor
open Go.RowKit
set_option maxRecDepth 100000
def SLA (a:Option Addr) (c k:Nat):Option Addr:=match a with
  | none=>none
  | some ad=>if c=k then some ad else some ⟨ad.block,ad.off+k*32,none⟩
theorem z4j (b off n c k:Nat) (hk:k≤n) (hc:n≤c) (w:World):(Instr.slice 22 (.slice (some ⟨b,off,none⟩) n c) (some (.int .i64 (k:Int))) none none).run Tryz.prog w=.ok (.slice (SLA (some ⟨b,off,none⟩) c k) (n - k) (c - k)) w:=by
  have k1:(k:Int)≤(n:Int):=by omega
  by_cases e:c=k
  · obtain rfl:n=c:=by omega
    subst e
    simp [SLA,go_sem]
  · simp [SLA,e,go_sem,k1,Addr.add]
theorem Flat.behind {w:World} {a:Option Addr} {n c:Nat} {l:List Int} (h:Flat w a n l) (k:Nat) (hk:k≤n) (hc:n≤c):Flat w (SLA a c k) (n - k) (l.drop (32*k)):=by
  refine ⟨by rw [List.length_drop,h.1];omega,fun h0=>?_,fun x hx=>h.2.2 x (List.mem_of_mem_drop hx)⟩
  obtain ⟨b,o,rfl,hb,hcs⟩:=h.2.1 (by omega)
  have hck:¬ c=k:=by omega
  refine ⟨b,o+k*32,by simp [SLA,hck],hb,fun j hj=>?_⟩
  rw [show o+k*32+j=o+(32*k+j) by omega,hcs (32*k+j) (by omega)]
  congr 2
  rw [List.getD_eq_getElem?_getD,List.getD_eq_getElem?_getD,List.getElem?_drop]
end Go.Proofs.YtjkjlblongeljaaGreatDoor

namespace Go.Proofs.YtjkjlblongeljaaGreatDoor
set_option maxRecDepth 100000
def MUP (d:Int):Nat→Nat→List Nat→List Int→List Int→List Int × List Int × List Int
  | _,_,[],lv,nd=>(HSH nd 0,lv,nd.drop 32)
  | 0,_,_ :: _,lv,nd=>(HSH lv 0,lv.drop 32,nd)
  | h + 1,k,x :: l,lv,nd=>
    (z1S d (MUP d h (2*k) ((x :: l).filter fun y=>decide (y<(2*k+1)*2 ^ h)) lv nd).1
      (MUP d h (2*k+1) ((x :: l).filter fun y=>!decide (y<(2*k+1)*2 ^ h)) (MUP d h (2*k) ((x :: l).filter fun y=>decide (y<(2*k+1)*2 ^ h)) lv nd).2.1 (MUP d h (2*k) ((x :: l).filter fun y=>decide (y<(2*k+1)*2 ^ h)) lv nd).2.2).1,
     (MUP d h (2*k+1) ((x :: l).filter fun y=>!decide (y<(2*k+1)*2 ^ h)) (MUP d h (2*k) ((x :: l).filter fun y=>decide (y<(2*k+1)*2 ^ h)) lv nd).2.1 (MUP d h (2*k) ((x :: l).filter fun y=>decide (y<(2*k+1)*2 ^ h)) lv nd).2.2).2)
theorem z69 (d:Int) (h k:Nat) (lv nd:List Int):MUP d h k [] lv nd=(HSH nd 0,lv,nd.drop 32):=by cases h <;> rfl
theorem zdJ (d:Int) (k x:Nat) (l:List Nat) (lv nd:List Int):MUP d 0 k (x :: l) lv nd=(HSH lv 0,lv.drop 32,nd):=rfl
theorem z5e {d:Int} {h k r:Nat} {L:List Nat} {lv nd:List Int} (hL:L≠[]) (hr:RANKS L ((2*k+1)*2 ^ h) r):
    MUP d (h+1) k L lv nd=(z1S d (MUP d h (2*k) (L.take r) lv nd).1 (MUP d h (2*k+1) (L.drop r) (MUP d h (2*k) (L.take r) lv nd).2.1 (MUP d h (2*k) (L.take r) lv nd).2.2).1,(MUP d h (2*k+1) (L.drop r) (MUP d h (2*k) (L.take r) lv nd).2.1 (MUP d h (2*k) (L.take r) lv nd).2.2).2):=by
  cases L with
  | nil=>exact absurd rfl hL
  | cons x l=>rw [hr.take,hr.drop];rfl
theorem z1h:∀ {L:List Nat},RISES L→∀ t,∃ r,RANKS L t r
  | [],_,t=>⟨0,by simp,(fun i x h=>by omega),fun i x _ h=>by simp at h⟩
  | x :: l,hR,t=>by
    by_cases hx:x<t
    · obtain ⟨r,hr⟩:=z1h (L:=l) (fun i j a b hij ha hb=>hR (i+1) (j+1) a b (by omega) (by simpa using ha) (by simpa using hb)) t
      refine ⟨r+1,by have:=hr.le;simp;omega,fun i y hi hy=>?_,fun i y hi hy=>?_⟩
      · cases i with
        | zero=>simp at hy;omega
        | succ i=>exact hr.lo i y (by omega) (by simpa using hy)
      · cases i with
        | zero=>omega
        | succ i=>exact hr.hi i y (by omega) (by simpa using hy)
    · refine ⟨0,Nat.zero_le _,(fun i y h=>by omega),fun i y _ hy=>?_⟩
      cases i with
      | zero=>simp at hy;omega
      | succ i=>have:=hR 0 (i+1) x y (by omega) rfl hy;omega
def UNR (h k:Nat) (L:List Nat):Prop:=RISES L∧∀ x∈L,k*2 ^ h≤x∧x<(k+1)*2 ^ h
theorem UNR.leaf {k x:Nat} {l:List Nat} (h:UNR 0 k (x :: l)):l=[]:=by
  cases l with
  | nil=>rfl
  | cons y m=>
    have h1:=h.1 0 1 x y (by omega) rfl rfl
    have h2:=h.2 x (by simp)
    have h3:=h.2 y (by simp)
    simp at h2 h3
    omega
theorem z31 (h k:Nat):(2*k)*2 ^ h=k*2 ^ (h+1)∧(2*k+1+1)*2 ^ h=(k+1)*2 ^ (h+1):=by
  rw [Nat.pow_succ]
  constructor
  · rw [Nat.mul_comm 2 k,Nat.mul_assoc,Nat.mul_comm 2]
  · rw [show 2*k+1+1=2*(k+1) by omega,Nat.mul_comm 2 (k+1),Nat.mul_assoc,Nat.mul_comm 2]
theorem UNR.left {h k r:Nat} {L:List Nat} (hL:UNR (h+1) k L) (hr:RANKS L ((2*k+1)*2 ^ h) r):UNR h (2*k) (L.take r):=by
  refine ⟨hL.1.take r,fun x hx=>?_⟩
  have h1:=hL.2 x (List.mem_of_mem_take hx)
  obtain ⟨i,hi⟩:=List.getElem?_of_mem hx
  rw [List.getElem?_take] at hi
  split at hi
  · rename_i hlt
    have h2:=hr.lo i x hlt hi
    have h3:=z31 h k
    omega
  · cases hi
theorem UNR.right {h k r:Nat} {L:List Nat} (hL:UNR (h+1) k L) (hr:RANKS L ((2*k+1)*2 ^ h) r):UNR h (2*k+1) (L.drop r):=by
  refine ⟨hL.1.drop r,fun x hx=>?_⟩
  have h1:=hL.2 x (List.mem_of_mem_drop hx)
  obtain ⟨i,hi⟩:=List.getElem?_of_mem hx
  rw [List.getElem?_drop] at hi
  have h2:=hr.hi (r+i) x (by omega) hi
  have h3:=z31 h k
  omega
def HSS (n:Nat) (l:List Int):Prop:=l.length=32*n∧∀ x∈l,0≤x∧x≤255
theorem HSS.first {n:Nat} {l:List Int} (h:HSS n l) (hn:0<n):IsH (HSH l 0):=by
  refine ⟨?_,fun x hx=>h.2 x (List.mem_of_mem_drop (List.mem_of_mem_take hx))⟩
  unfold HSH
  rw [List.length_take,List.length_drop,h.1]
  omega
theorem HSS.rest {n:Nat} {l:List Int} (h:HSS n l):HSS (n - 1) (l.drop 32):=⟨by rw [List.length_drop,h.1];omega,fun x hx=>h.2 x (List.mem_of_mem_drop hx)⟩
theorem z3Q (d:Int):∀ (h k:Nat) (L:List Nat) (lv nd:List Int) (i j:Nat),UNR h k L→HSS i lv→HSS j nd→L.length≤i→(NEED h k L).length≤j→
    IsH (MUP d h k L lv nd).1∧HSS (i - L.length) (MUP d h k L lv nd).2.1∧HSS (j - (NEED h k L).length) (MUP d h k L lv nd).2.2:=by
  intro h
  induction h with
  | zero=>
    intro k L lv nd i j hU hi hj h1 h2
    cases L with
    | nil=>rw [z0v] at h2 ⊢;exact ⟨hj.first h2,hi,hj.rest⟩
    | cons x l=>
      obtain rfl:=hU.leaf
      exact ⟨hi.first h1,hi.rest,hj⟩
  | succ h ih=>
    intro k L lv nd i j hU hi hj h1 h2
    by_cases hL:L=[]
    · subst hL
      rw [z0v] at h2 ⊢
      exact ⟨hj.first h2,hi,hj.rest⟩
    · obtain ⟨r,hr⟩:∃ r,RANKS L ((2*k+1)*2 ^ h) r:=z1h hU.1 _
      have hN:=z1A hL hr
      rw [hN,List.length_append] at h2
      have hle:=hr.le
      have q1:=ih (2*k) (L.take r) lv nd i j (hU.left hr) hi hj (by rw [List.length_take];omega) (by omega)
      have q2:=ih (2*k+1) (L.drop r) _ _ _ _ (hU.right hr) q1.2.1 q1.2.2 (by rw [List.length_take,List.length_drop];omega) (by omega)
      rw [z5e hL hr,hN,List.length_append]
      refine ⟨z7O _ _ _,?_,?_⟩
      · have:=q2.2.1
        rwa [List.length_take,List.length_drop,show i - min r L.length - (L.length - r)=i - L.length by omega] at this
      · have:=q2.2.2
        rwa [Nat.sub_sub] at this
def MUPS (d:Int):List (Nat × Nat)→List Nat→List Int→List Int→List Int
  | [],_,_,_=>[]
  | (h,k) :: ps,L,lv,nd=>(MUP d h k (L.filter fun y=>decide (y<(k+1)*2 ^ h)) lv nd).1 ++ MUPS d ps (L.filter fun y=>!decide (y<(k+1)*2 ^ h)) (MUP d h k (L.filter fun y=>decide (y<(k+1)*2 ^ h)) lv nd).2.1 (MUP d h k (L.filter fun y=>decide (y<(k+1)*2 ^ h)) lv nd).2.2
theorem z4k {d:Int} {h k r:Nat} {L:List Nat} {lv nd:List Int} (ps:List (Nat × Nat)) (hr:RANKS L ((k+1)*2 ^ h) r):MUPS d ((h,k) :: ps) L lv nd=(MUP d h k (L.take r) lv nd).1 ++ MUPS d ps (L.drop r) (MUP d h k (L.take r) lv nd).2.1 (MUP d h k (L.take r) lv nd).2.2:=by
  rw [MUPS,hr.take,hr.drop]
end Go.Proofs.YtjkjlblongeljaaGreatDoor

namespace Go.Proofs.YtjkjlblongeljaaGreatDoor
open Go.RowKit
set_option maxRecDepth 100000
def TOLD (S P:List Nat→World→Prop) (X:List PanicEntry) (acc l:List Nat) (e:Ending) (w':World):Prop:=(e=.returned (.tuple #[])∧S (acc ++ l) w')∨∃ pre p,(pre ++ [p]) <+: (acc ++ l)∧e=.panicked X∧P pre w'
structure SPLIT (w w':World) (a:Option Addr) (n c:Nat) (L:List Nat) (t r:Nat) (a':Option Addr):Prop where
  rank:RANKS L t r
  lies:NUML w a' (L.drop r)
  nil:a'=none→c - r=0
  block:∀ x,a'=some x→∃ y,a=some y∧x.block=y.block
  spot:∀ x,a'=some x→x.spot=none
  below:Below w.heap.size w w'
set_option maxHeartbeats 1000000 in
theorem z1E (h k:Nat) (hN:Node h k) (a:Option Addr) (n c:Nat) (L:List Nat) (hl:L.length=n) (hn:n<2 ^ 40) (hR:RISES L) (hc:n≤c) (hnil:a=none→c=0) (hsp:∀ x,a=some x→x.spot=none) (w:World) (hL:NUML w a L):
    Calls Tryz.prog 118 #[.slice a n c,.int .u64 ((PLC h k:Nat):Int)] w fun e w'=>∃ r a',e=.returned (.tuple #[.slice a r c,.slice a' (n - r) (c - r)])∧SPLIT w w' a n c L ((k+1)*2 ^ h) r a':=by
  have cu:=zdj h k hN w
  obtain ⟨t,ht⟩:∃ t,(k+1)*2 ^ h=t:=⟨_,rfl⟩
  rw [ht] at cu ⊢
  have HA:Aside (L.length=n∧n<2 ^ 40∧RISES L∧NUML w a L∧n≤c):=⟨hl,hn,hR,hL,hc⟩
  have NI:Aside (a=none→c=0):=hnil
  have SP:Aside (∀ x,a=some x→x.spot=none):=hsp
  clear hl hn hR hL hc hnil hsp ht
  go_enter Tryz.func118,Tryz.ntmps118
  go_wp2_with fail
  refine cu.mono ?_
  rintro e w1 ⟨rfl,hb1⟩
  clear cu
  have cs:=z4d a n c L t HA.out.1 HA.out.2.1 HA.out.2.2.1 w1 (fun h0=>by
    obtain ⟨b,o,e,hl,hc⟩:=HA.out.2.2.2.1 h0
    exact ⟨b,o,e,Nat.lt_of_lt_of_le hl hb1.size,fun i x hx=>(hb1.cell (p:=⟨b,o+i,none⟩) hl).trans (hc i x hx)⟩)
  have B1:Aside (Below w.heap.size w w1):=hb1
  clear hb1
  go_wp2_with fail
  refine cs.mono ?_
  rintro e w2 ⟨r,f,rfl,hr,rfl⟩
  clear cs
  have hrn:r≤n:=by have:=hr.le;have:=HA.out.1;omega
  have y1:(r:Int)≤(c:Int):=by have:=HA.out.2.2.2.2;omega
  have y2:(r:Int)≤(n:Int):=by omega
  have y3:(0:Int)≤(r:Int):=by omega
  have RK:Aside (RANKS L t r):=hr
  clear hr
  cases a with
  | none=>
    have h0:=NI.out rfl
    subst h0
    have hr0:r=0:=by omega
    subst hr0
    have hn0:n=0:=by have:=HA.out.2.2.2.2;omega
    subst hn0
    have FN:Aside (∀ W,Below w.heap.size w W→SPLIT w W none 0 0 L t 0 none):=fun W hb=>⟨RK.out,fun h=>by have:=HA.out.1;simp at h;omega,fun _=>rfl,(fun x e=>by cases e),(fun x e=>by cases e),hb⟩
    clear HA NI SP RK
    go_upto_region 3 with fail
    go_quiet (fail)
    go_wp2
    go_ret2
    exact ⟨0,none,rfl,FN.out _ (below_drewN B1.out _)⟩
  | some x=>
    obtain ⟨b,o,sp⟩:=x
    have hsp:sp=none:=SP.out _ rfl
    subst hsp
    by_cases hcr:c=r
    · have FN:Aside (∀ W,Below w.heap.size w W→SPLIT w W (some ⟨b,o,none⟩) n c L t r (some ⟨b,o,none⟩)):=fun W hb=>⟨RK.out,fun h=>by have:=HA.out.1;have:=HA.out.2.2.2.2;simp at h;omega,(fun e=>by cases e),(fun x e=>⟨_,rfl,by cases e;rfl⟩),(fun x e=>by cases e;rfl),hb⟩
      clear HA NI SP RK
      go_upto_region 3 with fail
      go_quiet (fail)
      go_wp2
      go_ret2
      exact ⟨r,_,by rw [hcr,Nat.sub_self];rfl,FN.out _ (below_drewN B1.out _)⟩
    · have FN:Aside (∀ W,Below w.heap.size w W→SPLIT w W (some ⟨b,o,none⟩) n c L t r (some ⟨b,o+r,none⟩)):=fun W hb=>by
        refine ⟨RK.out,fun h=>?_,(fun e=>by cases e),(fun x e=>⟨_,rfl,by cases e;rfl⟩),(fun x e=>by cases e;rfl),hb⟩
        obtain ⟨b',o',e,hl,hc⟩:=HA.out.2.2.2.1 (by simp at h;omega)
        cases e
        refine ⟨b,o+r,rfl,hl,fun i x hx=>?_⟩
        rw [List.getElem?_drop] at hx
        rw [Nat.add_assoc]
        exact hc (r+i) x hx
      clear HA NI SP RK
      go_upto_region 3 with fail
      go_quiet (fail)
      go_wp2
      go_ret2
      exact ⟨r,_,rfl,FN.out _ (below_drewN B1.out _)⟩
end Go.Proofs.YtjkjlblongeljaaGreatDoor
