/- Texts of ManyAccepts, one behind the other: VerifyTree, ManyTreeMake, VerifyClimb, VerifyBag, VerifyCount, VerifyRefBagRegion, HashRefBlocks, HashRefBits, HashRefWords, HashRefCut, HashRefStep, HashSame, HashRefBegin, HashRefStates, HashRefSum, HashRefTexts, HashSumTexts, VerifyRefBag, ManyOverRegions, ManyRefOver, ManyRefOverNode, ManyRefNeedsRegion, ManyRefNeeds, ManyRefPlaces. -/
import Derived.Great.BuildSlice
import Derived.Deep.LoopGhost
import Derived.Deep.AppendLies
import Derived.Deep.RegionHeld3
import Derived.Deep.RegionLaw
import Derived.Deep.MidRow
import Derived.Deep.RegionHeldLaw
import Derived.Test.YtjkjlblongeljaaGreatDoorManyAcceptsP29
namespace Go.Proofs.YtjkjlblongeljaaGreatDoor
open Go.RowKit
set_option maxRecDepth 100000
def TVAL (d:Int) (f:Nat→Nat→Nat) (h k:Nat):List Int:=LST (HX.VAL d f h k)
theorem z2v (d:Int) (f:Nat→Nat→Nat) (h k:Nat):(TVAL d f h k).length=32:=z2E _
theorem zfa {d:Int} {f:Nat→Nat→Nat} {n h k:Nat} (hf:∀ k,k<n→∀ i,f k i<256) (hk:(k+1)*2 ^ h≤n):IsH (TVAL d f h k):=z5E fun i=>HX.z2g hf h k hk i
theorem z3Z {w:World} {B g:Nat} {d:Int} {log n h k:Nat} {C:HX.z05} {f:Nat→Nat→Nat} (hF:HX.FOREST w B g d log n C f) (hs:(k+1)*2 ^ h≤n):HX.GOTH C log (z04 n) (PLC h k)=HX.VAL d f h k∧HX.GOT C log (z04 n) (PLC h k)=0:=by
  have h1:=z9E hs
  unfold HX.GOTH HX.GOT
  rw [if_pos h1,if_pos h1,hF.node h k hs]
  exact ⟨rfl,rfl⟩
def INN (ss:List (Nat × Nat)) (n:Nat):Prop:=∀ s∈ss,(s.2+1)*2 ^ s.1≤n
theorem z5m {ss:List (Nat × Nat)} {p:Nat} (h:p∈PLCS ss):∃ s∈ss,p=PLC s.1 s.2:=by
  unfold PLCS at h
  obtain ⟨s,hs,e⟩:=List.mem_map.1 h
  exact ⟨s,hs,e.symm⟩
theorem zgn {w:World} {B g:Nat} {d:Int} {log n:Nat} {C:HX.z05} {f:Nat→Nat→Nat} (hF:HX.FOREST w B g d log n C f) (ss:List (Nat × Nat)) (hs:INN ss n):zaO w g (fun p=>LST (HX.GOTH C log (z04 n) p)) (HX.GOT C log (z04 n)) (PLCS ss):=fun W hb p hp=>by
  obtain ⟨s,h1,rfl⟩:=z5m hp
  have hl:=z9E (hs s h1)
  have hb2:z04 n≤2*n:=by unfold z04;omega
  have:=hF.few
  have hc:=HX.z4Z (hF.store.below hb) (PLC s.1 s.2) (by omega)
  rw [z1K] at hc
  exact hc
theorem z85 {w:World} {B g:Nat} {d:Int} {log n:Nat} {C:HX.z05} {f:Nat→Nat→Nat} (hF:HX.FOREST w B g d log n C f):∀ (ss:List (Nat × Nat)),INN ss n→∀ j,j≤ss.length→TFL (fun p=>LST (HX.GOTH C log (z04 n) p)) (PLCS ss) j=CAT (TVAL d f) (ss.take j)
  | ss,hs,0,_=>by simp [TFL,CAT]
  | ss,hs,j+1,hj=>by
    obtain ⟨s,e⟩:∃ s,ss[j]?=some s:=⟨_,List.getElem?_eq_getElem (by omega)⟩
    obtain ⟨h,k⟩:=s
    rw [zdW,z85 hF ss hs j (by omega),zdX e,zeT e,(z3Z hF (hs _ (List.mem_of_getElem? e))).1]
    rfl
def zfX (w:World) (d:Int) (f:Nat→Nat→Nat) (ss:List (Nat × Nat)) (X Y:Nat) (e:Ending) (w':World):Prop:=
  ∃ a c,e=.returned (.tuple #[.agg #[.int .u64 (X:Int),.int .u64 (Y:Int),.slice a ss.length c],.int .i64 0])∧w'.ownsRow w.heap.size 35 32 (.slice a ss.length c) ss.length (z00 (CAT (TVAL d f) ss))∧Below w.heap.size w w'
theorem TMADE.tree {w0 w w':World} {B g:Nat} {d:Int} {log n:Nat} {C:HX.z05} {f:Nat→Nat→Nat} (hF:HX.FOREST w0 B g d log n C f) {ss:List (Nat × Nat)} (hs:INN ss n) {X Y:Nat} {e:Ending} (h:TMADE w (fun p=>LST (HX.GOTH C log (z04 n) p)) (HX.GOT C log (z04 n)) (0,PLCS ss) X Y e w'):zfX w d f ss X Y e w':=by
  obtain ⟨hb,h⟩:=h
  have hz:∀ p∈PLCS ss,HX.GOT C log (z04 n) p=0:=fun p hp=>by
    obtain ⟨s,h1,rfl⟩:=z5m hp
    exact (z3Z hF (hs s h1)).2
  rcases h with ⟨h1,_⟩ | ⟨_,_,u,rfl,hu⟩ | ⟨_,j,hj,_,h1,_⟩
  · exact absurd rfl h1
  · dsimp only at hu
    rw [z8H,z85 hF ss hs _ (Nat.le_refl _),List.take_length] at hu
    rcases hu.2 with ⟨e,h0⟩ | ⟨g,cap,cur,e,_⟩
    · subst e
      refine ⟨none,0,by rw [h0],?_,hb⟩
      rw [h0] at hu ⊢
      exact hu
    · subst e
      exact ⟨_,cap,rfl,hu,hb⟩
  · refine absurd (hz _ ?_) h1
    dsimp only at hj ⊢
    rw [List.getD_eq_getElem?_getD,List.getElem?_eq_getElem hj]
    exact List.getElem_mem _
end Go.Proofs.YtjkjlblongeljaaGreatDoor

namespace Go.Proofs.YtjkjlblongeljaaGreatDoor
open Go.RowKit
set_option maxRecDepth 100000
theorem zfY:∀ (h k:Nat) (L:List Nat),∀ s∈NSP h k L,(s.2+1)*2 ^ s.1≤(k+1)*2 ^ h:=by
  intro h
  induction h with
  | zero=>
    intro k L s hs
    cases L with
    | nil=>
      rw [z4F] at hs
      obtain rfl:s=(0,k):=by simpa using hs
      exact Nat.le_refl _
    | cons x l=>cases hs
  | succ h ih=>
    intro k L s hs
    cases L with
    | nil=>
      rw [z4F] at hs
      obtain rfl:s=(h+1,k):=by simpa using hs
      exact Nat.le_refl _
    | cons x l=>
      have e:=z31 h k
      have hp:=Nat.two_pow_pos h
      rw [NSP] at hs
      rcases List.mem_append.1 hs with hs | hs
      · have h1:=ih _ _ s hs
        have h2:(2*k+1)*2 ^ h≤(2*k+1+1)*2 ^ h:=Nat.mul_le_mul_right _ (by omega)
        omega
      · have h1:=ih _ _ s hs
        omega
theorem z6m:∀ (ps:List (Nat × Nat)) (A B:Nat) (L:List Nat),Tile A ps B→INN (NSPS ps L) B
  | [],_,_,_,_=>fun s hs=>by cases hs
  | (h,k) :: ps,A,B,L,ht=>fun s hs=>by
    obtain ⟨hN,hA,ht⟩:Node h k∧k*2 ^ h=A∧Tile ((k+1)*2 ^ h) ps B:=ht
    rw [NSPS] at hs
    rcases List.mem_append.1 hs with hs | hs
    · exact Nat.le_trans (zfY _ _ _ s hs) ht.bound.1
    · exact z6m ps _ B _ ht s hs
def zgo (w:World) (d:Int) (f:Nat→Nat→Nat) (n:Nat) (L:List Nat) (e:Ending) (w':World):Prop:=
  Below w.heap.size w w'∧
  ((z0c L n≠0∧e=.returned (.tuple #[.agg #[.int .u64 0,.slice none 0 0,.slice none 0 0],.int .i64 (z0c L n)]))∨
   (z0c L n=0∧∃ a c a2 c2,e=.returned (.tuple #[.agg #[.int .u64 (n:Int),.slice a L.length c,.slice a2 (z08 (TPS n) L).length c2],.int .i64 0])∧w'.ownsRow w.heap.size 24 1 (.slice a L.length c) L.length (UCELLS L)∧w'.ownsRow w.heap.size 35 32 (.slice a2 (z08 (TPS n) L).length c2) (z08 (TPS n) L).length (z00 (CAT (TVAL d f) (NSPS (TPS n) L)))))
theorem z77 {w:World} {B g:Nat} {d:Int} {log n:Nat} {C:HX.z05} {f:Nat→Nat→Nat} (hF:HX.FOREST w B g d log n C f) (L:List Nat) (a:Option Addr) (m c:Nat) (hl:L.length=m) (hm:m<2 ^ 20) (hc:m≤c) (hnil:a=none→c=0) (hbl:∀ x,a=some x→x.block<w.heap.size∧x.spot=none) (hL:NUML w a L) (hn:n≤1000) (hT:Tabled w) (h0:0<w.heap.size):
    Calls Tryz.prog 14 #[.iface 25 (.pointer (some ⟨g,0,none⟩)),.slice a m c,.int .u64 (n:Int)] w (zgo w d f n L):=by
  have cp:∀ W,Below w.heap.size w W→Calls Tryz.prog 40 #[.slice a m c,.int .u64 (n:Int)] W (ANSN W (z0c L n) (PLCA L n)):=fun W hb=>z44 L n a m c W hl hm hc hnil (fun x e=>⟨Nat.lt_of_lt_of_le (hbl x e).1 hb.size,(hbl x e).2⟩) (hL.keep hb) (hT.below h0 hb) (Nat.lt_of_lt_of_le h0 hb.size)
  have hin:=z6m (TPS n) 0 n L (z20 (by omega))
  by_cases hr:z0c L n=0
  · obtain ⟨r1,r2,r3⟩:=z1q hr
    have hP:PLCA L n=PLCS (NSPS (TPS n) L):=by
      unfold PLCA
      rw [if_pos hr,z1L]
      rfl
    have hfew:=z3g (TPS n) 0 n L (z20 (by omega)) (fun x hx=>⟨Nat.zero_le _,r3 x hx⟩) r2
    have hlen:(PLCS (NSPS (TPS n) L)).length=(z08 (TPS n) L).length:=by rw [z1L];simp [PLCS]
    rw [hP] at cp
    refine (z8T L n g (fun p=>LST (HX.GOTH C log (z04 n) p)) (HX.GOT C log (z04 n)) (fun p=>z2E _) a m c w (z0c L n) (PLCS (NSPS (TPS n) L)) hl hm hnil hL (by omega) (zgn hF _ hin) cp).mono ?_
    rintro e w' ⟨hb,h⟩
    refine ⟨hb,?_⟩
    rcases h with ⟨h1,_⟩ | ⟨_,_,a1,c1,a2,c2,rfl,o1,o2⟩ | ⟨_,j,p,hj,_,hne,_⟩
    · exact absurd hr h1
    · refine .inr ⟨hr,a1,c1,a2,c2,by rw [hlen],o1,?_⟩
      have e:GCAT (fun p=>LST (HX.GOTH C log (z04 n) p)) (PLCS (NSPS (TPS n) L))=CAT (TVAL d f) (NSPS (TPS n) L):=by
        unfold GCAT CAT PLCS
        rw [List.flatMap_map]
        exact z5j fun s hs=>by
          show LST (HX.GOTH C log (z04 n) (PLC s.1 s.2))=TVAL d f s.1 s.2
          rw [(z3Z hF (hin s hs)).1]
          rfl
      rw [e,hlen] at o2
      exact o2
    · obtain ⟨s,hs,rfl⟩:=z5m (List.mem_of_getElem? hj)
      exact absurd (z3Z hF (hin s hs)).2 hne
  · have hP:PLCA L n=[]:=if_neg hr
    rw [hP] at cp
    refine (z4o L n g (fun p=>LST (HX.GOTH C log (z04 n) p)) (HX.GOT C log (z04 n)) a m c w (z0c L n) [] hr cp).mono ?_
    rintro e w' ⟨hb,h⟩
    rcases h with ⟨h1,rfl⟩ | ⟨h1,_⟩ | ⟨h1,_⟩
    · exact ⟨hb,.inl ⟨h1,rfl⟩⟩
    · exact absurd h1 hr
    · exact absurd h1 hr
end Go.Proofs.YtjkjlblongeljaaGreatDoor

namespace Go.Proofs.YtjkjlblongeljaaGreatDoor
open Go.RowKit
set_option maxRecDepth 100000
theorem zfZ:IsH ZND:=⟨rfl,fun x hx=>by
  have:x=0:=by simpa [ZND] using hx
  omega⟩
theorem zcj {l:List Int} {n i:Nat} (hl:l.length=32*n) (hr:∀ x∈l,0≤x∧x≤255) (hi:i<n):IsH (HSH l i):=⟨z0w hl hi,fun x hx=>hr x (z9F hx)⟩
end Go.Proofs.YtjkjlblongeljaaGreatDoor

namespace Go.Proofs.YtjkjlblongeljaaGreatDoor
open Go.RowKit
set_option maxRecDepth 100000
def FA (d:Int) (l:List Int) (n:Nat):Nat→List Int
  | 0=>HSH l (n - 1)
  | k+1=>z4C d (HSH l (n - 2 - k)) (FA d l n k)
def FLD (d:Int) (l:List Int) (n:Nat):List Int:=if n=0 then ZND else FA d l n (n - 1)
theorem zes {d:Int} {l:List Int} {n:Nat} (hl:l.length=32*n) (hr:∀ x∈l,0≤x∧x≤255) (hn:0<n):∀ k,IsH (FA d l n k)
  | 0=>zcj hl hr (by omega)
  | k+1=>zdF _ _ _
theorem zg0 {d:Int} {l:List Int} {n:Nat} (hl:l.length=32*n) (hr:∀ x∈l,0≤x∧x≤255):IsH (FLD d l n):=by
  unfold FLD
  split
  · exact zfZ
  · exact zes hl hr (by omega) _
theorem z50 {fn:Func} {p:Tmp} {ty:TypeId} (h:fn.results=#[.cell p ty]) (tmps:Array Value) (w:World) (g:Nat) (t:TypeId) (cs:Array Value) (fr:Nat × Nat) (k:Nat) (el:TypeId)
    (hp:tmps.getD p undef=.pointer (some ⟨g,0,none⟩)) (hg:w.heap[g]?=some (.cells cs t fr))
    (hu:Tryz.prog.underlying ty=some (.array k el)) (hi:(Tryz.prog.info? ty).map (·.size)=some cs.size):
    (results fn tmps).run Tryz.prog w=.ok (.agg cs) w:=by
  have hp':tmps[p]?.getD undef=.pointer (some ⟨g,0,none⟩):=by simpa using hp
  simp [results,h,hp',asAddr,run_loadVar_row w g t ty cs fr (.array k el) hg hu rfl hi]
set_option maxHeartbeats 4000000 in
theorem zck (d:Int) (a:Option Addr) (n c:Nat) (hn:n≤1000) (l:List Int) (w:World) (hF:Flat w a n l) (hX:HX.Tabled w):
    Calls Tryz.prog 95 #[.int .i64 d,.slice a n c] w fun e w'=>e=.returned (.agg (z00 (FLD d l n)).toArray)∧Below w.heap.size w w':=by
  have R0:Aside (Below w.heap.size w (w.alloc (.cells ZARR 35))∧Has (w.alloc (.cells ZARR 35)) w.heap.size (z00 ZND).toArray 35):=⟨(Below.refl _ _).alloc (Nat.le_refl _) _,by rw [z2o];exact Has.new _ _ _⟩
  by_cases h0:n=0
  · subst h0
    have e:FLD d l 0=ZND:=rfl
    rw [e]
    clear hF hX hn e
    go_enter Tryz.func95,Tryz.ntmps95
    go_upto_region 2 with fail
    rw [show (#[.int .u8 0,.int .u8 0,.int .u8 0,.int .u8 0,.int .u8 0,.int .u8 0,.int .u8 0,.int .u8 0,.int .u8 0,.int .u8 0,.int .u8 0,.int .u8 0,.int .u8 0,.int .u8 0,.int .u8 0,.int .u8 0,.int .u8 0,.int .u8 0,.int .u8 0,.int .u8 0,.int .u8 0,.int .u8 0,.int .u8 0,.int .u8 0,.int .u8 0,.int .u8 0,.int .u8 0,.int .u8 0,.int .u8 0,.int .u8 0,.int .u8 0,.int .u8 0]:Array Value)=ZARR from rfl]
    generalize w.alloc (.cells ZARR 35)=W0 at *
    go_wp2_with (rw [show (#[.int .u8 0,.int .u8 0,.int .u8 0,.int .u8 0,.int .u8 0,.int .u8 0,.int .u8 0,.int .u8 0,.int .u8 0,.int .u8 0,.int .u8 0,.int .u8 0,.int .u8 0,.int .u8 0,.int .u8 0,.int .u8 0,.int .u8 0,.int .u8 0,.int .u8 0,.int .u8 0,.int .u8 0,.int .u8 0,.int .u8 0,.int .u8 0,.int .u8 0,.int .u8 0,.int .u8 0,.int .u8 0,.int .u8 0,.int .u8 0,.int .u8 0,.int .u8 0]:Array Value)=(z00 ZND).toArray from rfl];refine wpList_store_row rfl 35 (.tmp 4) (.tmp 11) rfl _ _ rfl rfl 35 _ R0.out.2 (z0d rfl) rfl (z0m ZND) ?_)
    refine bodyPost_ret (v:=.agg (z00 ZND).toArray) (z50 rfl _ _ w.heap.size 35 _ (0,0) _ _ rfl (Has.row R0.out.2 _) Tryz.underlying35 (z0d rfl)) rfl ⟨rfl,z06 R0.out.1 (Nat.le_refl _) _⟩
  · obtain ⟨m,hm⟩:∃ m,n=m+1:=⟨n - 1,by omega⟩
    obtain ⟨gn,o,rfl,hgn,hcn⟩:=hF.2.1 (by omega)
    have hz:¬ (n:Int)=0:=by omega
    have e1:wrap64 ((n:Int) - 1)=(m:Int):=by unfold wrap64;omega
    have hml:(m:Int)<(n:Int):=by omega
    have hm0:(0:Int)≤(m:Int):=by omega
    have e:FLD d l n=FA d l n m:=by unfold FLD;rw [if_neg h0,show n - 1=m by omega]
    rw [e]
    have HA:Aside (n=m+1∧n≤1000∧Flat w (some ⟨gn,o,none⟩) n l∧HX.Tabled w∧gn<w.heap.size∧∀ k,IsH (FA d l n k)):=⟨hm,hn,hF,hX,hgn,zes hF.1 hF.2.2 (by omega)⟩
    clear hm hn hF hX hgn hcn h0 e
    go_enter Tryz.func95,Tryz.ntmps95
    go_upto_region 3 with fail
    rw [show (#[.int .u8 0,.int .u8 0,.int .u8 0,.int .u8 0,.int .u8 0,.int .u8 0,.int .u8 0,.int .u8 0,.int .u8 0,.int .u8 0,.int .u8 0,.int .u8 0,.int .u8 0,.int .u8 0,.int .u8 0,.int .u8 0,.int .u8 0,.int .u8 0,.int .u8 0,.int .u8 0,.int .u8 0,.int .u8 0,.int .u8 0,.int .u8 0,.int .u8 0,.int .u8 0,.int .u8 0,.int .u8 0,.int .u8 0,.int .u8 0,.int .u8 0,.int .u8 0]:Array Value)=ZARR from rfl]
    generalize w.alloc (.cells ZARR 35)=W0 at *
    have hat:W0.rangeAt gn (o+m*32) (z00 (FA d l n 0)):=by
      have h1:=(HA.out.2.2.1.below R0.out.1).at (show m<n by have:=HA.out.1;omega)
      have h2:FA d l n 0=HSH l m:=by have:=HA.out.1;rw [FA,show n - 1=m by omega]
      rw [h2]
      exact h1
    have h32:=(HA.out.2.2.2.2.2 0).1
    generalize hA0:FA d l n 0=A0 at *
    go_wp2_with (first
      | (refine wpList_load_mid rfl 35 (.tmp 17) rfl gn (o+m*32) rfl (z00 A0) _ hat Tryz.underlying35 rfl (z0l h32) ?_)
      | (refine wpList_store_row rfl 35 (.tmp 6) (.tmp 18) rfl _ _ rfl rfl 35 _ (Has.new W0 _ _) (z0d h32) (by simp [z00,h32]) (z0m A0) ?_;rw [World.setRow_alloc_new]))
    have R1:Aside (Below w.heap.size w (W0.alloc (.cells (z00 A0).toArray 35))∧Has (W0.alloc (.cells (z00 A0).toArray 35)) w.heap.size (z00 ZND).toArray 35∧Has (W0.alloc (.cells (z00 A0).toArray 35)) W0.heap.size (z00 (FA d l n 0)).toArray 35∧w.heap.size<W0.heap.size):=⟨R0.out.1.alloc R0.out.1.size _,R0.out.2.alloc _,by rw [hA0];exact Has.new _ _ _,R0.out.2.lt⟩
    clear hat h32 hA0 R0
    generalize W0.alloc (.cells (z00 A0).toArray 35)=W1 at *
    generalize W0.heap.size=b6 at *
    clear W0
    have K:Aside (w.heap.size<b6):=R1.out.2.2.2
    have E0:Aside (wrap64 ((m:Int) - 1)=(m:Int) - 1):=by have:=HA.out.1;have:=HA.out.2.1;show wrap64 ((m:Int) - 1)=(m:Int) - 1;unfold wrap64;omega
    go_loopg [7] m (fun q s7 wx=>∃ x:Int,s7=.int .i64 x∧Aside (q≤m∧x=(q:Int) - 1∧Below w.heap.size w wx∧Has wx w.heap.size (z00 ZND).toArray 35∧Has wx b6 (z00 (FA d l n (m - q))).toArray 35))
    case atStart=>exact ⟨_,rfl,Nat.le_refl _,E0.out,R1.out.1,R1.out.2.1,by rw [Nat.sub_self];exact R1.out.2.2.1⟩
    case round=>
      obtain ⟨x,rfl,A⟩:=hrel
      clear R1 E0
      cases gk with
      | zero=>
        obtain rfl:x = -1:=by have:=A.out.2.1;omega
        have y32:=(HA.out.2.2.2.2.2 m).1
        have hH4:=A.out.2.2.2.1
        have hH6:Has wr b6 (z00 (FA d l n m)).toArray 35:=A.out.2.2.2.2
        have hb:=A.out.2.2.1
        clear A HA
        generalize hY0:FA d l n m=Y at *
        go_wp2_with (first
          | (refine wpList_load_row rfl 35 (.tmp 6) rfl b6 rfl 35 (z00 Y).toArray (0,0) _ hH6 Tryz.underlying35 rfl (z0d y32) ?_)
          | (refine wpList_store_row rfl 35 (.tmp 4) (.tmp 32) rfl _ _ rfl rfl 35 _ hH4 (z0d y32) (by simp [z00,y32];rfl) (z0m Y) ?_))
        refine bodyPost_ret (v:=.agg (z00 Y).toArray) (z50 rfl _ _ w.heap.size 35 _ (0,0) _ _ rfl (Has.row hH4 _) Tryz.underlying35 (z0d y32)) rfl ⟨by rw [hY0],z06 hb (Nat.le_refl _) _⟩
      | succ q=>
        obtain rfl:x=(q:Int):=by have:=A.out.2.1;omega
        have hq0:(0:Int)≤(q:Int):=by omega
        have hb:=A.out.2.2.1
        obtain ⟨h1,h2,h3,h4,h5,h6⟩:=HA.out
        have hqm:q+1≤m:=A.out.1
        have eY:FA d l n (m - q)=z4C d (HSH l q) (FA d l n (m - (q+1))):=by
          rw [show m - q=(m - (q+1))+1 by omega,FA,show n - 2 - (m - (q+1))=q by omega]
        have hL:IsH (HSH l q):=zcj h3.1 h3.2.2 (by omega)
        have hR:=h6 (m - (q+1))
        have hY:=h6 (m - q)
        have hb1:(q:Int)<(n:Int):=by omega
        have cF:=zdH d (HSH l q) (FA d l n (m - (q+1))) hL hR wr.drew (h4.below hb.drew)
        have hLr:=((h3.below hb).at (show q<n by omega))
        have hE1:Aside (wrap64 ((q:Int) - 1)=(q:Int) - 1):=by show wrap64 ((q:Int) - 1)=(q:Int) - 1;unfold wrap64;omega
        rw [← eY] at cF
        clear h1 h2 h3 h4 h5 h6 eY hb HA
        generalize FA d l n (m - (q+1))=R at *
        generalize HSH l q=L at *
        have hH6:=A.out.2.2.2.2
        go_upto_region 8 with fail
        refine z75 _ _ _ _ _ _ _ _ _ _ _ _ _ _ _ _ _ _ _ _ _ _ _ _ _ _ _ _ _ wr b6 gn o n c q d L R (FA d l n (m - q)) hL.1 hR.1 hY.1 hb1 hLr (zc5 hH6) (fun W=>Below w.heap.size w W∧Has W w.heap.size (z00 ZND).toArray 35) (cF.mono ?_) (fun _ _ _ _ _ h=>h) ?_
        · rintro e w' ⟨rfl,hb⟩
          have hb':Below wr.heap.size wr w':=(Below.refl _ wr).drew.trans hb
          exact ⟨_,rfl,rfl,hH6.keep hb',A.out.2.2.1.trans (hb'.mono A.out.2.2.1.size),A.out.2.2.2.1.keep hb'⟩
        · rintro X w' ⟨rfl,g1,g2,g3⟩
          dsimp only
          have Z:Aside (q≤m∧(q:Int) - 1=(q:Int) - 1∧Below w.heap.size w (w'.setRow b6 (z00 (FA d l n (m - q))).toArray)∧Has (w'.setRow b6 (z00 (FA d l n (m - q))).toArray) w.heap.size (z00 ZND).toArray 35∧Has (w'.setRow b6 (z00 (FA d l n (m - q))).toArray) b6 (z00 (FA d l n (m - q))).toArray 35):=⟨by omega,rfl,z06 g2 (by have:=K.out;omega) _,g3.row_other (by have:=K.out;omega) _,g1.row _⟩
          clear cF hLr hL hR hY hb1 hq0 hqm A g1 g2 g3 hH6
          have e1:=hE1.out
          generalize w'.setRow b6 (z00 (FA d l n (m - q))).toArray=w3 at *
          go_wp2
          go_roundg q
          case measure=>exact Nat.lt_succ_self _
          case rel=>exact ⟨_,rfl,Z.out.1,rfl,Z.out.2.2⟩
end Go.Proofs.YtjkjlblongeljaaGreatDoor

namespace Go.Proofs.YtjkjlblongeljaaGreatDoor
open Go.RowKit
set_option maxRecDepth 100000
def BAGA (d:Int) (n k:Nat) (l:List Int):Int × List Int:=
  if 4611686018427387904<n then (30,ZND) else if k≠PC n then (70,ZND) else (0,z17 d n (FLD d l k))
theorem z3q {fn:Func} {p q:Tmp} {ty:TypeId} (h:fn.results=#[.cell p ty,.tmp q]) (tmps:Array Value) (w:World) (g:Nat) (t:TypeId) (cs:Array Value) (fr:Nat × Nat) (k:Nat) (el:TypeId) (v:Value)
    (hp:tmps.getD p undef=.pointer (some ⟨g,0,none⟩)) (hv:tmps.getD q undef=v) (hg:w.heap[g]?=some (.cells cs t fr))
    (hu:Tryz.prog.underlying ty=some (.array k el)) (hi:(Tryz.prog.info? ty).map (·.size)=some cs.size):
    (results fn tmps).run Tryz.prog w=.ok (.tuple #[.agg cs,v]) w:=by
  have hp':tmps[p]?.getD undef=.pointer (some ⟨g,0,none⟩):=by simpa using hp
  have hv':tmps[q]?.getD undef=v:=by simpa using hv
  simp [results,h,hp',hv',asAddr,run_loadVar_row w g t ty cs fr (.array k el) hg hu rfl hi]
set_option maxHeartbeats 4000000 in
theorem zcl (d:Int) (n:Nat) (hn:n<2 ^ 64) (a:Option Addr) (k c:Nat) (w:World) (h1':¬ (4611686018427387904:Int)<(n:Int)) (h2:¬ k=POP n):
    Calls Tryz.prog 52 #[.int .i64 d,.int .u64 (n:Int),.slice a k c] w fun e w'=>e=.returned (.tuple #[.agg (z00 ZND).toArray,.int .i64 70])∧Below w.heap.size w w':=by
  have R0:Aside (Below w.heap.size w (w.alloc (.cells ZARR 35))∧Has (w.alloc (.cells ZARR 35)) w.heap.size (z00 ZND).toArray 35):=⟨(Below.refl _ _).alloc (Nat.le_refl _) _,by rw [z2o];exact Has.new _ _ _⟩
  have cO:=z1z n hn (w.alloc (.cells ZARR 35))
  generalize POP n=pp at *
  have e2:¬ (k:Int)=(pp:Int):=by omega
  clear hn
  go_enter Tryz.func52,Tryz.ntmps52
  go_upto_region 3 with fail
  rw [show (#[.int .u8 0,.int .u8 0,.int .u8 0,.int .u8 0,.int .u8 0,.int .u8 0,.int .u8 0,.int .u8 0,.int .u8 0,.int .u8 0,.int .u8 0,.int .u8 0,.int .u8 0,.int .u8 0,.int .u8 0,.int .u8 0,.int .u8 0,.int .u8 0,.int .u8 0,.int .u8 0,.int .u8 0,.int .u8 0,.int .u8 0,.int .u8 0,.int .u8 0,.int .u8 0,.int .u8 0,.int .u8 0,.int .u8 0,.int .u8 0,.int .u8 0,.int .u8 0]:Array Value)=ZARR from rfl]
  generalize w.alloc (.cells ZARR 35)=W0 at *
  go_wp2_with fail
  refine cO.mono ?_
  rintro e w1 ⟨rfl,rfl⟩
  clear cO
  go_upto_region 4 with fail
  go_wp2_with (rw [show (#[.int .u8 0,.int .u8 0,.int .u8 0,.int .u8 0,.int .u8 0,.int .u8 0,.int .u8 0,.int .u8 0,.int .u8 0,.int .u8 0,.int .u8 0,.int .u8 0,.int .u8 0,.int .u8 0,.int .u8 0,.int .u8 0,.int .u8 0,.int .u8 0,.int .u8 0,.int .u8 0,.int .u8 0,.int .u8 0,.int .u8 0,.int .u8 0,.int .u8 0,.int .u8 0,.int .u8 0,.int .u8 0,.int .u8 0,.int .u8 0,.int .u8 0,.int .u8 0]:Array Value)=(z00 ZND).toArray from rfl];refine wpList_store_row rfl 35 (.tmp 6) (.tmp 16) rfl _ _ rfl rfl 35 _ R0.out.2 (z0d rfl) rfl (z0m ZND) ?_)
  refine bodyPost_ret (v:=.tuple #[.agg (z00 ZND).toArray,.int .i64 70]) (z3q rfl _ _ w.heap.size 35 _ (0,0) _ _ _ rfl rfl (Has.row R0.out.2 _) Tryz.underlying35 (z0d rfl)) rfl ⟨rfl,z06 R0.out.1 (Nat.le_refl _) _⟩
end Go.Proofs.YtjkjlblongeljaaGreatDoor

namespace Go.Proofs.YtjkjlblongeljaaGreatDoor
open Go.RowKit
set_option maxRecDepth 100000
end Go.Proofs.YtjkjlblongeljaaGreatDoor

namespace Go.Proofs.YtjkjlblongeljaaGreatDoor.HX
open Go.RowKit
set_option maxRecDepth 100000
theorem z4i (W:World) (b j:Nat) (v:Value):W.grownBy (W.setCell ⟨b,j,none⟩ v) (some b):=
  ⟨rfl,rfl,rfl,by simp,fun k _ hk=>Below.heap_setCell _ _ _ k (fun e=>hk (by rw [e]))⟩
theorem HM (m:Nat) (hm:m<256) (w4:World):Bytes (w4.alloc (.cells #[.int .u8 (m:Int)] 5)) (some ⟨w4.heap.size,0,none⟩) 1 [(m:Int)]:=z2y w4 1 (fun _=>(m:Int)) [(m:Int)] rfl (fun i hi=>by obtain rfl:i=0:=(by omega);rfl) (fun x hx=>by simp at hx;omega)
theorem z1n {ops:Array Oper} {rest:List Oper} {o:Oper} {a:Act} {Q:Exit→Act→World→Prop} (w:World) (hg:o.guard=none) (t e:TypeId) (x:Operand) (ho:o.op=.buildSlice t 1 #[(0,x)]) (C:Array Value) (hx:a.eval x=.agg C) (n:Nat) (z:Value) (by':Nat)
    (hu:Tryz.prog.underlying t=some (.slice e)) (hi:(Tryz.prog.info? e).map (fun i=>(i.zero,i.size,i.bytes))=some (some z,n,by')) (hC:C.size=n) (hz:z.cells.size=n) (hn:0<n) (hs:n≤1000)
    (h:wpList Tryz.prog ops Q rest (a.put o.dst (.slice (some ⟨w.heap.size,0,none⟩) 1 1)) (w.alloc (.cells C e))):wpList Tryz.prog ops Q (o :: rest) a w:=by
  obtain ⟨i,hie,hz',hs1,_⟩:=info_parts hi
  refine wpList_buildSlice hg t e 1 _ ho C i z hu hie hz' (by rw [hs1];omega) (by rw [hs1];omega) ?_ h
  have:=Great.fill_whole (s:=n) hn [.agg C] ((Array.range (1*i.size)).map (z.cells[· % z.cells.size]!)) (fun v hv=>by simp at hv;subst hv;exact hC) (by simp [hs1])
  simp [Value.cells] at this
  rw [hs1]
  simp [hx]
  rw [hs1] at this
  exact this
end Go.Proofs.YtjkjlblongeljaaGreatDoor.HX

namespace Go.Proofs.YtjkjlblongeljaaGreatDoor.HX
open Go.RowKit
theorem z3O (n:Nat) (hn:n<64) (w:World):Calls Tryz.prog 187 #[.int .i64 (n:Int)] w fun e w'=>e=.returned (.int .u64 ((2 ^ n:Nat):Int))∧w=w':=by
  have HN:Aside (n<64):=hn
  clear hn
  go_enter Tryz.func187,Tryz.ntmps187
  go_wp2
  go_loopg [3,4] n (fun g s3 s4 wx=>∃ (i:Nat) (p:Int),i+g=n∧Aside (p=((2 ^ i:Nat):Int))∧s3=.int .u64 p∧s4=.int .i64 i∧wx=w)
  case atStart=>exact ⟨0,1,by omega,rfl,rfl,rfl,rfl⟩
  case round=>
    obtain ⟨i,p,hig,A,rfl,rfl,rfl⟩:=hrel
    cases gk with
    | zero=>
      obtain rfl:i=n:=by omega
      go_wp2
      go_ret
      exact ⟨by rw [← A.out];rfl,rfl⟩
    | succ g=>
      have hlt:(i:Int)<(n:Int):=by omega
      have hlt2:(i:Int)<64:=by have:=HN.out;omega
      obtain ⟨p',hp'⟩:∃ p',IntKind.u64.wrap (2*p)=p':=⟨_,rfl⟩
      have B:Aside (IntKind.u64.wrap (2*p)=p'):=hp'
      go_wp2
      go_roundg g
      case measure=>omega
      case rel=>
        refine ⟨i+1,p',by omega,?_,rfl,by go_num,rfl⟩
        show p'=_
        have h1:(2 ^ i:Nat)≤2 ^ 62:=Nat.pow_le_pow_right (by decide) (by have:=HN.out;omega)
        rw [← B.out,A.out,z0e,Nat.pow_succ]
        omega
end Go.Proofs.YtjkjlblongeljaaGreatDoor.HX

namespace Go.Proofs.YtjkjlblongeljaaGreatDoor.HX
open Go.RowKit
theorem z2Q:∃ i,Tryz.prog.info? 24=some i∧i.zero=some (.int .u64 0)∧i.size=1∧i.bytes=8:=by
  have h:(Tryz.prog.info? 24).map (fun i=>(i.zero,i.size,i.bytes))=some (some (.int .u64 0),1,8):=by kernel_rfl
  obtain ⟨i,hi,h⟩:=Option.map_eq_some_iff.1 h
  simp only [Prod.mk.injEq] at h
  exact ⟨i,hi,h.1,h.2.1,h.2.2⟩
end Go.Proofs.YtjkjlblongeljaaGreatDoor.HX

namespace Go.Proofs.YtjkjlblongeljaaGreatDoor.HX
open Go.RowKit
end Go.Proofs.YtjkjlblongeljaaGreatDoor.HX

namespace Go.Proofs.YtjkjlblongeljaaGreatDoor.HX
open Go.RowKit
def ML (b:Nat→Nat) (k:Nat):List Nat:=(List.range (16+k)).map (SCHL b k)
end Go.Proofs.YtjkjlblongeljaaGreatDoor.HX

namespace Go.Proofs.YtjkjlblongeljaaGreatDoor.HX
open Go.RowKit
set_option maxRecDepth 100000
end Go.Proofs.YtjkjlblongeljaaGreatDoor.HX

namespace Go.Proofs.YtjkjlblongeljaaGreatDoor.HX
open Go.RowKit
set_option maxRecDepth 100000
end Go.Proofs.YtjkjlblongeljaaGreatDoor.HX

namespace Go.Proofs.YtjkjlblongeljaaGreatDoor.HX
open Go.RowKit
set_option maxRecDepth 100000
theorem z9G (w:World) (base:Nat) (hb:base≤w.heap.size) (f:Nat→Nat):(w.alloc (.cells (UARR .u8 32 f) 35)).ownsRow base 35 32 (.slice (some ⟨w.heap.size,0,none⟩) 1 1) 1 (z02 .u8 32 f):=
  ⟨by rw [z0a],.inr ⟨w.heap.size,1,UARR .u8 32 f,rfl,hb,by first | exact (Has.new w _ _) | exact (Has.new w _ _).1 | simp,by decide,by decide,by rw [z01],by rw [z0M,List.take_of_length_le (by rw [z0a];decide)]⟩⟩
end Go.Proofs.YtjkjlblongeljaaGreatDoor.HX

namespace Go.Proofs.YtjkjlblongeljaaGreatDoor.HX
open Go.RowKit
set_option maxRecDepth 100000
def Parts0 (w:World) (a:Option Addr) (k:Nat) (ps:List PART):Prop:=
  ps.length=k∧(0<k→∃ b off,a=some ⟨b,off,none⟩∧b<w.heap.size∧∀ i p,ps[i]?=some p→w.cell? ⟨b,off+i,none⟩=some (.slice p.a p.n p.c))∧∀ p∈ps,Text w p.a p.n p.l
theorem Parts.zero {w:World} {a:Option Addr} {k:Nat} {ps:List PART} (h:Parts w a k ps):Parts0 w a k ps:=⟨h.1,h.2.1,fun p hp=>(h.2.2 p hp).1⟩
theorem Parts0.below {w w':World} {a:Option Addr} {k:Nat} {ps:List PART} (h:Parts0 w a k ps) (hb:Below w.heap.size w w'):Parts0 w' a k ps:=
  ⟨h.1,fun hk=>by
    obtain ⟨b,off,e,hl,hc⟩:=h.2.1 hk
    exact ⟨b,off,e,Nat.lt_of_lt_of_le hl hb.size,fun i p hp=>(hb.cell (by exact hl)).trans (hc i p hp)⟩,fun p hp=>(h.2.2 p hp).below hb⟩
end Go.Proofs.YtjkjlblongeljaaGreatDoor.HX

namespace Go.Proofs.YtjkjlblongeljaaGreatDoor.HX
open Go.RowKit
set_option maxRecDepth 100000
end Go.Proofs.YtjkjlblongeljaaGreatDoor.HX

namespace Go.Proofs.YtjkjlblongeljaaGreatDoor.HX
open Go.RowKit
set_option maxRecDepth 100000
end Go.Proofs.YtjkjlblongeljaaGreatDoor.HX

namespace Go.Proofs.YtjkjlblongeljaaGreatDoor
open Go.RowKit
set_option maxRecDepth 100000
end Go.Proofs.YtjkjlblongeljaaGreatDoor

namespace Go.Proofs.YtjkjlblongeljaaGreatDoor
open Go.RowKit
set_option maxRecDepth 100000
end Go.Proofs.YtjkjlblongeljaaGreatDoor

namespace Go.Proofs.YtjkjlblongeljaaGreatDoor
open Go.RowKit
set_option maxRecDepth 100000
def LFT (w:World) (a:Option Addr) (n c:Nat) (l:List Int):Prop:=Flat w a n l∧n≤c
theorem LFT.rest {w:World} {b o n c:Nat} {l:List Int} (h:LFT w (some ⟨b,o,none⟩) n c l) (hn:0<n):LFT w (SLA (some ⟨b,o,none⟩) c 1) (n - 1) (c - 1) (l.drop 32):=⟨h.1.behind 1 hn h.2,by have:=h.2;omega⟩
end Go.Proofs.YtjkjlblongeljaaGreatDoor

namespace Go.Proofs.YtjkjlblongeljaaGreatDoor
open Go.RowKit
set_option maxRecDepth 100000
end Go.Proofs.YtjkjlblongeljaaGreatDoor

namespace Go.Proofs.YtjkjlblongeljaaGreatDoor
open Go.RowKit
set_option maxRecDepth 100000
end Go.Proofs.YtjkjlblongeljaaGreatDoor

namespace Go.Proofs.YtjkjlblongeljaaGreatDoor
open Go.RowKit
set_option maxRecDepth 100000
end Go.Proofs.YtjkjlblongeljaaGreatDoor

namespace Go.Proofs.YtjkjlblongeljaaGreatDoor
open Go.RowKit
set_option maxRecDepth 100000
end Go.Proofs.YtjkjlblongeljaaGreatDoor
