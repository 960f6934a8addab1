/- Texts of ClashNothing, one behind the other: HashRefBlocks, HashRefBits, HashRefWords, HashRefCut, HashRefStep, HashSame, HashRefBegin, HashRefStates, HashRefSum, HashGiven, HashWidthsWalk, ClashTexts. -/
import Derived.Great.BuildSlice
import Derived.Deep.LoopGhost
import Derived.Deep.AppendLies
import Derived.Deep.RegionHeld3
import Derived.Deep.RegionLaw
import Derived.Deep.MidRow
import Derived.Test.YtbeelmlpalkohaaGreatDoorClashNothingP8
import Derived.Test.YtbeelmlpalkohaaGreatDoorClashNothingP9
import Derived.Test.YtbeelmlpalkohaaGreatDoorClashNothingP12
import Derived.Test.YtbeelmlpalkohaaGreatDoorClashNothingP13
namespace Go.Proofs.YtbeelmlpalkohaaGreatDoor.HX
open Go.RowKit
set_option maxRecDepth 100000
abbrev BY (l:List Nat):List Value:=z00 (INTS l)
theorem zhC (l:List Nat) (i:Nat) (h:i<l.length):(BY l)[i]?=some (.int .u8 ((l.getD i 0:Nat):Int)):=by
  simp [BY,z00,INTS,List.getD_eq_getElem?_getD,h]
theorem z19 (W:World) (b j:Nat) (v:Value):W.grownBy (W.setCell ⟨b,j,none⟩ v) (some b):=
  ⟨rfl,rfl,rfl,by simp,fun k _ hk=>Below.heap_setCell _ _ _ k (fun e=>hk (by rw [e]))⟩
theorem HM (m:Nat) (hm:m<256) (w4:World):Bytes (w4.alloc (.cells #[.int .u8 (m:Int)] 5)) (some ⟨w4.heap.size,0,none⟩) 1 [(m:Int)]:=z2l w4 1 (fun _=>(m:Int)) [(m:Int)] rfl (fun i hi=>by obtain rfl:i=0:=(by omega);rfl) (fun x hx=>by simp at hx;omega)
theorem z8x {w w':World} {base:Nat} {t:TypeId} {s:Nat} {v:Value} {n:Nat} {xs:List Value} (h:w.ownsRow base t s v n xs) (hb:Below w.heap.size w w'):w'.ownsRow base t s v n xs:=by
  refine ⟨h.1,h.2.imp id ?_⟩
  rintro ⟨g,c,cur,a,b,r,rest⟩
  exact ⟨g,c,cur,a,b,(hb.block g (Array.getElem?_eq_some_iff.1 r).1).trans r,rest⟩
theorem z7o {ops:Array Oper} {rest:List Oper} {o:Oper} {a:Act} {Q:Exit→Act→World→Prop} (w:World) (hg:o.guard=none) (t e:TypeId) (x:Operand) (ho:o.op=.buildSlice t 1 #[(0,x)]) (C:Array Value) (hx:a.eval x=.agg C) (n:Nat) (z:Value) (by':Nat)
    (hu:Tryz.prog.underlying t=some (.slice e)) (hi:(Tryz.prog.info? e).map (fun i=>(i.zero,i.size,i.bytes))=some (some z,n,by')) (hC:C.size=n) (hz:z.cells.size=n) (hn:0<n) (hs:n≤1000)
    (h:wpList Tryz.prog ops Q rest (a.put o.dst (.slice (some ⟨w.heap.size,0,none⟩) 1 1)) (w.alloc (.cells C e))):wpList Tryz.prog ops Q (o :: rest) a w:=by
  obtain ⟨i,hie,hz',hs1,_⟩:=info_parts hi
  refine wpList_buildSlice hg t e 1 _ ho C i z hu hie hz' (by rw [hs1];omega) (by rw [hs1];omega) ?_ h
  have:=Great.fill_whole (s:=n) hn [.agg C] ((Array.range (1*i.size)).map (z.cells[· % z.cells.size]!)) (fun v hv=>by simp at hv;subst hv;exact hC) (by simp [hs1])
  simp [Value.cells] at this
  rw [hs1]
  simp [hx]
  rw [hs1] at this
  exact this
end Go.Proofs.YtbeelmlpalkohaaGreatDoor.HX

namespace Go.Proofs.YtbeelmlpalkohaaGreatDoor.HX
open Go.RowKit
end Go.Proofs.YtbeelmlpalkohaaGreatDoor.HX

namespace Go.Proofs.YtbeelmlpalkohaaGreatDoor.HX
open Go.RowKit
def z2H (l:List Nat):List Value:=l.map fun (x:Nat)=>Value.int .u64 (x:Int)
theorem zbt (l:List Nat) (i:Nat) (h:i<l.length):(z2H l)[i]?=some (.int .u64 (l.getD i 0:Nat)):=by simp [z2H,h,List.getD_eq_getElem?_getD]
theorem z29:∃ i,Tryz.prog.info? 23=some i∧i.zero=some (.int .u64 0)∧i.size=1∧i.bytes=8:=by
  have h:(Tryz.prog.info? 23).map (fun i=>(i.zero,i.size,i.bytes))=some (some (.int .u64 0),1,8):=by kernel_rfl
  obtain ⟨i,hi,h⟩:=Option.map_eq_some_iff.1 h
  simp only [Prod.mk.injEq] at h
  exact ⟨i,hi,h.1,h.2.1,h.2.2⟩
end Go.Proofs.YtbeelmlpalkohaaGreatDoor.HX

namespace Go.Proofs.YtbeelmlpalkohaaGreatDoor.HX
open Go.RowKit
end Go.Proofs.YtbeelmlpalkohaaGreatDoor.HX

namespace Go.Proofs.YtbeelmlpalkohaaGreatDoor.HX
open Go.RowKit
theorem za4 {ops:Array Oper} {rest:List Oper} {o:Oper} {a:Act} {Q:Exit→Act→World→Prop} (w:World) (hgd:o.guard=none) (s x:Operand)
    (ho:o.op=.call {callee:=.builtin .append,args:=#[s,x],argTypes:=#[71,71]})
    (base:Nat) (v:Value) (hs:a.eval s=v) (hown:w.ownsRow base 23 1 v 0 [])
    (b m c:Nat) (l:List Nat) (hx:a.eval x=.slice (some ⟨b,0,none⟩) m c) (hl:l.length=m) (hc:∀ i,i<m→w.cell? ⟨b,i,none⟩=some (.int .u64 (l.getD i 0:Nat))) (hm:0<m) (hb:m≤1000) (hbase:base≤w.heap.size)
    (h:∀ g cap w',w'.ownsRow base 23 1 (.slice (some ⟨g,0,none⟩) m cap) m (z2H l)→w.grownBy w' v.ownBlock→g<w'.heap.size→wpList Tryz.prog ops Q rest (a.put o.dst (.slice (some ⟨g,0,none⟩) m cap)) w'):wpList Tryz.prog ops Q (o :: rest) a w:=by
  obtain ⟨i,hi,hz,hs1,hby⟩:=z29
  refine wpList_append_lies w hgd s x 71 ho base 23 i (.int .u64 0) 1 8 Tryz.underlying71 hi hz hs1 hby rfl (by decide) v 0 [] hs hown ⟨b,0,none⟩ m c (z2H l) hx (by simp [z2H,hl]) ?_ (fun u hu=>by simp [z2H] at hu;obtain ⟨y,_,rfl⟩:=hu;rfl) hm (by simp only [maxLen];omega) (by omega) hbase w.heap.size rfl ?_
  · intro j u hj
    have hjl:j<l.length:=by
      have:=(List.getElem?_eq_some_iff.1 hj).1
      simpa [z2H] using this
    rw [zbt l j hjl] at hj
    rw [z1k,Nat.zero_add,hc j (by omega)]
    exact hj
  · intro g cap w' h1 h2 _ h4
    rw [List.nil_append,Nat.zero_add] at h1
    rw [Nat.zero_add]
    exact h g cap w' h1 h2 h4
end Go.Proofs.YtbeelmlpalkohaaGreatDoor.HX

namespace Go.Proofs.YtbeelmlpalkohaaGreatDoor.HX
open Go.RowKit
set_option maxRecDepth 100000
end Go.Proofs.YtbeelmlpalkohaaGreatDoor.HX

namespace Go.Proofs.YtbeelmlpalkohaaGreatDoor.HX
open Go.RowKit
set_option maxRecDepth 100000
end Go.Proofs.YtbeelmlpalkohaaGreatDoor.HX

namespace Go.Proofs.YtbeelmlpalkohaaGreatDoor.HX
open Go.RowKit
set_option maxRecDepth 100000
theorem zaf (w:World) (base:Nat) (hb:base≤w.heap.size) (f:Nat→Nat):(w.alloc (.cells (UARR .u8 32 f) 30)).ownsRow base 30 32 (.slice (some ⟨w.heap.size,0,none⟩) 1 1) 1 (z05 .u8 32 f):=
  ⟨by rw [z0d],.inr ⟨w.heap.size,1,UARR .u8 32 f,rfl,hb,by first | exact (Has.new w _ _) | exact (Has.new w _ _).1 | simp,by decide,by decide,by rw [z06],by rw [z0I,List.take_of_length_le (by rw [z0d];decide)]⟩⟩
end Go.Proofs.YtbeelmlpalkohaaGreatDoor.HX

namespace Go.Proofs.YtbeelmlpalkohaaGreatDoor.HX
open Go.RowKit
set_option maxRecDepth 100000
def Parts0 (w:World) (a:Option Addr) (k:Nat) (ps:List PART):Prop:=
  ps.length=k∧(0<k→∃ b off,a=some ⟨b,off,none⟩∧b<w.heap.size∧∀ i p,ps[i]?=some p→w.cell? ⟨b,off+i,none⟩=some (.slice p.a p.n p.c))∧∀ p∈ps,Text w p.a p.n p.l
theorem Parts.zero {w:World} {a:Option Addr} {k:Nat} {ps:List PART} (h:Parts w a k ps):Parts0 w a k ps:=⟨h.1,h.2.1,fun p hp=>(h.2.2 p hp).1⟩
theorem Parts0.below {w w':World} {a:Option Addr} {k:Nat} {ps:List PART} (h:Parts0 w a k ps) (hb:Below w.heap.size w w'):Parts0 w' a k ps:=
  ⟨h.1,fun hk=>by
    obtain ⟨b,off,e,hl,hc⟩:=h.2.1 hk
    exact ⟨b,off,e,Nat.lt_of_lt_of_le hl hb.size,fun i p hp=>(hb.cell (by exact hl)).trans (hc i p hp)⟩,fun p hp=>(h.2.2 p hp).below hb⟩
end Go.Proofs.YtbeelmlpalkohaaGreatDoor.HX

namespace Go.Proofs.YtbeelmlpalkohaaGreatDoor.HX
open Go.RowKit
set_option maxRecDepth 100000
structure GP where
  g:Nat
  c:Nat
  l:List Nat
def z67 (gs:List GP):List Value:=gs.map fun p=>.slice (some ⟨p.g,0,none⟩) p.l.length p.c
structure GIVEN (w:World) (B:Nat) (s:Value) (gs:List GP):Prop where
  own:w.ownsRow B 39 1 s gs.length (z67 gs)
  row:∀ (i:Nat) (p:GP),gs[i]?=some p→w.ownsRow B 5 1 (.slice (some ⟨p.g,0,none⟩) (p.l.length+1) p.c) (p.l.length+1) (BY (p.l ++ [171]))
  far:∀ (i:Nat) (p:GP),gs[i]?=some p→s.ownBlock≠some p.g
  apart:∀ (i j:Nat) (p q:GP),gs[i]?=some p→gs[j]?=some q→i≠j→p.g≠q.g
  small:∀ (i:Nat) (p:GP),gs[i]?=some p→Small8 p.l
theorem GIVEN.keep {w w':World} {B:Nat} {s:Value} {gs:List GP} (h:GIVEN w B s gs) (hb:Below w.heap.size w w'):GIVEN w' B s gs:=
  ⟨z8x h.own hb,fun i p hp=>z8x (h.row i p hp) hb,h.far,h.apart,h.small⟩
theorem GIVEN.text {w:World} {B:Nat} {s:Value} {gs:List GP} (h:GIVEN w B s gs) {i:Nat} {p:GP} (hp:gs[i]?=some p):Text w (some ⟨p.g,0,none⟩) p.l.length p.l∧p.l.length+1≤p.c:=by
  have hr:=h.row i p hp
  have hb:=z1p (l:=INTS (p.l ++ [171])) hr (z1q (zbo (h.small i p hp)))
  have ht:=Text.of_bytes hb.1
  refine ⟨⟨rfl,fun hn=>?_,h.small i p hp⟩,hb.2⟩
  obtain ⟨b,off,e,hl,hc⟩:=ht.2.1 (by omega)
  refine ⟨b,off,e,hl,fun j hj=>?_⟩
  rw [hc j (by omega),List.getD_eq_getElem?_getD,List.getElem?_append_left hj,← List.getD_eq_getElem?_getD]
theorem zhD (l:List Nat) (k x:Nat):BY (l.set k x)=(BY l).set k (.int .u8 (x:Int)):=by simp [BY,z00,INTS,List.map_set]
theorem zbu (gs:List GP) (i k x:Nat) (p:GP) (hp:gs[i]?=some p):z67 (gs.set i ⟨p.g,p.c,p.l.set k x⟩)=z67 gs:=by
  obtain ⟨hi,he⟩:=List.getElem?_eq_some_iff.1 hp
  apply List.ext_getElem?
  intro j
  simp only [z67,List.getElem?_map,List.getElem?_set]
  by_cases e:i=j
  · subst e
    simp [hi,he]
  · simp [e]
theorem GIVEN.put {w:World} {B:Nat} {s:Value} {gs:List GP} (h:GIVEN w B s gs) {i k x:Nat} {p:GP} (hp:gs[i]?=some p) (hk:k<p.l.length) (hx:x<256):
    GIVEN (w.setCell ⟨p.g,k,none⟩ (.int .u8 (x:Int))) B s (gs.set i ⟨p.g,p.c,p.l.set k x⟩)∧w.frozen? ⟨p.g,k,none⟩=false∧w.cell? ⟨p.g,k,none⟩=some (.int .u8 ((p.l.getD k 0:Nat):Int)):=by
  have hi:i<gs.length:=(List.getElem?_eq_some_iff.1 hp).1
  have hr:=h.row i p hp
  have hst:=hr.stored k (.int .u8 (x:Int))
  have hc:∀ {j:Nat} {q:GP},(gs.set i ⟨p.g,p.c,p.l.set k x⟩)[j]?=some q→(j=i∧q=⟨p.g,p.c,p.l.set k x⟩)∨(j≠i∧gs[j]?=some q):=fun {j q} hq=>by
    by_cases e:i=j
    · subst e
      rw [List.getElem?_set_self hi] at hq
      exact .inl ⟨rfl,(Option.some.inj hq).symm⟩
    · rw [List.getElem?_set_ne e] at hq
      exact .inr ⟨Ne.symm e,hq⟩
  refine ⟨⟨?_,fun j q hq=>?_,fun j q hq=>?_,fun j m q r hq hr' hne=>?_,fun j q hq=>?_⟩,?_,?_⟩
  · rw [zbu gs i k x p hp,List.length_set]
    exact h.own.kept hst.2 (.inr (h.far i p hp))
  · rcases hc hq with ⟨rfl,rfl⟩ | ⟨hji,hq⟩
    · have e:BY (p.l.set k x ++ [171])=(BY (p.l ++ [171])).set k (.int .u8 (x:Int)):=by rw [← zhD,List.set_append_left _ _ hk]
      show (w.setCell ⟨p.g,k,none⟩ (.int .u8 (x:Int))).ownsRow B 5 1 (.slice (some ⟨p.g,0,none⟩) ((p.l.set k x).length+1) p.c) ((p.l.set k x).length+1) (BY (p.l.set k x ++ [171]))
      rw [e,List.length_set]
      exact hst.1
    · exact (h.row j q hq).kept hst.2 (.inr fun e=>h.apart j i q p hq hp hji (by simpa [Value.ownBlock] using e))
  · rcases hc hq with ⟨rfl,rfl⟩ | ⟨hji,hq⟩
    · exact h.far j p hp
    · exact h.far j q hq
  · rcases hc hq with ⟨rfl,rfl⟩ | ⟨hji,hq2⟩
    · rcases hc hr' with ⟨rfl,rfl⟩ | ⟨hmi,hr2⟩
      · exact absurd rfl hne
      · exact h.apart _ _ p r hp hr2 hne
    · rcases hc hr' with ⟨rfl,rfl⟩ | ⟨hmi,hr2⟩
      · exact h.apart _ _ q p hq2 hp hne
      · exact h.apart _ _ q r hq2 hr2 hne
  · rcases hc hq with ⟨rfl,rfl⟩ | ⟨hji,hq⟩
    · intro y hy
      rcases List.mem_or_eq_of_mem_set hy with hy | rfl
      · exact h.small j p hp y hy
      · exact hx
    · exact h.small j q hq
  · rcases hr.2 with ⟨h',_⟩ | ⟨g',cap',cur,h',_,hg,_⟩
    · simp at h'
    · simp only [Value.slice.injEq,Option.some.injEq,Addr.mk.injEq,and_true,true_and] at h'
      obtain ⟨rfl,rfl⟩:=h'
      exact frozen_of_row w p.g k cur 5 hg
  · rw [hr.cellAt k (by omega),zhC _ _ (by rw [List.length_append];omega),List.getD_eq_getElem?_getD,List.getElem?_append_left hk,← List.getD_eq_getElem?_getD]
end Go.Proofs.YtbeelmlpalkohaaGreatDoor.HX

namespace Go.Proofs.YtbeelmlpalkohaaGreatDoor.HX
open Go.RowKit
end Go.Proofs.YtbeelmlpalkohaaGreatDoor.HX

namespace Go.Proofs.YtbeelmlpalkohaaGreatDoor.HX
open Go.RowKit
set_option maxRecDepth 100000
theorem zhE {W:World} {g:Nat} {a:Option Addr} {n c:Nat} {l:List Nat} (hg:Has W g #[.slice a n c] 39) (hT:Text W a n l) (hc:n≤c) (hx:∀ x,a=some x→x.block<W.heap.size):Parts W (some ⟨g,0,none⟩) 1 [⟨a,n,c,l⟩]:=by
  refine ⟨rfl,fun _=>⟨g,0,rfl,hg.lt,fun i p hp=>?_⟩,fun p hp=>?_⟩
  · cases i with
    | zero=>
      simp only [List.getElem?_cons_zero,Option.some.injEq] at hp
      subst hp
      rw [hg.cell]
      rfl
    | succ i=>simp at hp
  · simp only [List.mem_singleton] at hp
    subst hp
    exact ⟨hT,hc,hx⟩
theorem sum9 (d:Int) (W:World) (g:Nat) (a:Option Addr) (n c:Nat) (l:List Nat) (hg:Has W g #[.slice a n c] 39) (hT:Text W a n l) (hc:n≤c) (hx:∀ x,a=some x→x.block<W.heap.size) (hn:n<2 ^ 60) (h:Tabled W):Calls Tryz.prog 37 #[.int .i64 d,.slice (some ⟨g,0,none⟩) 1 1] W fun e w'=>e=.returned (.agg (UARR .u8 32 (z0h d l)))∧Below W.heap.size W w':=by
  have e:JOIN [⟨a,n,c,l⟩]=l:=by simp [JOIN]
  have k:=zcy d (some ⟨g,0,none⟩) 1 1 _ _ (zhE hg hT hc hx) h (by rw [e,hT.1];exact hn) (by decide)
  rw [e] at k
  exact k
end Go.Proofs.YtbeelmlpalkohaaGreatDoor.HX
