/- Texts of ManyAccepts, one behind the other: ManyNumbers, ManyLies, VerifyTreeFetch, ProofTexts, ProofRow, ProofFlats, ManyMake, VerifyTreeMake, VerifyTreeMakePrefix. -/
import Derived.Laws.AppendOwnNone
import Derived.Laws.Cover3
import Derived.Test.YtjkjlblongeljaaGreatDoorManyAcceptsP14
import Derived.Test.YtjkjlblongeljaaGreatDoorManyAcceptsP19
namespace Go.Proofs.YtjkjlblongeljaaGreatDoor
open Go.RowKit
set_option maxRecDepth 100000
theorem z7U {ops:Array Oper} {rest:List Oper} {o:Oper} {a:Act} {Q:Exit→Act→World→Prop} (w:World) (hgd:o.guard=none) (s x:Operand)
    (ho:o.op=.call {callee:=.builtin .append,args:=#[s,x],argTypes:=#[23,23]})
    (base:Nat) (v:Value) (n:Nat) (xs:List Value) (hs:a.eval s=v) (hown:w.ownsRow base 24 1 v n xs)
    (ad:Option Addr) (m c:Nat) (L:List Nat) (hx:a.eval x=.slice ad m c) (hL:NUML w ad L) (hl:L.length=m) (hc:ad=none→c=0)
    (hb:n+m≤2 ^ 30) (hbase:base≤w.heap.size)
    (hh:∀ a' c' w',w'.ownsRow base 24 1 (.slice a' (n+m) c') (n+m) (xs ++ UCELLS L)→w.grownBy w' v.ownBlock→wpList Tryz.prog ops Q rest (a.put o.dst (.slice a' (n+m) c')) w'):wpList Tryz.prog ops Q (o :: rest) a w:=by
  obtain ⟨i,hi,hz,hs1,hby⟩:=info_parts z2Q
  cases ad with
  | none=>
    obtain rfl:=hc rfl
    have hL0:L=[]:=by
      cases L with
      | nil=>rfl
      | cons y l=>
        obtain ⟨b,o',e,_⟩:=hL (by simp)
        cases e
    subst hL0
    obtain rfl:m=0:=by simpa using hl.symm
    refine wpList_append_own_none hgd s x 23 ho base 24 i 1 Tryz.underlying23 hi v n xs hs hown hx ?_
    obtain ⟨a',c',rfl⟩:=z2f hown
    have:=hh a' c' w (by simpa [UCELLS] using hown) ⟨rfl,rfl,rfl,Nat.le_refl _,fun _ _ _=>rfl⟩
    simpa using this
  | some ad=>
    have hcells:∀ j u,(UCELLS L)[j]?=some u→w.cell? (ad.add j)=some u:=by
      intro j u hu
      have hj:j<L.length:=by have:=(List.getElem?_eq_some_iff.1 hu).1;rwa [z1c] at this
      obtain ⟨g,o',e,_,hr⟩:=hL (by omega)
      cases e
      rw [Addr.add_mid,hr j _ (List.getElem?_eq_getElem hj)]
      rw [UCELLS,List.getElem?_map,List.getElem?_eq_getElem hj] at hu
      exact hu
    refine wpList_append_own w hgd s x 23 ho base 24 i (.int .u64 0) 1 8 Tryz.underlying23 hi hz hs1 hby rfl (by decide) v n xs hs hown ad m c (UCELLS L) hx (by rw [z1c];omega) hcells (fun u hu=>by
      obtain ⟨y,_,rfl⟩:=List.mem_map.1 hu
      rfl) (by simp only [maxLen];omega) (by omega) hbase ?_
    intro v' w' h1 h2 _
    obtain ⟨a',c',rfl⟩:=z2f h1
    exact hh a' c' w' h1 h2
theorem z4X (w:World):(w.alloc (.cells #[] 24)).ownsRow w.heap.size 24 1 (.slice (some ⟨w.heap.size,0,none⟩) 0 0) 0 []:=
  World.ownsRow_lit w #[] 0 (Nat.le_refl _) (by simp [maxLen]) rfl
theorem zaN {w:World} {base g n cap:Nat} {L:List Nat} {x:Nat} (hl:L.length=n) (h:w.ownsRow base 24 1 (.slice (some ⟨g,0,none⟩) (n+1) cap) (n+1) (UCELLS (L ++ [x]))):w.ownsRow base 24 1 (.slice (some ⟨g,0,none⟩) n cap) n (UCELLS L)∧n+1≤cap∧w.cell? ⟨g,n,none⟩=some (.int .u64 (x:Int))∧g<w.heap.size:=by
  have hr:w.cell? ⟨g,n,none⟩=some (.int .u64 (x:Int)):=by
    rw [h.cellAt n (by omega),z2r,List.getElem?_append_right (by rw [z1c];omega),z1c,hl,Nat.sub_self]
    rfl
  rcases h.2 with ⟨e,_⟩ | ⟨g',cap',cur,e,hb,hg,h1,h2,h3,h4⟩
  · cases e
  · cases e
    refine ⟨⟨by rw [z1c,hl,Nat.mul_one],.inr ⟨g,cap,cur,rfl,hb,hg,by omega,h2,h3,?_⟩⟩,h1,hr,(Array.getElem?_eq_some_iff.1 hg).1⟩
    have h5:=congrArg (List.take (n*1)) h4
    rw [List.take_take,show min (n*1) ((n+1)*1)=n*1 by omega] at h5
    rw [h5,z2r,List.take_left' (by rw [z1c,hl,Nat.mul_one])]
structure NUMD (w w':World) (g n cap:Nat) (L:List Nat):Prop where
  own:w'.ownsRow w.heap.size 24 1 (.slice (some ⟨g,0,none⟩) n cap) n (UCELLS L)
  room:n+1≤cap
  mark:w'.cell? ⟨g,n,none⟩=some (.int .u64 171)
  lt:g<w'.heap.size
  base:w.heap.size≤g
  below:Below w.heap.size w w'
theorem NUMD.lies {w w':World} {g n cap:Nat} {L:List Nat} (h:NUMD w w' g n cap L) (hl:L.length=n):NUML w' (some ⟨g,0,none⟩) L:=fun _=>⟨g,0,rfl,h.lt,fun i x hx=>by
  have hi:i<L.length:=(List.getElem?_eq_some_iff.1 hx).1
  rw [Nat.zero_add,h.own.cellAt i (by omega),UCELLS,List.getElem?_map,hx]
  rfl⟩
set_option maxHeartbeats 1000000 in
theorem z7V (a:Option Addr) (n c:Nat) (L:List Nat) (hl:L.length=n) (hn:n<2 ^ 20) (hc:a=none→c=0) (w:World) (hL:NUML w a L):Calls Tryz.prog 13 #[.slice a n c] w fun e w'=>∃ g cap,e=.returned (.slice (some ⟨g,0,none⟩) n cap)∧NUMD w w' g n cap L:=by
  have HA:Aside (L.length=n∧n<2 ^ 20∧(a=none→c=0)∧NUML w a L):=⟨hl,hn,hc,hL⟩
  clear hl hn hc hL
  go_enter Tryz.func13,Tryz.ntmps13
  go_wp2_with (first
    | (at_builtin;refine z7U _ rfl (.tmp 3) (.tmp 4) rfl w.heap.size (.slice (some ⟨w.heap.size,0,none⟩) 0 0) 0 [] rfl (z4X w) a n c L rfl (fun hp=>by
         obtain ⟨b,o,e,hlt,hcc⟩:=HA.out.2.2.2 hp
         exact ⟨b,o,e,by simp;omega,fun i x hx=>(((Below.refl w.heap.size w).alloc (Nat.le_refl _) _).cell (p:=⟨b,o+i,none⟩) hlt).trans (hcc i x hx)⟩) HA.out.1 HA.out.2.2.1 (by have:=HA.out.2.1;omega) (by simp) ?_;rw [Nat.zero_add,List.nil_append];intro a1 c1 w1 hown1 hgrow1
       have R1:Aside (w1.ownsRow w.heap.size 24 1 (.slice a1 n c1) n (UCELLS L)∧Below w.heap.size w w1):=⟨hown1,((Below.refl _ w).alloc (Nat.le_refl _) _).grown hgrow1 (by simp) (fun k e=>by cases e;exact Nat.le_refl _)⟩
       clear hown1 hgrow1)
    | (at_builtin;refine z6e _ rfl (.tmp 5) (.tmp 6) rfl w.heap.size (.slice a1 n c1) n L rfl (R1.out.1.alloc _) w1.heap.size 1 171 rfl ((Has.new _ _ _).cell 0) (by have:=HA.out.2.1;omega) (by have:=R1.out.2.size;simp;omega) ?_;intro g2 c2 w2 hown2 hgrow2 hg2
       obtain ⟨f1,f2,f3,f4⟩:=zaN HA.out.1 hown2
       have hcap:(n:Int)≤(c2:Int):=by omega
       have R2:Aside (NUMD w w2 g2 n c2 L):=⟨f1,f2,f3,f4,(f1.lt g2 rfl).1,(R1.out.2.alloc R1.out.2.size _).grown hgrow2 (by have:=R1.out.2.size;simp;omega) (fun k e=>(R1.out.1.lt k e).1)⟩
       clear hown2 hgrow2 hg2 f1 f2 f3 f4))
  go_ret
  exact ⟨_,_,rfl,R2.out⟩
end Go.Proofs.YtjkjlblongeljaaGreatDoor

namespace Go.Proofs.YtjkjlblongeljaaGreatDoor
open Go.RowKit
set_option maxRecDepth 100000
theorem z33 {w:World} {B n c:Nat} {a:Option Addr} {L:List Nat} (h:w.ownsRow B 24 1 (.slice a n c) n (UCELLS L)) (hl:L.length=n):NUML w a L:=fun h0=>by
  rcases h.2 with ⟨e,h1⟩ | ⟨g,cap,cur,e,hb,hg,_⟩
  · omega
  · cases e
    refine ⟨g,0,rfl,(Array.getElem?_eq_some_iff.1 hg).1,fun i x hx=>?_⟩
    have hi:i<L.length:=(List.getElem?_eq_some_iff.1 hx).1
    rw [Nat.zero_add,h.cellAt i (by omega),UCELLS,List.getElem?_map,hx]
    rfl
theorem NUML.keep {w w':World} {a:Option Addr} {L:List Nat} (h:NUML w a L) (hb:Below w.heap.size w w'):NUML w' a L:=fun h0=>by
  obtain ⟨b,o,e,hl,hc⟩:=h h0
  exact ⟨b,o,e,Nat.lt_of_lt_of_le hl hb.size,fun i x hx=>(hb.cell (p:=⟨b,o+i,none⟩) hl).trans (hc i x hx)⟩
end Go.Proofs.YtjkjlblongeljaaGreatDoor

namespace Go.Proofs.YtjkjlblongeljaaGreatDoor
open Go.RowKit
set_option maxRecDepth 100000
def TFL (G:Nat→List Int) (P:List Nat) (j:Nat):List Int:=(List.range j).flatMap fun i=>G (P.getD i 0)
theorem zdW (G:Nat→List Int) (P:List Nat) (j:Nat):TFL G P (j+1)=TFL G P j ++ G (P.getD j 0):=by simp [TFL,List.range_succ]
def zaO (w:World) (g:Nat) (G:Nat→List Int) (EN:Nat→Int) (P:List Nat):Prop:=
  ∀ W,Below w.heap.size w W→∀ p∈P,Calls Tryz.prog 124 #[.pointer (some ⟨g,0,none⟩),.int .u64 (p:Int)] W fun e w'=>e=.returned (.tuple #[.agg (z00 (G p)).toArray,.int .i64 (EN p)])∧Below W.heap.size W w'
def zfU (w:World) (G:Nat→List Int) (EN:Nat→Int) (P:List Nat) (e:Ending) (w':World):Prop:=
  Below w.heap.size w w'∧
  (((∀ p∈P,EN p=0)∧∃ u,e=.returned (.tuple #[u,.int .i64 0])∧w'.ownsRow w.heap.size 35 32 u P.length (z00 (TFL G P P.length)))∨
   (∃ j,j<P.length∧(∀ i,i<j→EN (P.getD i 0)=0)∧EN (P.getD j 0)≠0∧e=.returned (.tuple #[.slice none 0 0,.int .i64 (EN (P.getD j 0))])))
structure TFE (w0 w:World) (G:Nat→List Int) (EN:Nat→Int) (P:List Nat) (j:Nat) (u:Value):Prop where
  row:w.ownsRow w0.heap.size 35 32 u j (z00 (TFL G P j))
  bel:Below w0.heap.size w0 w
  ok:∀ i,i<j→EN (P.getD i 0)=0
theorem TFE.all {w w':World} {G:Nat→List Int} {EN:Nat→Int} {P:List Nat} {j:Nat} {u:Value} (h:TFE w w' G EN P j u) (hj:j=P.length):zfU w G EN P (.returned (.tuple #[u,.int .i64 0])) w':=by
  subst hj
  refine ⟨h.bel,.inl ⟨fun p hp=>?_,u,rfl,h.row⟩⟩
  obtain ⟨i,hi,rfl⟩:=List.getElem_of_mem hp
  have:=h.ok i hi
  rw [List.getD_eq_getElem?_getD,List.getElem?_eq_getElem hi] at this
  exact this
end Go.Proofs.YtjkjlblongeljaaGreatDoor

namespace Go.Proofs.YtjkjlblongeljaaGreatDoor
open Go.RowKit
set_option maxRecDepth 100000
end Go.Proofs.YtjkjlblongeljaaGreatDoor

namespace Go.Proofs.YtjkjlblongeljaaGreatDoor
open Go.RowKit
set_option maxRecDepth 100000
theorem Flat.none_nil {w:World} {n:Nat} {l:List Int} (h:Flat w none n l):n=0∧l=[]:=by
  have h0:n=0:=by
    rcases Nat.eq_zero_or_pos n with h0 | h0
    · exact h0
    · obtain ⟨_,_,e,_⟩:=h.2.1 h0
      cases e
  subst h0
  exact ⟨rfl,List.eq_nil_of_length_eq_zero h.1⟩
theorem z5H {w:World} {B n:Nat} {v:Value} {xs:List Value} (h:w.ownsRow B 35 32 v n xs):∃ a c,v=.slice a n c∧n≤c∧(0<n→∃ g,a=some ⟨g,0,none⟩):=by
  rcases h.2 with ⟨rfl,h0⟩ | ⟨g,cap,cur,rfl,_,_,h1,_⟩
  · subst h0
    exact ⟨none,0,rfl,Nat.le_refl _,fun h=>by omega⟩
  · exact ⟨_,_,rfl,h1,fun _=>⟨g,rfl⟩⟩
theorem zaP {ops:Array Oper} {rest:List Oper} {o:Oper} {a:Act} {Q:Exit→Act→World→Prop} (w:World) (hgd:o.guard=none) (s x:Operand)
    (ho:o.op=.call {callee:=.builtin .append,args:=#[s,x],argTypes:=#[22,22]})
    (base:Nat) (v:Value) (n:Nat) (xs:List Value) (hs:a.eval s=v) (hown:w.ownsRow base 35 32 v n xs)
    (ad:Option Addr) (m c:Nat) (l:List Int) (hx:a.eval x=.slice ad m c) (hL:Flat w ad m l) (hc:ad=none→c=0)
    (hb:n+m≤100000) (hbase:base≤w.heap.size)
    (hh:∀ a' c' w',w'.ownsRow base 35 32 (.slice a' (n+m) c') (n+m) (xs ++ z00 l)→w.grownBy w' v.ownBlock→wpList Tryz.prog ops Q rest (a.put o.dst (.slice a' (n+m) c')) w'):wpList Tryz.prog ops Q (o :: rest) a w:=by
  obtain ⟨i,hi,hz,hs1,hby⟩:=info_parts z0K
  cases ad with
  | none=>
    obtain rfl:=hc rfl
    obtain ⟨rfl,rfl⟩:=hL.none_nil
    refine wpList_append_own_none hgd s x 22 ho base 35 i 32 Tryz.underlying22 hi v n xs hs hown hx ?_
    obtain ⟨a',c',rfl,_,_⟩:=z5H hown
    have:=hh a' c' w (by simpa [z00] using hown) (z2D _ _)
    simpa using this
  | some ad=>
    have hcells:∀ j u,(z00 l)[j]?=some u→w.cell? (ad.add j)=some u:=by
      intro j u hu
      have hj:j<l.length:=by
        have:=(List.getElem?_eq_some_iff.1 hu).1
        simpa [z00] using this
      have hl:=hL.1
      obtain ⟨g,o',e,_,hc'⟩:=hL.2.1 (by omega)
      cases e
      rw [z19,hc' j (by omega),← hu,z0u l j hj]
    refine wpList_append_own w hgd s x 22 ho base 35 i _ 32 32 Tryz.underlying22 hi hz hs1 hby rfl (by decide) v n xs hs hown ad m c (z00 l) hx (by rw [z00,List.length_map,hL.1];omega) hcells (z0O l) (by simp only [maxLen];omega) (by omega) hbase ?_
    intro v' w' h1 h2 _
    obtain ⟨a',c',rfl,_,_⟩:=z5H h1
    exact hh a' c' w' h1 h2
def MRK:List Int:=171 :: List.replicate 31 0
theorem zf2:(z00 MRK).toArray=#[.int .u8 171,.int .u8 0,.int .u8 0,.int .u8 0,.int .u8 0,.int .u8 0,.int .u8 0,.int .u8 0,.int .u8 0,.int .u8 0,.int .u8 0,.int .u8 0,.int .u8 0,.int .u8 0,.int .u8 0,.int .u8 0,.int .u8 0,.int .u8 0,.int .u8 0,.int .u8 0,.int .u8 0,.int .u8 0,.int .u8 0,.int .u8 0,.int .u8 0,.int .u8 0,.int .u8 0,.int .u8 0,.int .u8 0,.int .u8 0,.int .u8 0,.int .u8 0]:=rfl
theorem z8R {w:World} {base g n cap:Nat} {l m:List Int} (h:w.ownsRow base 35 32 (.slice (some ⟨g,0,none⟩) (n+1) cap) (n+1) (z00 l ++ z00 m)) (hl:l.length=32*n) (hm:m.length=32):w.ownsRow base 35 32 (.slice (some ⟨g,0,none⟩) n cap) n (z00 l)∧n+1≤cap∧w.rangeAt g (n*32) (z00 m)∧g<w.heap.size:=by
  have hr:w.rangeAt g (n*32) (z00 m):=by
    intro j v hv
    have hj:j<32:=by
      have:=(List.getElem?_eq_some_iff.1 hv).1
      simpa [z00,hm] using this
    have:=h.cellAt (n*32+j) (by omega)
    rw [this,List.getElem?_append_right (by simp [z00];omega),show n*32+j - (z00 l).length=j by simp [z00];omega]
    exact hv
  rcases h.2 with ⟨e,_⟩ | ⟨g',cap',cur,e,hb,hg,h1,h2,h3,h4⟩
  · cases e
  · cases e
    refine ⟨⟨by rw [z00,List.length_map,hl,Nat.mul_comm],.inr ⟨g,cap,cur,rfl,hb,hg,by omega,h2,h3,?_⟩⟩,h1,hr,(Array.getElem?_eq_some_iff.1 hg).1⟩
    have h5:=congrArg (List.take (n*32)) h4
    rw [List.take_take,show min (n*32) ((n+1)*32)=n*32 by omega] at h5
    rw [h5,List.take_left' (by rw [z00,List.length_map,hl,Nat.mul_comm])]
def zgj (w:World) (n:Nat) (l:List Int) (e:Ending) (w':World):Prop:=
  ∃ g cap,e=.returned (.slice (some ⟨g,0,none⟩) n cap)∧w'.ownsRow w.heap.size 35 32 (.slice (some ⟨g,0,none⟩) n cap) n (z00 l)∧n+1≤cap∧w'.rangeAt g (n*32) (z00 MRK)∧g<w'.heap.size∧Below w.heap.size w w'
theorem z8S (w:World):(w.alloc (.cells #[] 35)).ownsRow w.heap.size 35 32 (.slice (some ⟨w.heap.size,0,none⟩) 0 0) 0 []:=
  World.ownsRow_lit w #[] 0 (Nat.le_refl _) (by simp [maxLen]) rfl
end Go.Proofs.YtjkjlblongeljaaGreatDoor

namespace Go.Proofs.YtjkjlblongeljaaGreatDoor
open Go.RowKit
set_option maxRecDepth 100000
theorem z1u {w w':World} {g o:Nat} {cs:List Value} (h:w.rangeAt g o cs) (hb:Below w.heap.size w w') (hg:g<w.heap.size):w'.rangeAt g o cs:=fun j v hv=>(hb.cell (p:=⟨g,o+j,none⟩) hg).trans (h j v hv)
theorem Flat.other {w:World} {b o n:Nat} {l:List Int} (h:Flat w (some ⟨b,o,none⟩) n l) {a:Addr} (ha:b≠a.block) (u:Value):Flat (w.setCell a u) (some ⟨b,o,none⟩) n l:=
  ⟨h.1,fun hn=>by
    obtain ⟨b',o',e,hl,hc⟩:=h.2.1 hn
    cases e
    exact ⟨b,o,rfl,Nat.lt_of_lt_of_le hl (KeepsWalks.setCell w a u).size,fun j hj=>(World.cell?_setCell_other w _ _ u (fun e=>ha (congrArg Addr.block e).symm)).trans (hc j hj)⟩,h.2.2⟩
theorem z21 {w:World} {B n:Nat} {a:Option Addr} {c:Nat} {l:List Int} (h:w.ownsRow B 35 32 (.slice a n c) n (z00 l)) (hr:∀ x∈l,0≤x∧x≤255):Flat w a n l:=by
  have hl:l.length=32*n:=by have:=h.1;simpa [z00,Nat.mul_comm] using this
  refine ⟨hl,fun hn=>?_,hr⟩
  rcases h.2 with ⟨e,h0⟩ | ⟨g,cap,cur,e,_,hg,_⟩
  · omega
  · cases e
    refine ⟨g,0,rfl,(Array.getElem?_eq_some_iff.1 hg).1,fun j hj=>?_⟩
    have:=h.cellAt j (by omega)
    rw [Nat.zero_add,this,z0u l j (by omega)]
theorem Bytes.take {w:World} {a:Option Addr} {n:Nat} {l:List Int} (h:Bytes w a n l) {m:Nat} (hm:m≤n):Bytes w a m (l.take m):=by
  refine ⟨by rw [List.length_take,h.1];omega,fun h0=>?_,fun x hx=>h.2.2 x (List.mem_of_mem_take hx)⟩
  obtain ⟨b,o,e,hb,hc⟩:=h.2.1 (by omega)
  refine ⟨b,o,e,hb,fun i hi=>?_⟩
  rw [hc i (by omega),List.getD_eq_getElem?_getD,List.getD_eq_getElem?_getD,List.getElem?_take,if_pos hi]
end Go.Proofs.YtjkjlblongeljaaGreatDoor

namespace Go.Proofs.YtjkjlblongeljaaGreatDoor
open Go.RowKit
set_option maxRecDepth 100000
theorem z5I (a:Option Addr) (n c:Nat) (w:World):(binOp .eql 23 (.slice a n c) (.slice none 0 0)).run Tryz.prog w=.ok (.bool a.isNone) w:=by
  simp [binOp,run_equal_slice_nil w 23 24 a n c Tryz.underlying23]
def zfV (w:World) (n:Nat) (L:List Nat) (e:Ending) (w':World):Prop:=
  ∃ a c,e=.returned (.slice a n c)∧w'.ownsRow w.heap.size 24 1 (.slice a n c) n (UCELLS L)∧Below w.heap.size w w'
set_option maxHeartbeats 1000000 in
theorem z7W (a:Option Addr) (n c:Nat) (hn:n<2 ^ 20) (hc:a=none→c=0) (L:List Nat) (hl:L.length=n) (w:World) (hL:NUML w a L):Calls Tryz.prog 41 #[.slice a n c] w (zfV w n L):=by
  cases a with
  | none=>
    obtain rfl:n=0:=by
      rcases Nat.eq_zero_or_pos n with h | h
      · exact h
      · obtain ⟨b,o,e,_⟩:=hL (by omega)
        cases e
    obtain rfl:=List.eq_nil_of_length_eq_zero hl
    obtain rfl:=hc rfl
    clear hL hc hn hl
    have hnil:=z5I none 0 0
    go_enter Tryz.func41,Tryz.ntmps41
    go_wp2
    go_ret
    exact ⟨none,0,rfl,World.ownsRow_nil _ _ _ _,Below.refl _ _⟩
  | some ad=>
    have HA:Aside (n<2 ^ 20∧NUML w (some ad) L∧L.length=n):=⟨hn,hL,hl⟩
    clear hn hL hc hl
    have hnil:=z5I (some ad) n c
    go_enter Tryz.func41,Tryz.ntmps41
    go_wp2_with (at_builtin;refine z7U _ rfl (.tmp 5) (.tmp 6) rfl w.heap.size (.slice (some ⟨w.heap.size,0,none⟩) 0 0) 0 [] rfl (z4X w) (some ad) n c L rfl (HA.out.2.1.keep ((Below.refl _ _).alloc (Nat.le_refl _) _)) HA.out.2.2 (fun h=>by cases h) (by have:=HA.out.1;omega) (by simp) ?_;rw [Nat.zero_add,List.nil_append];intro a1 c1 w1 hown1 hgrow1;have R1:Aside (w1.ownsRow w.heap.size 24 1 (.slice a1 n c1) n (UCELLS L)∧Below w.heap.size w w1):=⟨hown1,((Below.refl _ w).alloc (Nat.le_refl _) _).grown hgrow1 (by simp) (fun k e=>by cases e;exact Nat.le_refl _)⟩;clear hown1 hgrow1)
    go_ret
    exact ⟨_,_,rfl,R1.out.1,R1.out.2⟩
def GCAT (G:Nat→List Int) (P:List Nat):List Int:=P.flatMap G
theorem zc4 {G:Nat→List Int} {P:List Nat} {i p:Nat} (e:P[i]?=some p):GCAT G (P.take (i+1))=GCAT G (P.take i) ++ G p:=by
  unfold GCAT
  rw [List.take_add_one,e,List.flatMap_append]
  simp
def z7d (w:World) (G:Nat→List Int) (EN:Nat→Int) (E:Int) (P:List Nat) (N:Nat) (L:List Nat) (e:Ending) (w':World):Prop:=
  Below w.heap.size w w'∧
  ((E≠0∧e=.returned (.tuple #[.agg #[.int .u64 0,.slice none 0 0,.slice none 0 0],.int .i64 E]))∨
   (E=0∧(∀ p∈P,EN p=0)∧∃ a c a2 c2,e=.returned (.tuple #[.agg #[.int .u64 (N:Int),.slice a L.length c,.slice a2 P.length c2],.int .i64 0])∧w'.ownsRow w.heap.size 24 1 (.slice a L.length c) L.length (UCELLS L)∧w'.ownsRow w.heap.size 35 32 (.slice a2 P.length c2) P.length (z00 (GCAT G P)))∨
   (E=0∧∃ (j p:Nat),P[j]?=some p∧(∀ (i q:Nat),i<j→P[i]?=some q→EN q=0)∧EN p≠0∧e=.returned (.tuple #[.agg #[.int .u64 0,.slice none 0 0,.slice none 0 0],.int .i64 (EN p)])))
theorem z34 {fn:Func} {p q:Tmp} {ty:TypeId} (h:fn.results=#[.cell p ty,.tmp q]) (tmps:Array Value) (w:World) (g:Nat) (v v2:Value)
    (hp:tmps.getD p undef=.pointer (some ⟨g,0,none⟩)) (hq:tmps.getD q undef=v2) (h1:(loadVar ty ⟨g,0,none⟩).run Tryz.prog w=.ok v w):
    (results fn tmps).run Tryz.prog w=.ok (.tuple #[v,v2]) w:=by
  have hp':tmps[p]?.getD undef=.pointer (some ⟨g,0,none⟩):=by simpa using hp
  have hq':tmps[q]?.getD undef=v2:=by simpa using hq
  simp [results,h,hp',hq',asAddr,h1]
set_option maxHeartbeats 8000000 in
theorem z4o (L:List Nat) (N g:Nat) (G:Nat→List Int) (EN:Nat→Int) (a:Option Addr) (n c:Nat) (w:World) (E:Int) (P:List Nat) (hE:E≠0)
    (cp:∀ W,Below w.heap.size w W→Calls Tryz.prog 40 #[.slice a n c,.int .u64 (N:Int)] W (ANSN W E P)):
    Calls Tryz.prog 14 #[.iface 25 (.pointer (some ⟨g,0,none⟩)),.slice a n c,.int .u64 (N:Int)] w (z7d w G EN E P N L):=by
  obtain ⟨w1,e1⟩:∃ w1,w.alloc (.cells #[.int .u64 0,.slice none 0 0,.slice none 0 0] 46)=w1:=⟨_,rfl⟩
  obtain ⟨b6,hb6⟩:∃ b,w.heap.size=b:=⟨_,rfl⟩
  have hb1:Below w.heap.size w w1:=by rw [← e1];exact (Below.refl _ _).alloc (Nat.le_refl _) _
  have h61:Has w1 b6 #[.int .u64 0,.slice none 0 0,.slice none 0 0] 46:=by rw [← e1,← hb6];exact Has.new _ _ _
  have cc:=cp w1 hb1
  have HW:Aside (Below w.heap.size w w1∧Has w1 b6 #[.int .u64 0,.slice none 0 0,.slice none 0 0] 46∧w.heap.size=b6∧E≠0):=⟨hb1,h61,hb6,hE⟩
  have hne:(E == 0)=false:=beq_eq_false_iff_ne.2 hE
  clear cp hb1 h61 hE
  go_enter Tryz.func14,Tryz.ntmps14
  go_upto_region 1 with fail
  clear e1 hb6
  go_wp2_with fail
  refine cc.mono ?_
  rintro e w2 ⟨ap,kp,rfl,_,hb2⟩
  clear cc
  have h62:=HW.out.2.1.keep hb2
  have FB:Aside (Below w.heap.size w (w2.setRow b6 #[.int .u64 0,.slice none 0 0,.slice none 0 0])):=z06 (HW.out.1.trans (hb2.mono HW.out.1.size)) (by have:=HW.out.2.2.1;omega) _
  clear hb2
  go_wp2_with (refine wpList_store_row rfl 46 (.tmp 6) (.tmp 23) rfl _ _ rfl rfl 46 _ h62 (by kernel_rfl) rfl (by simp [Value.oneCell']) ?_)
  exact bodyPost_ret (v:=.tuple #[.agg #[.int .u64 0,.slice none 0 0,.slice none 0 0],.int .i64 E]) (z34 rfl _ _ b6 _ _ rfl rfl (run_loadVar_row _ b6 46 46 _ (0,0) _ (h62.row _) Tryz.underlying46 rfl (by kernel_rfl))) rfl ⟨FB.out,.inl ⟨HW.out.2.2.2,rfl⟩⟩
structure MKJ (B1:Nat) (w3 wx:World) (G:Nat→List Int) (P L:List Nat) (N b6 b10 i n:Nat) (a1:Option Addr) (c1:Nat) (v:Value):Prop where
  res:Has wx b6 #[.int .u64 0,.slice none 0 0,.slice none 0 0] 46
  made:Has wx b10 #[.int .u64 (N:Int),.slice a1 n c1,v] 46
  index:wx.ownsRow B1 24 1 (.slice a1 n c1) n (UCELLS L)
  nodes:wx.ownsRow w3.heap.size 35 32 v i (z00 (GCAT G (P.take i)))
  but:BUT b10 w3 wx
set_option maxHeartbeats 16000000 in
theorem z8T (L:List Nat) (N g:Nat) (G:Nat→List Int) (EN:Nat→Int) (hG:∀ p,(G p).length=32) (a:Option Addr) (n c:Nat) (w:World) (E:Int) (P:List Nat) (hl:L.length=n) (hn:n<2 ^ 20) (hc:a=none→c=0) (hL:NUML w a L) (hP:P.length≤1000) (hN:zaO w g G EN P)
    (cp:∀ W,Below w.heap.size w W→Calls Tryz.prog 40 #[.slice a n c,.int .u64 (N:Int)] W (ANSN W E P)):
    Calls Tryz.prog 14 #[.iface 25 (.pointer (some ⟨g,0,none⟩)),.slice a n c,.int .u64 (N:Int)] w (z7d w G EN E P N L):=by
  by_cases hE:E=0
  case neg=>exact z4o L N g G EN a n c w E P hE cp
  subst hE
  obtain ⟨w1,e1⟩:∃ w1,w.alloc (.cells #[.int .u64 0,.slice none 0 0,.slice none 0 0] 46)=w1:=⟨_,rfl⟩
  obtain ⟨b6,hb6⟩:∃ b,w.heap.size=b:=⟨_,rfl⟩
  have hb1:Below w.heap.size w w1:=by rw [← e1];exact (Below.refl _ _).alloc (Nat.le_refl _) _
  have h61:Has w1 b6 #[.int .u64 0,.slice none 0 0,.slice none 0 0] 46:=by rw [← e1,← hb6];exact Has.new _ _ _
  have cc:=cp w1 hb1
  have HA:Aside (L.length=n∧n<2 ^ 20∧(a=none→c=0)∧NUML w a L∧P.length≤1000∧zaO w g G EN P∧∀ p,(G p).length=32):=⟨hl,hn,hc,hL,hP,hN,hG⟩
  have HW:Aside (Below w.heap.size w w1∧Has w1 b6 #[.int .u64 0,.slice none 0 0,.slice none 0 0] 46∧w.heap.size=b6):=⟨hb1,h61,hb6⟩
  clear cp hb1 h61 hl hn hc hL hP hN hG
  go_enter Tryz.func14,Tryz.ntmps14
  go_upto_region 1 with fail
  clear e1 hb6
  go_wp2_with fail
  refine cc.mono ?_
  rintro e w2 ⟨ap,kp,rfl,op,hb2⟩
  clear cc
  have hb12:Below w.heap.size w w2:=HW.out.1.trans (hb2.mono HW.out.1.size)
  have ck:=z7W a n c HA.out.2.1 HA.out.2.2.1 L HA.out.1 w2 (HA.out.2.2.2.1.keep hb12)
  have W2:Aside (Below w.heap.size w w2∧Has w2 b6 #[.int .u64 0,.slice none 0 0,.slice none 0 0] 46∧w2.ownsRow w1.heap.size 24 1 (.slice ap P.length kp) P.length (UCELLS P)∧w.heap.size=b6∧b6<w1.heap.size):=⟨hb12,HW.out.2.1.keep hb2,op,HW.out.2.2,HW.out.2.1.lt⟩
  have H12:Aside (w1.heap.size≤w2.heap.size∧b6<w1.heap.size∧w.heap.size≤w1.heap.size):=⟨hb2.size,HW.out.2.1.lt,HW.out.1.size⟩
  clear hb12 hb2 op HW
  go_wp2_with fail
  refine ck.mono ?_
  rintro e w3 ⟨a1,c1,rfl,o1,hb3⟩
  clear ck
  obtain ⟨np,hnp⟩:∃ np,P.length=np:=⟨_,rfl⟩
  have HP:Aside (P.length=np):=hnp
  go_upto_region 5 with fail
  obtain ⟨w4,e4⟩:∃ w4,w3.alloc (.cells #[.int .u64 (N:Int),.slice a1 n c1,.slice none 0 0] 46)=w4:=⟨_,rfl⟩
  have hb4:Below w3.heap.size w3 w4:=by rw [← e4];exact (Below.refl _ _).alloc (Nat.le_refl _) _
  have h10:Has w4 w3.heap.size #[.int .u64 (N:Int),.slice a1 n c1,.slice none 0 0] 46:=by rw [← e4];exact Has.new _ _ _
  rw [e4]
  have hb24:Below w2.heap.size w2 w4:=hb3.trans (hb4.mono hb3.size)
  have W4:Aside (Below w.heap.size w w4∧w4.ownsRow w1.heap.size 24 1 (.slice ap P.length kp) P.length (UCELLS P)∧w.heap.size=b6∧b6<w3.heap.size∧w3.heap.size<w4.heap.size∧(∀ k,(Value.slice ap P.length kp).ownBlock=some k→k<w3.heap.size)∧(∀ k,(Value.slice a1 n c1).ownBlock=some k→k<w3.heap.size)):=
    ⟨W2.out.1.trans (hb24.mono W2.out.1.size),z0D W2.out.2.2.1 fun k e=>hb24.block k (W2.out.2.2.1.lt k e).2,W2.out.2.2.2.1,Nat.lt_of_lt_of_le W2.out.2.1.lt hb3.size,h10.lt,fun k e=>Nat.lt_of_lt_of_le (W2.out.2.2.1.lt k e).2 hb3.size,fun k e=>(o1.lt k e).2⟩
  have S0:Aside (MKJ w1.heap.size w4 w4 G P L N b6 w3.heap.size 0 n a1 c1 (.slice none 0 0)):=
    ⟨(W2.out.2.1.keep hb3).keep hb4,h10,z0i (z0D o1 fun k e=>hb4.block k (o1.lt k e).2) H12.out.1,⟨rfl,.inl ⟨rfl,rfl⟩⟩,BUT.refl _ _⟩
  generalize w3.heap.size=b10 at *
  clear e4 hb4 h10 hb24 hb3 o1 W2
  go_wp2_with fail
  go_loopg [31] np (fun q s31 wx=>∃ (i:Nat) (va:Option Addr) (vc:Nat),s31=.int .i64 (i:Int)∧Aside (i+q=np∧MKJ w1.heap.size w4 wx G P L N b6 b10 i n a1 c1 (.slice va i vc)∧∀ (j p:Nat),j<i→P[j]?=some p→EN p=0))
  case atStart=>exact ⟨0,none,0,rfl,by omega,S0.out,fun j p hj=>by omega⟩
  case round=>
    obtain ⟨i,va,vc,rfl,A⟩:=hrel
    clear S0
    cases gk with
    | zero=>
      obtain rfl:i=np:=by have:=A.out.1;omega
      have hlt:¬ (i:Int)<(i:Int):=by omega
      have hmk:=A.out.2.1.made
      have hres:=A.out.2.1.res
      have x0:=hmk.cell 0
      have x1:=hmk.cell 1
      have x2:=hmk.cell 2
      have FN:Aside (z7d w G EN 0 P N L (.returned (.tuple #[.agg #[.int .u64 (N:Int),.slice a1 n c1,.slice va i vc],.int .i64 0])) (wr.setRow b6 #[.int .u64 (N:Int),.slice a1 n c1,.slice va i vc])):=by
        have h:=A.out.2.1
        have hp:=HP.out
        have hw:=W4.out
        have hbw:Below w.heap.size w wr:=hw.1.trans (h.but.2.mono (by omega))
        refine ⟨z06 hbw (by omega) _,.inr (.inl ⟨rfl,fun p hpm=>?_,a1,c1,va,vc,by rw [HA.out.1,hp],?_,?_⟩)⟩
        · obtain ⟨j,hj⟩:=List.getElem?_of_mem hpm
          exact A.out.2.2 j p (by have:=(List.getElem?_eq_some_iff.1 hj).1;omega) hj
        · rw [HA.out.1]
          exact z0i (z0D h.index fun k e=>setRow_other wr b6 k _ (by have:=(h.index.lt k e).1;have:=H12.out;omega)) H12.out.2.2
        · have:=h.nodes
          rw [List.take_of_length_le (by omega)] at this
          rw [hp]
          exact z0i (z0D this fun k e=>setRow_other wr b6 k _ (by have:=(this.lt k e).1;omega)) hw.1.size
      clear A HA W4 HP hnp
      go_wp2_with (first
        | (refine wpList_store_row rfl 46 (.tmp 6) (.tmp 52) rfl _ _ rfl rfl 46 _ hres (by kernel_rfl) rfl (by simp [Value.oneCell']) ?_))
      exact bodyPost_ret (v:=.tuple #[.agg #[.int .u64 (N:Int),.slice a1 n c1,.slice va i vc],.int .i64 0]) (z34 rfl _ _ b6 _ _ rfl rfl (run_loadVar_row _ b6 46 46 _ (0,0) _ (hres.row _) Tryz.underlying46 rfl (by kernel_rfl))) rfl FN.out
    | succ q=>
      have hip:i<P.length:=by have:=A.out.1;have:=HP.out;omega
      have hlt:(i:Int)<(np:Int):=by have:=A.out.1;omega
      have ei:wrap64 ((i:Int)+1)=((i+1:Nat):Int):=by have:=HA.out.2.2.2.2.1;unfold wrap64;omega
      obtain ⟨p,ep⟩:∃ p,P[i]?=some p:=⟨_,List.getElem?_eq_getElem hip⟩
      obtain ⟨gp,rfl⟩:∃ gp,ap=some ⟨gp,0,none⟩:=by
        rcases W4.out.2.1.2 with ⟨e,h0⟩ | ⟨g',cap,cur,e,_⟩
        · clear ei;omega
        · cases e;exact ⟨_,rfl⟩
      have hgp:gp<b10:=W4.out.2.2.2.2.2.1 gp rfl
      have hcell:wr.cell? ⟨gp,i,none⟩=some (.int .u64 (p:Int)):=by
        have h1:=W4.out.2.1.cellAt i (by clear ei;omega)
        refine (World.cell?_of_block (w:=w4) (by exact A.out.2.1.but.1 gp (by have:=W4.out;clear ei;omega) (by clear ei;omega))).trans (h1.trans ?_)
        rw [UCELLS,List.getElem?_map,ep]
        rfl
      have hbw:Below w.heap.size w wr:=W4.out.1.trans (A.out.2.1.but.2.mono (by have:=W4.out;clear ei;omega))
      have cn:=HA.out.2.2.2.2.2.1 wr hbw p (List.mem_of_getElem? ep)
      have y32:=HA.out.2.2.2.2.2.2 p
      have HI:Aside (P[i]?=some p∧GCAT G (P.take (i+1))=GCAT G (P.take i) ++ G p∧Below w.heap.size w wr∧gp<b10):=⟨ep,zc4 ep,hbw,hgp⟩
      clear hip ep hgp hbw
      generalize G p=Y at *
      go_wp2_with fail
      refine cn.mono ?_
      rintro e w5 ⟨rfl,hb5⟩
      clear cn hcell
      go_upto_region 9 with (refine wpList_store_row rfl 35 (.tmp 13) (.tmp 39) rfl _ _ rfl rfl 35 _ (Has.new w5 _ _) (z0d y32) (by simp [z00,y32]) (z0m Y) ?_;rw [World.setRow_alloc_new])
      obtain ⟨w6,e6⟩:∃ w6,w5.alloc (.cells (z00 Y).toArray 35)=w6:=⟨_,rfl⟩
      have hb56:Below w5.heap.size w5 w6:=by rw [← e6];exact (Below.refl _ _).alloc (Nat.le_refl _) _
      have h13:Has w6 w5.heap.size (z00 Y).toArray 35:=by rw [← e6];exact Has.new _ _ _
      rw [e6]
      have hbr:Below wr.heap.size wr w6:=hb5.trans (hb56.mono hb5.size)
      have J6:Aside (MKJ w1.heap.size w4 w6 G P L N b6 b10 i n a1 c1 (.slice va i vc)∧Below w.heap.size w w6∧wr.heap.size≤w5.heap.size):=by
        have h:=A.out.2.1
        refine ⟨⟨h.res.keep hbr,h.made.keep hbr,z0D h.index fun k e=>hbr.block k (h.index.lt k e).2,z0D h.nodes fun k e=>hbr.block k (h.nodes.lt k e).2,h.but.trans (BUT.of_below hbr (Nat.le_of_lt h.made.lt))⟩,HI.out.2.2.1.trans (hbr.mono HI.out.2.2.1.size),hb5.size⟩
      have AQ:Aside (i+q+1=np∧∀ (j p:Nat),j<i→P[j]?=some p→EN p=0):=⟨by have:=A.out.1;clear ei;omega,A.out.2.2⟩
      have AS:Aside (w4.heap.size≤wr.heap.size):=A.out.2.1.but.2.size
      generalize w5.heap.size=b13 at *
      clear e6 hb56 hbr hb5 A
      by_cases hEN:EN p=0
      case neg=>
        have hres:=J6.out.1.res
        have hne:(EN p == 0)=false:=beq_eq_false_iff_ne.2 hEN
        have FN:Aside (z7d w G EN 0 P N L (.returned (.tuple #[.agg #[.int .u64 0,.slice none 0 0,.slice none 0 0],.int .i64 (EN p)])) (w6.setRow b6 #[.int .u64 0,.slice none 0 0,.slice none 0 0])):=⟨z06 J6.out.2.1 (by have:=W4.out.2.2.1;clear ei;omega) _,.inr (.inr ⟨rfl,i,p,HI.out.1,AQ.out.2,hEN,rfl⟩)⟩
        clear J6 AQ HI HA W4 HP hnp hEN AS H12
        generalize EN p=EE at *
        go_wp2_with (refine wpList_store_row rfl 46 (.tmp 6) (.tmp 43) rfl _ _ rfl rfl 46 _ hres (by kernel_rfl) rfl (by simp [Value.oneCell']) ?_)
        exact bodyPost_ret (v:=.tuple #[.agg #[.int .u64 0,.slice none 0 0,.slice none 0 0],.int .i64 EE]) (z34 rfl _ _ b6 _ _ rfl rfl (run_loadVar_row _ b6 46 46 _ (0,0) _ (hres.row _) Tryz.underlying46 rfl (by kernel_rfl))) rfl FN.out
      have hmk:=J6.out.1.made
      have x2:=hmk.cell 2
      have BB:Aside (∀ (w7:World),(w6.alloc (.cells (z00 Y).toArray 35)).grownBy w7 (Value.slice va i vc).ownBlock→∀ q,q<w6.heap.size→(Value.slice va i vc).ownBlock≠some q→w7.heap[q]?=w6.heap[q]?):=fun w7 hgr q hq hne=>(hgr.block q (by simp;clear ei;omega) fun e=>hne e.symm).trans (Below.heap_alloc w6 _ q hq)
      have NB:Aside (∀ q,q<w4.heap.size→(Value.slice va i vc).ownBlock≠some q):=fun q hq e=>by have:=(J6.out.1.nodes.lt q e).1;clear ei;omega
      go_wp2_with (first
        | (refine wpList_load_row rfl 35 (.tmp 13) rfl b13 rfl 35 (z00 Y).toArray (0,0) _ h13 Tryz.underlying35 rfl (z0d y32) ?_)
        | (refine z1n _ rfl 22 35 (.tmp 47) rfl (z00 Y).toArray rfl 32 _ _ Tryz.underlying22 z0K (by simp [z00,y32]) rfl (by decide) (by decide) ?_)
        | (at_builtin;refine z2Z _ rfl (.tmp 46) (.tmp 48) rfl w4.heap.size (.slice va i vc) i _ rfl (J6.out.1.nodes.alloc _) _ 1 Y y32 rfl (Has.new _ _ _) (by have:=HA.out.2.2.2.2.1;have:=HP.out;have:=AQ.out.1;clear ei;omega) (by have:=J6.out.1.but.2.size;simp;clear ei;omega) ?_;intro g7 c7 w7 hown hgrow hat hg7
           have k10:Has w7 b10 #[.int .u64 (N:Int),.slice a1 n c1,.slice va i vc] 46:=(BB.out w7 hgrow b10 hmk.lt (NB.out b10 W4.out.2.2.2.2.1)).trans hmk
           have z2:=k10.cell 2
           have fz:=k10.frozen 2))
      have Z:Aside (i+1+q=np∧MKJ w1.heap.size w4 (w7.setCell ⟨b10,2,none⟩ (.slice (some ⟨g7,0,none⟩) (i+1) c7)) G P L N b6 b10 (i+1) n a1 c1 (.slice (some ⟨g7,0,none⟩) (i+1) c7)∧∀ (j p:Nat),j<i+1→P[j]?=some p→EN p=0):=by
        have h:=J6.out.1
        have hw:=W4.out
        have hs:=h.but.2.size
        have hne10:∀ k,k<w4.heap.size→(Value.slice va i vc).ownBlock≠some k:=NB.out
        have hg4:w4.heap.size≤g7:=(hown.lt g7 rfl).1
        refine ⟨by have:=AQ.out.1;clear ei;omega,⟨?_,k10.set 2 _,?_,?_,⟨fun q hq hne=>?_,?_⟩⟩,fun j p' hj hp'=>?_⟩
        · exact Has.other ((BB.out w7 hgrow b6 h.res.lt (hne10 b6 (by clear ei;omega))).trans h.res) (by show b6≠b10;clear ei;omega) _
        · refine z0D h.index fun k e=>?_
          have h1:=hw.2.2.2.2.2.2 k e
          rw [Below.heap_setCell _ _ _ _ (by show k≠b10;clear ei;omega)]
          exact BB.out w7 hgrow k (h.index.lt k e).2 (hne10 k (by clear ei;omega))
        · rw [HI.out.2.1,z0N]
          exact ownsRow_setCell_below hown (a:=⟨b10,2,none⟩) (by show b10<w4.heap.size;clear ei;omega) _
        · rw [Below.heap_setCell _ _ _ _ (by exact hne),BB.out w7 hgrow q (by clear ei;omega) (hne10 q hq)]
          exact h.but.1 q hq hne
        · refine Below.setCell ?_ (p:=⟨b10,2,none⟩) (Nat.le_refl _) _
          refine (h.but.2.alloc (by clear ei;omega) _).grown hgrow (by simp;clear ei;omega) (fun k e=>?_)
          have:=(h.nodes.lt k e).1
          clear ei
          omega
        · rcases Nat.lt_or_ge j i with hj' | hj'
          · exact AQ.out.2 j p' hj' hp'
          · obtain rfl:j=i:=by clear ei;omega
            rw [HI.out.1] at hp'
            cases hp'
            exact hEN
      clear hown hgrow hat hg7 J6 AQ HI BB NB z2 fz k10 hmk x2 h13
      generalize w7.setCell ⟨b10,2,none⟩ (.slice (some ⟨g7,0,none⟩) (i+1) c7)=w8 at *
      go_wp2
      go_roundg q
      case measure=>exact Nat.lt_succ_self _
      case rel=>exact ⟨i+1,some ⟨g7,0,none⟩,c7,by first | rfl | (rw [ei]),Z.out⟩
end Go.Proofs.YtjkjlblongeljaaGreatDoor

namespace Go.Proofs.YtjkjlblongeljaaGreatDoor
open Go.RowKit
set_option maxRecDepth 100000
def TMADE (w:World) (G:Nat→List Int) (EN:Nat→Int) (D:Int × List Nat) (X Y:Nat) (e:Ending) (w':World):Prop:=
  Below w.heap.size w w'∧
  ((D.1≠0∧e=.returned (.tuple #[.agg #[.int .u64 0,.int .u64 0,.slice none 0 0],.int .i64 D.1]))∨
   (D.1=0∧(∀ p∈D.2,EN p=0)∧∃ u,e=.returned (.tuple #[.agg #[.int .u64 (X:Int),.int .u64 (Y:Int),u],.int .i64 0])∧w'.ownsRow w.heap.size 35 32 u D.2.length (z00 (TFL G D.2 D.2.length)))∨
   (D.1=0∧∃ j,j<D.2.length∧(∀ i,i<j→EN (D.2.getD i 0)=0)∧EN (D.2.getD j 0)≠0∧e=.returned (.tuple #[.agg #[.int .u64 0,.int .u64 0,.slice none 0 0],.int .i64 (EN (D.2.getD j 0))])))
end Go.Proofs.YtjkjlblongeljaaGreatDoor

namespace Go.Proofs.YtjkjlblongeljaaGreatDoor
open Go.RowKit
set_option maxRecDepth 100000
end Go.Proofs.YtjkjlblongeljaaGreatDoor
