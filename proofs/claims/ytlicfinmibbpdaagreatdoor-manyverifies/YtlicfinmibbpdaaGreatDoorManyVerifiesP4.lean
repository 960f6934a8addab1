/- Texts of ManyVerifies, one behind the other: PosPath, PosSpotRow, PosHas, PosForestMap, NumSlice, NumByteCalls, NumAppend, NumShortCalls, CutPlain. -/
import Derived.Deep.AppendLies
import Derived.Test.YtlicfinmibbpdaaGreatDoorProg
import Derived.WalkKit
import Derived.WalkLawsBesides
import Derived.Deep.WholeRow
import Derived.Deep.LoopGhost
import Derived.Laws.ResultCell
import Derived.Laws.Rows
import Derived.Laws.Tables
import Derived.Maps.OwnSet
import Derived.DeepKeys4
import Derived.Deep.OwnRows
import Derived.Deep.QuietTactic
import Derived.BigQuiet
import Derived.Laws.AppendOwnNone
import Derived.Test.YtlicfinmibbpdaaGreatDoorManyVerifiesP3
namespace Go.Proofs.YtlicfinmibbpdaaGreatDoor
open Go.RowKit
theorem z9d {ops:Array Oper} {rest:List Oper} {o:Oper} {a:Act} {Q:Exit→Act→World→Prop} (w:World) (hgd:o.guard=none) (s x:Operand)
    (ho:o.op=.call {callee:=.builtin .append,args:=#[s,x],argTypes:=#[24,24]})
    (base:Nat) (v:Value) (n:Nat) (xs:List Nat) (hs:a.eval s=v) (hown:w.ownsRow base 23 1 v n (z02 xs))
    (b c:Nat) (y:Nat) (hx:a.eval x=.slice (some ⟨b,0,none⟩) 1 c) (hc:w.cell? ⟨b,0,none⟩=some (.int .u64 (y:Int)))
    (hb:n≤1000) (hbase:base≤w.heap.size)
    (h:∀ g cap w',w'.ownsRow base 23 1 (.slice (some ⟨g,0,none⟩) (n+1) cap) (n+1) (z02 (xs ++ [y]))→w.grownBy w' v.ownBlock→g<w'.heap.size→wpList Tryz.prog ops Q rest (a.put o.dst (.slice (some ⟨g,0,none⟩) (n+1) cap)) w'):wpList Tryz.prog ops Q (o :: rest) a w:=by
  obtain ⟨i,hi,hz,hs1,hby⟩:=info_parts z1r
  refine wpList_append_lies w hgd s x 24 ho base 23 i (.int .u64 0) 1 8 Tryz.underlying24 hi hz hs1 hby rfl (by decide) v n (z02 xs) hs hown ⟨b,0,none⟩ 1 c [.int .u64 (y:Int)] hx rfl ?_ (fun u hu=>by simp at hu;subst hu;rfl) (by decide) (by simp only [maxLen];omega) (by omega) hbase w.heap.size rfl ?_
  · intro j u hj
    cases j with
    | zero=>
      simp only [List.getElem?_cons_zero,Option.some.injEq] at hj
      subst hj
      exact hc
    | succ j=>simp at hj
  · intro g cap w' h1 h2 _ h4
    rw [← z1y] at h1
    exact h g cap w' h1 h2 h4
end Go.Proofs.YtlicfinmibbpdaaGreatDoor

namespace Go.Proofs.YtlicfinmibbpdaaGreatDoor
open Go.RowKit
def z0c (l:List (Nat × Nat)):List Value:=l.flatMap fun x=>[Value.int .u8 (x.1:Int),Value.int .u64 (x.2:Int)]
theorem z8e (l:List (Nat × Nat)) (h k:Nat):z0c (l ++ [(h,k)])=z0c l ++ [Value.int .u8 (h:Int),Value.int .u64 (k:Int)]:=by simp [z0c]
theorem z42:∀ (l:List (Nat × Nat)) (j h k:Nat),l[j]?=some (h,k)→(z0c l)[j*2]?=some (.int .u8 (h:Int))∧(z0c l)[j*2+1]?=some (.int .u64 (k:Int))
  | [],j,h,k,e=>by simp at e
  | x :: l,0,h,k,e=>by
    simp at e
    subst e
    simp [z0c]
  | x :: l,j+1,h,k,e=>by
    have:=z42 l j h k (by simpa using e)
    have e1:(j+1)*2=j*2+1+1:=by omega
    simp only [z0c,List.flatMap_cons,List.cons_append,List.nil_append,e1,List.getElem?_cons_succ]
    exact this
theorem z6o:(Tryz.prog.info? 67).map (fun i=>(i.zero,i.size,i.bytes))=some (some (.agg #[.int .u8 0,.int .u64 0]),2,16):=by kernel_rfl
theorem zcH {ops:Array Oper} {rest:List Oper} {o:Oper} {a:Act} {Q:Exit→Act→World→Prop} (w:World) (hgd:o.guard=none) (s x:Operand)
    (ho:o.op=.call {callee:=.builtin .append,args:=#[s,x],argTypes:=#[62,62]})
    (base:Nat) (v:Value) (n:Nat) (xs:List (Nat × Nat)) (hs:a.eval s=v) (hown:w.ownsRow base 67 2 v n (z0c xs))
    (b c:Nat) (h k:Nat) (hx:a.eval x=.slice (some ⟨b,0,none⟩) 1 c) (hc0:w.cell? ⟨b,0,none⟩=some (.int .u8 (h:Int))) (hc1:w.cell? ⟨b,1,none⟩=some (.int .u64 (k:Int)))
    (hb:n≤1000) (hbase:base≤w.heap.size)
    (hh:∀ g cap w',w'.ownsRow base 67 2 (.slice (some ⟨g,0,none⟩) (n+1) cap) (n+1) (z0c (xs ++ [(h,k)]))→w.grownBy w' v.ownBlock→g<w'.heap.size→wpList Tryz.prog ops Q rest (a.put o.dst (.slice (some ⟨g,0,none⟩) (n+1) cap)) w'):wpList Tryz.prog ops Q (o :: rest) a w:=by
  obtain ⟨i,hi,hz,hs1,hby⟩:=info_parts z6o
  refine wpList_append_lies w hgd s x 62 ho base 67 i _ 2 16 Tryz.underlying62 hi hz hs1 hby rfl (by decide) v n (z0c xs) hs hown ⟨b,0,none⟩ 1 c [.int .u8 (h:Int),.int .u64 (k:Int)] hx rfl ?_ (fun u hu=>by simp at hu;rcases hu with rfl | rfl <;> rfl) (by decide) (by simp only [maxLen];omega) (by omega) hbase w.heap.size rfl ?_
  · intro j u hj
    match j,hj with
    | 0,hj=>
      simp only [List.getElem?_cons_zero,Option.some.injEq] at hj
      subst hj
      exact hc0
    | 1,hj=>
      simp only [List.getElem?_cons_succ,List.getElem?_cons_zero,Option.some.injEq] at hj
      subst hj
      exact hc1
    | j+2,hj=>simp at hj
  · intro g cap w' h1 h2 _ h4
    rw [← z8e] at h1
    exact hh g cap w' h1 h2 h4
def Spots (w:World) (a:Option Addr) (l:List (Nat × Nat)):Prop:=0<l.length→∃ g,a=some ⟨g,0,none⟩∧g<w.heap.size∧∀ (j h k:Nat),l[j]?=some (h,k)→w.cell? ⟨g,j*2,none⟩=some (.int .u8 (h:Int))∧w.cell? ⟨g,j*2+1,none⟩=some (.int .u64 (k:Int))
theorem Spots.below {w w':World} {a:Option Addr} {l:List (Nat × Nat)} (h:Spots w a l) (hb:Below w.heap.size w w'):Spots w' a l:=fun h0=>by
  obtain ⟨g,e,hg,hc⟩:=h h0
  exact ⟨g,e,Nat.lt_of_lt_of_le hg hb.size,fun j x y he=>⟨(hb.cell (p:=⟨g,j*2,none⟩) hg).trans (hc j x y he).1,(hb.cell (p:=⟨g,j*2+1,none⟩) hg).trans (hc j x y he).2⟩⟩
theorem z6p {w:World} {base n:Nat} {v:Value} {l:List (Nat × Nat)} (hl:l.length=n) (h:w.ownsRow base 67 2 v n (z0c l)):∃ a cap,v=.slice a n cap∧Spots w a l:=by
  rcases h.2 with ⟨rfl,h0⟩ | ⟨g,cap,cur,rfl,hb,hg,r⟩
  · subst h0
    exact ⟨none,0,rfl,fun h=>by omega⟩
  · refine ⟨_,cap,rfl,fun h0=>⟨g,rfl,?_,fun j x y he=>?_⟩⟩
    · exact (Array.getElem?_eq_some_iff.1 hg).1
    · have hj:j<n:=by rw [← hl];exact (List.getElem?_eq_some_iff.1 he).1
      have h1:=z42 l j x y he
      exact ⟨(h.cellAt (j*2) (by omega)).trans h1.1,(h.cellAt (j*2+1) (by omega)).trans h1.2⟩
theorem z0o {w w':World} {base:Nat} {t:TypeId} {s:Nat} {v:Value} {n:Nat} {xs:List Value} (h:w.ownsRow base t s v n xs) (hb:Below w.heap.size w w'):w'.ownsRow base t s v n xs:=by
  refine ⟨h.1,h.2.imp id ?_⟩
  rintro ⟨g,c,cur,a,b,r,rest⟩
  exact ⟨g,c,cur,a,b,(hb.block g (Array.getElem?_eq_some_iff.1 r).1).trans r,rest⟩
end Go.Proofs.YtlicfinmibbpdaaGreatDoor

namespace Go.Proofs.YtlicfinmibbpdaaGreatDoor
open Go.RowKit
def Has (w:World) (g:Nat) (c:Array Value) (t:TypeId):Prop:=w.heap[g]?=some (.cells c t)
theorem Has.cell {w:World} {g:Nat} {c:Array Value} {t:TypeId} (h:Has w g c t) (i:Nat):w.cell? ⟨g,i,none⟩=c[i]?:=cell_of_row w g i c t _ h
theorem Has.lt {w:World} {g:Nat} {c:Array Value} {t:TypeId} (h:Has w g c t):g<w.heap.size:=(Array.getElem?_eq_some_iff.1 h).1
theorem Has.frozen {w:World} {g:Nat} {c:Array Value} {t:TypeId} (h:Has w g c t) (i:Nat):w.frozen? ⟨g,i,none⟩=false:=by
  have e:w.heap[g]?=some (.cells c t):=h
  simp [World.frozen?,e]
theorem Has.set {w:World} {g:Nat} {c:Array Value} {t:TypeId} (h:Has w g c t) (i:Nat) (v:Value):Has (w.setCell ⟨g,i,none⟩ v) g (c.setIfInBounds i v) t:=by
  have e:w.heap[g]?=some (.cells c t):=h
  unfold Has
  rw [setCell_eq_setRow w g i c t _ v e,setRow_heap w g c _ t _ e]
theorem Has.other {w:World} {g:Nat} {c:Array Value} {t:TypeId} (h:Has w g c t) {a:Addr} (ha:g≠a.block) (v:Value):Has (w.setCell a v) g c t:=by
  have e:w.heap[g]?=some (.cells c t):=h
  unfold Has
  rw [Below.heap_setCell w a v g ha,e]
theorem Has.below {B:Nat} {w w':World} {g:Nat} {c:Array Value} {t:TypeId} (h:Has w g c t) (hb:Below B w w') (hg:g<B):Has w' g c t:=(hb.block g hg).trans h
theorem Has.keep {w w':World} {g:Nat} {c:Array Value} {t:TypeId} (h:Has w g c t) (hb:Below w.heap.size w w'):Has w' g c t:=h.below hb h.lt
theorem Has.alloc {w:World} {g:Nat} {c:Array Value} {t:TypeId} (h:Has w g c t) (o:Obj):Has (w.alloc o) g c t:=by
  have e:w.heap[g]?=some (.cells c t):=h
  unfold Has
  rw [Below.heap_alloc w o g h.lt,e]
theorem Has.new (w:World) (c:Array Value) (t:TypeId):Has (w.alloc (.cells c t)) w.heap.size c t:=heap_alloc_new w _
theorem Has.at (w:World) (c:Array Value) (t:TypeId) {g:Nat} (hg:g=w.heap.size):Has (w.alloc (.cells c t)) g c t:=by subst hg;exact Has.new w c t
theorem Has.row {w:World} {g:Nat} {c:Array Value} {t:TypeId} (h:Has w g c t) (c':Array Value):Has (w.setRow g c') g c' t:=setRow_heap w g c c' t _ h
theorem Has.row_other {w:World} {g k:Nat} {c:Array Value} {t:TypeId} (h:Has w g c t) (hk:g≠k) (c':Array Value):Has (w.setRow k c') g c t:=by
  have e:w.heap[g]?=some (.cells c t):=h
  unfold Has
  rw [setRow_other w k g c' hk,e]
theorem Has.drewN {w:World} {g:Nat} {c:Array Value} {t:TypeId} (h:Has w g c t) (n:Nat):Has (w.drewN n) g c t:=h
theorem z9e {w:World} {b i j:Nat} (h:i≠j) (v:Value):(w.setCell ⟨b,i,none⟩ v).cell? ⟨b,j,none⟩=w.cell? ⟨b,j,none⟩:=World.cell?_setCell_other w _ _ v (fun e=>h (congrArg Addr.off e))
theorem z06 {B g:Nat} {w0 w:World} (hb:Below B w0 w) (hBg:B≤g) (cs:Array Value):Below B w0 (w.setRow g cs):=
  ⟨hb.os,hb.tape,hb.output,by have:=hb.size;simpa [World.setRow] using this,fun k hk=>by rw [setRow_other w g k cs (by omega)];exact hb.block k hk⟩
end Go.Proofs.YtlicfinmibbpdaaGreatDoor

namespace Go.Proofs.YtlicfinmibbpdaaGreatDoor
open Go.RowKit Go.Maps
set_option maxRecDepth 100000
theorem zcI:laidOutB Tryz.prog=true:=by kernel_rfl
theorem z9f:(67:TypeId)<Tryz.prog.types.size:=of_decide_eq_true (by kernel_rfl)
theorem zcJ:(match Tryz.prog.underlying 67 with | some (.array _ _) | some (.struct _)=>true | _=>false)=true:=by rw [Tryz.underlying67]
theorem law:Keyed Tryz.prog 67:=Keyed.of_law (deep_law_laid zcI (m:=2) (by omega) z9f (by kernel_rfl) zcJ)
def KL (h k:Nat):Lit:=.string (keyBytes [.int .u8 (h:Int),.int .u64 (k:Int)])
theorem z7f {h k:Nat} (hh:h<256) (hk:k<2 ^ 64):keyOf Tryz.prog 67 (SPOT h k)=some (KL h k):=by
  have w0:(Lit.int .u8 (h:Int)).wf=true:=WalkArith.wf_u8 (by omega)
  have w1:(Lit.int .u64 (k:Int)).wf=true:=WalkArith.wf_u64 (by omega)
  have c3:Tryz.prog.cellsOf 67=2:=by kernel_rfl
  have c1:Tryz.prog.cellsOf 5=1:=by kernel_rfl
  have c2:Tryz.prog.cellsOf 23=1:=by kernel_rfl
  have ht:Tryz.prog.keyType 67=true:=by kernel_rfl
  have hf:(SPOT h k).formed Tryz.prog 67=true:=by simp [Value.formed,Tryz.underlying67,c3]
  obtain ⟨m,hm⟩:∃ m,Tryz.prog.types.size=m+1:=⟨Tryz.prog.types.size - 1,(Nat.succ_pred_eq_of_pos (Nat.lt_of_le_of_lt (Nat.zero_le _) z9f)).symm⟩
  unfold keyOf
  simp only [Tryz.underlying67,ht,hf,hm]
  simp [Program.keyLits,Tryz.underlying67,Tryz.underlying5,Tryz.underlying23,c1,c2,c3,Value.cells,w0,w1,KL]
theorem zeV {h k h' k':Nat} (hh:h<256) (hk:k<2 ^ 64) (hh':h'<256) (hk':k'<2 ^ 64) (e:KL h k=KL h' k'):h=h'∧k=k':=by
  have h1:=z7f hh hk
  have h2:=z7f hh' hk'
  rw [← e] at h2
  have:=law.inj h1 h2
  simp at this
  omega
abbrev U64 (n:Nat):DataW Unit:=.lit (.int .u64 (n:Int))
def MapOk (D:DataW Unit) (m:Nat):Prop:=∀ h k,h<256→k<2 ^ 64→(Maps.has D (KL h k)=true↔Node h k∧PLC h k<m)∧(Node h k→PLC h k<m→D.atKey (KL h k) (U64 0)=U64 (PLC h k))
theorem Node.small {h k:Nat} (a:Node h k):h<256∧k<2 ^ 64:=⟨by have:=a.1;omega,by have:=a.index_lt;omega⟩
theorem MapOk.put {D:DataW Unit} {m h k:Nat} (hD:Maps.IsMap D) (hM:MapOk D m) (hN:Node h k) (hp:PLC h k=m):MapOk (D.put (KL h k) (U64 m)) (m+1):=by
  intro h' k' hh' hk'
  obtain ⟨hh,hk⟩:=hN.small
  have hkey:WideAt.IsKeyLit (KL h k):=law.key (z7f hh hk)
  by_cases e:KL h' k'=KL h k
  · obtain ⟨rfl,rfl⟩:=zeV hh' hk' hh hk e
    exact ⟨⟨fun _=>⟨hN,by omega⟩,fun _=>Maps.has_put_same hD hkey _⟩,fun _ _=>by rw [Maps.atKey_put_same hD hkey,hp]⟩
  · have hne:∀ _:Node h' k',PLC h' k'≠m:=fun hN' e2=>e (by obtain ⟨rfl,rfl⟩:=hN'.one hN (by omega);rfl)
    rw [Maps.has_put_other e,Maps.atKey_put_other e]
    obtain ⟨a,b⟩:=hM h' k' hh' hk'
    refine ⟨⟨fun h=>?_,fun h=>?_⟩,fun h1 h2=>b h1 (by have:=hne h1;omega)⟩
    · have:=a.1 h
      exact ⟨this.1,by omega⟩
    · exact a.2 ⟨h.1,by have:=hne h.1;omega⟩
def Placed (w:World) (b m:Nat):Prop:=∃ D:DataW Unit,w.ownsMap Tryz.prog 67 (plainElem Tryz.prog 23) b m D∧MapOk D m
theorem Placed.kept {w w':World} {b m:Nat} {row:Option Nat} (h:Placed w b m) (hg:w.grownBy w' row) (hne:some b≠row):Placed w' b m:=let ⟨D,h1,h2⟩:=h; ⟨D,h1.kept hg hne,h2⟩
theorem Placed.lt {w:World} {b m:Nat} (h:Placed w b m):b<w.heap.size:=let ⟨_,h1,_⟩:=h;h1.lt
theorem Placed.below {w w':World} {b m:Nat} (h:Placed w b m) (hb:Below w.heap.size w w'):Placed w' b m:=by
  have hlt:=h.lt
  obtain ⟨D,⟨es,clock,h1,r⟩,h2⟩:=h
  exact ⟨D,⟨es,clock,(hb.block b hlt).trans h1,r⟩,h2⟩
theorem Placed.alloc {w:World} {b m:Nat} (h:Placed w b m) (o:Obj):Placed (w.alloc o) b m:=h.below ((Below.refl _ _).alloc (Nat.le_refl _) _)
theorem Placed.setCell {w:World} {b m:Nat} (h:Placed w b m) {a:Addr} (ha:b≠a.block) (u:Value):Placed (w.setCell a u) b m:=let ⟨D,h1,h2⟩:=h; ⟨D,h1.setCell ha u,h2⟩
end Go.Proofs.YtlicfinmibbpdaaGreatDoor

namespace Go.Proofs.YtlicfinmibbpdaaGreatDoor
open Go.RowKit
def BARR (n:Nat) (f:Nat→Int):Array Value:=((List.range n).map fun i=>Value.int .u8 (f i)).toArray
theorem z22 (n:Nat) (f:Nat→Int):(BARR n f).size=n:=by simp [BARR]
theorem z1D (n:Nat) (f:Nat→Int) (i:Nat) (h:i<n):(BARR n f)[i]?=some (.int .u8 (f i)):=by simp [BARR,h]
theorem z7g {n:Nat} {f g:Nat→Int} (h:∀ i,i<n→f i=g i):BARR n f=BARR n g:=by
  unfold BARR
  congr 1
  apply List.map_congr_left
  intro i hi
  rw [h i (by simpa using hi)]
theorem z57 (n:Nat) (f:Nat→Int) (i:Nat) (v:Int):(BARR n f).setIfInBounds i (.int .u8 v)=BARR n fun j=>if j=i then v else f j:=by
  apply Array.ext_getElem?
  intro j
  by_cases hj:j<n
  · rw [z1D _ _ j hj,Array.getElem?_setIfInBounds]
    by_cases h:i=j
    · subst h
      simp [z22,hj]
    · have h':¬ j=i:=fun e=>h e.symm
      simp [h,h',z1D _ _ j hj]
  · rw [Array.getElem?_eq_none (by simp [z22];omega),Array.getElem?_eq_none (by simp [z22];omega)]
theorem z43 (n:Nat):madeCells #[Value.int .u8 0] n=BARR n fun _=>0:=by
  apply Array.ext_getElem?
  intro j
  by_cases hj:j<n
  · rw [z1D _ _ j hj]
    simp [madeCells,hj,Nat.mod_one]
  · rw [Array.getElem?_eq_none (by simp [madeCells];omega),Array.getElem?_eq_none (by simp [z22];omega)]
theorem z0J:(Tryz.prog.info? 5).map (fun i=>(i.zero,i.size,i.bytes))=some (some (.int .u8 0),1,1):=by kernel_rfl
theorem z5q (n:Nat) (hn:n≤1000000) (w:World):(Instr.makeSlice 39 (.int .i64 (n:Int)) (.int .i64 (n:Int))).run Tryz.prog w=.ok (.slice (some ⟨w.heap.size,0,none⟩) n n) (w.alloc (.cells (BARR n fun _=>0) 5)):=by
  rw [run_make_row' 39 5 (.int .u8 0) 1 Tryz.underlying39 z0J rfl .i64 .i64 n (by omega) (by omega) w,z43]
def IsRow (k:IntKind) (w:World) (a:Option Addr) (len cap:Nat) (zs:List Int):Prop:=
  (a=none∧len=0∧cap=0∧zs=[])∨
  ∃ x,a=some x∧len≤cap∧cap≤maxLen∧zs.length=cap∧(∀ i,i<zs.length→w.cell? (x.add i)=some (.int k (zs.getD i 0)))∧∀ n∈zs,(Lit.int k n).wf=true
def Bytes (w:World) (a:Option Addr) (n:Nat) (l:List Int):Prop:=
  l.length=n∧(0<n→∃ b off,a=some ⟨b,off,none⟩∧b<w.heap.size∧∀ i,i<n→w.cell? ⟨b,off+i,none⟩=some (.int .u8 (l.getD i 0)))∧∀ x∈l,0≤x∧x≤255
theorem Bytes.below {w w':World} {a:Option Addr} {n:Nat} {l:List Int} (h:Bytes w a n l) (hb:Below w.heap.size w w'):Bytes w' a n l:=
  ⟨h.1,fun hn=>by
    obtain ⟨b,off,e,hl,hc⟩:=h.2.1 hn
    exact ⟨b,off,e,Nat.lt_of_lt_of_le hl hb.size,fun i hi=>(hb.cell (by exact hl)).trans (hc i hi)⟩,h.2.2⟩
theorem Bytes.get {w:World} {a:Option Addr} {n:Nat} {l:List Int} (h:Bytes w a n l) (i:Nat):0≤l.getD i 0∧l.getD i 0≤255:=by
  by_cases hi:i<l.length
  · rw [List.getD_eq_getElem?_getD,List.getElem?_eq_getElem hi]
    exact h.2.2 _ (List.getElem_mem hi)
  · rw [List.getD_eq_getElem?_getD,List.getElem?_eq_none (by omega)]
    simp
theorem z0D (b off i:Nat):(⟨b,off,none⟩:Addr).add i=⟨b,off+i,none⟩:=by unfold Addr.add;split <;> simp_all
theorem IsRow.bytes {w:World} {a:Option Addr} {n c:Nat} {zs:List Int} (h:IsRow .u8 w a n c zs):Bytes w a n (zs.take n):=by
  rcases h with ⟨rfl,rfl,rfl,rfl⟩ | ⟨x,rfl,hl,_,hz,hcell,hwf⟩
  · exact ⟨rfl,fun h=>by omega,fun x hx=>by simp at hx⟩
  · refine ⟨by simp [hz,hl],fun hn=>?_,fun y hy=>?_⟩
    · obtain ⟨b,off,spot⟩:=x
      have hc:=hcell 0 (by omega)
      have hspot:spot=none:=by simpa [Addr.add] using World.cell?_spot hc
      subst hspot
      refine ⟨b,off,rfl,block_lt_of_cell (by simpa [Addr.add] using hc),fun i hi=>?_⟩
      have:=hcell i (by omega)
      rw [z0D] at this
      rw [this]
      congr 2
      simp [List.getD_eq_getElem?_getD,hi]
    · have:=bounds_u8 (hwf y (List.mem_of_mem_take hy))
      exact this
end Go.Proofs.YtlicfinmibbpdaaGreatDoor

namespace Go.Proofs.YtlicfinmibbpdaaGreatDoor
open Go.RowKit
theorem z44 {F f:Nat→Int} {i:Nat} {v:Int} (A:∀ j,f j=if j<i then F j else 0) (hv:v=F i):∀ j,(if j=i then v else f j)=if j<i+1 then F j else 0:=fun j=>by
  by_cases e:j=i
  · subst e
    simp [hv]
  · rw [if_neg e,A j]
    by_cases e2:j<i
    · rw [if_pos e2,if_pos (by omega)]
    · rw [if_neg e2,if_neg (by omega)]
theorem z5X (x:Int) (n:Nat) (F:Nat→Int) (hn:(n:Int)≤8) (w:World) (c:∀ w,Calls Tryz.prog 172 #[.int .u64 x,.int .i64 (8*(n:Int))] w fun e w'=>e=.returned (.int .u64 0)∧w=w')
    (ci:∀ i:Nat,i<n→∃ s:Int,Aside (s % 256=F i)∧∀ w,Calls Tryz.prog 172 #[.int .u64 x,.int .i64 (8*((n:Int) - 1 - (i:Int)))] w fun e w'=>e=.returned (.int .u64 s)∧w=w'):
    Calls Tryz.prog 156 #[.int .u64 x,.int .i64 (n:Int)] w fun e w'=>e=.returned (.tuple #[.slice (some ⟨w.heap.size,0,none⟩) n n,.int .i64 0])∧w.alloc (.cells (BARR n F) 5)=w':=by
  have hmk:=z5q n (by omega)
  have CI:Aside (∀ i:Nat,i<n→∃ s:Int,Aside (s % 256=F i)∧∀ w,Calls Tryz.prog 172 #[.int .u64 x,.int .i64 (8*((n:Int) - 1 - (i:Int)))] w fun e w'=>e=.returned (.int .u64 s)∧w=w'):=ci
  clear ci
  go_enter Tryz.func156,Tryz.ntmps156
  go_wp2_with fail
  refine (c _).mono ?_
  rintro e w' ⟨rfl,rfl⟩
  go_wp2
  go_loopg [23] n (fun g s23 wx=>∃ (i:Nat) (f:Nat→Int),i+g=n∧Aside (∀ j,f j=if j<i then F j else 0)∧s23=.int .i64 i∧wx=w.alloc (.cells (BARR n f) 5))
  case atStart=>exact ⟨0,fun _=>0,by omega,fun j=>by simp,rfl,rfl⟩
  case round=>
    obtain ⟨i,f,hig,A,rfl,rfl⟩:=hrel
    cases gk with
    | zero=>
      obtain rfl:i=n:=by omega
      have hf:BARR i f=BARR i F:=z7g fun j hj=>by rw [A.out j,if_pos hj]
      rw [hf]
      clear hf A
      go_wp2
      go_ret2
      exact ⟨rfl,rfl⟩
    | succ g=>
      have hi:(i:Int)<(n:Int):=by omega
      have hc:(BARR n f)[i]?=some (.int .u8 (f i)):=z1D n f i (by omega)
      have hs:∀ v,(BARR n f).setIfInBounds i (.int .u8 v)=BARR n (fun j=>if j=i then v else f j):=fun v=>z57 n f i v
      obtain ⟨s,hsF,cs⟩:=CI.out i (by omega)
      go_wp2_with fail
      refine (cs _).mono ?_
      rintro e w' ⟨rfl,rfl⟩
      go_wp2
      go_roundg g
      case measure=>omega
      case rel=>exact ⟨i+1,_,by omega,z44 A.out hsF.out,by go_num,rfl⟩
def BYTE (X n:Nat):Nat→Int:=fun i=>((X / 2 ^ (8*(n - 1 - i)) % 256:Nat):Int)
theorem zb8 (X n:Nat) (hX:X<2 ^ 64) (hn:n≤8) (h:X / 2 ^ (8*n)=0) (w:World):
    Calls Tryz.prog 156 #[.int .u64 (X:Int),.int .i64 (n:Int)] w fun e w'=>e=.returned (.tuple #[.slice (some ⟨w.heap.size,0,none⟩) n n,.int .i64 0])∧w.alloc (.cells (BARR n (BYTE X n)) 5)=w':=by
  refine z5X X n (BYTE X n) (by omega) w (fun w=>?_) (fun i hi=>?_)
  · have k:=z2u X (8*(n:Int)) hX (by omega) (by omega) w
    have hs:SHR X (8*(n:Int))=0:=by
      unfold SHR
      rw [if_neg (by omega),show (8*(n:Int)).toNat=8*n by omega,h]
    rw [hs] at k
    exact k
  · refine ⟨(SHR X (8*((n:Int) - 1 - (i:Int))):Nat),?_,fun w=>z2u X _ hX (by omega) (by omega) w⟩
    unfold SHR BYTE Aside
    rw [if_neg (by omega),show (8*((n:Int) - 1 - (i:Int))).toNat=8*(n - 1 - i) by omega]
    simp
end Go.Proofs.YtlicfinmibbpdaaGreatDoor

namespace Go.Proofs.YtlicfinmibbpdaaGreatDoor
open Go.RowKit
def z00 (l:List Int):List Value:=l.map (Value.int .u8)
theorem z0t (a b:List Int):z00 (a ++ b)=z00 a ++ z00 b:=by simp [z00]
theorem z0p (l:List Int) (i:Nat) (h:i<l.length):(z00 l)[i]?=some (.int .u8 (l.getD i 0)):=by
  simp [z00,h,List.getD_eq_getElem?_getD]
theorem z0K (l:List Int):∀ u∈z00 l,u.oneCell'=true:=fun u hu=>by
  simp [z00] at hu
  obtain ⟨x,_,rfl⟩:=hu
  rfl
theorem z1f:∃ i,Tryz.prog.info? 5=some i∧i.zero=some (.int .u8 0)∧i.size=1∧i.bytes=1:=by
  obtain ⟨i,hi,h⟩:=Option.map_eq_some_iff.1 z0J
  simp only [Prod.mk.injEq] at h
  exact ⟨i,hi,h.1,h.2.1,h.2.2⟩
theorem z0A {ops:Array Oper} {rest:List Oper} {o:Oper} {a:Act} {Q:Exit→Act→World→Prop} (w:World) (hgd:o.guard=none) (s x:Operand)
    (ho:o.op=.call {callee:=.builtin .append,args:=#[s,x],argTypes:=#[39,39]})
    (base:Nat) (v:Value) (n:Nat) (xs:List Int) (hs:a.eval s=v) (hown:w.ownsRow base 5 1 v n (z00 xs))
    (b off m c:Nat) (l:List Int) (hx:a.eval x=.slice (some ⟨b,off,none⟩) m c) (hB:Bytes w (some ⟨b,off,none⟩) m l)
    (hm:0<m) (hb:n+m≤140737488355328) (hbase:base≤w.heap.size)
    (h:∀ g cap w',w'.ownsRow base 5 1 (.slice (some ⟨g,0,none⟩) (n+m) cap) (n+m) (z00 (xs ++ l))→w.grownBy w' v.ownBlock→g<w'.heap.size→wpList Tryz.prog ops Q rest (a.put o.dst (.slice (some ⟨g,0,none⟩) (n+m) cap)) w'):wpList Tryz.prog ops Q (o :: rest) a w:=by
  obtain ⟨i,hi,hz,hs1,hby⟩:=z1f
  obtain ⟨b',off',e,_,hc⟩:=hB.2.1 hm
  simp only [Option.some.injEq,Addr.mk.injEq] at e
  obtain ⟨rfl,rfl,_⟩:=e
  refine wpList_append_lies w hgd s x 39 ho base 5 i (.int .u8 0) 1 1 Tryz.underlying39 hi hz hs1 hby rfl (by decide) v n (z00 xs) hs hown ⟨b,off,none⟩ m c (z00 l) hx (by simp [z00,hB.1]) ?_ (z0K l) hm (by simp only [maxLen];omega) (by omega) hbase w.heap.size rfl ?_
  · intro j u hj
    have hjl:j<l.length:=by
      have:=(List.getElem?_eq_some_iff.1 hj).1
      simpa [z00] using this
    rw [z0p l j hjl] at hj
    rw [z0D,hc j (by rw [← hB.1];exact hjl)]
    exact hj
  · intro g cap w' h1 h2 _ h4
    rw [← z0t] at h1
    exact h g cap w' h1 h2 h4
theorem z2E (w:World) (row:Option Nat):w.grownBy w row:=⟨rfl,rfl,rfl,Nat.le_refl _,fun _ _ _=>rfl⟩
theorem z58 {ops:Array Oper} {rest:List Oper} {o:Oper} {a:Act} {Q:Exit→Act→World→Prop} (w:World) (hgd:o.guard=none) (s x:Operand)
    (ho:o.op=.call {callee:=.builtin .append,args:=#[s,x],argTypes:=#[39,39]})
    (base:Nat) (v:Value) (n:Nat) (xs:List Int) (hs:a.eval s=v) (hown:w.ownsRow base 5 1 v n (z00 xs))
    (ao:Option Addr) (c:Nat) (hx:a.eval x=.slice ao 0 c) (hc:ao=none→c=0) (hn:n≤140737488355328) (hbase:base≤w.heap.size)
    (h:∀ a' c' w',w'.ownsRow base 5 1 (.slice a' n c') n (z00 xs)→w.grownBy w' v.ownBlock→wpList Tryz.prog ops Q rest (a.put o.dst (.slice a' n c')) w'):wpList Tryz.prog ops Q (o :: rest) a w:=by
  obtain ⟨i,hi,hz,hs1,hby⟩:=z1f
  have form:∀ (v':Value) (w':World),w'.ownsRow base 5 1 v' n (z00 xs)→∃ a' c',v'=.slice a' n c':=fun v' w' h=>by
    rcases h.2 with ⟨rfl,rfl⟩ | ⟨g,cap,cur,rfl,_⟩
    · exact ⟨none,0,rfl⟩
    · exact ⟨_,cap,rfl⟩
  cases ao with
  | none=>
    obtain rfl:=hc rfl
    refine wpList_append_own_none hgd s x 39 ho base 5 i 1 Tryz.underlying39 hi v n (z00 xs) hs hown hx ?_
    obtain ⟨a',c',rfl⟩:=form v w hown
    exact h a' c' w hown (z2E _ _)
  | some ad=>
    refine wpList_append_own w hgd s x 39 ho base 5 i (.int .u8 0) 1 1 Tryz.underlying39 hi hz hs1 hby rfl (by decide) v n (z00 xs) hs hown ad 0 c [] hx rfl (fun j u hj=>by simp at hj) (fun u hu=>by simp at hu) (by simp only [maxLen];omega) (by omega) hbase ?_
    intro v' w' h1 h2 _
    simp only [Nat.add_zero,List.append_nil] at h1
    obtain ⟨a',c',rfl⟩:=form v' w' h1
    exact h a' c' w' h1 h2
theorem z0W {w:World} {base g n cap:Nat} {l:List Int} (h:w.ownsRow base 5 1 (.slice (some ⟨g,0,none⟩) n cap) n (z00 l)) (hg:g<w.heap.size) (hl:∀ x∈l,0≤x∧x≤255):Bytes w (some ⟨g,0,none⟩) n l:=by
  have hlen:l.length=n:=by have:=h.1;simpa [z00] using this
  refine ⟨hlen,fun _=>⟨g,0,rfl,hg,fun i hi=>?_⟩,hl⟩
  rw [Nat.zero_add,h.cellAt i (by omega),z0p l i (by omega)]
theorem z45 (w:World) (base:Nat) (hb:base≤w.heap.size):(w.alloc (.cells #[] 5)).ownsRow base 5 1 (.slice (some ⟨w.heap.size,0,none⟩) 0 0) 0 (z00 []):=
  World.ownsRow_lit w #[] 0 hb (by simp [maxLen]) rfl
theorem z2v (w:World) (n:Nat) (f:Nat→Int) (l:List Int) (hl:l.length=n) (hf:∀ i,i<n→f i=l.getD i 0) (hr:∀ x∈l,0≤x∧x≤255):Bytes (w.alloc (.cells (BARR n f) 5)) (some ⟨w.heap.size,0,none⟩) n l:=by
  refine ⟨hl,fun _=>⟨w.heap.size,0,rfl,by simp,fun i hi=>?_⟩,hr⟩
  rw [Nat.zero_add,World.cell?_alloc_at _ _ _ _ rfl,z1D n f i hi,hf i hi]
theorem z1w {w:World} {base n c:Nat} {a:Option Addr} {l:List Int} (h:w.ownsRow base 5 1 (.slice a n c) n (z00 l)) (hl:∀ x∈l,0≤x∧x≤255):Bytes w a n l∧n≤c:=by
  rcases h.2 with ⟨hv,hn⟩ | ⟨g,cap,cur,hv,_,hg,hc,_⟩
  · simp only [Value.slice.injEq] at hv
    obtain ⟨rfl,rfl,rfl⟩:=hv
    have:l=[]:=by have:=h.1;simpa [z00] using this
    subst this
    exact ⟨⟨rfl,fun h=>by omega,fun x hx=>by simp at hx⟩,Nat.le_refl _⟩
  · simp only [Value.slice.injEq] at hv
    obtain ⟨rfl,_,rfl⟩:=hv
    exact ⟨z0W h (Array.getElem?_eq_some_iff.1 hg).1 hl,hc⟩
theorem z3n {ops:Array Oper} {rest:List Oper} {o:Oper} {a:Act} {Q:Exit→Act→World→Prop} (w:World) (hgd:o.guard=none) (s x:Operand)
    (ho:o.op=.call {callee:=.builtin .append,args:=#[s,x],argTypes:=#[39,39]})
    (base:Nat) (v:Value) (n:Nat) (xs:List Int) (hs:a.eval s=v) (hown:w.ownsRow base 5 1 v n (z00 xs))
    (ao:Option Addr) (m c:Nat) (l:List Int) (hx:a.eval x=.slice ao m c) (hB:Bytes w ao m l) (hc:ao=none→c=0)
    (N:Nat) (L:List Int) (hN:n+m=N) (hL:xs ++ l=L) (hb:N≤140737488355328) (hbase:base≤w.heap.size)
    (h:∀ a' c' w',w'.ownsRow base 5 1 (.slice a' N c') N (z00 L)→w.grownBy w' v.ownBlock→wpList Tryz.prog ops Q rest (a.put o.dst (.slice a' N c')) w'):wpList Tryz.prog ops Q (o :: rest) a w:=by
  subst hN hL
  rcases Nat.eq_zero_or_pos m with hm | hm
  · subst hm
    have hl:l=[]:=by have:=hB.1;simpa using this
    subst hl
    refine z58 w hgd s x ho base v n xs hs hown ao c hx hc (by omega) hbase ?_
    simpa using h
  · obtain ⟨b,off,rfl,_,_⟩:=hB.2.1 hm
    refine z0A w hgd s x ho base v n xs hs hown b off m c l hx hB hm hb hbase ?_
    intro g cap w' h1 h2 _
    exact h _ cap w' h1 h2
end Go.Proofs.YtlicfinmibbpdaaGreatDoor

namespace Go.Proofs.YtlicfinmibbpdaaGreatDoor
open Go.RowKit
def z0N (X j:Nat):List Int:=(List.range j).map fun i=>((X / 128 ^ i % 128+128:Nat):Int)
theorem z4G (X j:Nat):z0N X (j+1)=z0N X j ++ [((X / 128 ^ j % 128+128:Nat):Int)]:=by simp [z0N,List.range_succ]
theorem z1T (X j:Nat):(z0N X j).length=j:=by simp [z0N]
def TOPG (X:Nat):Nat→Nat
  | 0=>0
  | k+1=>if X<128 then 0 else TOPG (X / 128) k+1
def NTOP (X:Nat):Nat:=TOPG X 9
def z0m (X:Nat):List Int:=z0N X (NTOP X) ++ [((X / 128 ^ NTOP X:Nat):Int)]
theorem z0O (X:Nat):(z0m X).length=NTOP X+1:=by simp [z0m,z1T]
theorem z9g:∀ (k X:Nat),TOPG X k≤k
  | 0,_=>Nat.le_refl _
  | k + 1,X=>by
    unfold TOPG
    split
    · omega
    · have:=z9g k (X / 128)
      omega
theorem z5r:∀ (k X j:Nat),j<TOPG X k→128≤X / 128 ^ j
  | 0,_,_,h=>by simp [TOPG] at h
  | k + 1,X,j,h=>by
    unfold TOPG at h
    split at h
    · omega
    · cases j with
      | zero=>simp;omega
      | succ j=>
        have:=z5r k (X / 128) j (by omega)
        rw [Nat.div_div_eq_div_mul,Nat.mul_comm,← Nat.pow_succ] at this
        exact this
theorem z9h:∀ (k X:Nat),X<128 ^ (k+1)→X / 128 ^ TOPG X k<128
  | 0,X,h=>by simpa [TOPG] using h
  | k + 1,X,h=>by
    unfold TOPG
    split
    · simpa using ‹X<128›
    · have:=z9h k (X / 128) (by rw [Nat.pow_succ] at h;exact Nat.div_lt_of_lt_mul (by omega))
      rw [Nat.div_div_eq_div_mul,Nat.mul_comm,← Nat.pow_succ] at this
      exact this
theorem z2j (X:Nat):NTOP X≤9:=z9g 9 X
theorem z9i {X:Nat} (hX:X<2 ^ 64):X / 128 ^ NTOP X<128:=z9h 9 X (Nat.lt_of_lt_of_le hX (by decide))
theorem z5Y {X:Nat} (hX:X<2 ^ 64) {j:Nat} (hj:∀ i,i<j→128≤X / 128 ^ i) (h:X / 128 ^ j<128):NTOP X=j:=by
  rcases Nat.lt_trichotomy (NTOP X) j with h1 | h1 | h1
  · have:=hj _ h1
    have:=z9i hX
    omega
  · exact h1
  · have:=z5r 9 X j h1
    omega
theorem z7h (X:Nat) {i j:Nat} (h:i≤j):X / 128 ^ j≤X / 128 ^ i:=Nat.div_le_div_left (Nat.pow_le_pow_right (by decide) h) (Nat.pow_pos (by decide))
theorem z7i (X j:Nat):∀ x∈z0N X j,0≤x∧x≤255:=fun x hx=>by
  simp only [z0N,List.mem_map] at hx
  obtain ⟨i,_,rfl⟩:=hx
  omega
theorem z1m {X:Nat} (hX:X<2 ^ 64):∀ x∈z0m X,0≤x∧x≤255:=fun x hx=>by
  simp only [z0m,List.mem_append,List.mem_singleton] at hx
  rcases hx with hx | rfl
  · exact z7i X _ x hx
  · have:=z9i hX
    generalize X / 128 ^ NTOP X=y at *
    omega
theorem z23 (w:World) (v:Int) (h0:0≤v) (h1:v≤255):Bytes (w.alloc (.cells #[.int .u8 v] 5)) (some ⟨w.heap.size,0,none⟩) 1 [v]:=by
  refine ⟨rfl,fun _=>⟨w.heap.size,0,rfl,by simp,fun i hi=>?_⟩,fun x hx=>by simp at hx;omega⟩
  obtain rfl:i=0:=by omega
  rw [Nat.zero_add,World.cell?_alloc_at _ _ _ _ rfl]
  rfl
theorem zcK (w:World) (base:Nat) (hb:base≤w.heap.size) (cur:Array Value) (cap:Nat) (hm:cap≤1000) (hs:cur.size=cap):(w.alloc (.cells cur 5)).ownsRow base 5 1 (.slice (some ⟨w.heap.size,0,none⟩) 0 cap) 0 (z00 []):=
  World.ownsRow_made w cur cap hb (by simp only [maxLen];omega) (by omega)
set_option maxHeartbeats 1000000 in
theorem z59 (X:Nat) (hX:X<2 ^ 64) (w:World):Calls Tryz.prog 87 #[.int .u64 (X:Int)] w fun e w'=>
    ∃ g cap,e=.returned (.slice (some ⟨g,0,none⟩) (NTOP X+1) cap)∧w'.ownsRow w.heap.size 5 1 (.slice (some ⟨g,0,none⟩) (NTOP X+1) cap) (NTOP X+1) (z00 (z0m X))∧g<w'.heap.size∧Below w.heap.size w w':=by
  have hmk:∀ w:World,(Instr.makeSlice 39 (.int .i64 0) (.int .i64 10)).run Tryz.prog w=.ok (.slice (some ⟨w.heap.size,0,none⟩) 0 10) (w.alloc (.cells #[.int .u8 0,.int .u8 0,.int .u8 0,.int .u8 0,.int .u8 0,.int .u8 0,.int .u8 0,.int .u8 0,.int .u8 0,.int .u8 0] 5)):=fun _=>by kernel_rfl
  have HX:Aside (X<2 ^ 64):=hX
  clear hX
  go_enter Tryz.func87,Tryz.ntmps87
  go_wp2
  go_loopg [0,3] 10 (fun g s0 s3 wx=>∃ (j x:Nat),j+g=10∧Aside (x=X / 128 ^ j∧(∀ i,i<j→128≤X / 128 ^ i)∧wx.ownsRow w.heap.size 5 1 s3 j (z00 (z0N X j))∧Below w.heap.size w wx)∧s0=.int .u64 (x:Int))
  case atStart=>exact ⟨0,X,by omega,⟨by simp,fun i hi=>by omega,zcK w _ (Nat.le_refl _) _ 10 (by decide) rfl,(Below.refl _ _).alloc (Nat.le_refl _) _⟩,rfl⟩
  case round=>
    obtain ⟨j,x,hjg,A,rfl⟩:=hrel
    by_cases hx:128≤(x:Int)
    · go_wp2_with (at_builtin;refine z0A _ rfl (.tmp 9) (.tmp 14) rfl w.heap.size u3 j (z0N X j) rfl (A.out.2.2.1.alloc _) wr.heap.size 0 1 1 [(x:Int) % 128+128] rfl (z23 wr _ (by omega) (by omega)) (by omega) (by omega) (by have:=A.out.2.2.2.size;simp;omega) ?_;intro g cap w1 hown hgrow hg)
      have R:(x / 128=X / 128 ^ (j+1))∧(∀ i,i<j+1→128≤X / 128 ^ i)∧w1.ownsRow w.heap.size 5 1 (.slice (some ⟨g,0,none⟩) (j+1) cap) (j+1) (z00 (z0N X (j+1)))∧Below w.heap.size w w1:=by
        obtain ⟨hxe,hall,hown0,hb⟩:=A.out
        refine ⟨by rw [hxe,Nat.div_div_eq_div_mul,← Nat.pow_succ],fun i hi=>?_,?_,?_⟩
        · by_cases e:i=j
          · rw [e,← hxe];omega
          · exact hall i (by omega)
        · rw [z4G,show ((X / 128 ^ j % 128+128:Nat):Int)=(x:Int) % 128+128 by rw [← hxe];omega]
          exact hown
        · exact (hb.alloc hb.size _).grown hgrow (by have:=hb.size;simp;omega) (fun k e=>(hown0.lt k e).1)
      have HR:Aside ((x / 128=X / 128 ^ (j+1))∧(∀ i,i<j+1→128≤X / 128 ^ i)∧w1.ownsRow w.heap.size 5 1 (.slice (some ⟨g,0,none⟩) (j+1) cap) (j+1) (z00 (z0N X (j+1)))∧Below w.heap.size w w1):=R
      have hj9:j<9:=by
        obtain ⟨hxe,hall,_,_⟩:=A.out
        rcases Nat.lt_or_ge j 9 with h | h
        · exact h
        · have h1:=z7h X h
          have h2:X / 128 ^ 9<2:=Nat.div_lt_of_lt_mul (Nat.lt_of_lt_of_le HX.out (by decide))
          omega
      clear hown hgrow hg R A
      go_wp2
      go_roundg (gk - 1)
      case measure=>omega
      case rel=>exact ⟨j+1,x / 128,by omega,HR,by first | rfl | go_num⟩
    · go_wp2_with (at_builtin;refine z0A _ rfl (.tmp 16) (.tmp 19) rfl w.heap.size u3 j (z0N X j) rfl (A.out.2.2.1.alloc _) wr.heap.size 0 1 1 [(x:Int)] rfl (z23 wr _ (by omega) (by omega)) (by omega) (by omega) (by have:=A.out.2.2.2.size;simp;omega) ?_;intro g cap w1 hown hgrow hg)
      obtain ⟨hxe,hall,hown0,hb⟩:=A.out
      have hN:NTOP X=j:=z5Y HX.out hall (by rw [← hxe];omega)
      have R:w1.ownsRow w.heap.size 5 1 (.slice (some ⟨g,0,none⟩) (NTOP X+1) cap) (NTOP X+1) (z00 (z0m X))∧g<w1.heap.size∧Below w.heap.size w w1:=by
        refine ⟨?_,hg,(hb.alloc hb.size _).grown hgrow (by have:=hb.size;simp;omega) (fun k e=>(hown0.lt k e).1)⟩
        unfold z0m
        rw [hN,← hxe]
        exact hown
      have HR:Aside (w1.ownsRow w.heap.size 5 1 (.slice (some ⟨g,0,none⟩) (NTOP X+1) cap) (NTOP X+1) (z00 (z0m X))∧g<w1.heap.size∧Below w.heap.size w w1):=R
      have HN:Aside (NTOP X=j):=hN
      clear hown hgrow hg R A hxe hall hown0 hb hN
      go_wp2
      go_ret
      obtain ⟨h1,h2,h3⟩:=HR.out
      refine ⟨g,cap,?_,h1,h2,h3⟩
      rw [HN.out]
      rfl
end Go.Proofs.YtlicfinmibbpdaaGreatDoor

namespace Go.Proofs.YtlicfinmibbpdaaGreatDoor
abbrev Fit (a h b:Nat):Prop:=a % 2 ^ h=0∧a+2 ^ h≤b
theorem Fit.down {a h b:Nat} (f:Fit a (h+1) b):Fit a h b:=by
  have h1:2 ^ (h+1)=2 ^ h*2:=Nat.pow_succ 2 h
  have h2:=f.2
  refine ⟨?_,by omega⟩
  have h3:=f.1
  have h4:2 ^ h ∣ 2 ^ (h+1):=⟨2,h1⟩
  exact Nat.mod_eq_zero_of_dvd (Nat.dvd_trans h4 (Nat.dvd_of_mod_eq_zero h3))
theorem Fit.le {a g b:Nat}:∀ h,h≤g→Fit a g b→Fit a h b:=by
  intro h hg f
  induction g with
  | zero => obtain rfl:h=0:=by omega
            exact f
  | succ g ih=>
    rcases Nat.lt_or_ge h (g+1) with h1 | h1
    · exact ih (by omega) f.down
    · obtain rfl:h=g+1:=by omega
      exact f
theorem Fit.zero {a b:Nat} (h:a<b):Fit a 0 b:=⟨Nat.mod_one a,by simp;omega⟩
def HTF:Nat→Nat→Nat→Nat
  | 0,_,_=>0
  | f+1,a,b=>if Fit a (f+1) b then f+1 else HTF f a b
def HT (a b:Nat):Nat:=HTF 62 a b
def Tile:Nat→List (Nat × Nat)→Nat→Prop
  | a,[],b=>a=b
  | a,s :: l,b=>Node s.1 s.2∧s.2*2 ^ s.1=a∧Tile ((s.2+1)*2 ^ s.1) l b
abbrev Sibs (x y:Nat × Nat):Prop:=x.1=y.1∧x.2 % 2=0∧y.2=x.2+1
def Irr:List (Nat × Nat)→Prop
  | []=>True
  | x :: l=>(∀ y,l.head?=some y→¬ Sibs x y)∧Irr l
theorem Fit.node {a h b:Nat} (f:Fit a h b) (hh:h≤62) (hb:b≤4611686018427387904):Node h (a / 2 ^ h)∧a / 2 ^ h*2 ^ h=a∧(a / 2 ^ h+1)*2 ^ h=a+2 ^ h:=by
  have h1:a / 2 ^ h*2 ^ h=a:=Nat.div_mul_cancel (Nat.dvd_of_mod_eq_zero f.1)
  have h2:(a / 2 ^ h+1)*2 ^ h=a+2 ^ h:=by rw [Nat.add_mul,Nat.one_mul,h1]
  refine ⟨⟨hh,?_⟩,h1,h2⟩
  have h3:(a / 2 ^ h+1)*2 ^ h≤2 ^ (62 - h)*2 ^ h:=by
    rw [h2,← Nat.pow_add,show 62 - h+h=62 by omega]
    have:=f.2
    simp
    omega
  exact Nat.le_of_mul_le_mul_right h3 (Nat.two_pow_pos h)
theorem Tile.bound {l:List (Nat × Nat)}:∀ {a b:Nat},Tile a l b→a≤b∧(l≠[]→a<b∧b≤4611686018427387904):=by
  induction l with
  | nil=>intro a b h;exact ⟨by have:a=b:=h;omega,fun h=>absurd rfl h⟩
  | cons s l ih=>
    intro a b ⟨h1,h2,h3⟩
    have i:=ih h3
    have:=Nat.two_pow_pos s.1
    have e:(s.2+1)*2 ^ s.1=s.2*2 ^ s.1+2 ^ s.1:=by rw [Nat.add_mul,Nat.one_mul]
    refine ⟨by omega,fun _=>⟨by omega,?_⟩⟩
    cases l with
    | nil=>
      have h4:(s.2+1)*2 ^ s.1=b:=h3
      have:=h1.span
      simp at this
      omega
    | cons t l=>exact (i.2 (by simp)).2
theorem Tile.append {l m:List (Nat × Nat)}:∀ {a b c:Nat},Tile a l b→Tile b m c→Tile a (l ++ m) c:=by
  induction l with
  | nil=>intro a b c h h2;have:a=b:=h;rw [this];exact h2
  | cons s l ih=>intro a b c ⟨h1,h2,h3⟩ h4;exact ⟨h1,h2,ih h3 h4⟩
theorem Tile.node {l:List (Nat × Nat)}:∀ {a b i h k:Nat},Tile a l b→l[i]?=some (h,k)→Node h k:=by
  induction l with
  | nil=>intro a b i h k _ e;simp at e
  | cons s l ih=>
    intro a b i h k ⟨h1,h2,h3⟩ e
    cases i with
    | zero=>simp at e;subst e;exact h1
    | succ i=>exact ih h3 (by simpa using e)
theorem Tile.one {s:Nat × Nat} {a b:Nat}:Tile a [s] b↔Node s.1 s.2∧s.2*2 ^ s.1=a∧(s.2+1)*2 ^ s.1=b:=Iff.rfl
theorem Tile.pair {h k a b:Nat} (hh:Tile a [(h,k),(h,k+1)] b) (hk:k % 2=0):h<62∧Tile a [(h+1,k / 2)] b:=by
  obtain ⟨h1,h2,h3,h4,h5⟩:=hh
  dsimp only at h1 h2 h3 h4 h5
  have h5':(k+1+1)*2 ^ h=b:=h5
  have hlt:h<62:=by
    rcases Nat.lt_or_ge h 62 with c | c
    · exact c
    · have:=h3.2
      rw [show 62 - h=0 by omega] at this
      omega
  refine ⟨hlt,h1.up hlt,?_,?_⟩
  · show k / 2*2 ^ (h+1)=a
    rw [← z15,show 2*(k / 2)=k by omega,h2]
  · show (k / 2+1)*2 ^ (h+1)=b
    rw [← z15,show 2*(k / 2+1)=k+1+1 by omega,h5']
end Go.Proofs.YtlicfinmibbpdaaGreatDoor
