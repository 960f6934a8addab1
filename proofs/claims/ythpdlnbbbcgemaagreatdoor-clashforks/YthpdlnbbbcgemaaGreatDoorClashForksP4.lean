/- Texts of ClashForks, one behind the other: PosSpotRow, PosHas, PosForestMap, NumSlice, NumByteCalls, NumAppend, NumShortCalls, CutPlain. -/
import Derived.Test.YthpdlnbbbcgemaaGreatDoorProg
import Derived.WalkKit
import Derived.WalkLawsBesides
import Derived.Deep.WholeRow
import Derived.Deep.LoopGhost
import Derived.Laws.ResultCell
import Derived.Laws.Rows
import Derived.Laws.Tables
import Derived.Maps.OwnSet
import Derived.DeepKeys4
import Derived.Deep.OwnRows
import Derived.Deep.QuietTactic
import Derived.BigQuiet
import Derived.Deep.AppendLies
import Derived.Laws.AppendOwnNone
import Derived.Test.YthpdlnbbbcgemaaGreatDoorClashForksP3
namespace Go.Proofs.YthpdlnbbbcgemaaGreatDoor
open Go.RowKit
def z05 (l:List (Nat × Nat)):List Value:=l.flatMap fun x=>[Value.int .u8 (x.1:Int),Value.int .u64 (x.2:Int)]
theorem z9y (l:List (Nat × Nat)) (h k:Nat):z05 (l ++ [(h,k)])=z05 l ++ [Value.int .u8 (h:Int),Value.int .u64 (k:Int)]:=by simp [z05]
theorem z3r:∀ (l:List (Nat × Nat)) (j h k:Nat),l[j]?=some (h,k)→(z05 l)[j*2]?=some (.int .u8 (h:Int))∧(z05 l)[j*2+1]?=some (.int .u64 (k:Int))
  | [],j,h,k,e=>by simp at e
  | x :: l,0,h,k,e=>by
    simp at e
    subst e
    simp [z05]
  | x :: l,j+1,h,k,e=>by
    have:=z3r l j h k (by simpa using e)
    have e1:(j+1)*2=j*2+1+1:=by omega
    simp only [z05,List.flatMap_cons,List.cons_append,List.nil_append,e1,List.getElem?_cons_succ]
    exact this
theorem z7l:(Tryz.prog.info? 79).map (fun i=>(i.zero,i.size,i.bytes))=some (some (.agg #[.int .u8 0,.int .u64 0]),2,16):=by kernel_rfl
theorem z2z {ops:Array Oper} {rest:List Oper} {o:Oper} {a:Act} {Q:Exit→Act→World→Prop} (w:World) (hgd:o.guard=none) (s x:Operand)
    (ho:o.op=.call {callee:=.builtin .append,args:=#[s,x],argTypes:=#[76,76]})
    (base:Nat) (v:Value) (n:Nat) (xs:List (Nat × Nat)) (hs:a.eval s=v) (hown:w.ownsRow base 79 2 v n (z05 xs))
    (b c:Nat) (h k:Nat) (hx:a.eval x=.slice (some ⟨b,0,none⟩) 1 c) (hc0:w.cell? ⟨b,0,none⟩=some (.int .u8 (h:Int))) (hc1:w.cell? ⟨b,1,none⟩=some (.int .u64 (k:Int)))
    (hb:n≤1000) (hbase:base≤w.heap.size)
    (hh:∀ g cap w',w'.ownsRow base 79 2 (.slice (some ⟨g,0,none⟩) (n+1) cap) (n+1) (z05 (xs ++ [(h,k)]))→w.grownBy w' v.ownBlock→g<w'.heap.size→wpList Tryz.prog ops Q rest (a.put o.dst (.slice (some ⟨g,0,none⟩) (n+1) cap)) w'):wpList Tryz.prog ops Q (o :: rest) a w:=by
  obtain ⟨i,hi,hz,hs1,hby⟩:=info_parts z7l
  refine wpList_append_lies w hgd s x 76 ho base 79 i _ 2 16 Tryz.underlying76 hi hz hs1 hby rfl (by decide) v n (z05 xs) hs hown ⟨b,0,none⟩ 1 c [.int .u8 (h:Int),.int .u64 (k:Int)] hx rfl ?_ (fun u hu=>by simp at hu;rcases hu with rfl | rfl <;> rfl) (by decide) (by simp only [maxLen];omega) (by omega) hbase w.heap.size rfl ?_
  · intro j u hj
    match j,hj with
    | 0,hj=>
      simp only [List.getElem?_cons_zero,Option.some.injEq] at hj
      subst hj
      exact hc0
    | 1,hj=>
      simp only [List.getElem?_cons_succ,List.getElem?_cons_zero,Option.some.injEq] at hj
      subst hj
      exact hc1
    | j+2,hj=>simp at hj
  · intro g cap w' h1 h2 _ h4
    rw [← z9y] at h1
    exact hh g cap w' h1 h2 h4
def Spots (w:World) (a:Option Addr) (l:List (Nat × Nat)):Prop:=0<l.length→∃ g,a=some ⟨g,0,none⟩∧g<w.heap.size∧∀ (j h k:Nat),l[j]?=some (h,k)→w.cell? ⟨g,j*2,none⟩=some (.int .u8 (h:Int))∧w.cell? ⟨g,j*2+1,none⟩=some (.int .u64 (k:Int))
theorem Spots.below {w w':World} {a:Option Addr} {l:List (Nat × Nat)} (h:Spots w a l) (hb:Below w.heap.size w w'):Spots w' a l:=fun h0=>by
  obtain ⟨g,e,hg,hc⟩:=h h0
  exact ⟨g,e,Nat.lt_of_lt_of_le hg hb.size,fun j x y he=>⟨(hb.cell (p:=⟨g,j*2,none⟩) hg).trans (hc j x y he).1,(hb.cell (p:=⟨g,j*2+1,none⟩) hg).trans (hc j x y he).2⟩⟩
theorem z2g {w:World} {base n:Nat} {v:Value} {l:List (Nat × Nat)} (hl:l.length=n) (h:w.ownsRow base 79 2 v n (z05 l)):∃ a cap,v=.slice a n cap∧Spots w a l:=by
  rcases h.2 with ⟨rfl,h0⟩ | ⟨g,cap,cur,rfl,hb,hg,r⟩
  · subst h0
    exact ⟨none,0,rfl,fun h=>by omega⟩
  · refine ⟨_,cap,rfl,fun h0=>⟨g,rfl,?_,fun j x y he=>?_⟩⟩
    · exact (Array.getElem?_eq_some_iff.1 hg).1
    · have hj:j<n:=by rw [← hl];exact (List.getElem?_eq_some_iff.1 he).1
      have h1:=z3r l j x y he
      exact ⟨(h.cellAt (j*2) (by omega)).trans h1.1,(h.cellAt (j*2+1) (by omega)).trans h1.2⟩
theorem z0q {w w':World} {base:Nat} {t:TypeId} {s:Nat} {v:Value} {n:Nat} {xs:List Value} (h:w.ownsRow base t s v n xs) (hb:Below w.heap.size w w'):w'.ownsRow base t s v n xs:=by
  refine ⟨h.1,h.2.imp id ?_⟩
  rintro ⟨g,c,cur,a,b,r,rest⟩
  exact ⟨g,c,cur,a,b,(hb.block g (Array.getElem?_eq_some_iff.1 r).1).trans r,rest⟩
end Go.Proofs.YthpdlnbbbcgemaaGreatDoor

namespace Go.Proofs.YthpdlnbbbcgemaaGreatDoor
open Go.RowKit
def Has (w:World) (g:Nat) (c:Array Value) (t:TypeId):Prop:=w.heap[g]?=some (.cells c t)
theorem Has.cell {w:World} {g:Nat} {c:Array Value} {t:TypeId} (h:Has w g c t) (i:Nat):w.cell? ⟨g,i,none⟩=c[i]?:=cell_of_row w g i c t _ h
theorem Has.lt {w:World} {g:Nat} {c:Array Value} {t:TypeId} (h:Has w g c t):g<w.heap.size:=(Array.getElem?_eq_some_iff.1 h).1
theorem Has.frozen {w:World} {g:Nat} {c:Array Value} {t:TypeId} (h:Has w g c t) (i:Nat):w.frozen? ⟨g,i,none⟩=false:=by
  have e:w.heap[g]?=some (.cells c t):=h
  simp [World.frozen?,e]
theorem Has.set {w:World} {g:Nat} {c:Array Value} {t:TypeId} (h:Has w g c t) (i:Nat) (v:Value):Has (w.setCell ⟨g,i,none⟩ v) g (c.setIfInBounds i v) t:=by
  have e:w.heap[g]?=some (.cells c t):=h
  unfold Has
  rw [setCell_eq_setRow w g i c t _ v e,setRow_heap w g c _ t _ e]
theorem Has.other {w:World} {g:Nat} {c:Array Value} {t:TypeId} (h:Has w g c t) {a:Addr} (ha:g≠a.block) (v:Value):Has (w.setCell a v) g c t:=by
  have e:w.heap[g]?=some (.cells c t):=h
  unfold Has
  rw [Below.heap_setCell w a v g ha,e]
theorem Has.below {B:Nat} {w w':World} {g:Nat} {c:Array Value} {t:TypeId} (h:Has w g c t) (hb:Below B w w') (hg:g<B):Has w' g c t:=(hb.block g hg).trans h
theorem Has.keep {w w':World} {g:Nat} {c:Array Value} {t:TypeId} (h:Has w g c t) (hb:Below w.heap.size w w'):Has w' g c t:=h.below hb h.lt
theorem Has.alloc {w:World} {g:Nat} {c:Array Value} {t:TypeId} (h:Has w g c t) (o:Obj):Has (w.alloc o) g c t:=by
  have e:w.heap[g]?=some (.cells c t):=h
  unfold Has
  rw [Below.heap_alloc w o g h.lt,e]
theorem Has.new (w:World) (c:Array Value) (t:TypeId):Has (w.alloc (.cells c t)) w.heap.size c t:=heap_alloc_new w _
theorem Has.at (w:World) (c:Array Value) (t:TypeId) {g:Nat} (hg:g=w.heap.size):Has (w.alloc (.cells c t)) g c t:=by subst hg;exact Has.new w c t
theorem Has.row {w:World} {g:Nat} {c:Array Value} {t:TypeId} (h:Has w g c t) (c':Array Value):Has (w.setRow g c') g c' t:=setRow_heap w g c c' t _ h
theorem Has.row_other {w:World} {g k:Nat} {c:Array Value} {t:TypeId} (h:Has w g c t) (hk:g≠k) (c':Array Value):Has (w.setRow k c') g c t:=by
  have e:w.heap[g]?=some (.cells c t):=h
  unfold Has
  rw [setRow_other w k g c' hk,e]
theorem Has.drewN {w:World} {g:Nat} {c:Array Value} {t:TypeId} (h:Has w g c t) (n:Nat):Has (w.drewN n) g c t:=h
theorem z55 {w:World} {b i j:Nat} (h:i≠j) (v:Value):(w.setCell ⟨b,i,none⟩ v).cell? ⟨b,j,none⟩=w.cell? ⟨b,j,none⟩:=World.cell?_setCell_other w _ _ v (fun e=>h (congrArg Addr.off e))
theorem z0d {B g:Nat} {w0 w:World} (hb:Below B w0 w) (hBg:B≤g) (cs:Array Value):Below B w0 (w.setRow g cs):=
  ⟨hb.os,hb.tape,hb.output,by have:=hb.size;simpa [World.setRow] using this,fun k hk=>by rw [setRow_other w g k cs (by omega)];exact hb.block k hk⟩
end Go.Proofs.YthpdlnbbbcgemaaGreatDoor

namespace Go.Proofs.YthpdlnbbbcgemaaGreatDoor
open Go.RowKit Go.Maps
set_option maxRecDepth 100000
theorem z8v:laidOutB Tryz.prog=true:=by kernel_rfl
theorem zap:(79:TypeId)<Tryz.prog.types.size:=of_decide_eq_true (by kernel_rfl)
theorem ze3:(match Tryz.prog.underlying 79 with | some (.array _ _) | some (.struct _)=>true | _=>false)=true:=by rw [Tryz.underlying79]
theorem law:Keyed Tryz.prog 79:=Keyed.of_law (deep_law_laid z8v (m:=2) (by omega) zap (by kernel_rfl) ze3)
def KL (h k:Nat):Lit:=.string (keyBytes [.int .u8 (h:Int),.int .u64 (k:Int)])
theorem z3Q {h k:Nat} (hh:h<256) (hk:k<2 ^ 64):keyOf Tryz.prog 79 (SPOT h k)=some (KL h k):=by
  have w0:(Lit.int .u8 (h:Int)).wf=true:=WalkArith.wf_u8 (by omega)
  have w1:(Lit.int .u64 (k:Int)).wf=true:=WalkArith.wf_u64 (by omega)
  have c3:Tryz.prog.cellsOf 79=2:=by kernel_rfl
  have c1:Tryz.prog.cellsOf 5=1:=by kernel_rfl
  have c2:Tryz.prog.cellsOf 22=1:=by kernel_rfl
  have ht:Tryz.prog.keyType 79=true:=by kernel_rfl
  have hf:(SPOT h k).formed Tryz.prog 79=true:=by simp [Value.formed,Tryz.underlying79,c3]
  obtain ⟨m,hm⟩:∃ m,Tryz.prog.types.size=m+1:=⟨Tryz.prog.types.size - 1,(Nat.succ_pred_eq_of_pos (Nat.lt_of_le_of_lt (Nat.zero_le _) zap)).symm⟩
  unfold keyOf
  simp only [Tryz.underlying79,ht,hf,hm]
  simp [Program.keyLits,Tryz.underlying79,Tryz.underlying5,Tryz.underlying22,c1,c2,c3,Value.cells,w0,w1,KL]
theorem zcv {h k h' k':Nat} (hh:h<256) (hk:k<2 ^ 64) (hh':h'<256) (hk':k'<2 ^ 64) (e:KL h k=KL h' k'):h=h'∧k=k':=by
  have h1:=z3Q hh hk
  have h2:=z3Q hh' hk'
  rw [← e] at h2
  have:=law.inj h1 h2
  simp at this
  omega
abbrev U64 (n:Nat):DataW Unit:=.lit (.int .u64 (n:Int))
def MapOk (D:DataW Unit) (m:Nat):Prop:=∀ h k,h<256→k<2 ^ 64→(Maps.has D (KL h k)=true↔Node h k∧PLC h k<m)∧(Node h k→PLC h k<m→D.atKey (KL h k) (U64 0)=U64 (PLC h k))
theorem MapOk.none:MapOk (.map []) 0:=fun h k _ _=>⟨⟨fun e=>by simp [Maps.has] at e,fun e=>by omega⟩,fun _ e=>by omega⟩
theorem Node.small {h k:Nat} (a:Node h k):h<256∧k<2 ^ 64:=⟨by have:=a.1;omega,by have:=a.index_lt;omega⟩
theorem MapOk.put {D:DataW Unit} {m h k:Nat} (hD:Maps.IsMap D) (hM:MapOk D m) (hN:Node h k) (hp:PLC h k=m):MapOk (D.put (KL h k) (U64 m)) (m+1):=by
  intro h' k' hh' hk'
  obtain ⟨hh,hk⟩:=hN.small
  have hkey:WideAt.IsKeyLit (KL h k):=law.key (z3Q hh hk)
  by_cases e:KL h' k'=KL h k
  · obtain ⟨rfl,rfl⟩:=zcv hh' hk' hh hk e
    exact ⟨⟨fun _=>⟨hN,by omega⟩,fun _=>Maps.has_put_same hD hkey _⟩,fun _ _=>by rw [Maps.atKey_put_same hD hkey,hp]⟩
  · have hne:∀ _:Node h' k',PLC h' k'≠m:=fun hN' e2=>e (by obtain ⟨rfl,rfl⟩:=hN'.one hN (by omega);rfl)
    rw [Maps.has_put_other e,Maps.atKey_put_other e]
    obtain ⟨a,b⟩:=hM h' k' hh' hk'
    refine ⟨⟨fun h=>?_,fun h=>?_⟩,fun h1 h2=>b h1 (by have:=hne h1;omega)⟩
    · have:=a.1 h
      exact ⟨this.1,by omega⟩
    · exact a.2 ⟨h.1,by have:=hne h.1;omega⟩
def Placed (w:World) (b m:Nat):Prop:=∃ D:DataW Unit,w.ownsMap Tryz.prog 79 (plainElem Tryz.prog 22) b m D∧MapOk D m
theorem Placed.made (w:World):Placed (w.alloc (.map #[] 0)) w.heap.size 0:=⟨_,World.ownsMap_made w _ _ _,MapOk.none⟩
theorem Placed.kept {w w':World} {b m:Nat} {row:Option Nat} (h:Placed w b m) (hg:w.grownBy w' row) (hne:some b≠row):Placed w' b m:=let ⟨D,h1,h2⟩:=h; ⟨D,h1.kept hg hne,h2⟩
theorem Placed.lt {w:World} {b m:Nat} (h:Placed w b m):b<w.heap.size:=let ⟨_,h1,_⟩:=h;h1.lt
theorem Placed.below {w w':World} {b m:Nat} (h:Placed w b m) (hb:Below w.heap.size w w'):Placed w' b m:=by
  have hlt:=h.lt
  obtain ⟨D,⟨es,clock,h1,r⟩,h2⟩:=h
  exact ⟨D,⟨es,clock,(hb.block b hlt).trans h1,r⟩,h2⟩
theorem Placed.alloc {w:World} {b m:Nat} (h:Placed w b m) (o:Obj):Placed (w.alloc o) b m:=h.below ((Below.refl _ _).alloc (Nat.le_refl _) _)
theorem Placed.setCell {w:World} {b m:Nat} (h:Placed w b m) {a:Addr} (ha:b≠a.block) (u:Value):Placed (w.setCell a u) b m:=let ⟨D,h1,h2⟩:=h; ⟨D,h1.setCell ha u,h2⟩
end Go.Proofs.YthpdlnbbbcgemaaGreatDoor

namespace Go.Proofs.YthpdlnbbbcgemaaGreatDoor
open Go.RowKit
def BARR (n:Nat) (f:Nat→Int):Array Value:=((List.range n).map fun i=>Value.int .u8 (f i)).toArray
theorem z2h (n:Nat) (f:Nat→Int):(BARR n f).size=n:=by simp [BARR]
theorem z1P (n:Nat) (f:Nat→Int) (i:Nat) (h:i<n):(BARR n f)[i]?=some (.int .u8 (f i)):=by simp [BARR,h]
theorem z8w {n:Nat} {f g:Nat→Int} (h:∀ i,i<n→f i=g i):BARR n f=BARR n g:=by
  unfold BARR
  congr 1
  apply List.map_congr_left
  intro i hi
  rw [h i (by simpa using hi)]
theorem z5E (n:Nat) (f:Nat→Int) (i:Nat) (v:Int):(BARR n f).setIfInBounds i (.int .u8 v)=BARR n fun j=>if j=i then v else f j:=by
  apply Array.ext_getElem?
  intro j
  by_cases hj:j<n
  · rw [z1P _ _ j hj,Array.getElem?_setIfInBounds]
    by_cases h:i=j
    · subst h
      simp [z2h,hj]
    · have h':¬ j=i:=fun e=>h e.symm
      simp [h,h',z1P _ _ j hj]
  · rw [Array.getElem?_eq_none (by simp [z2h];omega),Array.getElem?_eq_none (by simp [z2h];omega)]
theorem z4y (n:Nat):madeCells #[Value.int .u8 0] n=BARR n fun _=>0:=by
  apply Array.ext_getElem?
  intro j
  by_cases hj:j<n
  · rw [z1P _ _ j hj]
    simp [madeCells,hj,Nat.mod_one]
  · rw [Array.getElem?_eq_none (by simp [madeCells];omega),Array.getElem?_eq_none (by simp [z2h];omega)]
theorem z0R:(Tryz.prog.info? 5).map (fun i=>(i.zero,i.size,i.bytes))=some (some (.int .u8 0),1,1):=by kernel_rfl
theorem z66 (n:Nat) (hn:n≤1000000) (w:World):(Instr.makeSlice 25 (.int .i64 (n:Int)) (.int .i64 (n:Int))).run Tryz.prog w=.ok (.slice (some ⟨w.heap.size,0,none⟩) n n) (w.alloc (.cells (BARR n fun _=>0) 5)):=by
  rw [run_make_row' 25 5 (.int .u8 0) 1 Tryz.underlying25 z0R rfl .i64 .i64 n (by omega) (by omega) w,z4y]
def IsRow (k:IntKind) (w:World) (a:Option Addr) (len cap:Nat) (zs:List Int):Prop:=
  (a=none∧len=0∧cap=0∧zs=[])∨
  ∃ x,a=some x∧len≤cap∧cap≤maxLen∧zs.length=cap∧(∀ i,i<zs.length→w.cell? (x.add i)=some (.int k (zs.getD i 0)))∧∀ n∈zs,(Lit.int k n).wf=true
def Bytes (w:World) (a:Option Addr) (n:Nat) (l:List Int):Prop:=
  l.length=n∧(0<n→∃ b off,a=some ⟨b,off,none⟩∧b<w.heap.size∧∀ i,i<n→w.cell? ⟨b,off+i,none⟩=some (.int .u8 (l.getD i 0)))∧∀ x∈l,0≤x∧x≤255
theorem Bytes.below {w w':World} {a:Option Addr} {n:Nat} {l:List Int} (h:Bytes w a n l) (hb:Below w.heap.size w w'):Bytes w' a n l:=
  ⟨h.1,fun hn=>by
    obtain ⟨b,off,e,hl,hc⟩:=h.2.1 hn
    exact ⟨b,off,e,Nat.lt_of_lt_of_le hl hb.size,fun i hi=>(hb.cell (by exact hl)).trans (hc i hi)⟩,h.2.2⟩
theorem Bytes.get {w:World} {a:Option Addr} {n:Nat} {l:List Int} (h:Bytes w a n l) (i:Nat):0≤l.getD i 0∧l.getD i 0≤255:=by
  by_cases hi:i<l.length
  · rw [List.getD_eq_getElem?_getD,List.getElem?_eq_getElem hi]
    exact h.2.2 _ (List.getElem_mem hi)
  · rw [List.getD_eq_getElem?_getD,List.getElem?_eq_none (by omega)]
    simp
theorem z14 (b off i:Nat):(⟨b,off,none⟩:Addr).add i=⟨b,off+i,none⟩:=by unfold Addr.add;split <;> simp_all
theorem IsRow.bytes {w:World} {a:Option Addr} {n c:Nat} {zs:List Int} (h:IsRow .u8 w a n c zs):Bytes w a n (zs.take n):=by
  rcases h with ⟨rfl,rfl,rfl,rfl⟩ | ⟨x,rfl,hl,_,hz,hcell,hwf⟩
  · exact ⟨rfl,fun h=>by omega,fun x hx=>by simp at hx⟩
  · refine ⟨by simp [hz,hl],fun hn=>?_,fun y hy=>?_⟩
    · obtain ⟨b,off,spot⟩:=x
      have hc:=hcell 0 (by omega)
      have hspot:spot=none:=by simpa [Addr.add] using World.cell?_spot hc
      subst hspot
      refine ⟨b,off,rfl,block_lt_of_cell (by simpa [Addr.add] using hc),fun i hi=>?_⟩
      have:=hcell i (by omega)
      rw [z14] at this
      rw [this]
      congr 2
      simp [List.getD_eq_getElem?_getD,hi]
    · have:=bounds_u8 (hwf y (List.mem_of_mem_take hy))
      exact this
end Go.Proofs.YthpdlnbbbcgemaaGreatDoor

namespace Go.Proofs.YthpdlnbbbcgemaaGreatDoor
open Go.RowKit
theorem z4z {F f:Nat→Int} {i:Nat} {v:Int} (A:∀ j,f j=if j<i then F j else 0) (hv:v=F i):∀ j,(if j=i then v else f j)=if j<i+1 then F j else 0:=fun j=>by
  by_cases e:j=i
  · subst e
    simp [hv]
  · rw [if_neg e,A j]
    by_cases e2:j<i
    · rw [if_pos e2,if_pos (by omega)]
    · rw [if_neg e2,if_neg (by omega)]
theorem z6S (x:Int) (n:Nat) (F:Nat→Int) (hn:(n:Int)≤8) (w:World) (c:∀ w,Calls Tryz.prog 147 #[.int .u64 x,.int .i64 (8*(n:Int))] w fun e w'=>e=.returned (.int .u64 0)∧w=w')
    (ci:∀ i:Nat,i<n→∃ s:Int,Aside (s % 256=F i)∧∀ w,Calls Tryz.prog 147 #[.int .u64 x,.int .i64 (8*((n:Int) - 1 - (i:Int)))] w fun e w'=>e=.returned (.int .u64 s)∧w=w'):
    Calls Tryz.prog 132 #[.int .u64 x,.int .i64 (n:Int)] w fun e w'=>e=.returned (.tuple #[.slice (some ⟨w.heap.size,0,none⟩) n n,.int .i64 0])∧w.alloc (.cells (BARR n F) 5)=w':=by
  have hmk:=z66 n (by omega)
  have CI:Aside (∀ i:Nat,i<n→∃ s:Int,Aside (s % 256=F i)∧∀ w,Calls Tryz.prog 147 #[.int .u64 x,.int .i64 (8*((n:Int) - 1 - (i:Int)))] w fun e w'=>e=.returned (.int .u64 s)∧w=w'):=ci
  clear ci
  go_enter Tryz.func132,Tryz.ntmps132
  go_wp2_with fail
  refine (c _).mono ?_
  rintro e w' ⟨rfl,rfl⟩
  go_wp2
  go_loopg [23] n (fun g s23 wx=>∃ (i:Nat) (f:Nat→Int),i+g=n∧Aside (∀ j,f j=if j<i then F j else 0)∧s23=.int .i64 i∧wx=w.alloc (.cells (BARR n f) 5))
  case atStart=>exact ⟨0,fun _=>0,by omega,fun j=>by simp,rfl,rfl⟩
  case round=>
    obtain ⟨i,f,hig,A,rfl,rfl⟩:=hrel
    cases gk with
    | zero=>
      obtain rfl:i=n:=by omega
      have hf:BARR i f=BARR i F:=z8w fun j hj=>by rw [A.out j,if_pos hj]
      rw [hf]
      clear hf A
      go_wp2
      go_ret2
      exact ⟨rfl,rfl⟩
    | succ g=>
      have hi:(i:Int)<(n:Int):=by omega
      have hc:(BARR n f)[i]?=some (.int .u8 (f i)):=z1P n f i (by omega)
      have hs:∀ v,(BARR n f).setIfInBounds i (.int .u8 v)=BARR n (fun j=>if j=i then v else f j):=fun v=>z5E n f i v
      obtain ⟨s,hsF,cs⟩:=CI.out i (by omega)
      go_wp2_with fail
      refine (cs _).mono ?_
      rintro e w' ⟨rfl,rfl⟩
      go_wp2
      go_roundg g
      case measure=>omega
      case rel=>exact ⟨i+1,_,by omega,z4z A.out hsF.out,by go_num,rfl⟩
def BYTE (X n:Nat):Nat→Int:=fun i=>((X / 2 ^ (8*(n - 1 - i)) % 256:Nat):Int)
theorem zcw (X n:Nat) (hX:X<2 ^ 64) (hn:n≤8) (h:X / 2 ^ (8*n)=0) (w:World):
    Calls Tryz.prog 132 #[.int .u64 (X:Int),.int .i64 (n:Int)] w fun e w'=>e=.returned (.tuple #[.slice (some ⟨w.heap.size,0,none⟩) n n,.int .i64 0])∧w.alloc (.cells (BARR n (BYTE X n)) 5)=w':=by
  refine z6S X n (BYTE X n) (by omega) w (fun w=>?_) (fun i hi=>?_)
  · have k:=z2K X (8*(n:Int)) hX (by omega) (by omega) w
    have hs:SHR X (8*(n:Int))=0:=by
      unfold SHR
      rw [if_neg (by omega),show (8*(n:Int)).toNat=8*n by omega,h]
    rw [hs] at k
    exact k
  · refine ⟨(SHR X (8*((n:Int) - 1 - (i:Int))):Nat),?_,fun w=>z2K X _ hX (by omega) (by omega) w⟩
    unfold SHR BYTE Aside
    rw [if_neg (by omega),show (8*((n:Int) - 1 - (i:Int))).toNat=8*(n - 1 - i) by omega]
    simp
end Go.Proofs.YthpdlnbbbcgemaaGreatDoor

namespace Go.Proofs.YthpdlnbbbcgemaaGreatDoor
open Go.RowKit
def z01 (l:List Int):List Value:=l.map (Value.int .u8)
theorem z0x (a b:List Int):z01 (a ++ b)=z01 a ++ z01 b:=by simp [z01]
theorem z0A (l:List Int) (i:Nat) (h:i<l.length):(z01 l)[i]?=some (.int .u8 (l.getD i 0)):=by
  simp [z01,h,List.getD_eq_getElem?_getD]
theorem z1n (l:List Int):∀ u∈z01 l,u.oneCell'=true:=fun u hu=>by
  simp [z01] at hu
  obtain ⟨x,_,rfl⟩:=hu
  rfl
theorem z1l:∃ i,Tryz.prog.info? 5=some i∧i.zero=some (.int .u8 0)∧i.size=1∧i.bytes=1:=by
  obtain ⟨i,hi,h⟩:=Option.map_eq_some_iff.1 z0R
  simp only [Prod.mk.injEq] at h
  exact ⟨i,hi,h.1,h.2.1,h.2.2⟩
theorem z1o {ops:Array Oper} {rest:List Oper} {o:Oper} {a:Act} {Q:Exit→Act→World→Prop} (w:World) (hgd:o.guard=none) (s x:Operand)
    (ho:o.op=.call {callee:=.builtin .append,args:=#[s,x],argTypes:=#[25,25]})
    (base:Nat) (v:Value) (n:Nat) (xs:List Int) (hs:a.eval s=v) (hown:w.ownsRow base 5 1 v n (z01 xs))
    (b off m c:Nat) (l:List Int) (hx:a.eval x=.slice (some ⟨b,off,none⟩) m c) (hB:Bytes w (some ⟨b,off,none⟩) m l)
    (hm:0<m) (hb:n+m≤140737488355328) (hbase:base≤w.heap.size)
    (h:∀ g cap w',w'.ownsRow base 5 1 (.slice (some ⟨g,0,none⟩) (n+m) cap) (n+m) (z01 (xs ++ l))→w.grownBy w' v.ownBlock→g<w'.heap.size→wpList Tryz.prog ops Q rest (a.put o.dst (.slice (some ⟨g,0,none⟩) (n+m) cap)) w'):wpList Tryz.prog ops Q (o :: rest) a w:=by
  obtain ⟨i,hi,hz,hs1,hby⟩:=z1l
  obtain ⟨b',off',e,_,hc⟩:=hB.2.1 hm
  simp only [Option.some.injEq,Addr.mk.injEq] at e
  obtain ⟨rfl,rfl,_⟩:=e
  refine wpList_append_lies w hgd s x 25 ho base 5 i (.int .u8 0) 1 1 Tryz.underlying25 hi hz hs1 hby rfl (by decide) v n (z01 xs) hs hown ⟨b,off,none⟩ m c (z01 l) hx (by simp [z01,hB.1]) ?_ (z1n l) hm (by simp only [maxLen];omega) (by omega) hbase w.heap.size rfl ?_
  · intro j u hj
    have hjl:j<l.length:=by
      have:=(List.getElem?_eq_some_iff.1 hj).1
      simpa [z01] using this
    rw [z0A l j hjl] at hj
    rw [z14,hc j (by rw [← hB.1];exact hjl)]
    exact hj
  · intro g cap w' h1 h2 _ h4
    rw [← z0x] at h1
    exact h g cap w' h1 h2 h4
theorem z2Y (w:World) (row:Option Nat):w.grownBy w row:=⟨rfl,rfl,rfl,Nat.le_refl _,fun _ _ _=>rfl⟩
theorem z5F {ops:Array Oper} {rest:List Oper} {o:Oper} {a:Act} {Q:Exit→Act→World→Prop} (w:World) (hgd:o.guard=none) (s x:Operand)
    (ho:o.op=.call {callee:=.builtin .append,args:=#[s,x],argTypes:=#[25,25]})
    (base:Nat) (v:Value) (n:Nat) (xs:List Int) (hs:a.eval s=v) (hown:w.ownsRow base 5 1 v n (z01 xs))
    (ao:Option Addr) (c:Nat) (hx:a.eval x=.slice ao 0 c) (hc:ao=none→c=0) (hn:n≤140737488355328) (hbase:base≤w.heap.size)
    (h:∀ a' c' w',w'.ownsRow base 5 1 (.slice a' n c') n (z01 xs)→w.grownBy w' v.ownBlock→wpList Tryz.prog ops Q rest (a.put o.dst (.slice a' n c')) w'):wpList Tryz.prog ops Q (o :: rest) a w:=by
  obtain ⟨i,hi,hz,hs1,hby⟩:=z1l
  have form:∀ (v':Value) (w':World),w'.ownsRow base 5 1 v' n (z01 xs)→∃ a' c',v'=.slice a' n c':=fun v' w' h=>by
    rcases h.2 with ⟨rfl,rfl⟩ | ⟨g,cap,cur,rfl,_⟩
    · exact ⟨none,0,rfl⟩
    · exact ⟨_,cap,rfl⟩
  cases ao with
  | none=>
    obtain rfl:=hc rfl
    refine wpList_append_own_none hgd s x 25 ho base 5 i 1 Tryz.underlying25 hi v n (z01 xs) hs hown hx ?_
    obtain ⟨a',c',rfl⟩:=form v w hown
    exact h a' c' w hown (z2Y _ _)
  | some ad=>
    refine wpList_append_own w hgd s x 25 ho base 5 i (.int .u8 0) 1 1 Tryz.underlying25 hi hz hs1 hby rfl (by decide) v n (z01 xs) hs hown ad 0 c [] hx rfl (fun j u hj=>by simp at hj) (fun u hu=>by simp at hu) (by simp only [maxLen];omega) (by omega) hbase ?_
    intro v' w' h1 h2 _
    simp only [Nat.add_zero,List.append_nil] at h1
    obtain ⟨a',c',rfl⟩:=form v' w' h1
    exact h a' c' w' h1 h2
theorem z2L {w:World} {base g n cap:Nat} {l:List Int} (h:w.ownsRow base 5 1 (.slice (some ⟨g,0,none⟩) n cap) n (z01 l)) (hg:g<w.heap.size) (hl:∀ x∈l,0≤x∧x≤255):Bytes w (some ⟨g,0,none⟩) n l:=by
  have hlen:l.length=n:=by have:=h.1;simpa [z01] using this
  refine ⟨hlen,fun _=>⟨g,0,rfl,hg,fun i hi=>?_⟩,hl⟩
  rw [Nat.zero_add,h.cellAt i (by omega),z0A l i (by omega)]
theorem z4A (w:World) (base:Nat) (hb:base≤w.heap.size):(w.alloc (.cells #[] 5)).ownsRow base 5 1 (.slice (some ⟨w.heap.size,0,none⟩) 0 0) 0 (z01 []):=
  World.ownsRow_lit w #[] 0 hb (by simp [maxLen]) rfl
theorem z2M (w:World) (n:Nat) (f:Nat→Int) (l:List Int) (hl:l.length=n) (hf:∀ i,i<n→f i=l.getD i 0) (hr:∀ x∈l,0≤x∧x≤255):Bytes (w.alloc (.cells (BARR n f) 5)) (some ⟨w.heap.size,0,none⟩) n l:=by
  refine ⟨hl,fun _=>⟨w.heap.size,0,rfl,by simp,fun i hi=>?_⟩,hr⟩
  rw [Nat.zero_add,World.cell?_alloc_at _ _ _ _ rfl,z1P n f i hi,hf i hi]
theorem z0X {w:World} {base n c:Nat} {a:Option Addr} {l:List Int} (h:w.ownsRow base 5 1 (.slice a n c) n (z01 l)) (hl:∀ x∈l,0≤x∧x≤255):Bytes w a n l∧n≤c:=by
  rcases h.2 with ⟨hv,hn⟩ | ⟨g,cap,cur,hv,_,hg,hc,_⟩
  · simp only [Value.slice.injEq] at hv
    obtain ⟨rfl,rfl,rfl⟩:=hv
    have:l=[]:=by have:=h.1;simpa [z01] using this
    subst this
    exact ⟨⟨rfl,fun h=>by omega,fun x hx=>by simp at hx⟩,Nat.le_refl _⟩
  · simp only [Value.slice.injEq] at hv
    obtain ⟨rfl,_,rfl⟩:=hv
    exact ⟨z2L h (Array.getElem?_eq_some_iff.1 hg).1 hl,hc⟩
theorem z3R {ops:Array Oper} {rest:List Oper} {o:Oper} {a:Act} {Q:Exit→Act→World→Prop} (w:World) (hgd:o.guard=none) (s x:Operand)
    (ho:o.op=.call {callee:=.builtin .append,args:=#[s,x],argTypes:=#[25,25]})
    (base:Nat) (v:Value) (n:Nat) (xs:List Int) (hs:a.eval s=v) (hown:w.ownsRow base 5 1 v n (z01 xs))
    (ao:Option Addr) (m c:Nat) (l:List Int) (hx:a.eval x=.slice ao m c) (hB:Bytes w ao m l) (hc:ao=none→c=0)
    (N:Nat) (L:List Int) (hN:n+m=N) (hL:xs ++ l=L) (hb:N≤140737488355328) (hbase:base≤w.heap.size)
    (h:∀ a' c' w',w'.ownsRow base 5 1 (.slice a' N c') N (z01 L)→w.grownBy w' v.ownBlock→wpList Tryz.prog ops Q rest (a.put o.dst (.slice a' N c')) w'):wpList Tryz.prog ops Q (o :: rest) a w:=by
  subst hN hL
  rcases Nat.eq_zero_or_pos m with hm | hm
  · subst hm
    have hl:l=[]:=by have:=hB.1;simpa using this
    subst hl
    refine z5F w hgd s x ho base v n xs hs hown ao c hx hc (by omega) hbase ?_
    simpa using h
  · obtain ⟨b,off,rfl,_,_⟩:=hB.2.1 hm
    refine z1o w hgd s x ho base v n xs hs hown b off m c l hx hB hm hb hbase ?_
    intro g cap w' h1 h2 _
    exact h _ cap w' h1 h2
end Go.Proofs.YthpdlnbbbcgemaaGreatDoor

namespace Go.Proofs.YthpdlnbbbcgemaaGreatDoor
open Go.RowKit
def z1p (X j:Nat):List Int:=(List.range j).map fun i=>((X / 128 ^ i % 128+128:Nat):Int)
theorem z9z (X j:Nat):z1p X (j+1)=z1p X j ++ [((X / 128 ^ j % 128+128:Nat):Int)]:=by simp [z1p,List.range_succ]
theorem z28 (X j:Nat):(z1p X j).length=j:=by simp [z1p]
def TOPG (X:Nat):Nat→Nat
  | 0=>0
  | k+1=>if X<128 then 0 else TOPG (X / 128) k+1
def NTOP (X:Nat):Nat:=TOPG X 9
def z0w (X:Nat):List Int:=z1p X (NTOP X) ++ [((X / 128 ^ NTOP X:Nat):Int)]
theorem z17 (X:Nat):(z0w X).length=NTOP X+1:=by simp [z0w,z28]
theorem zaq:∀ (k X:Nat),TOPG X k≤k
  | 0,_=>Nat.le_refl _
  | k + 1,X=>by
    unfold TOPG
    split
    · omega
    · have:=zaq k (X / 128)
      omega
theorem z43:∀ (k X j:Nat),j<TOPG X k→128≤X / 128 ^ j
  | 0,_,_,h=>by simp [TOPG] at h
  | k + 1,X,j,h=>by
    unfold TOPG at h
    split at h
    · omega
    · cases j with
      | zero=>simp;omega
      | succ j=>
        have:=z43 k (X / 128) j (by omega)
        rw [Nat.div_div_eq_div_mul,Nat.mul_comm,← Nat.pow_succ] at this
        exact this
theorem zar:∀ (k X:Nat),X<128 ^ (k+1)→X / 128 ^ TOPG X k<128
  | 0,X,h=>by simpa [TOPG] using h
  | k + 1,X,h=>by
    unfold TOPG
    split
    · simpa using ‹X<128›
    · have:=zar k (X / 128) (by rw [Nat.pow_succ] at h;exact Nat.div_lt_of_lt_mul (by omega))
      rw [Nat.div_div_eq_div_mul,Nat.mul_comm,← Nat.pow_succ] at this
      exact this
theorem z6T (X:Nat):NTOP X≤9:=zaq 9 X
theorem z6U {X:Nat} (hX:X<2 ^ 64):X / 128 ^ NTOP X<128:=zar 9 X (Nat.lt_of_lt_of_le hX (by decide))
theorem zas {X:Nat} (hX:X<2 ^ 64) {j:Nat} (hj:∀ i,i<j→128≤X / 128 ^ i) (h:X / 128 ^ j<128):NTOP X=j:=by
  rcases Nat.lt_trichotomy (NTOP X) j with h1 | h1 | h1
  · have:=hj _ h1
    have:=z6U hX
    omega
  · exact h1
  · have:=z43 9 X j h1
    omega
theorem ze4 (X:Nat) {i j:Nat} (h:i≤j):X / 128 ^ j≤X / 128 ^ i:=Nat.div_le_div_left (Nat.pow_le_pow_right (by decide) h) (Nat.pow_pos (by decide))
theorem z8x (X j:Nat):∀ x∈z1p X j,0≤x∧x≤255:=fun x hx=>by
  simp only [z1p,List.mem_map] at hx
  obtain ⟨i,_,rfl⟩:=hx
  omega
theorem z5b {X:Nat} (hX:X<2 ^ 64):∀ x∈z0w X,0≤x∧x≤255:=fun x hx=>by
  simp only [z0w,List.mem_append,List.mem_singleton] at hx
  rcases hx with hx | rfl
  · exact z8x X _ x hx
  · have:=z6U hX
    generalize X / 128 ^ NTOP X=y at *
    omega
theorem z3s (w:World) (v:Int) (h0:0≤v) (h1:v≤255):Bytes (w.alloc (.cells #[.int .u8 v] 5)) (some ⟨w.heap.size,0,none⟩) 1 [v]:=by
  refine ⟨rfl,fun _=>⟨w.heap.size,0,rfl,by simp,fun i hi=>?_⟩,fun x hx=>by simp at hx;omega⟩
  obtain rfl:i=0:=by omega
  rw [Nat.zero_add,World.cell?_alloc_at _ _ _ _ rfl]
  rfl
end Go.Proofs.YthpdlnbbbcgemaaGreatDoor

namespace Go.Proofs.YthpdlnbbbcgemaaGreatDoor
abbrev Fit (a h b:Nat):Prop:=a % 2 ^ h=0∧a+2 ^ h≤b
theorem Fit.down {a h b:Nat} (f:Fit a (h+1) b):Fit a h b:=by
  have h1:2 ^ (h+1)=2 ^ h*2:=Nat.pow_succ 2 h
  have h2:=f.2
  refine ⟨?_,by omega⟩
  have h3:=f.1
  have h4:2 ^ h ∣ 2 ^ (h+1):=⟨2,h1⟩
  exact Nat.mod_eq_zero_of_dvd (Nat.dvd_trans h4 (Nat.dvd_of_mod_eq_zero h3))
theorem Fit.le {a g b:Nat}:∀ h,h≤g→Fit a g b→Fit a h b:=by
  intro h hg f
  induction g with
  | zero => obtain rfl:h=0:=by omega
            exact f
  | succ g ih=>
    rcases Nat.lt_or_ge h (g+1) with h1 | h1
    · exact ih (by omega) f.down
    · obtain rfl:h=g+1:=by omega
      exact f
theorem Fit.zero {a b:Nat} (h:a<b):Fit a 0 b:=⟨Nat.mod_one a,by simp;omega⟩
def HTF:Nat→Nat→Nat→Nat
  | 0,_,_=>0
  | f+1,a,b=>if Fit a (f+1) b then f+1 else HTF f a b
def HT (a b:Nat):Nat:=HTF 62 a b
theorem ze5 {a b:Nat} (hab:a<b):∀ f,¬ Fit a (f+1) b→HTF f a b≤f∧Fit a (HTF f a b) b∧¬ Fit a (HTF f a b+1) b:=by
  intro f
  induction f with
  | zero=>intro h;exact ⟨Nat.le_refl _,Fit.zero hab,h⟩
  | succ f ih=>
    intro h
    unfold HTF
    split
    · rename_i h1
      exact ⟨Nat.le_refl _,h1,h⟩
    · rename_i h1
      have:=ih h1
      exact ⟨by omega,this.2⟩
theorem z1Y {a b:Nat} (hab:a<b) (hb:b≤4611686018427387904):HT a b≤62∧Fit a (HT a b) b∧¬ Fit a (HT a b+1) b:=by
  refine ze5 hab 62 ?_
  intro h
  have:=h.2
  simp at this
  omega
theorem z6V {a b h:Nat} (hab:a<b) (hb:b≤4611686018427387904) (h1:Fit a h b) (h2:¬ Fit a (h+1) b):h=HT a b:=by
  obtain ⟨_,a1,a2⟩:=z1Y hab hb
  rcases Nat.lt_trichotomy h (HT a b) with c | c | c
  · exact absurd (a1.le (h+1) (by omega)) h2
  · exact c
  · exact absurd (h1.le (HT a b+1) (by omega)) a2
def z44:Nat→Nat→Nat→List (Nat × Nat)
  | 0,_,_=>[]
  | f+1,a,b=>if a<b then (HT a b,a / 2 ^ HT a b) :: z44 f (a+2 ^ HT a b) b else []
def SPAN (a b:Nat):List (Nat × Nat):=z44 (b - a) a b
theorem zb9:∀ f g a b,b - a≤f→b - a≤g→z44 f a b=z44 g a b:=by
  intro f
  induction f with
  | zero=>
    intro g a b h1 h2
    cases g with
    | zero=>rfl
    | succ g=>simp [z44];omega
  | succ f ih=>
    intro g a b h1 h2
    cases g with
    | zero=>simp [z44];omega
    | succ g=>
      unfold z44
      have:=Nat.two_pow_pos (HT a b)
      rw [ih g (a+2 ^ HT a b) b (by omega) (by omega)]
theorem z0W {a b:Nat} (h:b≤a):SPAN a b=[]:=by
  unfold SPAN
  rw [show b - a=0 by omega]
  rfl
theorem z1f {a b:Nat} (h:a<b):SPAN a b=(HT a b,a / 2 ^ HT a b) :: SPAN (a+2 ^ HT a b) b:=by
  unfold SPAN
  obtain ⟨f,hf⟩:∃ f,b - a=f+1:=⟨b - a - 1,by omega⟩
  have:=Nat.two_pow_pos (HT a b)
  rw [hf]
  show (if a<b then _ else _)=_
  rw [if_pos h]
  congr 1
  exact zb9 _ _ _ _ (by omega) (by omega)
def Tile:Nat→List (Nat × Nat)→Nat→Prop
  | a,[],b=>a=b
  | a,s :: l,b=>Node s.1 s.2∧s.2*2 ^ s.1=a∧Tile ((s.2+1)*2 ^ s.1) l b
abbrev Sibs (x y:Nat × Nat):Prop:=x.1=y.1∧x.2 % 2=0∧y.2=x.2+1
def Irr:List (Nat × Nat)→Prop
  | []=>True
  | x :: l=>(∀ y,l.head?=some y→¬ Sibs x y)∧Irr l
theorem Fit.node {a h b:Nat} (f:Fit a h b) (hh:h≤62) (hb:b≤4611686018427387904):Node h (a / 2 ^ h)∧a / 2 ^ h*2 ^ h=a∧(a / 2 ^ h+1)*2 ^ h=a+2 ^ h:=by
  have h1:a / 2 ^ h*2 ^ h=a:=Nat.div_mul_cancel (Nat.dvd_of_mod_eq_zero f.1)
  have h2:(a / 2 ^ h+1)*2 ^ h=a+2 ^ h:=by rw [Nat.add_mul,Nat.one_mul,h1]
  refine ⟨⟨hh,?_⟩,h1,h2⟩
  have h3:(a / 2 ^ h+1)*2 ^ h≤2 ^ (62 - h)*2 ^ h:=by
    rw [h2,← Nat.pow_add,show 62 - h+h=62 by omega]
    have:=f.2
    simp
    omega
  exact Nat.le_of_mul_le_mul_right h3 (Nat.two_pow_pos h)
theorem z25 (h:Nat):2 ^ (h+1)=2*2 ^ h:=by rw [Nat.pow_succ,Nat.mul_comm]
theorem z2A {k h:Nat}:k*2 ^ h % 2 ^ (h+1)=0↔k % 2=0:=by
  rw [Nat.pow_succ,Nat.mul_comm (2 ^ h) 2,Nat.mul_mod_mul_right]
  have:=Nat.two_pow_pos h
  constructor
  · intro e
    rcases Nat.mul_eq_zero.1 e with e | e
    · exact e
    · omega
  · intro e
    rw [e,Nat.zero_mul]
theorem zcx {b:Nat} (hb:b≤4611686018427387904):∀ f a,b - a≤f→a≤b→Tile a (SPAN a b) b:=by
  intro f
  induction f with
  | zero=>
    intro a h1 h2
    rw [z0W (by omega)]
    exact (by omega:a=b)
  | succ f ih=>
    intro a h1 h2
    rcases Nat.lt_or_ge a b with h | h
    · obtain ⟨s1,s2,_⟩:=z1Y h hb
      obtain ⟨n1,n2,n3⟩:=s2.node s1 hb
      rw [z1f h]
      refine ⟨n1,n2,?_⟩
      show Tile ((a / 2 ^ HT a b+1)*2 ^ HT a b) _ b
      rw [n3]
      have:=Nat.two_pow_pos (HT a b)
      exact ih _ (by omega) s2.2
    · rw [z0W h]
      exact (by omega:a=b)
theorem z0Y {a b:Nat} (hb:b≤4611686018427387904) (h:a≤b):Tile a (SPAN a b) b:=zcx hb (b - a) a (Nat.le_refl _) h
theorem Tile.bound {l:List (Nat × Nat)}:∀ {a b:Nat},Tile a l b→a≤b∧(l≠[]→a<b∧b≤4611686018427387904):=by
  induction l with
  | nil=>intro a b h;exact ⟨by have:a=b:=h;omega,fun h=>absurd rfl h⟩
  | cons s l ih=>
    intro a b ⟨h1,h2,h3⟩
    have i:=ih h3
    have:=Nat.two_pow_pos s.1
    have e:(s.2+1)*2 ^ s.1=s.2*2 ^ s.1+2 ^ s.1:=by rw [Nat.add_mul,Nat.one_mul]
    refine ⟨by omega,fun _=>⟨by omega,?_⟩⟩
    cases l with
    | nil=>
      have h4:(s.2+1)*2 ^ s.1=b:=h3
      have:=h1.span
      simp at this
      omega
    | cons t l=>exact (i.2 (by simp)).2
theorem z7m {l:List (Nat × Nat)}:∀ {a b:Nat},Tile a l b→Irr l→l=SPAN a b:=by
  induction l with
  | nil=>
    intro a b h _
    have:a=b:=h
    rw [z0W (by omega)]
  | cons s l ih=>
    intro a b ht hi
    obtain ⟨h1,h2,h3⟩:=ht
    obtain ⟨hab,hb⟩:=(Tile.bound (l:=s :: l) ⟨h1,h2,h3⟩).2 (by simp)
    have e:(s.2+1)*2 ^ s.1=s.2*2 ^ s.1+2 ^ s.1:=by rw [Nat.add_mul,Nat.one_mul]
    have hl:=ih h3 hi.2
    have hle:=h3.bound.1
    have hpos:=Nat.two_pow_pos s.1
    have hf:Fit a s.1 b:=⟨by rw [← h2];exact Nat.mul_mod_left _ _,by omega⟩
    have hn:¬ Fit a (s.1+1) b:=by
      intro hf2
      have hk:s.2 % 2=0:=z2A.1 (by rw [h2];exact hf2.1)
      have p2:=z25 s.1
      have hf3:=hf2.2
      have hlt:(s.2+1)*2 ^ s.1<b:=by omega
      have hF1:Fit ((s.2+1)*2 ^ s.1) s.1 b:=⟨Nat.mul_mod_left _ _,by omega⟩
      have hF2:¬ Fit ((s.2+1)*2 ^ s.1) (s.1+1) b:=by
        intro h
        have:=z2A.1 h.1
        omega
      have hH:=z6V hlt hb hF1 hF2
      rw [z1f hlt,← hH,Nat.mul_div_cancel _ hpos] at hl
      refine hi.1 (s.1,s.2+1) (by rw [hl];rfl) ⟨rfl,hk,rfl⟩
    have hH:=z6V hab hb hf hn
    rw [z1f hab,← hH,hl]
    congr 1
    · rw [← h2,Nat.mul_div_cancel _ hpos]
    · rw [e,h2]
theorem ze6 {b:Nat} (hb:b≤4611686018427387904):∀ f a,b - a≤f→Irr (SPAN a b):=by
  intro f
  induction f with
  | zero=>
    intro a h1
    rw [z0W (by omega)]
    trivial
  | succ f ih=>
    intro a h1
    rcases Nat.lt_or_ge a b with h | h
    · obtain ⟨s1,s2,s3⟩:=z1Y h hb
      obtain ⟨n1,n2,n3⟩:=s2.node s1 hb
      have hp:=Nat.two_pow_pos (HT a b)
      rw [z1f h]
      refine ⟨?_,ih _ (by omega)⟩
      intro y hy ⟨y1,y2,y3⟩
      rcases Nat.lt_or_ge (a+2 ^ HT a b) b with h2 | h2
      · rw [z1f h2] at hy
        simp at hy
        subst hy
        obtain ⟨t1,t2,t3⟩:=z1Y h2 hb
        dsimp only at y1 y2 y3
        apply s3
        refine ⟨?_,?_⟩
        · have:=z2A (h:=HT a b).2 y2
          rw [n2] at this
          exact this
        · have:=t2.2
          rw [← y1] at this
          rw [z25]
          omega
      · rw [z0W h2] at hy
        simp at hy
    · rw [z0W h]
      trivial
theorem ze7 {a b:Nat} (hb:b≤4611686018427387904):Irr (SPAN a b):=ze6 hb (b - a) a (Nat.le_refl _)
theorem Tile.append {l m:List (Nat × Nat)}:∀ {a b c:Nat},Tile a l b→Tile b m c→Tile a (l ++ m) c:=by
  induction l with
  | nil=>intro a b c h h2;have:a=b:=h;rw [this];exact h2
  | cons s l ih=>intro a b c ⟨h1,h2,h3⟩ h4;exact ⟨h1,h2,ih h3 h4⟩
theorem Tile.node {l:List (Nat × Nat)}:∀ {a b i h k:Nat},Tile a l b→l[i]?=some (h,k)→Node h k:=by
  induction l with
  | nil=>intro a b i h k _ e;simp at e
  | cons s l ih=>
    intro a b i h k ⟨h1,h2,h3⟩ e
    cases i with
    | zero=>simp at e;subst e;exact h1
    | succ i=>exact ih h3 (by simpa using e)
theorem Tile.one {s:Nat × Nat} {a b:Nat}:Tile a [s] b↔Node s.1 s.2∧s.2*2 ^ s.1=a∧(s.2+1)*2 ^ s.1=b:=Iff.rfl
theorem Irr.snoc {l:List (Nat × Nat)} {x:Nat × Nat} (hi:Irr l) (hx:∀ y,l.getLast?=some y→¬ Sibs y x):Irr (l ++ [x]):=by
  induction l with
  | nil=>exact ⟨by simp,trivial⟩
  | cons s l ih=>
    refine ⟨?_,ih hi.2 ?_⟩
    · intro y hy
      cases l with
      | nil=>
        simp at hy
        subst hy
        exact hx s (by simp)
      | cons t l=>exact hi.1 y (by simpa using hy)
    · intro y hy
      cases l with
      | nil=>simp at hy
      | cons t l=>exact hx y (by rw [List.getLast?_cons_cons];exact hy)
theorem z7n {b:Nat}:∀ g f a,b - a≤f→a % 2 ^ g=0→b - a<2 ^ g→b≤4611686018427387904→(SPAN a b).length≤g:=by
  intro g f
  induction f generalizing g with
  | zero=>intro a h1 _ _ _;rw [z0W (by omega)];simp
  | succ f ih=>
    intro a h1 h2 h3 hb
    rcases Nat.lt_or_ge a b with h | h
    · obtain ⟨s1,s2,s3⟩:=z1Y h hb
      rw [z1f h]
      have hp:=Nat.two_pow_pos (HT a b)
      have hlt:HT a b<g:=by
        rcases Nat.lt_or_ge (HT a b) g with c | c
        · exact c
        · have:=(s2.le g c).2
          omega
      have hd:a % 2 ^ (HT a b+1)=0:=by
        have h4:2 ^ (HT a b+1) ∣ 2 ^ g:=Nat.pow_dvd_pow 2 hlt
        exact Nat.mod_eq_zero_of_dvd (Nat.dvd_trans h4 (Nat.dvd_of_mod_eq_zero h2))
      have hs:¬ a+2 ^ (HT a b+1)≤b:=fun c=>s3 ⟨hd,c⟩
      rw [z25] at hs
      have:=ih (HT a b) (a+2 ^ HT a b) (by omega) (by rw [Nat.add_mod_right];exact s2.1) (by omega) hb
      rw [List.length_cons]
      omega
    · rw [z0W h];simp
theorem zfA {b:Nat}:∀ f g e a,b - a≤f→a % 2 ^ g=0→b - a<2 ^ e→g≤e→b≤4611686018427387904→(SPAN a b).length≤(e - g)+e:=by
  intro f
  induction f with
  | zero=>intro g e a h1 _ _ _ _;rw [z0W (by omega)];simp
  | succ f ih=>
    intro g e a h1 h2 h3 hge hb
    rcases Nat.lt_or_ge a b with h | h
    · obtain ⟨s1,s2,s3⟩:=z1Y h hb
      rw [z1f h,List.length_cons]
      have hp:=Nat.two_pow_pos (HT a b)
      have hlt:HT a b<e:=by
        rcases Nat.lt_or_ge (HT a b) e with c | c
        · exact c
        · have:=(s2.le e c).2
          omega
      by_cases hd:a % 2 ^ (HT a b+1)=0
      · have hs:¬ a+2 ^ (HT a b+1)≤b:=fun c=>s3 ⟨hd,c⟩
        rw [z25] at hs
        have:=z7n (HT a b) f (a+2 ^ HT a b) (by omega) (by rw [Nat.add_mod_right];exact s2.1) (by omega) hb
        omega
      · have hg:g≤HT a b:=by
          rcases Nat.lt_or_ge (HT a b) g with c | c
          · have h4:2 ^ (HT a b+1) ∣ 2 ^ g:=Nat.pow_dvd_pow 2 c
            exact absurd (Nat.mod_eq_zero_of_dvd (Nat.dvd_trans h4 (Nat.dvd_of_mod_eq_zero h2))) hd
          · exact c
        obtain ⟨n1,n2,n3⟩:=s2.node s1 hb
        have hodd:(a / 2 ^ HT a b+1) % 2=0:=by
          have:¬ a / 2 ^ HT a b % 2=0:=fun c=>hd (by have:=z2A (h:=HT a b).2 c;rw [n2] at this;exact this)
          omega
        have:=ih (HT a b+1) e (a+2 ^ HT a b) (by omega) (by rw [← n3];exact z2A.2 hodd) (by omega) (by omega) hb
        omega
    · rw [z0W h];simp
theorem z1v {a b:Nat} (hb:b≤4611686018427387904):(SPAN a b).length≤124:=by
  rcases Nat.eq_zero_or_pos a with h | h
  · subst h
    have:=z7n (b:=b) 63 b 0 (by omega) (by simp) (by simp;omega) hb
    omega
  · exact zfA (b:=b) b 0 62 a (by omega) (by simp [Nat.mod_one]) (by simp;omega) (by omega) hb
end Go.Proofs.YthpdlnbbbcgemaaGreatDoor
