/- Texts of SpanVerifies, one behind the other: NumSlice, NumByteCalls, NumAppend, NumShortCalls, CutPlain, PosCoversPlain, CutTopsPlain, ProofPlain, PosRef, PosRefSpot, PosRefKin. -/
import Derived.Test.YthdpkaiieomdoaaGreatDoorProg
import Derived.WalkKit
import Derived.WalkLawsBesides
import Derived.Deep.LoopGhost
import Derived.Deep.OwnRows
import Derived.Deep.QuietTactic
import Derived.BigQuiet
import Derived.Deep.AppendLies
import Derived.Laws.AppendOwnNone
import Derived.Test.YthdpkaiieomdoaaGreatDoorSpanVerifiesP3
namespace Go.Proofs.YthdpkaiieomdoaaGreatDoor
open Go.RowKit
def BARR (n:Nat) (f:Nat→Int):Array Value:=((List.range n).map fun i=>Value.int .u8 (f i)).toArray
theorem z1T (n:Nat) (f:Nat→Int):(BARR n f).size=n:=by simp [BARR]
theorem z1x (n:Nat) (f:Nat→Int) (i:Nat) (h:i<n):(BARR n f)[i]?=some (.int .u8 (f i)):=by simp [BARR,h]
theorem z7q {n:Nat} {f g:Nat→Int} (h:∀ i,i<n→f i=g i):BARR n f=BARR n g:=by
  unfold BARR
  congr 1
  apply List.map_congr_left
  intro i hi
  rw [h i (by simpa using hi)]
theorem z5g (n:Nat) (f:Nat→Int) (i:Nat) (v:Int):(BARR n f).setIfInBounds i (.int .u8 v)=BARR n fun j=>if j=i then v else f j:=by
  apply Array.ext_getElem?
  intro j
  by_cases hj:j<n
  · rw [z1x _ _ j hj,Array.getElem?_setIfInBounds]
    by_cases h:i=j
    · subst h
      simp [z1T,hj]
    · have h':¬ j=i:=fun e=>h e.symm
      simp [h,h',z1x _ _ j hj]
  · rw [Array.getElem?_eq_none (by simp [z1T];omega),Array.getElem?_eq_none (by simp [z1T];omega)]
theorem z49 (n:Nat):madeCells #[Value.int .u8 0] n=BARR n fun _=>0:=by
  apply Array.ext_getElem?
  intro j
  by_cases hj:j<n
  · rw [z1x _ _ j hj]
    simp [madeCells,hj,Nat.mod_one]
  · rw [Array.getElem?_eq_none (by simp [madeCells];omega),Array.getElem?_eq_none (by simp [z1T];omega)]
theorem z0I:(Tryz.prog.info? 5).map (fun i=>(i.zero,i.size,i.bytes))=some (some (.int .u8 0),1,1):=by kernel_rfl
theorem z5C (n:Nat) (hn:n≤1000000) (w:World):(Instr.makeSlice 26 (.int .i64 (n:Int)) (.int .i64 (n:Int))).run Tryz.prog w=.ok (.slice (some ⟨w.heap.size,0,none⟩) n n) (w.alloc (.cells (BARR n fun _=>0) 5)):=by
  rw [run_make_row' 26 5 (.int .u8 0) 1 Tryz.underlying26 z0I rfl .i64 .i64 n (by omega) (by omega) w,z49]
def IsRow (k:IntKind) (w:World) (a:Option Addr) (len cap:Nat) (zs:List Int):Prop:=
  (a=none∧len=0∧cap=0∧zs=[])∨
  ∃ x,a=some x∧len≤cap∧cap≤maxLen∧zs.length=cap∧(∀ i,i<zs.length→w.cell? (x.add i)=some (.int k (zs.getD i 0)))∧∀ n∈zs,(Lit.int k n).wf=true
def Bytes (w:World) (a:Option Addr) (n:Nat) (l:List Int):Prop:=
  l.length=n∧(0<n→∃ b off,a=some ⟨b,off,none⟩∧b<w.heap.size∧∀ i,i<n→w.cell? ⟨b,off+i,none⟩=some (.int .u8 (l.getD i 0)))∧∀ x∈l,0≤x∧x≤255
theorem Bytes.below {w w':World} {a:Option Addr} {n:Nat} {l:List Int} (h:Bytes w a n l) (hb:Below w.heap.size w w'):Bytes w' a n l:=
  ⟨h.1,fun hn=>by
    obtain ⟨b,off,e,hl,hc⟩:=h.2.1 hn
    exact ⟨b,off,e,Nat.lt_of_lt_of_le hl hb.size,fun i hi=>(hb.cell (by exact hl)).trans (hc i hi)⟩,h.2.2⟩
theorem Bytes.get {w:World} {a:Option Addr} {n:Nat} {l:List Int} (h:Bytes w a n l) (i:Nat):0≤l.getD i 0∧l.getD i 0≤255:=by
  by_cases hi:i<l.length
  · rw [List.getD_eq_getElem?_getD,List.getElem?_eq_getElem hi]
    exact h.2.2 _ (List.getElem_mem hi)
  · rw [List.getD_eq_getElem?_getD,List.getElem?_eq_none (by omega)]
    simp
theorem z0H (b off i:Nat):(⟨b,off,none⟩:Addr).add i=⟨b,off+i,none⟩:=by unfold Addr.add;split <;> simp_all
theorem IsRow.bytes {w:World} {a:Option Addr} {n c:Nat} {zs:List Int} (h:IsRow .u8 w a n c zs):Bytes w a n (zs.take n):=by
  rcases h with ⟨rfl,rfl,rfl,rfl⟩ | ⟨x,rfl,hl,_,hz,hcell,hwf⟩
  · exact ⟨rfl,fun h=>by omega,fun x hx=>by simp at hx⟩
  · refine ⟨by simp [hz,hl],fun hn=>?_,fun y hy=>?_⟩
    · obtain ⟨b,off,spot⟩:=x
      have hc:=hcell 0 (by omega)
      have hspot:spot=none:=by simpa [Addr.add] using World.cell?_spot hc
      subst hspot
      refine ⟨b,off,rfl,block_lt_of_cell (by simpa [Addr.add] using hc),fun i hi=>?_⟩
      have:=hcell i (by omega)
      rw [z0H] at this
      rw [this]
      congr 2
      simp [List.getD_eq_getElem?_getD,hi]
    · have:=bounds_u8 (hwf y (List.mem_of_mem_take hy))
      exact this
end Go.Proofs.YthdpkaiieomdoaaGreatDoor

namespace Go.Proofs.YthdpkaiieomdoaaGreatDoor
open Go.RowKit
theorem z4a {F f:Nat→Int} {i:Nat} {v:Int} (A:∀ j,f j=if j<i then F j else 0) (hv:v=F i):∀ j,(if j=i then v else f j)=if j<i+1 then F j else 0:=fun j=>by
  by_cases e:j=i
  · subst e
    simp [hv]
  · rw [if_neg e,A j]
    by_cases e2:j<i
    · rw [if_pos e2,if_pos (by omega)]
    · rw [if_neg e2,if_neg (by omega)]
theorem z69 (x:Int) (n:Nat) (F:Nat→Int) (hn:(n:Int)≤8) (w:World) (c:∀ w,Calls Tryz.prog 183 #[.int .u64 x,.int .i64 (8*(n:Int))] w fun e w'=>e=.returned (.int .u64 0)∧w=w')
    (ci:∀ i:Nat,i<n→∃ s:Int,Aside (s % 256=F i)∧∀ w,Calls Tryz.prog 183 #[.int .u64 x,.int .i64 (8*((n:Int) - 1 - (i:Int)))] w fun e w'=>e=.returned (.int .u64 s)∧w=w'):
    Calls Tryz.prog 190 #[.int .u64 x,.int .i64 (n:Int)] w fun e w'=>e=.returned (.tuple #[.slice (some ⟨w.heap.size,0,none⟩) n n,.int .i64 0])∧w.alloc (.cells (BARR n F) 5)=w':=by
  have hmk:=z5C n (by omega)
  have CI:Aside (∀ i:Nat,i<n→∃ s:Int,Aside (s % 256=F i)∧∀ w,Calls Tryz.prog 183 #[.int .u64 x,.int .i64 (8*((n:Int) - 1 - (i:Int)))] w fun e w'=>e=.returned (.int .u64 s)∧w=w'):=ci
  clear ci
  go_enter Tryz.func190,Tryz.ntmps190
  go_wp2_with fail
  refine (c _).mono ?_
  rintro e w' ⟨rfl,rfl⟩
  go_wp2
  go_loopg [23] n (fun g s23 wx=>∃ (i:Nat) (f:Nat→Int),i+g=n∧Aside (∀ j,f j=if j<i then F j else 0)∧s23=.int .i64 i∧wx=w.alloc (.cells (BARR n f) 5))
  case atStart=>exact ⟨0,fun _=>0,by omega,fun j=>by simp,rfl,rfl⟩
  case round=>
    obtain ⟨i,f,hig,A,rfl,rfl⟩:=hrel
    cases gk with
    | zero=>
      obtain rfl:i=n:=by omega
      have hf:BARR i f=BARR i F:=z7q fun j hj=>by rw [A.out j,if_pos hj]
      rw [hf]
      clear hf A
      go_wp2
      go_ret2
      exact ⟨rfl,rfl⟩
    | succ g=>
      have hi:(i:Int)<(n:Int):=by omega
      have hc:(BARR n f)[i]?=some (.int .u8 (f i)):=z1x n f i (by omega)
      have hs:∀ v,(BARR n f).setIfInBounds i (.int .u8 v)=BARR n (fun j=>if j=i then v else f j):=fun v=>z5g n f i v
      obtain ⟨s,hsF,cs⟩:=CI.out i (by omega)
      go_wp2_with fail
      refine (cs _).mono ?_
      rintro e w' ⟨rfl,rfl⟩
      go_wp2
      go_roundg g
      case measure=>omega
      case rel=>exact ⟨i+1,_,by omega,z4a A.out hsF.out,by go_num,rfl⟩
def BYTE (X n:Nat):Nat→Int:=fun i=>((X / 2 ^ (8*(n - 1 - i)) % 256:Nat):Int)
theorem zbl (X n:Nat) (hX:X<2 ^ 64) (hn:n≤8) (h:X / 2 ^ (8*n)=0) (w:World):
    Calls Tryz.prog 190 #[.int .u64 (X:Int),.int .i64 (n:Int)] w fun e w'=>e=.returned (.tuple #[.slice (some ⟨w.heap.size,0,none⟩) n n,.int .i64 0])∧w.alloc (.cells (BARR n (BYTE X n)) 5)=w':=by
  refine z69 X n (BYTE X n) (by omega) w (fun w=>?_) (fun i hi=>?_)
  · have k:=z2l X (8*(n:Int)) hX (by omega) (by omega) w
    have hs:SHR X (8*(n:Int))=0:=by
      unfold SHR
      rw [if_neg (by omega),show (8*(n:Int)).toNat=8*n by omega,h]
    rw [hs] at k
    exact k
  · refine ⟨(SHR X (8*((n:Int) - 1 - (i:Int))):Nat),?_,fun w=>z2l X _ hX (by omega) (by omega) w⟩
    unfold SHR BYTE Aside
    rw [if_neg (by omega),show (8*((n:Int) - 1 - (i:Int))).toNat=8*(n - 1 - i) by omega]
    simp
end Go.Proofs.YthdpkaiieomdoaaGreatDoor

namespace Go.Proofs.YthdpkaiieomdoaaGreatDoor
open Go.RowKit
def z00 (l:List Int):List Value:=l.map (Value.int .u8)
theorem z0m (a b:List Int):z00 (a ++ b)=z00 a ++ z00 b:=by simp [z00]
theorem z0k (l:List Int) (i:Nat) (h:i<l.length):(z00 l)[i]?=some (.int .u8 (l.getD i 0)):=by
  simp [z00,h,List.getD_eq_getElem?_getD]
theorem z15 (l:List Int):∀ u∈z00 l,u.oneCell'=true:=fun u hu=>by
  simp [z00] at hu
  obtain ⟨x,_,rfl⟩:=hu
  rfl
theorem z12:∃ i,Tryz.prog.info? 5=some i∧i.zero=some (.int .u8 0)∧i.size=1∧i.bytes=1:=by
  obtain ⟨i,hi,h⟩:=Option.map_eq_some_iff.1 z0I
  simp only [Prod.mk.injEq] at h
  exact ⟨i,hi,h.1,h.2.1,h.2.2⟩
theorem z0D {ops:Array Oper} {rest:List Oper} {o:Oper} {a:Act} {Q:Exit→Act→World→Prop} (w:World) (hgd:o.guard=none) (s x:Operand)
    (ho:o.op=.call {callee:=.builtin .append,args:=#[s,x],argTypes:=#[26,26]})
    (base:Nat) (v:Value) (n:Nat) (xs:List Int) (hs:a.eval s=v) (hown:w.ownsRow base 5 1 v n (z00 xs))
    (b off m c:Nat) (l:List Int) (hx:a.eval x=.slice (some ⟨b,off,none⟩) m c) (hB:Bytes w (some ⟨b,off,none⟩) m l)
    (hm:0<m) (hb:n+m≤140737488355328) (hbase:base≤w.heap.size)
    (h:∀ g cap w',w'.ownsRow base 5 1 (.slice (some ⟨g,0,none⟩) (n+m) cap) (n+m) (z00 (xs ++ l))→w.grownBy w' v.ownBlock→g<w'.heap.size→wpList Tryz.prog ops Q rest (a.put o.dst (.slice (some ⟨g,0,none⟩) (n+m) cap)) w'):wpList Tryz.prog ops Q (o :: rest) a w:=by
  obtain ⟨i,hi,hz,hs1,hby⟩:=z12
  obtain ⟨b',off',e,_,hc⟩:=hB.2.1 hm
  simp only [Option.some.injEq,Addr.mk.injEq] at e
  obtain ⟨rfl,rfl,_⟩:=e
  refine wpList_append_lies w hgd s x 26 ho base 5 i (.int .u8 0) 1 1 Tryz.underlying26 hi hz hs1 hby rfl (by decide) v n (z00 xs) hs hown ⟨b,off,none⟩ m c (z00 l) hx (by simp [z00,hB.1]) ?_ (z15 l) hm (by simp only [maxLen];omega) (by omega) hbase w.heap.size rfl ?_
  · intro j u hj
    have hjl:j<l.length:=by
      have:=(List.getElem?_eq_some_iff.1 hj).1
      simpa [z00] using this
    rw [z0k l j hjl] at hj
    rw [z0H,hc j (by rw [← hB.1];exact hjl)]
    exact hj
  · intro g cap w' h1 h2 _ h4
    rw [← z0m] at h1
    exact h g cap w' h1 h2 h4
theorem z1F (w:World) (row:Option Nat):w.grownBy w row:=⟨rfl,rfl,rfl,Nat.le_refl _,fun _ _ _=>rfl⟩
theorem z5h {ops:Array Oper} {rest:List Oper} {o:Oper} {a:Act} {Q:Exit→Act→World→Prop} (w:World) (hgd:o.guard=none) (s x:Operand)
    (ho:o.op=.call {callee:=.builtin .append,args:=#[s,x],argTypes:=#[26,26]})
    (base:Nat) (v:Value) (n:Nat) (xs:List Int) (hs:a.eval s=v) (hown:w.ownsRow base 5 1 v n (z00 xs))
    (ao:Option Addr) (c:Nat) (hx:a.eval x=.slice ao 0 c) (hc:ao=none→c=0) (hn:n≤140737488355328) (hbase:base≤w.heap.size)
    (h:∀ a' c' w',w'.ownsRow base 5 1 (.slice a' n c') n (z00 xs)→w.grownBy w' v.ownBlock→wpList Tryz.prog ops Q rest (a.put o.dst (.slice a' n c')) w'):wpList Tryz.prog ops Q (o :: rest) a w:=by
  obtain ⟨i,hi,hz,hs1,hby⟩:=z12
  have form:∀ (v':Value) (w':World),w'.ownsRow base 5 1 v' n (z00 xs)→∃ a' c',v'=.slice a' n c':=fun v' w' h=>by
    rcases h.2 with ⟨rfl,rfl⟩ | ⟨g,cap,cur,rfl,_⟩
    · exact ⟨none,0,rfl⟩
    · exact ⟨_,cap,rfl⟩
  cases ao with
  | none=>
    obtain rfl:=hc rfl
    refine wpList_append_own_none hgd s x 26 ho base 5 i 1 Tryz.underlying26 hi v n (z00 xs) hs hown hx ?_
    obtain ⟨a',c',rfl⟩:=form v w hown
    exact h a' c' w hown (z1F _ _)
  | some ad=>
    refine wpList_append_own w hgd s x 26 ho base 5 i (.int .u8 0) 1 1 Tryz.underlying26 hi hz hs1 hby rfl (by decide) v n (z00 xs) hs hown ad 0 c [] hx rfl (fun j u hj=>by simp at hj) (fun u hu=>by simp at hu) (by simp only [maxLen];omega) (by omega) hbase ?_
    intro v' w' h1 h2 _
    simp only [Nat.add_zero,List.append_nil] at h1
    obtain ⟨a',c',rfl⟩:=form v' w' h1
    exact h a' c' w' h1 h2
theorem z0X {w:World} {base g n cap:Nat} {l:List Int} (h:w.ownsRow base 5 1 (.slice (some ⟨g,0,none⟩) n cap) n (z00 l)) (hg:g<w.heap.size) (hl:∀ x∈l,0≤x∧x≤255):Bytes w (some ⟨g,0,none⟩) n l:=by
  have hlen:l.length=n:=by have:=h.1;simpa [z00] using this
  refine ⟨hlen,fun _=>⟨g,0,rfl,hg,fun i hi=>?_⟩,hl⟩
  rw [Nat.zero_add,h.cellAt i (by omega),z0k l i (by omega)]
theorem z4b (w:World) (base:Nat) (hb:base≤w.heap.size):(w.alloc (.cells #[] 5)).ownsRow base 5 1 (.slice (some ⟨w.heap.size,0,none⟩) 0 0) 0 (z00 []):=
  World.ownsRow_lit w #[] 0 hb (by simp [maxLen]) rfl
theorem z2m (w:World) (n:Nat) (f:Nat→Int) (l:List Int) (hl:l.length=n) (hf:∀ i,i<n→f i=l.getD i 0) (hr:∀ x∈l,0≤x∧x≤255):Bytes (w.alloc (.cells (BARR n f) 5)) (some ⟨w.heap.size,0,none⟩) n l:=by
  refine ⟨hl,fun _=>⟨w.heap.size,0,rfl,by simp,fun i hi=>?_⟩,hr⟩
  rw [Nat.zero_add,World.cell?_alloc_at _ _ _ _ rfl,z1x n f i hi,hf i hi]
theorem z1n {w:World} {base n c:Nat} {a:Option Addr} {l:List Int} (h:w.ownsRow base 5 1 (.slice a n c) n (z00 l)) (hl:∀ x∈l,0≤x∧x≤255):Bytes w a n l∧n≤c:=by
  rcases h.2 with ⟨hv,hn⟩ | ⟨g,cap,cur,hv,_,hg,hc,_⟩
  · simp only [Value.slice.injEq] at hv
    obtain ⟨rfl,rfl,rfl⟩:=hv
    have:l=[]:=by have:=h.1;simpa [z00] using this
    subst this
    exact ⟨⟨rfl,fun h=>by omega,fun x hx=>by simp at hx⟩,Nat.le_refl _⟩
  · simp only [Value.slice.injEq] at hv
    obtain ⟨rfl,_,rfl⟩:=hv
    exact ⟨z0X h (Array.getElem?_eq_some_iff.1 hg).1 hl,hc⟩
theorem z3k {ops:Array Oper} {rest:List Oper} {o:Oper} {a:Act} {Q:Exit→Act→World→Prop} (w:World) (hgd:o.guard=none) (s x:Operand)
    (ho:o.op=.call {callee:=.builtin .append,args:=#[s,x],argTypes:=#[26,26]})
    (base:Nat) (v:Value) (n:Nat) (xs:List Int) (hs:a.eval s=v) (hown:w.ownsRow base 5 1 v n (z00 xs))
    (ao:Option Addr) (m c:Nat) (l:List Int) (hx:a.eval x=.slice ao m c) (hB:Bytes w ao m l) (hc:ao=none→c=0)
    (N:Nat) (L:List Int) (hN:n+m=N) (hL:xs ++ l=L) (hb:N≤140737488355328) (hbase:base≤w.heap.size)
    (h:∀ a' c' w',w'.ownsRow base 5 1 (.slice a' N c') N (z00 L)→w.grownBy w' v.ownBlock→wpList Tryz.prog ops Q rest (a.put o.dst (.slice a' N c')) w'):wpList Tryz.prog ops Q (o :: rest) a w:=by
  subst hN hL
  rcases Nat.eq_zero_or_pos m with hm | hm
  · subst hm
    have hl:l=[]:=by have:=hB.1;simpa using this
    subst hl
    refine z5h w hgd s x ho base v n xs hs hown ao c hx hc (by omega) hbase ?_
    simpa using h
  · obtain ⟨b,off,rfl,_,_⟩:=hB.2.1 hm
    refine z0D w hgd s x ho base v n xs hs hown b off m c l hx hB hm hb hbase ?_
    intro g cap w' h1 h2 _
    exact h _ cap w' h1 h2
end Go.Proofs.YthdpkaiieomdoaaGreatDoor

namespace Go.Proofs.YthdpkaiieomdoaaGreatDoor
open Go.RowKit
def z0K (X j:Nat):List Int:=(List.range j).map fun i=>((X / 128 ^ i % 128+128:Nat):Int)
theorem z4O (X j:Nat):z0K X (j+1)=z0K X j ++ [((X / 128 ^ j % 128+128:Nat):Int)]:=by simp [z0K,List.range_succ]
theorem z1Q (X j:Nat):(z0K X j).length=j:=by simp [z0K]
def TOPG (X:Nat):Nat→Nat
  | 0=>0
  | k+1=>if X<128 then 0 else TOPG (X / 128) k+1
def NTOP (X:Nat):Nat:=TOPG X 9
def z0o (X:Nat):List Int:=z0K X (NTOP X) ++ [((X / 128 ^ NTOP X:Nat):Int)]
theorem z0S (X:Nat):(z0o X).length=NTOP X+1:=by simp [z0o,z1Q]
theorem z9u:∀ (k X:Nat),TOPG X k≤k
  | 0,_=>Nat.le_refl _
  | k + 1,X=>by
    unfold TOPG
    split
    · omega
    · have:=z9u k (X / 128)
      omega
theorem z5D:∀ (k X j:Nat),j<TOPG X k→128≤X / 128 ^ j
  | 0,_,_,h=>by simp [TOPG] at h
  | k + 1,X,j,h=>by
    unfold TOPG at h
    split at h
    · omega
    · cases j with
      | zero=>simp;omega
      | succ j=>
        have:=z5D k (X / 128) j (by omega)
        rw [Nat.div_div_eq_div_mul,Nat.mul_comm,← Nat.pow_succ] at this
        exact this
theorem z9v:∀ (k X:Nat),X<128 ^ (k+1)→X / 128 ^ TOPG X k<128
  | 0,X,h=>by simpa [TOPG] using h
  | k + 1,X,h=>by
    unfold TOPG
    split
    · simpa using ‹X<128›
    · have:=z9v k (X / 128) (by rw [Nat.pow_succ] at h;exact Nat.div_lt_of_lt_mul (by omega))
      rw [Nat.div_div_eq_div_mul,Nat.mul_comm,← Nat.pow_succ] at this
      exact this
theorem z2G (X:Nat):NTOP X≤9:=z9u 9 X
theorem z9w {X:Nat} (hX:X<2 ^ 64):X / 128 ^ NTOP X<128:=z9v 9 X (Nat.lt_of_lt_of_le hX (by decide))
theorem z6a {X:Nat} (hX:X<2 ^ 64) {j:Nat} (hj:∀ i,i<j→128≤X / 128 ^ i) (h:X / 128 ^ j<128):NTOP X=j:=by
  rcases Nat.lt_trichotomy (NTOP X) j with h1 | h1 | h1
  · have:=hj _ h1
    have:=z9w hX
    omega
  · exact h1
  · have:=z5D 9 X j h1
    omega
theorem z7r (X:Nat) {i j:Nat} (h:i≤j):X / 128 ^ j≤X / 128 ^ i:=Nat.div_le_div_left (Nat.pow_le_pow_right (by decide) h) (Nat.pow_pos (by decide))
theorem z7s (X j:Nat):∀ x∈z0K X j,0≤x∧x≤255:=fun x hx=>by
  simp only [z0K,List.mem_map] at hx
  obtain ⟨i,_,rfl⟩:=hx
  omega
theorem z1r {X:Nat} (hX:X<2 ^ 64):∀ x∈z0o X,0≤x∧x≤255:=fun x hx=>by
  simp only [z0o,List.mem_append,List.mem_singleton] at hx
  rcases hx with hx | rfl
  · exact z7s X _ x hx
  · have:=z9w hX
    generalize X / 128 ^ NTOP X=y at *
    omega
theorem z1U (w:World) (v:Int) (h0:0≤v) (h1:v≤255):Bytes (w.alloc (.cells #[.int .u8 v] 5)) (some ⟨w.heap.size,0,none⟩) 1 [v]:=by
  refine ⟨rfl,fun _=>⟨w.heap.size,0,rfl,by simp,fun i hi=>?_⟩,fun x hx=>by simp at hx;omega⟩
  obtain rfl:i=0:=by omega
  rw [Nat.zero_add,World.cell?_alloc_at _ _ _ _ rfl]
  rfl
theorem zcP (w:World) (base:Nat) (hb:base≤w.heap.size) (cur:Array Value) (cap:Nat) (hm:cap≤1000) (hs:cur.size=cap):(w.alloc (.cells cur 5)).ownsRow base 5 1 (.slice (some ⟨w.heap.size,0,none⟩) 0 cap) 0 (z00 []):=
  World.ownsRow_made w cur cap hb (by simp only [maxLen];omega) (by omega)
set_option maxHeartbeats 1000000 in
theorem z5i (X:Nat) (hX:X<2 ^ 64) (w:World):Calls Tryz.prog 99 #[.int .u64 (X:Int)] w fun e w'=>
    ∃ g cap,e=.returned (.slice (some ⟨g,0,none⟩) (NTOP X+1) cap)∧w'.ownsRow w.heap.size 5 1 (.slice (some ⟨g,0,none⟩) (NTOP X+1) cap) (NTOP X+1) (z00 (z0o X))∧g<w'.heap.size∧Below w.heap.size w w':=by
  have hmk:∀ w:World,(Instr.makeSlice 26 (.int .i64 0) (.int .i64 10)).run Tryz.prog w=.ok (.slice (some ⟨w.heap.size,0,none⟩) 0 10) (w.alloc (.cells #[.int .u8 0,.int .u8 0,.int .u8 0,.int .u8 0,.int .u8 0,.int .u8 0,.int .u8 0,.int .u8 0,.int .u8 0,.int .u8 0] 5)):=fun _=>by kernel_rfl
  have HX:Aside (X<2 ^ 64):=hX
  clear hX
  go_enter Tryz.func99,Tryz.ntmps99
  go_wp2
  go_loopg [0,3] 10 (fun g s0 s3 wx=>∃ (j x:Nat),j+g=10∧Aside (x=X / 128 ^ j∧(∀ i,i<j→128≤X / 128 ^ i)∧wx.ownsRow w.heap.size 5 1 s3 j (z00 (z0K X j))∧Below w.heap.size w wx)∧s0=.int .u64 (x:Int))
  case atStart=>exact ⟨0,X,by omega,⟨by simp,fun i hi=>by omega,zcP w _ (Nat.le_refl _) _ 10 (by decide) rfl,(Below.refl _ _).alloc (Nat.le_refl _) _⟩,rfl⟩
  case round=>
    obtain ⟨j,x,hjg,A,rfl⟩:=hrel
    by_cases hx:128≤(x:Int)
    · go_wp2_with (at_builtin;refine z0D _ rfl (.tmp 9) (.tmp 14) rfl w.heap.size u3 j (z0K X j) rfl (A.out.2.2.1.alloc _) wr.heap.size 0 1 1 [(x:Int) % 128+128] rfl (z1U wr _ (by omega) (by omega)) (by omega) (by omega) (by have:=A.out.2.2.2.size;simp;omega) ?_;intro g cap w1 hown hgrow hg)
      have R:(x / 128=X / 128 ^ (j+1))∧(∀ i,i<j+1→128≤X / 128 ^ i)∧w1.ownsRow w.heap.size 5 1 (.slice (some ⟨g,0,none⟩) (j+1) cap) (j+1) (z00 (z0K X (j+1)))∧Below w.heap.size w w1:=by
        obtain ⟨hxe,hall,hown0,hb⟩:=A.out
        refine ⟨by rw [hxe,Nat.div_div_eq_div_mul,← Nat.pow_succ],fun i hi=>?_,?_,?_⟩
        · by_cases e:i=j
          · rw [e,← hxe];omega
          · exact hall i (by omega)
        · rw [z4O,show ((X / 128 ^ j % 128+128:Nat):Int)=(x:Int) % 128+128 by rw [← hxe];omega]
          exact hown
        · exact (hb.alloc hb.size _).grown hgrow (by have:=hb.size;simp;omega) (fun k e=>(hown0.lt k e).1)
      have HR:Aside ((x / 128=X / 128 ^ (j+1))∧(∀ i,i<j+1→128≤X / 128 ^ i)∧w1.ownsRow w.heap.size 5 1 (.slice (some ⟨g,0,none⟩) (j+1) cap) (j+1) (z00 (z0K X (j+1)))∧Below w.heap.size w w1):=R
      have hj9:j<9:=by
        obtain ⟨hxe,hall,_,_⟩:=A.out
        rcases Nat.lt_or_ge j 9 with h | h
        · exact h
        · have h1:=z7r X h
          have h2:X / 128 ^ 9<2:=Nat.div_lt_of_lt_mul (Nat.lt_of_lt_of_le HX.out (by decide))
          omega
      clear hown hgrow hg R A
      go_wp2
      go_roundg (gk - 1)
      case measure=>omega
      case rel=>exact ⟨j+1,x / 128,by omega,HR,by first | rfl | go_num⟩
    · go_wp2_with (at_builtin;refine z0D _ rfl (.tmp 16) (.tmp 19) rfl w.heap.size u3 j (z0K X j) rfl (A.out.2.2.1.alloc _) wr.heap.size 0 1 1 [(x:Int)] rfl (z1U wr _ (by omega) (by omega)) (by omega) (by omega) (by have:=A.out.2.2.2.size;simp;omega) ?_;intro g cap w1 hown hgrow hg)
      obtain ⟨hxe,hall,hown0,hb⟩:=A.out
      have hN:NTOP X=j:=z6a HX.out hall (by rw [← hxe];omega)
      have R:w1.ownsRow w.heap.size 5 1 (.slice (some ⟨g,0,none⟩) (NTOP X+1) cap) (NTOP X+1) (z00 (z0o X))∧g<w1.heap.size∧Below w.heap.size w w1:=by
        refine ⟨?_,hg,(hb.alloc hb.size _).grown hgrow (by have:=hb.size;simp;omega) (fun k e=>(hown0.lt k e).1)⟩
        unfold z0o
        rw [hN,← hxe]
        exact hown
      have HR:Aside (w1.ownsRow w.heap.size 5 1 (.slice (some ⟨g,0,none⟩) (NTOP X+1) cap) (NTOP X+1) (z00 (z0o X))∧g<w1.heap.size∧Below w.heap.size w w1):=R
      have HN:Aside (NTOP X=j):=hN
      clear hown hgrow hg R A hxe hall hown0 hb hN
      go_wp2
      go_ret
      obtain ⟨h1,h2,h3⟩:=HR.out
      refine ⟨g,cap,?_,h1,h2,h3⟩
      rw [HN.out]
      rfl
end Go.Proofs.YthdpkaiieomdoaaGreatDoor

namespace Go.Proofs.YthdpkaiieomdoaaGreatDoor
abbrev Fit (a h b:Nat):Prop:=a % 2 ^ h=0∧a+2 ^ h≤b
theorem Fit.down {a h b:Nat} (f:Fit a (h+1) b):Fit a h b:=by
  have h1:2 ^ (h+1)=2 ^ h*2:=Nat.pow_succ 2 h
  have h2:=f.2
  refine ⟨?_,by omega⟩
  have h3:=f.1
  have h4:2 ^ h ∣ 2 ^ (h+1):=⟨2,h1⟩
  exact Nat.mod_eq_zero_of_dvd (Nat.dvd_trans h4 (Nat.dvd_of_mod_eq_zero h3))
theorem Fit.le {a g b:Nat}:∀ h,h≤g→Fit a g b→Fit a h b:=by
  intro h hg f
  induction g with
  | zero => obtain rfl:h=0:=by omega
            exact f
  | succ g ih=>
    rcases Nat.lt_or_ge h (g+1) with h1 | h1
    · exact ih (by omega) f.down
    · obtain rfl:h=g+1:=by omega
      exact f
theorem Fit.zero {a b:Nat} (h:a<b):Fit a 0 b:=⟨Nat.mod_one a,by simp;omega⟩
def HTF:Nat→Nat→Nat→Nat
  | 0,_,_=>0
  | f+1,a,b=>if Fit a (f+1) b then f+1 else HTF f a b
def HT (a b:Nat):Nat:=HTF 62 a b
def Tile:Nat→List (Nat × Nat)→Nat→Prop
  | a,[],b=>a=b
  | a,s :: l,b=>Node s.1 s.2∧s.2*2 ^ s.1=a∧Tile ((s.2+1)*2 ^ s.1) l b
abbrev Sibs (x y:Nat × Nat):Prop:=x.1=y.1∧x.2 % 2=0∧y.2=x.2+1
def Irr:List (Nat × Nat)→Prop
  | []=>True
  | x :: l=>(∀ y,l.head?=some y→¬ Sibs x y)∧Irr l
theorem Fit.node {a h b:Nat} (f:Fit a h b) (hh:h≤62) (hb:b≤4611686018427387904):Node h (a / 2 ^ h)∧a / 2 ^ h*2 ^ h=a∧(a / 2 ^ h+1)*2 ^ h=a+2 ^ h:=by
  have h1:a / 2 ^ h*2 ^ h=a:=Nat.div_mul_cancel (Nat.dvd_of_mod_eq_zero f.1)
  have h2:(a / 2 ^ h+1)*2 ^ h=a+2 ^ h:=by rw [Nat.add_mul,Nat.one_mul,h1]
  refine ⟨⟨hh,?_⟩,h1,h2⟩
  have h3:(a / 2 ^ h+1)*2 ^ h≤2 ^ (62 - h)*2 ^ h:=by
    rw [h2,← Nat.pow_add,show 62 - h+h=62 by omega]
    have:=f.2
    simp
    omega
  exact Nat.le_of_mul_le_mul_right h3 (Nat.two_pow_pos h)
theorem Tile.bound {l:List (Nat × Nat)}:∀ {a b:Nat},Tile a l b→a≤b∧(l≠[]→a<b∧b≤4611686018427387904):=by
  induction l with
  | nil=>intro a b h;exact ⟨by have:a=b:=h;omega,fun h=>absurd rfl h⟩
  | cons s l ih=>
    intro a b ⟨h1,h2,h3⟩
    have i:=ih h3
    have:=Nat.two_pow_pos s.1
    have e:(s.2+1)*2 ^ s.1=s.2*2 ^ s.1+2 ^ s.1:=by rw [Nat.add_mul,Nat.one_mul]
    refine ⟨by omega,fun _=>⟨by omega,?_⟩⟩
    cases l with
    | nil=>
      have h4:(s.2+1)*2 ^ s.1=b:=h3
      have:=h1.span
      simp at this
      omega
    | cons t l=>exact (i.2 (by simp)).2
theorem Tile.append {l m:List (Nat × Nat)}:∀ {a b c:Nat},Tile a l b→Tile b m c→Tile a (l ++ m) c:=by
  induction l with
  | nil=>intro a b c h h2;have:a=b:=h;rw [this];exact h2
  | cons s l ih=>intro a b c ⟨h1,h2,h3⟩ h4;exact ⟨h1,h2,ih h3 h4⟩
theorem Tile.node {l:List (Nat × Nat)}:∀ {a b i h k:Nat},Tile a l b→l[i]?=some (h,k)→Node h k:=by
  induction l with
  | nil=>intro a b i h k _ e;simp at e
  | cons s l ih=>
    intro a b i h k ⟨h1,h2,h3⟩ e
    cases i with
    | zero=>simp at e;subst e;exact h1
    | succ i=>exact ih h3 (by simpa using e)
theorem Tile.one {s:Nat × Nat} {a b:Nat}:Tile a [s] b↔Node s.1 s.2∧s.2*2 ^ s.1=a∧(s.2+1)*2 ^ s.1=b:=Iff.rfl
end Go.Proofs.YthdpkaiieomdoaaGreatDoor

namespace Go.Proofs.YthdpkaiieomdoaaGreatDoor
theorem z2y {n:Nat} (h:PC n=0):n=0:=by
  induction n using Nat.strongRecOn with
  | _ n ih=>
    by_cases h0:n=0
    · exact h0
    · rw [z0C] at h
      have:=ih (n / 2) (by omega) (by omega)
      omega
theorem z7t (n a b:Nat) (hab:a≤b):n / 2 ^ a=n / 2 ^ b*2 ^ (b - a)+n / 2 ^ a % 2 ^ (b - a)∧PC (n / 2 ^ a)=PC (n / 2 ^ b)+PC (n / 2 ^ a % 2 ^ (b - a)):=by
  have e:n / 2 ^ b=n / 2 ^ a / 2 ^ (b - a):=by rw [Nat.div_div_eq_div_mul,← Nat.pow_add,show a+(b - a)=b by omega]
  have h1:n / 2 ^ a=n / 2 ^ b*2 ^ (b - a)+n / 2 ^ a % 2 ^ (b - a):=by
    rw [e,Nat.mul_comm]
    exact (Nat.div_add_mod _ _).symm
  refine ⟨h1,?_⟩
  have h2:=z5y (b - a) (n / 2 ^ b) (n / 2 ^ a % 2 ^ (b - a)) (Nat.mod_lt _ (Nat.two_pow_pos _))
  rw [← h1] at h2
  exact h2
theorem zeb (n:Nat) {a b:Nat} (hab:a≤b):PC (n / 2 ^ b)≤PC (n / 2 ^ a):=by
  have:=(z7t n a b hab).2
  omega
theorem z7u (n:Nat) {a b:Nat} (hab:a≤b) (h:PC (n / 2 ^ a)=PC (n / 2 ^ b)):n / 2 ^ a*2 ^ a=n / 2 ^ b*2 ^ b:=by
  obtain ⟨h1,h2⟩:=z7t n a b hab
  have h3:n / 2 ^ a % 2 ^ (b - a)=0:=z2y (by omega)
  rw [h3,Nat.add_zero] at h1
  rw [h1,Nat.mul_assoc,← Nat.pow_add,show b - a+a=b by omega]
theorem zcQ {n:Nat} (hn:n<2 ^ 64):∀ h,h≤64→∀ i,i<PC (n / 2 ^ h)→∃ g,h≤g∧g<64∧(HS h n)[i]?=some g∧n / 2 ^ g % 2=1∧i=PC (n / 2 ^ (g+1)):=by
  have key:∀ d h,h+d=64→∀ i,i<PC (n / 2 ^ h)→∃ g,h≤g∧g<64∧(HS h n)[i]?=some g∧n / 2 ^ g % 2=1∧i=PC (n / 2 ^ (g+1)):=by
    intro d
    induction d with
    | zero=>
      intro h e i hi
      obtain rfl:h=64:=by omega
      rw [Nat.div_eq_of_lt hn,z10] at hi
      omega
    | succ d ih=>
      intro h e i hi
      have hl:=z44 hn (h+1) (by omega)
      have hs:PC (n / 2 ^ h)=n / 2 ^ h % 2+PC (n / 2 ^ (h+1)):=by rw [z0C,z29]
      rcases Nat.lt_or_ge i (PC (n / 2 ^ (h+1))) with h1 | h1
      · obtain ⟨g,a,b,c,r⟩:=ih (h+1) (by omega) i h1
        refine ⟨g,by omega,b,?_,r⟩
        by_cases hb:n / 2 ^ h % 2=1
        · rw [z3j (by omega) hb,List.getElem?_append_left (by omega)]
          exact c
        · rw [z2P (by omega) hb]
          exact c
      · have hb:n / 2 ^ h % 2=1:=by omega
        have hi':i=PC (n / 2 ^ (h+1)):=by omega
        refine ⟨h,Nat.le_refl _,by omega,?_,hb,hi'⟩
        rw [z3j (by omega) hb,List.getElem?_append_right (by omega),hl,hi']
        simp
  intro h hh
  exact key (64 - h) h (by omega)
def HGT (n i:Nat):Nat:=(HS 0 n).getD i 0
def z7a (n:Nat):Nat→Nat
  | 0=>0
  | i+1=>n / 2 ^ HGT n i*2 ^ HGT n i
theorem z2R {n i:Nat} (hn:n<2 ^ 64) (hi:i<PC n):(HS 0 n)[i]?=some (HGT n i)∧n / 2 ^ HGT n i % 2=1∧i=PC (n / 2 ^ (HGT n i+1)):=by
  obtain ⟨g,_,_,c,d,e⟩:=zcQ hn 0 (by omega) i (by rw [Nat.pow_zero,Nat.div_one];exact hi)
  have hg:HGT n i=g:=by unfold HGT;rw [List.getD_eq_getElem?_getD,c];rfl
  rw [hg]
  exact ⟨c,d,e⟩
def KGT (n i:Nat):Nat:=2*(n / 2 ^ (HGT n i+1))
theorem zbm {n i:Nat} (hn:n≤4611686018427387904) (hi:i<PC n):Node (HGT n i) (KGT n i):=Node.peak hn (z2R (by omega) hi).2.1
theorem z5j {n i:Nat} (hn:n<2 ^ 64) (hi:i<PC n):PC (n / 2 ^ HGT n i)=i+1:=by
  obtain ⟨_,h2,h3⟩:=z2R hn hi
  rw [z0C,← z29]
  omega
theorem z6x {n i:Nat} (hn:n<2 ^ 64) (hi:i+1<PC n):HGT n (i+1)<HGT n i:=by
  have h1:=z5j hn (i:=i) (by omega)
  have h2:=(z2R hn hi).2.2
  rcases Nat.lt_or_ge (HGT n (i+1)) (HGT n i) with h | h
  · exact h
  · have h3:=zeb n (a:=HGT n i+1) (b:=HGT n (i+1)+1) (by omega)
    have h4:=(z2R hn (i:=i) (by omega)).2.2
    omega
theorem za8 {n i:Nat} (hn:n<2 ^ 64) (hi:i<PC n):KGT n i*2 ^ HGT n i=z7a n i:=by
  have hk:KGT n i*2 ^ HGT n i=n / 2 ^ (HGT n i+1)*2 ^ (HGT n i+1):=z1h _ _
  have h2:=(z2R hn hi).2.2
  cases i with
  | zero=>
    rw [hk,z2y h2.symm,Nat.zero_mul]
    rfl
  | succ i=>
    have h1:=z5j hn (i:=i) (by omega)
    have h3:=z6x hn hi
    rw [hk]
    exact z7u n (by omega) (by omega)
theorem zcR {n i:Nat} (hn:n<2 ^ 64) (hi:i<PC n):(KGT n i+1)*2 ^ HGT n i=z7a n (i+1):=by
  have:=z5B (z2R hn hi).2.1
  show (2*(n / 2 ^ (HGT n i+1))+1)*2 ^ HGT n i=n / 2 ^ HGT n i*2 ^ HGT n i
  rw [← this]
theorem zbn {n:Nat} (hn:n<2 ^ 64):z7a n (PC n)=n:=by
  cases h:PC n with
  | zero=>
    rw [z2y h]
    rfl
  | succ i=>
    have h1:=z5j hn (i:=i) (by omega)
    have h2:=z7u n (a:=0) (b:=HGT n i) (by omega) (by rw [Nat.pow_zero,Nat.div_one];omega)
    rw [Nat.pow_zero,Nat.div_one,Nat.mul_one] at h2
    exact h2.symm
end Go.Proofs.YthdpkaiieomdoaaGreatDoor

namespace Go.Proofs.YthdpkaiieomdoaaGreatDoor
def PKS (n j c:Nat):List (Nat × Nat):=(List.range' j c).map fun i=>(HGT n i,KGT n i)
theorem z7v (n j c:Nat):PKS n j (c+1)=(HGT n j,KGT n j) :: PKS n (j+1) c:=by simp [PKS,List.range'_succ]
theorem zf8 {n c i:Nat} (h:i<c):(PKS n 0 c)[i]?=some (HGT n i,KGT n i):=by
  simp [PKS,h]
theorem zcS {n:Nat} (hn:n≤4611686018427387904):∀ c j,j+c=PC n→Tile (z7a n j) (PKS n j c) n∧Irr (PKS n j c):=by
  intro c
  induction c with
  | zero=>
    intro j e
    obtain rfl:j=PC n:=by omega
    exact ⟨zbn (by omega),trivial⟩
  | succ c ih=>
    intro j e
    obtain ⟨i1,i2⟩:=ih (j+1) (by omega)
    rw [z7v]
    refine ⟨⟨zbm hn (by omega),za8 (by omega) (by omega),?_⟩,?_,i2⟩
    · show Tile ((KGT n j+1)*2 ^ HGT n j) _ n
      rw [zcR (by omega) (by omega)]
      exact i1
    · intro y hy ⟨h1,_,_⟩
      cases c with
      | zero=>simp [PKS] at hy
      | succ c=>
        rw [z7v] at hy
        simp at hy
        subst hy
        have:=z6x (n:=n) (i:=j) (by omega) (by omega)
        dsimp only at h1
        omega
end Go.Proofs.YthdpkaiieomdoaaGreatDoor

namespace Go.Proofs.YthdpkaiieomdoaaGreatDoor
def Off (s t:Nat × Nat):Prop:=(s.2+1)*2 ^ s.1≤t.2*2 ^ t.1∨(t.2+1)*2 ^ t.1≤s.2*2 ^ s.1
def SIZE (l:List (Nat × Nat)):Nat:=(l.map fun s=>2 ^ s.1).sum
theorem z7w (k h:Nat):(k+1)*2 ^ h=k*2 ^ h+2 ^ h:=by rw [Nat.add_mul,Nat.one_mul]
theorem Tile.size {l:List (Nat × Nat)}:∀ {a b:Nat},Tile a l b→a+SIZE l=b:=by
  induction l with
  | nil=>intro a b h;have:a=b:=h;simp [SIZE,this]
  | cons s l ih=>
    intro a b ⟨h1,h2,h3⟩
    have:=ih h3
    rw [z7w,h2] at this
    simp only [SIZE,List.map_cons,List.sum_cons] at this ⊢
    omega
theorem Tile.within {l:List (Nat × Nat)}:∀ {a b:Nat},Tile a l b→∀ s∈l,a≤s.2*2 ^ s.1∧(s.2+1)*2 ^ s.1≤b∧Node s.1 s.2:=by
  induction l with
  | nil=>intro a b _ s hs;simp at hs
  | cons t l ih=>
    intro a b ⟨h1,h2,h3⟩ s hs
    rcases List.mem_cons.1 hs with rfl | hs
    · exact ⟨by omega,h3.bound.1,h1⟩
    · have:=ih h3 s hs
      have h4:=z7w t.2 t.1
      have h5:=Nat.two_pow_pos t.1
      exact ⟨by omega,this.2⟩
theorem Tile.off {l:List (Nat × Nat)}:∀ {a b:Nat},Tile a l b→l.Pairwise Off:=by
  induction l with
  | nil=>intro a b _;exact List.Pairwise.nil
  | cons t l ih=>
    intro a b ⟨h1,h2,h3⟩
    refine List.Pairwise.cons (fun s hs=>?_) (ih h3)
    exact .inl (h3.within s hs).1
end Go.Proofs.YthdpkaiieomdoaaGreatDoor

namespace Go.Proofs.YthdpkaiieomdoaaGreatDoor
open Go.RowKit
theorem z1y (n:Nat) (hn:n<64) (w:World):Calls Tryz.prog 76 #[.int .i64 (n:Int)] w fun e w'=>e=.returned (.int .u64 ((2 ^ n:Nat):Int))∧w=w':=by
  have HN:Aside (n<64):=hn
  clear hn
  go_enter Tryz.func76,Tryz.ntmps76
  go_wp2
  go_loopg [3,4] n (fun g s3 s4 wx=>∃ i v:Nat,s3=.int .u64 (v:Int)∧s4=.int .i64 (i:Int)∧Aside (v=2 ^ i∧i+g=n)∧wx=w)
  case atStart=>exact ⟨0,1,rfl,rfl,⟨rfl,by omega⟩,rfl⟩
  case round=>
    obtain ⟨i,v,rfl,rfl,A,hw⟩:=hrel
    subst hw
    cases gk with
    | zero=>
      have hi:¬ (i:Int)<(n:Int):=by have:=A.out.2;omega
      go_wp2
      go_ret
      obtain ⟨r1,r2⟩:=A.out
      refine ⟨?_,rfl⟩
      rw [r1,show i=n by omega]
      rfl
    | succ g=>
      have hi:(i:Int)<(n:Int):=by have:=A.out.2;omega
      go_wp2
      go_roundg g
      case measure=>omega
      case rel=>
        obtain ⟨r1,r2⟩:=A.out
        have h64:=HN.out
        have hp:2 ^ (i+1)≤2 ^ 63:=Nat.pow_le_pow_right (by decide) (by omega)
        refine ⟨i+1,2 ^ (i+1),?_,?_,⟨rfl,by omega⟩,rfl⟩
        · congr 1
          rw [z09,r1]
          rw [Nat.pow_succ] at hp ⊢
          omega
        · congr 1
          unfold wrap64
          omega
theorem z8v (n:Nat) (hn:n≤4611686018427387904) (w:World):Calls Tryz.prog 161 #[.int .u64 (n:Int)] w fun e w'=>e=.returned (.tuple #[.int .u64 ((z0r n:Nat):Int),.bool true])∧w=w':=by
  have HN:Aside (n≤4611686018427387904):=hn
  have hd:¬ (4611686018427387904:Int)<(n:Int):=by omega
  clear hn
  go_enter Tryz.func161,Tryz.ntmps161
  go_wp2
  go_loopg [0,4] n (fun g s0 s4 wx=>∃ v:Nat,s0=.int .u64 (g:Int)∧s4=.int .u64 (v:Int)∧Aside (v+z0r g=z0r n)∧wx=w)
  case atStart=>exact ⟨0,rfl,rfl,by unfold Aside;omega,rfl⟩
  case round=>
    obtain ⟨v,rfl,rfl,A,hw⟩:=hrel
    subst hw
    cases gk with
    | zero=>
      go_wp2
      go_ret2
      have r1:=A.out
      rw [z2x] at r1
      refine ⟨?_,rfl⟩
      rw [← r1]
      rfl
    | succ g=>
      have hi:(0:Int)<(((g+1:Nat)):Int):=by omega
      have e1:Aside (IntKind.u64.wrap ((v:Int)+((g+1:Nat):Int))=((v+(g+1):Nat):Int)):=by
        have h1:=z3s (g+1)
        have h2:=A.out
        have h3:=z45 HN.out
        unfold Aside
        rw [z09]
        omega
      have e2:Aside (IntKind.u64.wrap (((g+1:Nat):Int) / 2)=(((g+1) / 2:Nat):Int)):=by
        have h1:=zcv (g+1)
        have h2:=A.out
        have h3:=z45 HN.out
        unfold Aside
        rw [z09]
        omega
      generalize hG:g+1=G at *
      go_wp2
      go_roundg (G / 2)
      case measure=>omega
      case rel=>
        refine ⟨v+G,?_,?_,?_,rfl⟩
        · first | rfl | (congr 1;omega) | (rw [e2.out])
        · rw [e1.out]
        · have h1:=z3s G
          have h2:=A.out
          unfold Aside
          omega
end Go.Proofs.YthdpkaiieomdoaaGreatDoor

namespace Go.Proofs.YthdpkaiieomdoaaGreatDoor
open Go.RowKit
end Go.Proofs.YthdpkaiieomdoaaGreatDoor

namespace Go.Proofs.YthdpkaiieomdoaaGreatDoor
open Go.RowKit
theorem z7x (h k:Nat) (t z y l a r:Int) (w:World) (hh:h≤62) (hm:wrap64 (h:Int)=(h:Int)) (hm2:IntKind.u64.wrap (h:Int)=(h:Int)) (ht:wrap64 (62 - (h:Int))=t) (hk:decide (y≤(k:Int))=false)
    (cy:∀ w,Calls Tryz.prog 76 #[.int .i64 t] w fun e w'=>e=.returned (.int .u64 y)∧w=w') (cz:∀ w,Calls Tryz.prog 76 #[.int .i64 (h:Int)] w fun e w'=>e=.returned (.int .u64 z)∧w=w')
    (e0:IntKind.u64.wrap ((k:Int)+1)=(k:Int)+1) (e1:IntKind.u64.wrap (IntKind.u64.wrap (((k:Int)+1)*z) - 1)=l) (ca:∀ w,Calls Tryz.prog 161 #[.int .u64 l] w fun e w'=>e=.returned (.tuple #[.int .u64 a,.bool true])∧w=w') (e2:IntKind.u64.wrap (a+(h:Int))=r):
    Calls Tryz.prog 113 #[SPOT h k] w fun e w'=>e=.returned (.tuple #[.int .u64 r,.bool true])∧Below w.heap.size w w':=by
  have hd:decide ((62:Int)<(h:Int))=false:=by simp;omega
  go_enter Tryz.func113,Tryz.ntmps113
  go_wp2
  have hc0:(w.alloc (.cells #[.int .u8 (h:Int),.int .u64 (k:Int)] 78)).cell? ⟨w.heap.size,0,none⟩=some (.int .u8 (h:Int)):=by simp
  have hc1:(w.alloc (.cells #[.int .u8 (h:Int),.int .u64 (k:Int)] 78)).cell? ⟨w.heap.size,1,none⟩=some (.int .u64 (k:Int)):=by simp
  have R2:Aside (Below w.heap.size w (w.alloc (.cells #[.int .u8 (h:Int),.int .u64 (k:Int)] 78))):=(Below.refl _ _).alloc (Nat.le_refl _) _
  generalize w.alloc (.cells #[.int .u8 (h:Int),.int .u64 (k:Int)] 78)=W at *
  generalize hb:w.heap.size=b at *
  clear hh
  go_quiet ((go_at_call 76;exact z0A (cy _)))
  have R3:Aside (Below b w (W.drewN nq)):=below_drewN R2.out nq
  have hc0':(W.drewN nq).cell? ⟨b,0,none⟩=some (.int .u8 (h:Int)):=hc0
  have hc1':(W.drewN nq).cell? ⟨b,1,none⟩=some (.int .u64 (k:Int)):=hc1
  clear hc0 hc1 R2 cy
  generalize W.drewN nq=W2 at *
  go_wp2
  go_quiet (first | (go_at_call 76;exact z0A (cz _)) | (go_at_call 161;exact z0A (ca _)))
  go_wp2
  go_ret2
  exact ⟨rfl,by rw [hb];exact below_drewN R3.out _⟩
theorem z8w (h k:Nat) (hN:Node h k) (w:World):Calls Tryz.prog 113 #[SPOT h k] w fun e w'=>e=.returned (.tuple #[.int .u64 ((PLC h k:Nat):Int),.bool true])∧Below w.heap.size w w':=by
  have h1:=hN.1
  have h2:=hN.2
  have h3:=hN.span
  have h4:=hN.index_lt
  have h5:=hN.lt
  have h7:=zcx h k
  have h8:=zdT h k
  refine z7x h k ((62 - h:Nat):Int) ((2 ^ h:Nat):Int) ((2 ^ (62 - h):Nat):Int) (((k+1)*2 ^ h - 1:Nat):Int) ((z0r ((k+1)*2 ^ h - 1):Nat):Int) _ w h1 (by unfold wrap64;omega) (by rw [z09];omega) (by unfold wrap64;omega) (by simp only [decide_eq_false_iff_not];omega) (fun w=>z1y _ (by omega) w) (fun w=>z1y _ (by omega) w) (by rw [z09];omega) ?_ (fun w=>z8v _ (by omega) w) ?_
  · rw [show (((k:Int)+1)*((2 ^ h:Nat):Int))=(((k+1)*2 ^ h:Nat):Int) by rw [Int.natCast_mul];rfl]
    generalize (k+1)*2 ^ h=x at *
    rw [z09,z09]
    omega
  · rw [z09]
    omega
end Go.Proofs.YthdpkaiieomdoaaGreatDoor
