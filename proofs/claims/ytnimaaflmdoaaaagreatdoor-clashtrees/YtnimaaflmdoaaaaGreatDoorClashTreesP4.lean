/- ClashTrees: part 4. -/
import Derived.Laws.AppendOwnNone
import Derived.Test.YtnimaaflmdoaaaaGreatDoorClashTreesP3
namespace Go.Proofs.YtnimaaflmdoaaaaGreatDoor
open Go.RowKit
def BARR (n:Nat) (f:Nat->Int):Array Value:=((List.range n).map fun i=>Value.int .u8 (f i)).toArray
theorem z2m (n:Nat) (f:Nat->Int):(BARR n f).size=n:=by simp [BARR]
theorem z1R (n:Nat) (f:Nat->Int) (i:Nat) (h:i<n):(BARR n f)[i]?=some (.int .u8 (f i)):=by simp [BARR,h]
theorem z8j {n:Nat} {f g:Nat->Int} (h:∀ i,i<n->f i=g i):BARR n f=BARR n g:=by
 unfold BARR;congr 1
 apply List.map_congr_left;intro i hi;rw [h i (by simpa using hi)]
theorem z5B (n:Nat) (f:Nat->Int) (i:Nat) (v:Int):(BARR n f).setIfInBounds i (.int .u8 v)=BARR n fun j=>if j=i then v else f j:=by
 apply Array.ext_getElem?;intro j;by_cases hj:j<n
 ·rw [z1R _ _ j hj,Array.getElem?_setIfInBounds]
  by_cases h:i=j
  ·subst h
   simp [z2m,hj]
  ·have h':¬ j=i:=fun e=>h e.symm
   simp [h,h',z1R _ _ j hj]
 ·rw [Array.getElem?_eq_none (by simp [z2m];omega),Array.getElem?_eq_none (by simp [z2m];omega)]
theorem z4J (n:Nat):madeCells #[Value.int .u8 0] n=BARR n fun _=>0:=by
 apply Array.ext_getElem?;intro j;by_cases hj:j<n
 ·rw [z1R _ _ j hj]
  simp [madeCells,hj,Nat.mod_one]
 ·rw [Array.getElem?_eq_none (by simp [madeCells];omega),Array.getElem?_eq_none (by simp [z2m];omega)]
theorem z19:(Tryz.prog.info? 5).map (fun i=>(i.zero,i.size,i.bytes))=some (some (.int .u8 0),1,1):=by kernel_rfl
theorem z5W (n:Nat) (hn:n<=1000000) (w:World):(Instr.makeSlice 25 (.int .i64 (n:Int)) (.int .i64 (n:Int))).run Tryz.prog w=.ok (.slice (some ⟨w.heap.size,0,none⟩) n n) (w.alloc (.cells (BARR n fun _=>0) 5)):=by
 rw [run_make_row' 25 5 (.int .u8 0) 1 Tryz.underlying25 z19 rfl .i64 .i64 n (by omega) (by omega) w,z4J]
def IsRow (k:IntKind) (w:World) (a:Option Addr) (len cap:Nat) (zs:List Int):Prop:=
 (a=none/\len=0/\cap=0/\zs=[])\/
 ∃ x,a=some x/\len<=cap/\cap<=maxLen/\zs.length=cap/\(∀ i,i<zs.length->w.cell? (x.add i)=some (.int k (zs.getD i 0)))/\∀ n∈zs,(Lit.int k n).wf=true
def Bytes (w:World) (a:Option Addr) (n:Nat) (l:List Int):Prop:=
 l.length=n/\(0<n->∃ b off,a=some ⟨b,off,none⟩/\b<w.heap.size/\∀ i,i<n->w.cell? ⟨b,off+i,none⟩=some (.int .u8 (l.getD i 0)))/\∀ x∈l,0<=x/\x<=255
theorem Bytes.below {w w':World} {a:Option Addr} {n:Nat} {l:List Int} (h:Bytes w a n l) (hb:Below w.heap.size w w'):Bytes w' a n l:=
 ⟨h.1,fun hn=>by
  obtain ⟨b,off,e,hl,hc⟩:=h.2.1 hn;exact ⟨b,off,e,Nat.lt_of_lt_of_le hl hb.size,fun i hi=>(hb.cell (by exact hl)).trans (hc i hi)⟩,h.2.2⟩
theorem Bytes.get {w:World} {a:Option Addr} {n:Nat} {l:List Int} (h:Bytes w a n l) (i:Nat):0<=l.getD i 0/\l.getD i 0<=255:=by
 by_cases hi:i<l.length
 ·rw [List.getD_eq_getElem?_getD,List.getElem?_eq_getElem hi]
  exact h.2.2 _ (List.getElem_mem hi)
 ·rw [List.getD_eq_getElem?_getD,List.getElem?_eq_none (by omega)]
  simp
theorem z1w (b off i:Nat):(⟨b,off,none⟩:Addr).add i=⟨b,off+i,none⟩:=by unfold Addr.add;split <;> simp_all
theorem IsRow.bytes {w:World} {a:Option Addr} {n c:Nat} {zs:List Int} (h:IsRow .u8 w a n c zs):Bytes w a n (zs.take n):=by
 rcases h with ⟨rfl,rfl,rfl,rfl⟩ | ⟨x,rfl,hl,_,hz,hcell,hwf⟩
 ·exact ⟨rfl,fun h=>by omega,fun x hx=>by simp at hx⟩
 ·refine ⟨by simp [hz,hl],fun hn=>?_,fun y hy=>?_⟩
  ·obtain ⟨b,off,spot⟩:=x
   have hc:=hcell 0 (by omega);have hspot:spot=none:=by simpa [Addr.add] using World.cell?_spot hc
   subst hspot;refine ⟨b,off,rfl,block_lt_of_cell (by simpa [Addr.add] using hc),fun i hi=>?_⟩;have:=hcell i (by omega);rw [z1w] at this;rw [this];congr 2
   simp [List.getD_eq_getElem?_getD,hi]
  ·have:=bounds_u8 (hwf y (List.mem_of_mem_take hy))
   exact this
theorem z4K {F f:Nat->Int} {i:Nat} {v:Int} (A:∀ j,f j=if j<i then F j else 0) (hv:v=F i):∀ j,(if j=i then v else f j)=if j<i+1 then F j else 0:=fun j=>by
 by_cases e:j=i
 ·subst e
  simp [hv]
 ·rw [if_neg e,A j]
  by_cases e2:j<i
  ·rw [if_pos e2,if_pos (by omega)]
  ·rw [if_neg e2,if_neg (by omega)]
theorem z6K (x:Int) (n:Nat) (F:Nat->Int) (hn:(n:Int)<=8) (w:World) (c:∀ w,Calls Tryz.prog 185 #[.int .u64 x,.int .i64 (8*(n:Int))] w fun e w'=>e=.returned (.int .u64 0)/\w=w')
  (ci:∀ i:Nat,i<n->∃ s:Int,Aside (s % 256=F i)/\∀ w,Calls Tryz.prog 185 #[.int .u64 x,.int .i64 (8*((n:Int) - 1 - (i:Int)))] w fun e w'=>e=.returned (.int .u64 s)/\w=w'):
  Calls Tryz.prog 162 #[.int .u64 x,.int .i64 (n:Int)] w fun e w'=>e=.returned (.tuple #[.slice (some ⟨w.heap.size,0,none⟩) n n,.int .i64 0])/\w.alloc (.cells (BARR n F) 5)=w':=by
 have hmk:=z5W n (by omega);have CI:Aside (∀ i:Nat,i<n->∃ s:Int,Aside (s % 256=F i)/\∀ w,Calls Tryz.prog 185 #[.int .u64 x,.int .i64 (8*((n:Int) - 1 - (i:Int)))] w fun e w'=>e=.returned (.int .u64 s)/\w=w'):=ci;clear ci;go_enter Tryz.func162,Tryz.ntmps162;go_wp2_with fail
 refine (c _).mono ?_;rintro e w' ⟨rfl,rfl⟩;go_wp2;go_loopg [23] n (fun g s23 wx=>∃ (i:Nat) (f:Nat->Int),i+g=n/\Aside (∀ j,f j=if j<i then F j else 0)/\s23=.int .i64 i/\wx=w.alloc (.cells (BARR n f) 5))
 case atStart=>exact ⟨0,fun _=>0,by omega,fun j=>by simp,rfl,rfl⟩
 case round=>
  obtain ⟨i,f,hig,A,rfl,rfl⟩:=hrel;cases gk with
  | zero=>
    obtain rfl:i=n:=by omega
    have hf:BARR i f=BARR i F:=z8j fun j hj=>by rw [A.out j,if_pos hj]
    rw [hf];clear hf A;go_wp2;go_ret2;exact ⟨rfl,rfl⟩
  | succ g=>
    have hi:(i:Int)<(n:Int):=by omega
    have hc:(BARR n f)[i]?=some (.int .u8 (f i)):=z1R n f i (by omega);have hs:∀ v,(BARR n f).setIfInBounds i (.int .u8 v)=BARR n (fun j=>if j=i then v else f j):=fun v=>z5B n f i v;obtain ⟨s,hsF,cs⟩:=CI.out i (by omega);go_wp2_with fail
    refine (cs _).mono ?_;rintro e w' ⟨rfl,rfl⟩;go_wp2;go_roundg g
    case measure=>omega
    case rel=>exact ⟨i+1,_,by omega,z4K A.out hsF.out,by go_num,rfl⟩
def BYTE (X n:Nat):Nat->Int:=fun i=>((X / 2 ^ (8*(n - 1 - i)) % 256:Nat):Int)
theorem zcM (X n:Nat) (hX:X<2 ^ 64) (hn:n<=8) (h:X / 2 ^ (8*n)=0) (w:World):
  Calls Tryz.prog 162 #[.int .u64 (X:Int),.int .i64 (n:Int)] w fun e w'=>e=.returned (.tuple #[.slice (some ⟨w.heap.size,0,none⟩) n n,.int .i64 0])/\w.alloc (.cells (BARR n (BYTE X n)) 5)=w':=by
 refine z6K X n (BYTE X n) (by omega) w (fun w=>?_) (fun i hi=>?_)
 ·have k:=z2T X (8*(n:Int)) hX (by omega) (by omega) w
  have hs:SHR X (8*(n:Int))=0:=by
   unfold SHR;rw [if_neg (by omega),show (8*(n:Int)).toNat=8*n by omega,h]
  rw [hs] at k;exact k
 ·refine ⟨(SHR X (8*((n:Int) - 1 - (i:Int))):Nat),?_,fun w=>z2T X _ hX (by omega) (by omega) w⟩
  unfold SHR BYTE Aside;rw [if_neg (by omega),show (8*((n:Int) - 1 - (i:Int))).toNat=8*(n - 1 - i) by omega];simp
def z00 (l:List Int):List Value:=l.map (Value.int .u8)
theorem z1z (a b:List Int):z00 (a ++ b)=z00 a ++ z00 b:=by simp [z00]
theorem z0N (l:List Int) (i:Nat) (h:i<l.length):(z00 l)[i]?=some (.int .u8 (l.getD i 0)):=by
 simp [z00,h,List.getD_eq_getElem?_getD]
theorem z2n (l:List Int):∀ u∈z00 l,u.oneCell'=true:=fun u hu=>by
 simp [z00] at hu;obtain ⟨x,_,rfl⟩:=hu;rfl
theorem z1J:∃ i,Tryz.prog.info? 5=some i/\i.zero=some (.int .u8 0)/\i.size=1/\i.bytes=1:=by
 obtain ⟨i,hi,h⟩:=Option.map_eq_some_iff.1 z19;simp only [Prod.mk.injEq] at h;exact ⟨i,hi,h.1,h.2.1,h.2.2⟩
theorem z24 {ops:Array Oper} {rest:List Oper} {o:Oper} {a:Act} {Q:Exit->Act->World->Prop} (w:World) (hgd:o.guard=none) (s x:Operand)
  (ho:o.op=.call {callee:=.builtin .append,args:=#[s,x],argTypes:=#[25,25]})
  (base:Nat) (v:Value) (n:Nat) (xs:List Int) (hs:a.eval s=v) (hown:w.ownsRow base 5 1 v n (z00 xs))
  (b off m c:Nat) (l:List Int) (hx:a.eval x=.slice (some ⟨b,off,none⟩) m c) (hB:Bytes w (some ⟨b,off,none⟩) m l)
  (hm:0<m) (hb:n+m<=140737488355328) (hbase:base<=w.heap.size)
  (h:∀ g cap w',w'.ownsRow base 5 1 (.slice (some ⟨g,0,none⟩) (n+m) cap) (n+m) (z00 (xs ++ l))->w.grownBy w' v.ownBlock->g<w'.heap.size->wpList Tryz.prog ops Q rest (a.put o.dst (.slice (some ⟨g,0,none⟩) (n+m) cap)) w'):wpList Tryz.prog ops Q (o :: rest) a w:=by
 obtain ⟨i,hi,hz,hs1,hby⟩:=z1J;obtain ⟨b',off',e,_,hc⟩:=hB.2.1 hm;simp only [Option.some.injEq,Addr.mk.injEq] at e;obtain ⟨rfl,rfl,_⟩:=e;refine wpList_append_lies w hgd s x 25 ho base 5 i (.int .u8 0) 1 1 Tryz.underlying25 hi hz hs1 hby rfl (by decide) v n (z00 xs) hs hown ⟨b,off,none⟩ m c (z00 l) hx (by simp [z00,hB.1]) ?_ (z2n l) hm (by simp only [maxLen];omega) (by omega) hbase w.heap.size rfl ?_
 ·intro j u hj
  have hjl:j<l.length:=by
   have:=(List.getElem?_eq_some_iff.1 hj).1;simpa [z00] using this
  rw [z0N l j hjl] at hj;rw [z1w,hc j (by rw [<-hB.1];exact hjl)];exact hj
 ·intro g cap w' h1 h2 _ h4
  rw [<-z1z] at h1;exact h g cap w' h1 h2 h4
theorem z47 (w:World) (row:Option Nat):w.grownBy w row:=⟨rfl,rfl,rfl,Nat.le_refl _,fun _ _ _=>rfl⟩
theorem z5C {ops:Array Oper} {rest:List Oper} {o:Oper} {a:Act} {Q:Exit->Act->World->Prop} (w:World) (hgd:o.guard=none) (s x:Operand)
   (ho:o.op=.call {callee:=.builtin .append,args:=#[s,x],argTypes:=#[25,25]})
   (base:Nat) (v:Value) (n:Nat) (xs:List Int) (hs:a.eval s=v) (hown:w.ownsRow base 5 1 v n (z00 xs))
   (ao:Option Addr) (c:Nat) (hx:a.eval x=.slice ao 0 c) (hc:ao=none->c=0) (hn:n<=140737488355328) (hbase:base<=w.heap.size)
   (h:∀ a' c' w',w'.ownsRow base 5 1 (.slice a' n c') n (z00 xs)->w.grownBy w' v.ownBlock->wpList Tryz.prog ops Q rest (a.put o.dst (.slice a' n c')) w'):wpList Tryz.prog ops Q (o :: rest) a w:=by
 obtain ⟨i,hi,hz,hs1,hby⟩:=z1J
 have form:∀ (v':Value) (w':World),w'.ownsRow base 5 1 v' n (z00 xs)->∃ a' c',v'=.slice a' n c':=fun v' w' h=>by
   rcases h.2 with ⟨rfl,rfl⟩ | ⟨g,cap,cur,rfl,_⟩
   ·exact ⟨none,0,rfl⟩
   ·exact ⟨_,cap,rfl⟩
 cases ao with
 | none=>
   obtain rfl:=hc rfl;refine wpList_append_own_none hgd s x 25 ho base 5 i 1 Tryz.underlying25 hi v n (z00 xs) hs hown hx ?_;obtain ⟨a',c',rfl⟩:=form v w hown;exact h a' c' w hown (z47 _ _)
 | some ad=>
   refine wpList_append_own w hgd s x 25 ho base 5 i (.int .u8 0) 1 1 Tryz.underlying25 hi hz hs1 hby rfl (by decide) v n (z00 xs) hs hown ad 0 c [] hx rfl (fun j u hj=>by simp at hj) (fun u hu=>by simp at hu) (by simp only [maxLen];omega) (by omega) hbase ?_;intro v' w' h1 h2 _;simp only [Nat.add_zero,List.append_nil] at h1;obtain ⟨a',c',rfl⟩:=form v' w' h1;exact h a' c' w' h1 h2
theorem z2V {w:World} {base g n cap:Nat} {l:List Int} (h:w.ownsRow base 5 1 (.slice (some ⟨g,0,none⟩) n cap) n (z00 l)) (hg:g<w.heap.size) (hl:∀ x∈l,0<=x/\x<=255):Bytes w (some ⟨g,0,none⟩) n l:=by
 have hlen:l.length=n:=by have:=h.1;simpa [z00] using this
 refine ⟨hlen,fun _=>⟨g,0,rfl,hg,fun i hi=>?_⟩,hl⟩;rw [Nat.zero_add,h.cellAt i (by omega),z0N l i (by omega)]
theorem z2W (w:World) (n:Nat) (f:Nat->Int) (l:List Int) (hl:l.length=n) (hf:∀ i,i<n->f i=l.getD i 0) (hr:∀ x∈l,0<=x/\x<=255):Bytes (w.alloc (.cells (BARR n f) 5)) (some ⟨w.heap.size,0,none⟩) n l:=by
 refine ⟨hl,fun _=>⟨w.heap.size,0,rfl,by simp,fun i hi=>?_⟩,hr⟩;rw [Nat.zero_add,World.cell?_alloc_at _ _ _ _ rfl,z1R n f i hi,hf i hi]
theorem z1f {w:World} {base n c:Nat} {a:Option Addr} {l:List Int} (h:w.ownsRow base 5 1 (.slice a n c) n (z00 l)) (hl:∀ x∈l,0<=x/\x<=255):Bytes w a n l/\n<=c:=by
 rcases h.2 with ⟨hv,hn⟩ | ⟨g,cap,cur,hv,_,hg,hc,_⟩
 ·simp only [Value.slice.injEq] at hv
  obtain ⟨rfl,rfl,rfl⟩:=hv;have:l=[]:=by have:=h.1;simpa [z00] using this
  subst this;exact ⟨⟨rfl,fun h=>by omega,fun x hx=>by simp at hx⟩,Nat.le_refl _⟩
 ·simp only [Value.slice.injEq] at hv
  obtain ⟨rfl,_,rfl⟩:=hv;exact ⟨z2V h (Array.getElem?_eq_some_iff.1 hg).1 hl,hc⟩
theorem zaj {ops:Array Oper} {rest:List Oper} {o:Oper} {a:Act} {Q:Exit->Act->World->Prop} (w:World) (hgd:o.guard=none) (s x:Operand)
  (ho:o.op=.call {callee:=.builtin .append,args:=#[s,x],argTypes:=#[25,25]})
  (base:Nat) (v:Value) (n:Nat) (xs:List Int) (hs:a.eval s=v) (hown:w.ownsRow base 5 1 v n (z00 xs))
  (ao:Option Addr) (m c:Nat) (l:List Int) (hx:a.eval x=.slice ao m c) (hB:Bytes w ao m l) (hc:ao=none->c=0)
  (N:Nat) (L:List Int) (hN:n+m=N) (hL:xs ++ l=L) (hb:N<=140737488355328) (hbase:base<=w.heap.size)
  (h:∀ a' c' w',w'.ownsRow base 5 1 (.slice a' N c') N (z00 L)->w.grownBy w' v.ownBlock->wpList Tryz.prog ops Q rest (a.put o.dst (.slice a' N c')) w'):wpList Tryz.prog ops Q (o :: rest) a w:=by
 subst hN hL;rcases Nat.eq_zero_or_pos m with hm | hm
 ·subst hm
  have hl:l=[]:=by have:=hB.1;simpa using this
  subst hl;refine z5C w hgd s x ho base v n xs hs hown ao c hx hc (by omega) hbase ?_;simpa using h
 ·obtain ⟨b,off,rfl,_,_⟩:=hB.2.1 hm
  refine z24 w hgd s x ho base v n xs hs hown b off m c l hx hB hm hb hbase ?_;intro g cap w' h1 h2 _;exact h _ cap w' h1 h2
def z1q (X j:Nat):List Int:=(List.range j).map fun i=>((X / 128 ^ i % 128+128:Nat):Int)
theorem z9t (X j:Nat):z1q X (j+1)=z1q X j ++ [((X / 128 ^ j % 128+128:Nat):Int)]:=by simp [z1q,List.range_succ]
theorem z2a (X j:Nat):(z1q X j).length=j:=by simp [z1q]
def TOPG (X:Nat):Nat->Nat
 | 0=>0
 | k+1=>if X<128 then 0 else TOPG (X / 128) k+1
def NTOP (X:Nat):Nat:=TOPG X 9
def z0j (X:Nat):List Int:=z1q X (NTOP X) ++ [((X / 128 ^ NTOP X:Nat):Int)]
theorem z0R (X:Nat):(z0j X).length=NTOP X+1:=by simp [z0j,z2a]
theorem zak:∀ (k X:Nat),TOPG X k<=k
 | 0,_=>Nat.le_refl _
 | k + 1,X=>by
   unfold TOPG;split
   ·omega
   ·have:=zak k (X / 128)
    omega
theorem z48:∀ (k X j:Nat),j<TOPG X k->128<=X / 128 ^ j
 | 0,_,_,h=>by simp [TOPG] at h
 | k + 1,X,j,h=>by
   unfold TOPG at h;split at h
   ·omega
   ·cases j with
    | zero=>simp;omega
    | succ j=>
      have:=z48 k (X / 128) j (by omega);rw [Nat.div_div_eq_div_mul,Nat.mul_comm,<-Nat.pow_succ] at this;exact this
theorem zal:∀ (k X:Nat),X<128 ^ (k+1)->X / 128 ^ TOPG X k<128
 | 0,X,h=>by simpa [TOPG] using h
 | k + 1,X,h=>by
   unfold TOPG;split
   ·simpa using ‹X<128›
   ·have:=zal k (X / 128) (by rw [Nat.pow_succ] at h;exact Nat.div_lt_of_lt_mul (by omega))
    rw [Nat.div_div_eq_div_mul,Nat.mul_comm,<-Nat.pow_succ] at this;exact this
theorem z3Q (X:Nat):NTOP X<=9:=zak 9 X
theorem z6L {X:Nat} (hX:X<2 ^ 64):X / 128 ^ NTOP X<128:=zal 9 X (Nat.lt_of_lt_of_le hX (by decide))
theorem zam {X:Nat} (hX:X<2 ^ 64) {j:Nat} (hj:∀ i,i<j->128<=X / 128 ^ i) (h:X / 128 ^ j<128):NTOP X=j:=by
 rcases Nat.lt_trichotomy (NTOP X) j with h1 | h1 | h1
 ·have:=hj _ h1
  have:=z6L hX;omega
 ·exact h1
 ·have:=z48 9 X j h1
  omega
theorem zeH (X:Nat) {i j:Nat} (h:i<=j):X / 128 ^ j<=X / 128 ^ i:=Nat.div_le_div_left (Nat.pow_le_pow_right (by decide) h) (Nat.pow_pos (by decide))
theorem z8k (X j:Nat):∀ x∈z1q X j,0<=x/\x<=255:=fun x hx=>by
 simp only [z1q,List.mem_map] at hx;obtain ⟨i,_,rfl⟩:=hx;omega
theorem z2L {X:Nat} (hX:X<2 ^ 64):∀ x∈z0j X,0<=x/\x<=255:=fun x hx=>by
 simp only [z0j,List.mem_append,List.mem_singleton] at hx;rcases hx with hx | rfl
 ·exact z8k X _ x hx
 ·have:=z6L hX
  generalize X / 128 ^ NTOP X=y at *
  omega
theorem z7e (w:World) (v:Int) (h0:0<=v) (h1:v<=255):Bytes (w.alloc (.cells #[.int .u8 v] 5)) (some ⟨w.heap.size,0,none⟩) 1 [v]:=by
 refine ⟨rfl,fun _=>⟨w.heap.size,0,rfl,by simp,fun i hi=>?_⟩,fun x hx=>by simp at hx;omega⟩;obtain rfl:i=0:=by omega
 rw [Nat.zero_add,World.cell?_alloc_at _ _ _ _ rfl];rfl
theorem zeI (w:World) (base:Nat) (hb:base<=w.heap.size) (cur:Array Value) (cap:Nat) (hm:cap<=1000) (hs:cur.size=cap):(w.alloc (.cells cur 5)).ownsRow base 5 1 (.slice (some ⟨w.heap.size,0,none⟩) 0 cap) 0 (z00 []):=
 World.ownsRow_made w cur cap hb (by simp only [maxLen];omega) (by omega)
set_option maxHeartbeats 1000000 in
theorem z8l (X:Nat) (hX:X<2 ^ 64) (w:World):Calls Tryz.prog 83 #[.int .u64 (X:Int)] w fun e w'=>
  ∃ g cap,e=.returned (.slice (some ⟨g,0,none⟩) (NTOP X+1) cap)/\w'.ownsRow w.heap.size 5 1 (.slice (some ⟨g,0,none⟩) (NTOP X+1) cap) (NTOP X+1) (z00 (z0j X))/\g<w'.heap.size/\Below w.heap.size w w':=by
 have hmk:∀ w:World,(Instr.makeSlice 25 (.int .i64 0) (.int .i64 10)).run Tryz.prog w=.ok (.slice (some ⟨w.heap.size,0,none⟩) 0 10) (w.alloc (.cells #[.int .u8 0,.int .u8 0,.int .u8 0,.int .u8 0,.int .u8 0,.int .u8 0,.int .u8 0,.int .u8 0,.int .u8 0,.int .u8 0] 5)):=fun _=>by kernel_rfl
 have HX:Aside (X<2 ^ 64):=hX;clear hX;go_enter Tryz.func83,Tryz.ntmps83;go_wp2;go_loopg [0,3] 10 (fun g s0 s3 wx=>∃ (j x:Nat),j+g=10/\Aside (x=X / 128 ^ j/\(∀ i,i<j->128<=X / 128 ^ i)/\wx.ownsRow w.heap.size 5 1 s3 j (z00 (z1q X j))/\Below w.heap.size w wx)/\s0=.int .u64 (x:Int))
 case atStart=>exact ⟨0,X,by omega,⟨by simp,fun i hi=>by omega,zeI w _ (Nat.le_refl _) _ 10 (by decide) rfl,(Below.refl _ _).alloc (Nat.le_refl _) _⟩,rfl⟩
 case round=>
  obtain ⟨j,x,hjg,A,rfl⟩:=hrel;by_cases hx:128<=(x:Int)
  ·go_wp2_with (at_builtin;refine z24 _ rfl (.tmp 9) (.tmp 14) rfl w.heap.size u3 j (z1q X j) rfl (A.out.2.2.1.alloc _) wr.heap.size 0 1 1 [(x:Int) % 128+128] rfl (z7e wr _ (by omega) (by omega)) (by omega) (by omega) (by have:=A.out.2.2.2.size;simp;omega) ?_;intro g cap w1 hown hgrow hg)
   have R:(x / 128=X / 128 ^ (j+1))/\(∀ i,i<j+1->128<=X / 128 ^ i)/\w1.ownsRow w.heap.size 5 1 (.slice (some ⟨g,0,none⟩) (j+1) cap) (j+1) (z00 (z1q X (j+1)))/\Below w.heap.size w w1:=by
    obtain ⟨hxe,hall,hown0,hb⟩:=A.out;refine ⟨by rw [hxe,Nat.div_div_eq_div_mul,<-Nat.pow_succ],fun i hi=>?_,?_,?_⟩
    ·by_cases e:i=j
     ·rw [e,<-hxe];omega
     ·exact hall i (by omega)
    ·rw [z9t,show ((X / 128 ^ j % 128+128:Nat):Int)=(x:Int) % 128+128 by rw [<-hxe];omega]
     exact hown
    ·exact (hb.alloc hb.size _).grown hgrow (by have:=hb.size;simp;omega) (fun k e=>(hown0.lt k e).1)
   have HR:Aside ((x / 128=X / 128 ^ (j+1))/\(∀ i,i<j+1->128<=X / 128 ^ i)/\w1.ownsRow w.heap.size 5 1 (.slice (some ⟨g,0,none⟩) (j+1) cap) (j+1) (z00 (z1q X (j+1)))/\Below w.heap.size w w1):=R
   have hj9:j<9:=by
    obtain ⟨hxe,hall,_,_⟩:=A.out;rcases Nat.lt_or_ge j 9 with h | h
    ·exact h
    ·have h1:=zeH X h
     have h2:X / 128 ^ 9<2:=Nat.div_lt_of_lt_mul (Nat.lt_of_lt_of_le HX.out (by decide));omega
   clear hown hgrow hg R A;go_wp2;go_roundg (gk - 1)
   case measure=>omega
   case rel=>exact ⟨j+1,x / 128,by omega,HR,by first | rfl | go_num⟩
  ·go_wp2_with (at_builtin;refine z24 _ rfl (.tmp 16) (.tmp 19) rfl w.heap.size u3 j (z1q X j) rfl (A.out.2.2.1.alloc _) wr.heap.size 0 1 1 [(x:Int)] rfl (z7e wr _ (by omega) (by omega)) (by omega) (by omega) (by have:=A.out.2.2.2.size;simp;omega) ?_;intro g cap w1 hown hgrow hg)
   obtain ⟨hxe,hall,hown0,hb⟩:=A.out;have hN:NTOP X=j:=zam HX.out hall (by rw [<-hxe];omega)
   have R:w1.ownsRow w.heap.size 5 1 (.slice (some ⟨g,0,none⟩) (NTOP X+1) cap) (NTOP X+1) (z00 (z0j X))/\g<w1.heap.size/\Below w.heap.size w w1:=by
    refine ⟨?_,hg,(hb.alloc hb.size _).grown hgrow (by have:=hb.size;simp;omega) (fun k e=>(hown0.lt k e).1)⟩;unfold z0j;rw [hN,<-hxe];exact hown
   have HR:Aside (w1.ownsRow w.heap.size 5 1 (.slice (some ⟨g,0,none⟩) (NTOP X+1) cap) (NTOP X+1) (z00 (z0j X))/\g<w1.heap.size/\Below w.heap.size w w1):=R;have HN:Aside (NTOP X=j):=hN;clear hown hgrow hg R A hxe hall hown0 hb hN;go_wp2;go_ret;obtain ⟨h1,h2,h3⟩:=HR.out;refine ⟨g,cap,?_,h1,h2,h3⟩;rw [HN.out];rfl
end Go.Proofs.YtnimaaflmdoaaaaGreatDoor
namespace Go.Proofs.YtnimaaflmdoaaaaGreatDoor
abbrev Fit (a h b:Nat):Prop:=a % 2 ^ h=0/\a+2 ^ h<=b
theorem Fit.down {a h b:Nat} (f:Fit a (h+1) b):Fit a h b:=by
 have h1:2 ^ (h+1)=2 ^ h*2:=Nat.pow_succ 2 h;have h2:=f.2;refine ⟨?_,by omega⟩;have h3:=f.1;have h4:2 ^ h ∣ 2 ^ (h+1):=⟨2,h1⟩
 exact Nat.mod_eq_zero_of_dvd (Nat.dvd_trans h4 (Nat.dvd_of_mod_eq_zero h3))
theorem Fit.le {a g b:Nat}:∀ h,h<=g->Fit a g b->Fit a h b:=by
 intro h hg f;induction g with
 | zero => obtain rfl:h=0:=by omega
           exact f
 | succ g ih=>
   rcases Nat.lt_or_ge h (g+1) with h1 | h1
   ·exact ih (by omega) f.down
   ·obtain rfl:h=g+1:=by omega
    exact f
theorem Fit.zero {a b:Nat} (h:a<b):Fit a 0 b:=⟨Nat.mod_one a,by simp;omega⟩
def HTF:Nat->Nat->Nat->Nat
 | 0,_,_=>0
 | f+1,a,b=>if Fit a (f+1) b then f+1 else HTF f a b
def HT (a b:Nat):Nat:=HTF 62 a b
theorem zeJ {a b:Nat} (hab:a<b):∀ f,¬ Fit a (f+1) b->HTF f a b<=f/\Fit a (HTF f a b) b/\¬ Fit a (HTF f a b+1) b:=by
 intro f;induction f with
 | zero=>intro h;exact ⟨Nat.le_refl _,Fit.zero hab,h⟩
 | succ f ih=>
   intro h;unfold HTF;split
   ·rename_i h1
    exact ⟨Nat.le_refl _,h1,h⟩
   ·rename_i h1
    have:=ih h1;exact ⟨by omega,this.2⟩
theorem zan {a b:Nat} (hab:a<b) (hb:b<=4611686018427387904):HT a b<=62/\Fit a (HT a b) b/\¬ Fit a (HT a b+1) b:=by
 refine zeJ hab 62 ?_;intro h;have:=h.2;simp at this;omega
theorem zao {a b h:Nat} (hab:a<b) (hb:b<=4611686018427387904) (h1:Fit a h b) (h2:¬ Fit a (h+1) b):h=HT a b:=by
 obtain ⟨_,a1,a2⟩:=zan hab hb;rcases Nat.lt_trichotomy h (HT a b) with c | c | c
 ·exact absurd (a1.le (h+1) (by omega)) h2
 ·exact c
 ·exact absurd (h1.le (HT a b+1) (by omega)) a2
def z49:Nat->Nat->Nat->List (Nat × Nat)
 | 0,_,_=>[]
 | f+1,a,b=>if a<b then (HT a b,a / 2 ^ HT a b) :: z49 f (a+2 ^ HT a b) b else []
def SPAN (a b:Nat):List (Nat × Nat):=z49 (b - a) a b
theorem zbf:∀ f g a b,b - a<=f->b - a<=g->z49 f a b=z49 g a b:=by
 intro f;induction f with
 | zero=>
   intro g a b h1 h2;cases g with
   | zero=>rfl
   | succ g=>simp [z49];omega
 | succ f ih=>
   intro g a b h1 h2;cases g with
   | zero=>simp [z49];omega
   | succ g=>
     unfold z49;have:=Nat.two_pow_pos (HT a b);rw [ih g (a+2 ^ HT a b) b (by omega) (by omega)]
theorem z5D {a b:Nat} (h:b<=a):SPAN a b=[]:=by
 unfold SPAN;rw [show b - a=0 by omega];rfl
theorem z4L {a b:Nat} (h:a<b):SPAN a b=(HT a b,a / 2 ^ HT a b) :: SPAN (a+2 ^ HT a b) b:=by
 unfold SPAN;obtain ⟨f,hf⟩:∃ f,b - a=f+1:=⟨b - a - 1,by omega⟩
 have:=Nat.two_pow_pos (HT a b);rw [hf];show (if a<b then _ else _)=_;rw [if_pos h];congr 1
 exact zbf _ _ _ _ (by omega) (by omega)
def Tile:Nat->List (Nat × Nat)->Nat->Prop
 | a,[],b=>a=b
 | a,s :: l,b=>Node s.1 s.2/\s.2*2 ^ s.1=a/\Tile ((s.2+1)*2 ^ s.1) l b
abbrev Sibs (x y:Nat × Nat):Prop:=x.1=y.1/\x.2 % 2=0/\y.2=x.2+1
def Irr:List (Nat × Nat)->Prop
 | []=>True
 | x :: l=>(∀ y,l.head?=some y->¬ Sibs x y)/\Irr l
theorem Fit.node {a h b:Nat} (f:Fit a h b) (hh:h<=62) (hb:b<=4611686018427387904):Node h (a / 2 ^ h)/\a / 2 ^ h*2 ^ h=a/\(a / 2 ^ h+1)*2 ^ h=a+2 ^ h:=by
 have h1:a / 2 ^ h*2 ^ h=a:=Nat.div_mul_cancel (Nat.dvd_of_mod_eq_zero f.1);have h2:(a / 2 ^ h+1)*2 ^ h=a+2 ^ h:=by rw [Nat.add_mul,Nat.one_mul,h1]
 refine ⟨⟨hh,?_⟩,h1,h2⟩
 have h3:(a / 2 ^ h+1)*2 ^ h<=2 ^ (62 - h)*2 ^ h:=by
  rw [h2,<-Nat.pow_add,show 62 - h+h=62 by omega];have:=f.2;simp;omega
 exact Nat.le_of_mul_le_mul_right h3 (Nat.two_pow_pos h)
theorem z5X (h:Nat):2 ^ (h+1)=2*2 ^ h:=by rw [Nat.pow_succ,Nat.mul_comm]
theorem zap {k h:Nat}:k*2 ^ h % 2 ^ (h+1)=0↔k % 2=0:=by
 rw [Nat.pow_succ,Nat.mul_comm (2 ^ h) 2,Nat.mul_mod_mul_right];have:=Nat.two_pow_pos h;constructor
 ·intro e
  rcases Nat.mul_eq_zero.1 e with e | e
  ·exact e
  ·omega
 ·intro e
  rw [e,Nat.zero_mul]
theorem zcN {b:Nat} (hb:b<=4611686018427387904):∀ f a,b - a<=f->a<=b->Tile a (SPAN a b) b:=by
 intro f;induction f with
 | zero=>
   intro a h1 h2;rw [z5D (by omega)];exact (by omega:a=b)
 | succ f ih=>
   intro a h1 h2;rcases Nat.lt_or_ge a b with h | h
   ·obtain ⟨s1,s2,_⟩:=zan h hb
    obtain ⟨n1,n2,n3⟩:=s2.node s1 hb;rw [z4L h];refine ⟨n1,n2,?_⟩;show Tile ((a / 2 ^ HT a b+1)*2 ^ HT a b) _ b;rw [n3];have:=Nat.two_pow_pos (HT a b);exact ih _ (by omega) s2.2
   ·rw [z5D h]
    exact (by omega:a=b)
theorem z4M {a b:Nat} (hb:b<=4611686018427387904) (h:a<=b):Tile a (SPAN a b) b:=zcN hb (b - a) a (Nat.le_refl _) h
theorem Tile.bound {l:List (Nat × Nat)}:∀ {a b:Nat},Tile a l b->a<=b/\(l≠[]->a<b/\b<=4611686018427387904):=by
 induction l with
 | nil=>intro a b h;exact ⟨by have:a=b:=h;omega,fun h=>absurd rfl h⟩
 | cons s l ih=>
   intro a b ⟨h1,h2,h3⟩;have i:=ih h3;have:=Nat.two_pow_pos s.1;have e:(s.2+1)*2 ^ s.1=s.2*2 ^ s.1+2 ^ s.1:=by rw [Nat.add_mul,Nat.one_mul]
   refine ⟨by omega,fun _=>⟨by omega,?_⟩⟩;cases l with
   | nil=>
     have h4:(s.2+1)*2 ^ s.1=b:=h3;have:=h1.span;simp at this;omega
   | cons t l=>exact (i.2 (by simp)).2
theorem zcO {l:List (Nat × Nat)}:∀ {a b:Nat},Tile a l b->Irr l->l=SPAN a b:=by
 induction l with
 | nil=>
   intro a b h _;have:a=b:=h;rw [z5D (by omega)]
 | cons s l ih=>
   intro a b ht hi;obtain ⟨h1,h2,h3⟩:=ht;obtain ⟨hab,hb⟩:=(Tile.bound (l:=s :: l) ⟨h1,h2,h3⟩).2 (by simp);have e:(s.2+1)*2 ^ s.1=s.2*2 ^ s.1+2 ^ s.1:=by rw [Nat.add_mul,Nat.one_mul]
   have hl:=ih h3 hi.2;have hle:=h3.bound.1;have hpos:=Nat.two_pow_pos s.1;have hf:Fit a s.1 b:=⟨by rw [<-h2];exact Nat.mul_mod_left _ _,by omega⟩
   have hn:¬ Fit a (s.1+1) b:=by
    intro hf2;have hk:s.2 % 2=0:=zap.1 (by rw [h2];exact hf2.1);have p2:=z5X s.1;have hf3:=hf2.2;have hlt:(s.2+1)*2 ^ s.1<b:=by omega
    have hF1:Fit ((s.2+1)*2 ^ s.1) s.1 b:=⟨Nat.mul_mod_left _ _,by omega⟩
    have hF2:¬ Fit ((s.2+1)*2 ^ s.1) (s.1+1) b:=by
     intro h;have:=zap.1 h.1;omega
    have hH:=zao hlt hb hF1 hF2;rw [z4L hlt,<-hH,Nat.mul_div_cancel _ hpos] at hl;refine hi.1 (s.1,s.2+1) (by rw [hl];rfl) ⟨rfl,hk,rfl⟩
   have hH:=zao hab hb hf hn;rw [z4L hab,<-hH,hl];congr 1
   ·rw [<-h2,Nat.mul_div_cancel _ hpos]
   ·rw [e,h2]
theorem Tile.append {l m:List (Nat × Nat)}:∀ {a b c:Nat},Tile a l b->Tile b m c->Tile a (l ++ m) c:=by
 induction l with
 | nil=>intro a b c h h2;have:a=b:=h;rw [this];exact h2
 | cons s l ih=>intro a b c ⟨h1,h2,h3⟩ h4;exact ⟨h1,h2,ih h3 h4⟩
theorem Tile.node {l:List (Nat × Nat)}:∀ {a b i h k:Nat},Tile a l b->l[i]?=some (h,k)->Node h k:=by
 induction l with
 | nil=>intro a b i h k _ e;simp at e
 | cons s l ih=>
   intro a b i h k ⟨h1,h2,h3⟩ e;cases i with
   | zero=>simp at e;subst e;exact h1
   | succ i=>exact ih h3 (by simpa using e)
theorem Tile.one {s:Nat × Nat} {a b:Nat}:Tile a [s] b↔Node s.1 s.2/\s.2*2 ^ s.1=a/\(s.2+1)*2 ^ s.1=b:=Iff.rfl
theorem z31 {n:Nat} (h:PC n=0):n=0:=by
 induction n using Nat.strongRecOn with
 | _ n ih=>
   by_cases h0:n=0
   ·exact h0
   ·rw [z0V] at h
    have:=ih (n / 2) (by omega) (by omega);omega
theorem z8m (n a b:Nat) (hab:a<=b):n / 2 ^ a=n / 2 ^ b*2 ^ (b - a)+n / 2 ^ a % 2 ^ (b - a)/\PC (n / 2 ^ a)=PC (n / 2 ^ b)+PC (n / 2 ^ a % 2 ^ (b - a)):=by
 have e:n / 2 ^ b=n / 2 ^ a / 2 ^ (b - a):=by rw [Nat.div_div_eq_div_mul,<-Nat.pow_add,show a+(b - a)=b by omega]
 have h1:n / 2 ^ a=n / 2 ^ b*2 ^ (b - a)+n / 2 ^ a % 2 ^ (b - a):=by
  rw [e,Nat.mul_comm];exact (Nat.div_add_mod _ _).symm
 refine ⟨h1,?_⟩;have h2:=z4F (b - a) (n / 2 ^ b) (n / 2 ^ a % 2 ^ (b - a)) (Nat.mod_lt _ (Nat.two_pow_pos _));rw [<-h1] at h2;exact h2
theorem zg6 (n:Nat) {a b:Nat} (hab:a<=b):PC (n / 2 ^ b)<=PC (n / 2 ^ a):=by
 have:=(z8m n a b hab).2;omega
theorem z8n (n:Nat) {a b:Nat} (hab:a<=b) (h:PC (n / 2 ^ a)=PC (n / 2 ^ b)):n / 2 ^ a*2 ^ a=n / 2 ^ b*2 ^ b:=by
 obtain ⟨h1,h2⟩:=z8m n a b hab;have h3:n / 2 ^ a % 2 ^ (b - a)=0:=z31 (by omega);rw [h3,Nat.add_zero] at h1;rw [h1,Nat.mul_assoc,<-Nat.pow_add,show b - a+a=b by omega]
theorem zeK {n:Nat} (hn:n<2 ^ 64):∀ h,h<=64->∀ i,i<PC (n / 2 ^ h)->∃ g,h<=g/\g<64/\(HS h n)[i]?=some g/\n / 2 ^ g % 2=1/\i=PC (n / 2 ^ (g+1)):=by
 have key:∀ d h,h+d=64->∀ i,i<PC (n / 2 ^ h)->∃ g,h<=g/\g<64/\(HS h n)[i]?=some g/\n / 2 ^ g % 2=1/\i=PC (n / 2 ^ (g+1)):=by
  intro d;induction d with
  | zero=>
    intro h e i hi;obtain rfl:h=64:=by omega
    rw [Nat.div_eq_of_lt hn,z1y] at hi;omega
  | succ d ih=>
    intro h e i hi;have hl:=z2U hn (h+1) (by omega);have hs:PC (n / 2 ^ h)=n / 2 ^ h % 2+PC (n / 2 ^ (h+1)):=by rw [z0V,z0B]
    rcases Nat.lt_or_ge i (PC (n / 2 ^ (h+1))) with h1 | h1
    ·obtain ⟨g,a,b,c,r⟩:=ih (h+1) (by omega) i h1
     refine ⟨g,by omega,b,?_,r⟩;by_cases hb:n / 2 ^ h % 2=1
     ·rw [z3a (by omega) hb,List.getElem?_append_left (by omega)]
      exact c
     ·rw [z3b (by omega) hb]
      exact c
    ·have hb:n / 2 ^ h % 2=1:=by omega
     have hi':i=PC (n / 2 ^ (h+1)):=by omega
     refine ⟨h,Nat.le_refl _,by omega,?_,hb,hi'⟩;rw [z3a (by omega) hb,List.getElem?_append_right (by omega),hl,hi'];simp
 intro h hh;exact key (64 - h) h (by omega)
def HGT (n i:Nat):Nat:=(HS 0 n).getD i 0
def z7W (n:Nat):Nat->Nat
 | 0=>0
 | i+1=>n / 2 ^ HGT n i*2 ^ HGT n i
theorem z3d {n i:Nat} (hn:n<2 ^ 64) (hi:i<PC n):(HS 0 n)[i]?=some (HGT n i)/\n / 2 ^ HGT n i % 2=1/\i=PC (n / 2 ^ (HGT n i+1)):=by
 obtain ⟨g,_,_,c,d,e⟩:=zeK hn 0 (by omega) i (by rw [Nat.pow_zero,Nat.div_one];exact hi);have hg:HGT n i=g:=by unfold HGT;rw [List.getD_eq_getElem?_getD,c];rfl
 rw [hg];exact ⟨c,d,e⟩
def KGT (n i:Nat):Nat:=2*(n / 2 ^ (HGT n i+1))
theorem zeL {n i:Nat} (hn:n<2 ^ 64) (hi:i<PC n):(z1G n).getD i 0=PLC (HGT n i) (KGT n i):=by
 unfold z1G;rw [List.getD_eq_getElem?_getD,List.getElem?_map,(z3d hn hi).1];rfl
theorem zcP {n i:Nat} (hn:n<=4611686018427387904) (hi:i<PC n):Node (HGT n i) (KGT n i):=Node.peak hn (z3d (by omega) hi).2.1
theorem z5E {n i:Nat} (hn:n<2 ^ 64) (hi:i<PC n):PC (n / 2 ^ HGT n i)=i+1:=by
 obtain ⟨_,h2,h3⟩:=z3d hn hi;rw [z0V,<-z0B];omega
theorem z7f {n i:Nat} (hn:n<2 ^ 64) (hi:i+1<PC n):HGT n (i+1)<HGT n i:=by
 have h1:=z5E hn (i:=i) (by omega);have h2:=(z3d hn hi).2.2;rcases Nat.lt_or_ge (HGT n (i+1)) (HGT n i) with h | h
 ·exact h
 ·have h3:=zg6 n (a:=HGT n i+1) (b:=HGT n (i+1)+1) (by omega)
  have h4:=(z3d hn (i:=i) (by omega)).2.2;omega
theorem zbg {n i:Nat} (hn:n<2 ^ 64) (hi:i<PC n):KGT n i*2 ^ HGT n i=z7W n i:=by
 have hk:KGT n i*2 ^ HGT n i=n / 2 ^ (HGT n i+1)*2 ^ (HGT n i+1):=z1p _ _;have h2:=(z3d hn hi).2.2;cases i with
 | zero=>
   rw [hk,z31 h2.symm,Nat.zero_mul];rfl
 | succ i=>
   have h1:=z5E hn (i:=i) (by omega);have h3:=z7f hn hi;rw [hk];exact z8n n (by omega) (by omega)
theorem zeM {n i:Nat} (hn:n<2 ^ 64) (hi:i<PC n):(KGT n i+1)*2 ^ HGT n i=z7W n (i+1):=by
 have:=z8e (z3d hn hi).2.1;show (2*(n / 2 ^ (HGT n i+1))+1)*2 ^ HGT n i=n / 2 ^ HGT n i*2 ^ HGT n i;rw [<-this]
theorem zcQ {n:Nat} (hn:n<2 ^ 64):z7W n (PC n)=n:=by
 cases h:PC n with
 | zero=>
   rw [z31 h];rfl
 | succ i=>
   have h1:=z5E hn (i:=i) (by omega);have h2:=z8n n (a:=0) (b:=HGT n i) (by omega) (by rw [Nat.pow_zero,Nat.div_one];omega);rw [Nat.pow_zero,Nat.div_one,Nat.mul_one] at h2;exact h2.symm
def PKS (n j c:Nat):List (Nat × Nat):=(List.range' j c).map fun i=>(HGT n i,KGT n i)
theorem z8o (n j c:Nat):PKS n j (c+1)=(HGT n j,KGT n j) :: PKS n (j+1) c:=by simp [PKS,List.range'_succ]
theorem zgZ {n c i:Nat} (h:i<c):(PKS n 0 c)[i]?=some (HGT n i,KGT n i):=by
 simp [PKS,h]
theorem zeN {n:Nat} (hn:n<=4611686018427387904):∀ c j,j+c=PC n->Tile (z7W n j) (PKS n j c) n/\Irr (PKS n j c):=by
 intro c;induction c with
 | zero=>
   intro j e;obtain rfl:j=PC n:=by omega
   exact ⟨zcQ (by omega),trivial⟩
 | succ c ih=>
   intro j e;obtain ⟨i1,i2⟩:=ih (j+1) (by omega);rw [z8o];refine ⟨⟨zcP hn (by omega),zbg (by omega) (by omega),?_⟩,?_,i2⟩
   ·show Tile ((KGT n j+1)*2 ^ HGT n j) _ n
    rw [zeM (by omega) (by omega)];exact i1
   ·intro y hy ⟨h1,_,_⟩
    cases c with
    | zero=>simp [PKS] at hy
    | succ c=>
      rw [z8o] at hy;simp at hy;subst hy;have:=z7f (n:=n) (i:=j) (by omega) (by omega);dsimp only at h1;omega
theorem z5Y {n:Nat} (hn:n<=4611686018427387904):SPAN 0 n=PKS n 0 (PC n):=by
 obtain ⟨h1,h2⟩:=zeN hn (PC n) 0 (by omega);exact (zcO h1 h2).symm
theorem z1H {n:Nat} (hn:n<=4611686018427387904):(SPAN 0 n).length=PC n:=by
 rw [z5Y hn];simp [PKS]
theorem z2u {n i:Nat} (hn:n<=4611686018427387904) (hi:i<PC n):(SPAN 0 n)[i]?=some (HGT n i,KGT n i):=by
 rw [z5Y hn];exact zgZ hi
def PLCS (l:List (Nat × Nat)):List Nat:=l.map fun s=>PLC s.1 s.2
theorem z0P (l:List (Nat × Nat)):(PLCS l).length=l.length:=by simp [PLCS]
theorem z9u (l m:List (Nat × Nat)):PLCS (l ++ m)=PLCS l ++ PLCS m:=by simp [PLCS]
theorem zaq {l:List (Nat × Nat)} {j h k:Nat} (e:l[j]?=some (h,k)):(PLCS l).getD j 0=PLC h k:=by
 simp [PLCS,List.getD,e]
theorem z3I {n:Nat} (hn:n<=4611686018427387904):z1G n=PLCS (SPAN 0 n):=by
 have hl:=z3c (n:=n) (by omega);apply List.ext_getElem?;intro j;by_cases hj:j<PC n
 ·have h1:=zeL (n:=n) (by omega) hj
  have h2:=z2u hn hj;rw [List.getD,List.getElem?_eq_getElem (by omega)] at h1;rw [List.getElem?_eq_getElem (by omega)];simp only [Option.getD_some] at h1;rw [h1];simp [PLCS,h2]
 ·rw [List.getElem?_eq_none (by omega),List.getElem?_eq_none (by rw [z0P,z1H hn];omega)]
def WAYS (i H:Nat):List (Nat × Nat):=(List.range H).map fun h=>(h,SIB (i / 2 ^ h))
theorem z3v (i H:Nat):WAYS i (H+1)=WAYS i H ++ [(H,SIB (i / 2 ^ H))]:=by simp [WAYS,List.range_succ]
theorem z1N (i H:Nat):(WAYS i H).length=H:=by simp [WAYS]
theorem zcR (i H:Nat):WAY i H=PLCS (WAYS i H):=by simp [WAY,WAYS,PLCS]
theorem zcS {α β:Type} (f:α->β):∀ (l:List α) (k:Nat),(l.map f).eraseIdx k=(l.eraseIdx k).map f:=by
 intro l;induction l with
 | nil=>intro k;simp
 | cons a l ih=>
   intro k;cases k with
   | zero=>simp
   | succ k=>simp [ih]
theorem z5Z {α:Type} (x:α):∀ (l:List α) (k:Nat),(l ++ [x]).eraseIdx k=if k=l.length then l.eraseIdx k else l.eraseIdx k ++ [x]:=by
 intro l;induction l with
 | nil=>
   intro k;cases k with
   | zero=>simp
   | succ k=>simp
 | cons a l ih=>
   intro k;cases k with
   | zero=>simp
   | succ k=>
     have:=ih k;rw [List.cons_append,List.eraseIdx_cons_succ,this,List.length_cons,List.eraseIdx_cons_succ];by_cases e:k=l.length
     ·rw [if_pos e,if_pos (by omega)]
     ·rw [if_neg e,if_neg (by omega)]
      rfl
def PSP (i n:Nat):List (Nat × Nat):=WAYS i (RISE i n) ++ (SPAN 0 n).eraseIdx (KTH i n)
theorem zbh {i n:Nat} (hn:n<=4611686018427387904):PLCS (PSP i n)=WAY i (RISE i n) ++ (z1G n).eraseIdx (KTH i n):=by
 unfold PSP;rw [z9u,zcR,z3I hn];unfold PLCS;rw [zcS]
def PXS (m n:Nat):List (Nat × Nat):=SPAN 0 m ++ SPAN m n
theorem zbi {i n:Nat} (hi:i<n) (hn:n<=4611686018427387904):(PSP i n).length+1=RISE i n+PC n:=by
 have h1:=z8f hi hn;have h2:=z1H hn;unfold PSP;rw [List.length_append,z1N,List.length_eraseIdx,if_pos (by omega)];omega
theorem z6M {i n:Nat} (hi:i<n) (hn:n<=4611686018427387904):(PSP i n).length<=126:=by
 have h1:=zbi hi hn;have h2:=(z0U hi hn).2.1;have h3:=z1E 64 n (by omega);omega
def Off (s t:Nat × Nat):Prop:=(s.2+1)*2 ^ s.1<=t.2*2 ^ t.1\/(t.2+1)*2 ^ t.1<=s.2*2 ^ s.1
def SIZE (l:List (Nat × Nat)):Nat:=(l.map fun s=>2 ^ s.1).sum
theorem z9v (l m:List (Nat × Nat)):SIZE (l ++ m)=SIZE l+SIZE m:=by simp [SIZE]
theorem zcT (l:List (Nat × Nat)) (s:Nat × Nat):SIZE (l ++ [s])=SIZE l+2 ^ s.1:=by simp [SIZE]
theorem z5F (k h:Nat):(k+1)*2 ^ h=k*2 ^ h+2 ^ h:=by rw [Nat.add_mul,Nat.one_mul]
theorem Tile.size {l:List (Nat × Nat)}:∀ {a b:Nat},Tile a l b->a+SIZE l=b:=by
 induction l with
 | nil=>intro a b h;have:a=b:=h;simp [SIZE,this]
 | cons s l ih=>
   intro a b ⟨h1,h2,h3⟩;have:=ih h3;rw [z5F,h2] at this;simp only [SIZE,List.map_cons,List.sum_cons] at this ⊢;omega
theorem Tile.within {l:List (Nat × Nat)}:∀ {a b:Nat},Tile a l b->∀ s∈l,a<=s.2*2 ^ s.1/\(s.2+1)*2 ^ s.1<=b/\Node s.1 s.2:=by
 induction l with
 | nil=>intro a b _ s hs;simp at hs
 | cons t l ih=>
   intro a b ⟨h1,h2,h3⟩ s hs;rcases List.mem_cons.1 hs with rfl | hs
   ·exact ⟨by omega,h3.bound.1,h1⟩
   ·have:=ih h3 s hs
    have h4:=z5F t.2 t.1;have h5:=Nat.two_pow_pos t.1;exact ⟨by omega,this.2⟩
theorem Tile.off {l:List (Nat × Nat)}:∀ {a b:Nat},Tile a l b->l.Pairwise Off:=by
 induction l with
 | nil=>intro a b _;exact List.Pairwise.nil
 | cons t l ih=>
   intro a b ⟨h1,h2,h3⟩;refine List.Pairwise.cons (fun s hs=>?_) (ih h3);exact .inl (h3.within s hs).1
theorem z7g (i H:Nat):i / 2 ^ H*2 ^ H<=i/\i<(i / 2 ^ H+1)*2 ^ H:=by
 have h1:=Nat.div_add_mod i (2 ^ H);have h2:=Nat.mod_lt i (Nat.two_pow_pos H);rw [Nat.mul_comm] at h1;rw [z5F];omega
theorem z4a (k h:Nat):(SIB k % 2≠k % 2)/\k / 2*2 ^ (h+1)<=SIB k*2 ^ h/\(SIB k+1)*2 ^ h<=(k / 2+1)*2 ^ (h+1)/\k / 2*2 ^ (h+1)<=k*2 ^ h/\(k+1)*2 ^ h<=(k / 2+1)*2 ^ (h+1)/\((SIB k+1)*2 ^ h<=k*2 ^ h\/(k+1)*2 ^ h<=SIB k*2 ^ h):=by
 have e:=z5X h;have up:∀ m,m*2 ^ (h+1)=(2*m)*2 ^ h:=fun m=>by rw [e,Nat.mul_comm 2 m,Nat.mul_assoc]
 rw [up,up];have mono:∀ {a b:Nat},a<=b->a*2 ^ h<=b*2 ^ h:=fun hab=>Nat.mul_le_mul_right _ hab;unfold SIB;split
 ·exact ⟨by omega,mono (by omega),mono (by omega),mono (by omega),mono (by omega),.inl (mono (by omega))⟩
 ·exact ⟨by omega,mono (by omega),mono (by omega),mono (by omega),mono (by omega),.inr (mono (by omega))⟩
theorem z2M (i:Nat):∀ H,∀ s∈WAYS i H,i / 2 ^ H*2 ^ H<=s.2*2 ^ s.1/\(s.2+1)*2 ^ s.1<=(i / 2 ^ H+1)*2 ^ H:=by
 intro H;induction H with
 | zero=>intro s hs;simp [WAYS] at hs
 | succ H ih=>
   intro s hs;rw [z3v,List.mem_append,List.mem_singleton] at hs;have h1:=z4a (i / 2 ^ H) H;rw [z0B];rcases hs with hs | rfl
   ·have:=ih s hs
    omega
   ·exact ⟨h1.2.1,h1.2.2.1⟩
theorem zeO (i:Nat):∀ H,(WAYS i H).Pairwise Off:=by
 intro H;induction H with
 | zero=>simp [WAYS]
 | succ H ih=>
   rw [z3v,List.pairwise_append];refine ⟨ih,by simp,fun s hs t ht=>?_⟩;rw [List.mem_singleton] at ht;subst ht;have h1:=(z4a (i / 2 ^ H) H).2.2.2.2.2;have h2:=z2M i H s hs;unfold Off;dsimp only;omega
theorem zcU (i:Nat):∀ H,SIZE (WAYS i H)+1=2 ^ H:=by
 intro H;induction H with
 | zero=>simp [WAYS,SIZE]
 | succ H ih=>
   rw [z3v,zcT,z5X];dsimp only;omega
theorem zcV (i:Nat):∀ H,∀ s∈WAYS i H,¬ (s.2*2 ^ s.1<=i/\i<(s.2+1)*2 ^ s.1):=by
 intro H;induction H with
 | zero=>intro s hs;simp [WAYS] at hs
 | succ H ih=>
   intro s hs;rw [z3v,List.mem_append,List.mem_singleton] at hs;rcases hs with hs | rfl
   ·exact ih s hs
   ·have h1:=(z4a (i / 2 ^ H) H).2.2.2.2.2
    have h2:=z7g i H;dsimp only;omega
theorem zcW {i:Nat} (hi:i<4611686018427387904):∀ H,H<=62->∀ s∈WAYS i H,Node s.1 s.2:=by
 intro H hH s hs;simp only [WAYS,List.mem_map,List.mem_range] at hs;obtain ⟨h,hh,rfl⟩:=hs;exact (Node.over hi h (by omega)).sib (by omega)
theorem z55 {h k n:Nat} (hn:(k+1)*2 ^ h<=n):PLC h k<z05 n:=by
 have h1:=z5y hn;have h2:=z0T ((k+1)*2 ^ h);rw [z2D] at h2;have h3:=z23 h k;have h4:=za7 k;have h5:2 ^ (h+1)*(k+1)=2*((k+1)*2 ^ h):=by rw [z5X,Nat.mul_assoc,Nat.mul_comm (2 ^ h)]
 omega
theorem z3e {i n:Nat} (hi:i<n) (hn:n<=4611686018427387904):(SPAN 0 n)[KTH i n]?=some (RISE i n,i / 2 ^ RISE i n)/\(z1G n).getD (KTH i n) 0=PLC (RISE i n) (i / 2 ^ RISE i n):=by
 have h1:=zcJ hi hn;have h2:=z8f hi hn;have h3:=z2u hn h2;have h4:HGT n (KTH i n)=RISE i n:=by simp [HGT,List.getD,h1]
 have h5:KGT n (KTH i n)=i / 2 ^ RISE i n:=by
  unfold KGT;rw [h4];exact (z0U hi hn).2.2.2.2.symm
 rw [h4,h5] at h3;refine ⟨h3,?_⟩;rw [z3I hn];exact zaq h3
theorem Pairwise.at_lt {α:Type} {R:α->α->Prop} {l:List α} (h:l.Pairwise R) {a b:Nat} {x y:α} (hab:a<b) (ha:l[a]?=some x) (hb:l[b]?=some y):R x y:=by
 obtain ⟨h1,rfl⟩:=List.getElem?_eq_some_iff.1 ha;obtain ⟨h2,rfl⟩:=List.getElem?_eq_some_iff.1 hb;exact (List.pairwise_iff_getElem.1 h) a b h1 h2 hab
theorem z7h {α:Type} {l:List α} {k:Nat} {x:α} (h:x∈l.eraseIdx k):∃ j,j≠k/\l[j]?=some x:=by
 obtain ⟨j,hj⟩:=List.mem_iff_getElem?.1 h;rw [List.getElem?_eraseIdx] at hj;split at hj
 ·exact ⟨j,by omega,hj⟩
 ·exact ⟨j+1,by omega,hj⟩
theorem zeP {s t:Nat × Nat} (h:Off s t):Off t s:=h.elim .inr .inl
theorem zbj:∀ (l:List (Nat × Nat)) (k:Nat) (s:Nat × Nat),l[k]?=some s->SIZE (l.eraseIdx k)+2 ^ s.1=SIZE l:=by
 intro l;induction l with
 | nil=>intro k s h;simp at h
 | cons a l ih=>
   intro k s h;cases k with
   | zero=>
     simp at h;subst h;simp [SIZE];omega
   | succ k=>
     have:=ih k s (by simpa using h);simp only [SIZE,List.eraseIdx_cons_succ,List.map_cons,List.sum_cons] at this ⊢;omega
theorem z4b {i n:Nat} (hi:i<n) (hn:n<=4611686018427387904):
  (∀ s∈PSP i n,Node s.1 s.2/\PLC s.1 s.2<z05 n/\¬ (s.2*2 ^ s.1<=i/\i<(s.2+1)*2 ^ s.1))/\(PSP i n).Pairwise Off/\SIZE (PSP i n)+1=n:=by
 obtain ⟨hK,_⟩:=z3e hi hn;have h62:=(z0U hi hn).2.1;have hT:=z4M hn (Nat.zero_le n);have hp:=z7g i (RISE i n);have hin:=hT.within _ (List.mem_of_getElem? hK);dsimp only at hin;have hoff:=hT.off
 have hother:∀ s∈(SPAN 0 n).eraseIdx (KTH i n),Off s (RISE i n,i / 2 ^ RISE i n):=by
  intro s hs;obtain ⟨j,hj,e⟩:=z7h hs;rcases Nat.lt_or_ge j (KTH i n) with h | h
  ·exact Pairwise.at_lt hoff h e hK
  ·exact zeP (Pairwise.at_lt hoff (by omega:KTH i n<j) hK e)
 refine ⟨fun s hs=>?_,?_,?_⟩
 ·unfold PSP at hs
  rcases List.mem_append.1 hs with hs | hs
  ·have h1:=z2M i _ s hs
   exact ⟨zcW (by omega) _ h62 s hs,z55 (by omega),zcV i _ s hs⟩
  ·have h1:=hT.within s (List.mem_of_mem_eraseIdx hs)
   have h2:=hother s hs;unfold Off at h2;dsimp only at h2;exact ⟨h1.2.2,z55 h1.2.1,by omega⟩
 ·unfold PSP
  rw [List.pairwise_append];refine ⟨zeO i _,hoff.sublist (List.eraseIdx_sublist _ _),fun s hs t ht=>?_⟩;have h1:=z2M i _ s hs;have h2:=hother t ht;unfold Off at h2 ⊢;dsimp only at h2;omega
 ·unfold PSP
  rw [z9v];have h1:=zcU i (RISE i n);have h2:=zbj _ _ _ hK;have h3:=hT.size;dsimp only at h2;omega
end Go.Proofs.YtnimaaflmdoaaaaGreatDoor
namespace Go.Proofs.YtnimaaflmdoaaaaGreatDoor
open Go.RowKit
theorem z4c (n:Nat) (hn:n<64) (w:World):Calls Tryz.prog 87 #[.int .i64 (n:Int)] w fun e w'=>e=.returned (.int .u64 ((2 ^ n:Nat):Int))/\w=w':=by
 have HN:Aside (n<64):=hn;clear hn;go_enter Tryz.func87,Tryz.ntmps87;go_wp2;go_loopg [3,4] n (fun g s3 s4 wx=>∃ i v:Nat,s3=.int .u64 (v:Int)/\s4=.int .i64 (i:Int)/\Aside (v=2 ^ i/\i+g=n)/\wx=w)
 case atStart=>exact ⟨0,1,rfl,rfl,⟨rfl,by omega⟩,rfl⟩
 case round=>
  obtain ⟨i,v,rfl,rfl,A,hw⟩:=hrel;subst hw;cases gk with
  | zero=>
    have hi:¬ (i:Int)<(n:Int):=by have:=A.out.2;omega
    go_wp2;go_ret;obtain ⟨r1,r2⟩:=A.out;refine ⟨?_,rfl⟩;rw [r1,show i=n by omega];rfl
  | succ g=>
    have hi:(i:Int)<(n:Int):=by have:=A.out.2;omega
    go_wp2;go_roundg g
    case measure=>omega
    case rel=>
     obtain ⟨r1,r2⟩:=A.out;have h64:=HN.out;have hp:2 ^ (i+1)<=2 ^ 63:=Nat.pow_le_pow_right (by decide) (by omega);refine ⟨i+1,2 ^ (i+1),?_,?_,⟨rfl,by omega⟩,rfl⟩
     ·congr 1
      rw [z0k,r1];rw [Nat.pow_succ] at hp ⊢;omega
     ·congr 1
      unfold wrap64;omega
theorem z9w (p:Int) (hp:9223372036854775807<=p) (w:World):Calls Tryz.prog 183 #[.int .u64 p] w fun e w'=>e=.returned (.tuple #[SPOT 0 0,.bool false])/\Below w.heap.size w w':=by
 have c1:=z4c 62 (by omega);rw [show (((2 ^ 62:Nat):Int))=4611686018427387904 by decide,show (((62:Nat):Int))=62 from rfl] at c1;have hd:(9223372036854775806:Int)<p:=by omega
 go_enter Tryz.func183,Tryz.ntmps183;go_wp2_with fail
 refine (c1 _).mono ?_;rintro e w' ⟨rfl,rfl⟩;clear c1;go_wp2;refine bodyPost_ret (v:=.tuple #[SPOT 0 0,.bool false]) ?_ rfl ⟨rfl,(Below.refl _ _).alloc (Nat.le_refl _) _⟩;simp [results,Tryz.f183,go_sem]
theorem zcX {a b c:Nat} (h:a+b=c) (hc:c<2 ^ 64):IntKind.u64.wrap ((a:Int)+(b:Int))=(c:Int):=by rw [z0k];omega
theorem zh0 {a c:Nat} (h:a+1=c) (hc:c<2 ^ 64):IntKind.u64.wrap ((a:Int)+1)=(c:Int):=by rw [z0k];omega
theorem zh1 {a c:Nat} (h:c+1=a) (hc:c<2 ^ 64):IntKind.u64.wrap ((a:Int) - 1)=(c:Int):=by rw [z0k];omega
theorem zcY {a c:Nat} (h:2*a=c) (hc:c<2 ^ 64):IntKind.u64.wrap (2*(a:Int))=(c:Int):=by rw [z0k];omega
theorem zg7 {a c:Nat} (h:2*c=a) (hc:c<2 ^ 64):IntKind.u64.wrap ((a:Int) / 2)=(c:Int):=by rw [z0k];omega
theorem zeQ {a c:Nat} (h:2*c=a):(a:Int) / 2=(c:Int):=by omega
theorem zeR {g m b p z1 bz:Nat} (hg:g+1<=62) (hN:Node (g+1) m) (hb:b=z05 (m*2 ^ (g+1))) (hbp:b<=p) (hpu:p+2<=b+2 ^ (g+1+1)) (hz:2 ^ (g+1)=z1+1) (hbz:b+z1=bz) (hT:p≠b+2*z1):
  Node g (2*m)/\Node g (2*m+1)/\b=z05 (2*m*2 ^ g)/\bz=z05 ((2*m+1)*2 ^ g)/\(bz<=p->p+2<=bz+2 ^ (g+1))/\(p<bz->p+2<=b+2 ^ (g+1)):=by
 have h2:=hN.2;have e:2 ^ (62 - g)=2 ^ (62 - (g+1))*2:=by rw [<-Nat.pow_succ];congr 1;omega
 have e2:2 ^ (g+1+1)=2*(z1+1):=by rw [Nat.pow_succ,hz,Nat.mul_comm]
 refine ⟨⟨by omega,by rw [e];omega⟩,⟨by omega,by rw [e];omega⟩,by rw [hb,z1p],?_,fun h=>by omega,fun h=>by omega⟩;rw [z44,z1p,<-hb];unfold TREE;omega
theorem zbk (h k:Nat) (hN:Node h k) (w:World):Calls Tryz.prog 183 #[.int .u64 ((PLC h k:Nat):Int)] w fun e w'=>e=.returned (.tuple #[SPOT h k,.bool true])/\Below w.heap.size w w':=by
 have hp:=hN.lt;obtain ⟨p,hpe⟩:∃ p,p=PLC h k:=⟨_,rfl⟩
 rw [<-hpe] at hp ⊢;have HN:Aside (Node h k/\p=PLC h k/\p<9223372036854775807):=⟨hN,hpe,hp⟩
 have c1:=z4c 62 (by omega);rw [show (((2 ^ 62:Nat):Int))=4611686018427387904 by decide,show (((62:Nat):Int))=62 from rfl] at c1;have hd:¬ (9223372036854775806:Int)<(p:Int):=by omega
 clear hN hpe hp;go_enter Tryz.func183,Tryz.ntmps183;go_wp2_with fail
 refine (c1 _).mono ?_;rintro e w' ⟨rfl,rfl⟩;clear c1;go_wp2;go_loopg [4,5,6] 62 (fun g s4 s5 s6 wx=>∃ b m:Nat,s4=.int .u64 (b:Int)/\s5=.int .i64 (g:Int)/\s6=.int .u64 (m:Int)/\Aside (wx=w.alloc (.cells #[.int .u8 0,.int .u64 0] 110)/\g<=62/\b=z05 (m*2 ^ g)/\Node g m/\b<=p/\p+2<=b+2 ^ (g+1)))
 case atStart=>exact ⟨0,0,rfl,rfl,rfl,rfl,by omega,by simp [z42],⟨by omega,by simp⟩,by omega,by have:=HN.out.2.2;omega⟩
 case round=>
  obtain ⟨b,m,rfl,rfl,rfl,A⟩:=hrel;obtain ⟨hw,hg,hb,hNm,hbp,hpu⟩:=A.out;clear A;have hpl:2 ^ gk<=2 ^ 62:=Nat.pow_le_pow_right (by decide) hg;obtain ⟨z1,hz⟩:∃ z1,2 ^ gk=z1+1:=⟨2 ^ gk - 1,by have:=Nat.two_pow_pos gk;omega⟩
  have c1:=z4c gk (by omega);rw [hz] at c1 hpl;have hbl:b<9223372036854775807:=by have:=HN.out.2.2;omega
  obtain ⟨u,hu⟩:∃ u,2*z1=u:=⟨_,rfl⟩
  obtain ⟨bu,hbu⟩:∃ bu,b+u=bu:=⟨_,rfl⟩
  have e1:IntKind.u64.wrap (((z1+1:Nat):Int) - 1)=(z1:Int):=zh1 rfl (by omega);have e1':IntKind.u64.wrap (z1:Int)=(z1:Int):=by rw [z0k];omega
  rw [show ((z1+1:Nat):Int)=(z1:Int)+1 by omega] at c1 e1;have e2:IntKind.u64.wrap (2*(z1:Int))=(u:Int):=zcY hu (by omega);have e3:IntKind.u64.wrap ((b:Int)+(u:Int))=(bu:Int):=zcX hbu (by omega);by_cases hT:p=bu
  ·have hmk:h=gk/\k=m:=by
    refine HN.out.1.one hNm ?_;rw [<-HN.out.2.1];unfold PLC;rw [hz] at hb;rw [Nat.pow_succ,hz,<-hb];omega
   obtain ⟨rfl,rfl⟩:=hmk;have hT':((p:Int) == (bu:Int))=true:=by simp;omega
   have hh:(h:Int) % 256=(h:Int):=by omega
   clear hg hb hNm hbp hpu HN hpl hbl hz hu hbu hT;subst hw;go_wp2_with fail
   refine (c1 _).mono ?_;rintro e w' ⟨rfl,rfl⟩;clear c1;go_wp2;refine bodyPost_ret (v:=.tuple #[SPOT h k,.bool true]) ?_ rfl ⟨rfl,(Below.refl _ _).alloc (Nat.le_refl _) _⟩;simp [results,Tryz.f183,go_sem]
  ·have hT':((p:Int) == (bu:Int))=false:=by simp;omega
   have h1:1<=gk:=by
    rcases Nat.eq_zero_or_pos gk with h0 | h0
    ·subst h0
     simp at hz;omega
    ·exact h0
   obtain ⟨g,rfl⟩:∃ g,gk=g+1:=⟨gk - 1,by omega⟩
   have hm62:=hNm.index_lt;obtain ⟨bz,hbz⟩:∃ bz,b+z1=bz:=⟨_,rfl⟩
   obtain ⟨m2,hm2⟩:∃ m2,2*m=m2:=⟨_,rfl⟩
   obtain ⟨m3,hm3⟩:∃ m3,m2+1=m3:=⟨_,rfl⟩
   have RR:=zeR hg hNm hb hbp hpu hz hbz (by omega);rw [hm2,hm3] at RR;have e4:IntKind.u64.wrap (2*(m:Int))=(m2:Int):=zcY hm2 (by omega);have e5:IntKind.u64.wrap ((u:Int) / 2)=(z1:Int):=zg7 hu (by omega);have e5':(u:Int) / 2=(z1:Int):=zeQ hu;have e6:wrap64 (g:Int)=(g:Int):=by unfold wrap64;omega
   have e7:IntKind.u64.wrap ((b:Int)+(z1:Int))=(bz:Int):=zcX hbz (by omega);have e8:IntKind.u64.wrap ((m2:Int)+1)=(m3:Int):=zh0 hm3 (by omega);have R:Aside (wr=w.alloc (.cells #[.int .u8 0,.int .u64 0] 110)/\g+1<=62/\b<=p/\Node g m2/\Node g m3/\b=z05 (m2*2 ^ g)/\bz=z05 (m3*2 ^ g)/\(bz<=p->p+2<=bz+2 ^ (g+1))/\(p<bz->p+2<=b+2 ^ (g+1))):=⟨hw,hg,hbp,RR⟩
   rw [show (((g+1:Nat):Int))=(g:Int)+1 by omega] at c1 ⊢;clear RR hw hg hNm hbp hb hpu hT hz hbz hbu hu HN hpl hbl h1 hm62 hm2 hm3 hd;by_cases hlt:bz<=p
   ·have hd3:(bz:Int)<=(p:Int):=by omega
    have R2:Aside (bz<=p):=hlt;clear hlt;go_wp2_with fail
    refine (c1 _).mono ?_;rintro e w' ⟨rfl,rfl⟩;clear c1;go_wp2;go_roundg g
    case measure=>omega
    case rel=>
     obtain ⟨r1,r2,r3,r4,r5,r6,r7,r8,r9⟩:=R.out;have s1:=R2.out;rw [e6];exact ⟨bz,m3,rfl,rfl,rfl,r1,by omega,r7,r5,s1,r8 s1⟩
   ·have hd3:¬ (bz:Int)<=(p:Int):=by omega
    have R2:Aside (p<bz):=by unfold Aside;omega
    clear hlt;go_wp2_with fail
    refine (c1 _).mono ?_;rintro e w' ⟨rfl,rfl⟩;clear c1;go_wp2;go_roundg g
    case measure=>omega
    case rel=>
     obtain ⟨r1,r2,r3,r4,r5,r6,r7,r8,r9⟩:=R.out;have s1:=R2.out;rw [e6];exact ⟨b,m2,rfl,rfl,rfl,r1,by omega,r6,r4,r3,r9 s1⟩
end Go.Proofs.YtnimaaflmdoaaaaGreatDoor
