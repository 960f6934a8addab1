/- Texts of ClashMembers, one behind the other: NumByteCalls, NumAppend, NumShortCalls, CutPlain, PosCoversPlain, CutTopsPlain, ProofPlain, PosRef. -/
import Derived.Deep.AppendLies
import Derived.Laws.AppendOwnNone
import Derived.Test.YtbmjoiiagldklaaGreatDoorClashMembersP1
import Derived.Test.YtbmjoiiagldklaaGreatDoorClashMembersP3
import Derived.Test.YtbmjoiiagldklaaGreatDoorClashMembersP4
namespace Go.Proofs.YtbmjoiiagldklaaGreatDoor
open Go.RowKit
theorem z5H {F f:Nat→Int} {i:Nat} {v:Int} (A:∀ j,f j=if j<i then F j else 0) (hv:v=F i):∀ j,(if j=i then v else f j)=if j<i+1 then F j else 0:=fun j=>by
  by_cases e:j=i
  · subst e
    simp [hv]
  · rw [if_neg e,A j]
    by_cases e2:j<i
    · rw [if_pos e2,if_pos (by omega)]
    · rw [if_neg e2,if_neg (by omega)]
theorem z88 (x:Int) (n:Nat) (F:Nat→Int) (hn:(n:Int)≤8) (w:World) (c:∀ w,Calls Tryz.prog 185 #[.int .u64 x,.int .i64 (8*(n:Int))] w fun e w'=>e=.returned (.int .u64 0)∧w=w')
    (ci:∀ i:Nat,i<n→∃ s:Int,Aside (s % 256=F i)∧∀ w,Calls Tryz.prog 185 #[.int .u64 x,.int .i64 (8*((n:Int) - 1 - (i:Int)))] w fun e w'=>e=.returned (.int .u64 s)∧w=w'):
    Calls Tryz.prog 162 #[.int .u64 x,.int .i64 (n:Int)] w fun e w'=>e=.returned (.tuple #[.slice (some ⟨w.heap.size,0,none⟩) n n,.int .i64 0])∧w.alloc (.cells (BARR n F) 5)=w':=by
  have hmk:=z7h n (by omega)
  have CI:Aside (∀ i:Nat,i<n→∃ s:Int,Aside (s % 256=F i)∧∀ w,Calls Tryz.prog 185 #[.int .u64 x,.int .i64 (8*((n:Int) - 1 - (i:Int)))] w fun e w'=>e=.returned (.int .u64 s)∧w=w'):=ci
  clear ci
  go_enter Tryz.func162,Tryz.ntmps162
  go_wp2_with fail
  refine (c _).mono ?_
  rintro e w' ⟨rfl,rfl⟩
  go_wp2
  go_loopg [23] n (fun g s23 wx=>∃ (i:Nat) (f:Nat→Int),i+g=n∧Aside (∀ j,f j=if j<i then F j else 0)∧s23=.int .i64 i∧wx=w.alloc (.cells (BARR n f) 5))
  case atStart=>exact ⟨0,fun _=>0,by omega,fun j=>by simp,rfl,rfl⟩
  case round=>
    obtain ⟨i,f,hig,A,rfl,rfl⟩:=hrel
    cases gk with
    | zero=>
      obtain rfl:i=n:=by omega
      have hf:BARR i f=BARR i F:=z9U fun j hj=>by rw [A.out j,if_pos hj]
      rw [hf]
      clear hf A
      go_wp2
      go_ret2
      exact ⟨rfl,rfl⟩
    | succ g=>
      have hi:(i:Int)<(n:Int):=by omega
      have hc:(BARR n f)[i]?=some (.int .u8 (f i)):=z1V n f i (by omega)
      have hs:∀ v,(BARR n f).setIfInBounds i (.int .u8 v)=BARR n (fun j=>if j=i then v else f j):=fun v=>z6P n f i v
      obtain ⟨s,hsF,cs⟩:=CI.out i (by omega)
      go_wp2_with fail
      refine (cs _).mono ?_
      rintro e w' ⟨rfl,rfl⟩
      go_wp2
      go_roundg g
      case measure=>omega
      case rel=>exact ⟨i+1,_,by omega,z5H A.out hsF.out,by go_num,rfl⟩
def BYTE (X n:Nat):Nat→Int:=fun i=>((X / 2 ^ (8*(n - 1 - i)) % 256:Nat):Int)
theorem zee (X n:Nat) (hX:X<2 ^ 64) (hn:n≤8) (h:X / 2 ^ (8*n)=0) (w:World):
    Calls Tryz.prog 162 #[.int .u64 (X:Int),.int .i64 (n:Int)] w fun e w'=>e=.returned (.tuple #[.slice (some ⟨w.heap.size,0,none⟩) n n,.int .i64 0])∧w.alloc (.cells (BARR n (BYTE X n)) 5)=w':=by
  refine z88 X n (BYTE X n) (by omega) w (fun w=>?_) (fun i hi=>?_)
  · have k:=z2M X (8*(n:Int)) hX (by omega) (by omega) w
    have hs:SHR X (8*(n:Int))=0:=by
      unfold SHR
      rw [if_neg (by omega),show (8*(n:Int)).toNat=8*n by omega,h]
    rw [hs] at k
    exact k
  · refine ⟨(SHR X (8*((n:Int) - 1 - (i:Int))):Nat),?_,fun w=>z2M X _ hX (by omega) (by omega) w⟩
    unfold SHR BYTE Aside
    rw [if_neg (by omega),show (8*((n:Int) - 1 - (i:Int))).toNat=8*(n - 1 - i) by omega]
    simp
end Go.Proofs.YtbmjoiiagldklaaGreatDoor

namespace Go.Proofs.YtbmjoiiagldklaaGreatDoor
open Go.RowKit
def z01 (l:List Int):List Value:=l.map (Value.int .u8)
theorem z0A (a b:List Int):z01 (a ++ b)=z01 a ++ z01 b:=by simp [z01]
theorem z0F (l:List Int) (i:Nat) (h:i<l.length):(z01 l)[i]?=some (.int .u8 (l.getD i 0)):=by
  simp [z01,h,List.getD_eq_getElem?_getD]
theorem z1J (l:List Int):∀ u∈z01 l,u.oneCell'=true:=fun u hu=>by
  simp [z01] at hu
  obtain ⟨x,_,rfl⟩:=hu
  rfl
theorem z1o:∃ i,Tryz.prog.info? 5=some i∧i.zero=some (.int .u8 0)∧i.size=1∧i.bytes=1:=by
  obtain ⟨i,hi,h⟩:=Option.map_eq_some_iff.1 z0S
  simp only [Prod.mk.injEq] at h
  exact ⟨i,hi,h.1,h.2.1,h.2.2⟩
theorem z1t {ops:Array Oper} {rest:List Oper} {o:Oper} {a:Act} {Q:Exit→Act→World→Prop} (w:World) (hgd:o.guard=none) (s x:Operand)
    (ho:o.op=.call {callee:=.builtin .append,args:=#[s,x],argTypes:=#[25,25]})
    (base:Nat) (v:Value) (n:Nat) (xs:List Int) (hs:a.eval s=v) (hown:w.ownsRow base 5 1 v n (z01 xs))
    (b off m c:Nat) (l:List Int) (hx:a.eval x=.slice (some ⟨b,off,none⟩) m c) (hB:Bytes w (some ⟨b,off,none⟩) m l)
    (hm:0<m) (hb:n+m≤140737488355328) (hbase:base≤w.heap.size)
    (h:∀ g cap w',w'.ownsRow base 5 1 (.slice (some ⟨g,0,none⟩) (n+m) cap) (n+m) (z01 (xs ++ l))→w.grownBy w' v.ownBlock→g<w'.heap.size→wpList Tryz.prog ops Q rest (a.put o.dst (.slice (some ⟨g,0,none⟩) (n+m) cap)) w'):wpList Tryz.prog ops Q (o :: rest) a w:=by
  obtain ⟨i,hi,hz,hs1,hby⟩:=z1o
  obtain ⟨b',off',e,_,hc⟩:=hB.2.1 hm
  simp only [Option.some.injEq,Addr.mk.injEq] at e
  obtain ⟨rfl,rfl,_⟩:=e
  refine wpList_append_lies w hgd s x 25 ho base 5 i (.int .u8 0) 1 1 Tryz.underlying25 hi hz hs1 hby rfl (by decide) v n (z01 xs) hs hown ⟨b,off,none⟩ m c (z01 l) hx (by simp [z01,hB.1]) ?_ (z1J l) hm (by simp only [maxLen];omega) (by omega) hbase w.heap.size rfl ?_
  · intro j u hj
    have hjl:j<l.length:=by
      have:=(List.getElem?_eq_some_iff.1 hj).1
      simpa [z01] using this
    rw [z0F l j hjl] at hj
    rw [z1f,hc j (by rw [← hB.1];exact hjl)]
    exact hj
  · intro g cap w' h1 h2 _ h4
    rw [← z0A] at h1
    exact h g cap w' h1 h2 h4
theorem z51 (w:World) (row:Option Nat):w.grownBy w row:=⟨rfl,rfl,rfl,Nat.le_refl _,fun _ _ _=>rfl⟩
theorem z6Q {ops:Array Oper} {rest:List Oper} {o:Oper} {a:Act} {Q:Exit→Act→World→Prop} (w:World) (hgd:o.guard=none) (s x:Operand)
    (ho:o.op=.call {callee:=.builtin .append,args:=#[s,x],argTypes:=#[25,25]})
    (base:Nat) (v:Value) (n:Nat) (xs:List Int) (hs:a.eval s=v) (hown:w.ownsRow base 5 1 v n (z01 xs))
    (ao:Option Addr) (c:Nat) (hx:a.eval x=.slice ao 0 c) (hc:ao=none→c=0) (hn:n≤140737488355328) (hbase:base≤w.heap.size)
    (h:∀ a' c' w',w'.ownsRow base 5 1 (.slice a' n c') n (z01 xs)→w.grownBy w' v.ownBlock→wpList Tryz.prog ops Q rest (a.put o.dst (.slice a' n c')) w'):wpList Tryz.prog ops Q (o :: rest) a w:=by
  obtain ⟨i,hi,hz,hs1,hby⟩:=z1o
  have form:∀ (v':Value) (w':World),w'.ownsRow base 5 1 v' n (z01 xs)→∃ a' c',v'=.slice a' n c':=fun v' w' h=>by
    rcases h.2 with ⟨rfl,rfl⟩ | ⟨g,cap,cur,rfl,_⟩
    · exact ⟨none,0,rfl⟩
    · exact ⟨_,cap,rfl⟩
  cases ao with
  | none=>
    obtain rfl:=hc rfl
    refine wpList_append_own_none hgd s x 25 ho base 5 i 1 Tryz.underlying25 hi v n (z01 xs) hs hown hx ?_
    obtain ⟨a',c',rfl⟩:=form v w hown
    exact h a' c' w hown (z51 _ _)
  | some ad=>
    refine wpList_append_own w hgd s x 25 ho base 5 i (.int .u8 0) 1 1 Tryz.underlying25 hi hz hs1 hby rfl (by decide) v n (z01 xs) hs hown ad 0 c [] hx rfl (fun j u hj=>by simp at hj) (fun u hu=>by simp at hu) (by simp only [maxLen];omega) (by omega) hbase ?_
    intro v' w' h1 h2 _
    simp only [Nat.add_zero,List.append_nil] at h1
    obtain ⟨a',c',rfl⟩:=form v' w' h1
    exact h a' c' w' h1 h2
theorem z2P {w:World} {base g n cap:Nat} {l:List Int} (h:w.ownsRow base 5 1 (.slice (some ⟨g,0,none⟩) n cap) n (z01 l)) (hg:g<w.heap.size) (hl:∀ x∈l,0≤x∧x≤255):Bytes w (some ⟨g,0,none⟩) n l:=by
  have hlen:l.length=n:=by have:=h.1;simpa [z01] using this
  refine ⟨hlen,fun _=>⟨g,0,rfl,hg,fun i hi=>?_⟩,hl⟩
  rw [Nat.zero_add,h.cellAt i (by omega),z0F l i (by omega)]
theorem z5I (w:World) (base:Nat) (hb:base≤w.heap.size):(w.alloc (.cells #[] 5)).ownsRow base 5 1 (.slice (some ⟨w.heap.size,0,none⟩) 0 0) 0 (z01 []):=
  World.ownsRow_lit w #[] 0 hb (by simp [maxLen]) rfl
theorem z2Q (w:World) (n:Nat) (f:Nat→Int) (l:List Int) (hl:l.length=n) (hf:∀ i,i<n→f i=l.getD i 0) (hr:∀ x∈l,0≤x∧x≤255):Bytes (w.alloc (.cells (BARR n f) 5)) (some ⟨w.heap.size,0,none⟩) n l:=by
  refine ⟨hl,fun _=>⟨w.heap.size,0,rfl,by simp,fun i hi=>?_⟩,hr⟩
  rw [Nat.zero_add,World.cell?_alloc_at _ _ _ _ rfl,z1V n f i hi,hf i hi]
theorem z0Y {w:World} {base n c:Nat} {a:Option Addr} {l:List Int} (h:w.ownsRow base 5 1 (.slice a n c) n (z01 l)) (hl:∀ x∈l,0≤x∧x≤255):Bytes w a n l∧n≤c:=by
  rcases h.2 with ⟨hv,hn⟩ | ⟨g,cap,cur,hv,_,hg,hc,_⟩
  · simp only [Value.slice.injEq] at hv
    obtain ⟨rfl,rfl,rfl⟩:=hv
    have:l=[]:=by have:=h.1;simpa [z01] using this
    subst this
    exact ⟨⟨rfl,fun h=>by omega,fun x hx=>by simp at hx⟩,Nat.le_refl _⟩
  · simp only [Value.slice.injEq] at hv
    obtain ⟨rfl,_,rfl⟩:=hv
    exact ⟨z2P h (Array.getElem?_eq_some_iff.1 hg).1 hl,hc⟩
theorem z3K {ops:Array Oper} {rest:List Oper} {o:Oper} {a:Act} {Q:Exit→Act→World→Prop} (w:World) (hgd:o.guard=none) (s x:Operand)
    (ho:o.op=.call {callee:=.builtin .append,args:=#[s,x],argTypes:=#[25,25]})
    (base:Nat) (v:Value) (n:Nat) (xs:List Int) (hs:a.eval s=v) (hown:w.ownsRow base 5 1 v n (z01 xs))
    (ao:Option Addr) (m c:Nat) (l:List Int) (hx:a.eval x=.slice ao m c) (hB:Bytes w ao m l) (hc:ao=none→c=0)
    (N:Nat) (L:List Int) (hN:n+m=N) (hL:xs ++ l=L) (hb:N≤140737488355328) (hbase:base≤w.heap.size)
    (h:∀ a' c' w',w'.ownsRow base 5 1 (.slice a' N c') N (z01 L)→w.grownBy w' v.ownBlock→wpList Tryz.prog ops Q rest (a.put o.dst (.slice a' N c')) w'):wpList Tryz.prog ops Q (o :: rest) a w:=by
  subst hN hL
  rcases Nat.eq_zero_or_pos m with hm | hm
  · subst hm
    have hl:l=[]:=by have:=hB.1;simpa using this
    subst hl
    refine z6Q w hgd s x ho base v n xs hs hown ao c hx hc (by omega) hbase ?_
    simpa using h
  · obtain ⟨b,off,rfl,_,_⟩:=hB.2.1 hm
    refine z1t w hgd s x ho base v n xs hs hown b off m c l hx hB hm hb hbase ?_
    intro g cap w' h1 h2 _
    exact h _ cap w' h1 h2
end Go.Proofs.YtbmjoiiagldklaaGreatDoor

namespace Go.Proofs.YtbmjoiiagldklaaGreatDoor
open Go.RowKit
def z1u (X j:Nat):List Int:=(List.range j).map fun i=>((X / 128 ^ i % 128+128:Nat):Int)
theorem zb7 (X j:Nat):z1u X (j+1)=z1u X j ++ [((X / 128 ^ j % 128+128:Nat):Int)]:=by simp [z1u,List.range_succ]
theorem z28 (X j:Nat):(z1u X j).length=j:=by simp [z1u]
def TOPG (X:Nat):Nat→Nat
  | 0=>0
  | k+1=>if X<128 then 0 else TOPG (X / 128) k+1
def NTOP (X:Nat):Nat:=TOPG X 9
def z0x (X:Nat):List Int:=z1u X (NTOP X) ++ [((X / 128 ^ NTOP X:Nat):Int)]
theorem z1b (X:Nat):(z0x X).length=NTOP X+1:=by simp [z0x,z28]
theorem zbX:∀ (k X:Nat),TOPG X k≤k
  | 0,_=>Nat.le_refl _
  | k + 1,X=>by
    unfold TOPG
    split
    · omega
    · have:=zbX k (X / 128)
      omega
theorem z52:∀ (k X j:Nat),j<TOPG X k→128≤X / 128 ^ j
  | 0,_,_,h=>by simp [TOPG] at h
  | k + 1,X,j,h=>by
    unfold TOPG at h
    split at h
    · omega
    · cases j with
      | zero=>simp;omega
      | succ j=>
        have:=z52 k (X / 128) j (by omega)
        rw [Nat.div_div_eq_div_mul,Nat.mul_comm,← Nat.pow_succ] at this
        exact this
theorem zbY:∀ (k X:Nat),X<128 ^ (k+1)→X / 128 ^ TOPG X k<128
  | 0,X,h=>by simpa [TOPG] using h
  | k + 1,X,h=>by
    unfold TOPG
    split
    · simpa using ‹X<128›
    · have:=zbY k (X / 128) (by rw [Nat.pow_succ] at h;exact Nat.div_lt_of_lt_mul (by omega))
      rw [Nat.div_div_eq_div_mul,Nat.mul_comm,← Nat.pow_succ] at this
      exact this
theorem z89 (X:Nat):NTOP X≤9:=zbX 9 X
theorem z8a {X:Nat} (hX:X<2 ^ 64):X / 128 ^ NTOP X<128:=zbY 9 X (Nat.lt_of_lt_of_le hX (by decide))
theorem zbZ {X:Nat} (hX:X<2 ^ 64) {j:Nat} (hj:∀ i,i<j→128≤X / 128 ^ i) (h:X / 128 ^ j<128):NTOP X=j:=by
  rcases Nat.lt_trichotomy (NTOP X) j with h1 | h1 | h1
  · have:=hj _ h1
    have:=z8a hX
    omega
  · exact h1
  · have:=z52 9 X j h1
    omega
theorem zfZ (X:Nat) {i j:Nat} (h:i≤j):X / 128 ^ j≤X / 128 ^ i:=Nat.div_le_div_left (Nat.pow_le_pow_right (by decide) h) (Nat.pow_pos (by decide))
theorem z9V (X j:Nat):∀ x∈z1u X j,0≤x∧x≤255:=fun x hx=>by
  simp only [z1u,List.mem_map] at hx
  obtain ⟨i,_,rfl⟩:=hx
  omega
theorem z6t {X:Nat} (hX:X<2 ^ 64):∀ x∈z0x X,0≤x∧x≤255:=fun x hx=>by
  simp only [z0x,List.mem_append,List.mem_singleton] at hx
  rcases hx with hx | rfl
  · exact z9V X _ x hx
  · have:=z8a hX
    generalize X / 128 ^ NTOP X=y at *
    omega
theorem z3n (w:World) (v:Int) (h0:0≤v) (h1:v≤255):Bytes (w.alloc (.cells #[.int .u8 v] 5)) (some ⟨w.heap.size,0,none⟩) 1 [v]:=by
  refine ⟨rfl,fun _=>⟨w.heap.size,0,rfl,by simp,fun i hi=>?_⟩,fun x hx=>by simp at hx;omega⟩
  obtain rfl:i=0:=by omega
  rw [Nat.zero_add,World.cell?_alloc_at _ _ _ _ rfl]
  rfl
end Go.Proofs.YtbmjoiiagldklaaGreatDoor

namespace Go.Proofs.YtbmjoiiagldklaaGreatDoor
abbrev Fit (a h b:Nat):Prop:=a % 2 ^ h=0∧a+2 ^ h≤b
theorem Fit.down {a h b:Nat} (f:Fit a (h+1) b):Fit a h b:=by
  have h1:2 ^ (h+1)=2 ^ h*2:=Nat.pow_succ 2 h
  have h2:=f.2
  refine ⟨?_,by omega⟩
  have h3:=f.1
  have h4:2 ^ h ∣ 2 ^ (h+1):=⟨2,h1⟩
  exact Nat.mod_eq_zero_of_dvd (Nat.dvd_trans h4 (Nat.dvd_of_mod_eq_zero h3))
theorem Fit.le {a g b:Nat}:∀ h,h≤g→Fit a g b→Fit a h b:=by
  intro h hg f
  induction g with
  | zero => obtain rfl:h=0:=by omega
            exact f
  | succ g ih=>
    rcases Nat.lt_or_ge h (g+1) with h1 | h1
    · exact ih (by omega) f.down
    · obtain rfl:h=g+1:=by omega
      exact f
theorem Fit.zero {a b:Nat} (h:a<b):Fit a 0 b:=⟨Nat.mod_one a,by simp;omega⟩
def HTF:Nat→Nat→Nat→Nat
  | 0,_,_=>0
  | f+1,a,b=>if Fit a (f+1) b then f+1 else HTF f a b
def HT (a b:Nat):Nat:=HTF 62 a b
theorem zg0 {a b:Nat} (hab:a<b):∀ f,¬ Fit a (f+1) b→HTF f a b≤f∧Fit a (HTF f a b) b∧¬ Fit a (HTF f a b+1) b:=by
  intro f
  induction f with
  | zero=>intro h;exact ⟨Nat.le_refl _,Fit.zero hab,h⟩
  | succ f ih=>
    intro h
    unfold HTF
    split
    · rename_i h1
      exact ⟨Nat.le_refl _,h1,h⟩
    · rename_i h1
      have:=ih h1
      exact ⟨by omega,this.2⟩
theorem zc0 {a b:Nat} (hab:a<b) (hb:b≤4611686018427387904):HT a b≤62∧Fit a (HT a b) b∧¬ Fit a (HT a b+1) b:=by
  refine zg0 hab 62 ?_
  intro h
  have:=h.2
  simp at this
  omega
theorem zc1 {a b h:Nat} (hab:a<b) (hb:b≤4611686018427387904) (h1:Fit a h b) (h2:¬ Fit a (h+1) b):h=HT a b:=by
  obtain ⟨_,a1,a2⟩:=zc0 hab hb
  rcases Nat.lt_trichotomy h (HT a b) with c | c | c
  · exact absurd (a1.le (h+1) (by omega)) h2
  · exact c
  · exact absurd (h1.le (HT a b+1) (by omega)) a2
def z53:Nat→Nat→Nat→List (Nat × Nat)
  | 0,_,_=>[]
  | f+1,a,b=>if a<b then (HT a b,a / 2 ^ HT a b) :: z53 f (a+2 ^ HT a b) b else []
def SPAN (a b:Nat):List (Nat × Nat):=z53 (b - a) a b
theorem zcR:∀ f g a b,b - a≤f→b - a≤g→z53 f a b=z53 g a b:=by
  intro f
  induction f with
  | zero=>
    intro g a b h1 h2
    cases g with
    | zero=>rfl
    | succ g=>simp [z53];omega
  | succ f ih=>
    intro g a b h1 h2
    cases g with
    | zero=>simp [z53];omega
    | succ g=>
      unfold z53
      have:=Nat.two_pow_pos (HT a b)
      rw [ih g (a+2 ^ HT a b) b (by omega) (by omega)]
theorem z6R {a b:Nat} (h:b≤a):SPAN a b=[]:=by
  unfold SPAN
  rw [show b - a=0 by omega]
  rfl
theorem z5J {a b:Nat} (h:a<b):SPAN a b=(HT a b,a / 2 ^ HT a b) :: SPAN (a+2 ^ HT a b) b:=by
  unfold SPAN
  obtain ⟨f,hf⟩:∃ f,b - a=f+1:=⟨b - a - 1,by omega⟩
  have:=Nat.two_pow_pos (HT a b)
  rw [hf]
  show (if a<b then _ else _)=_
  rw [if_pos h]
  congr 1
  exact zcR _ _ _ _ (by omega) (by omega)
def Tile:Nat→List (Nat × Nat)→Nat→Prop
  | a,[],b=>a=b
  | a,s :: l,b=>Node s.1 s.2∧s.2*2 ^ s.1=a∧Tile ((s.2+1)*2 ^ s.1) l b
abbrev Sibs (x y:Nat × Nat):Prop:=x.1=y.1∧x.2 % 2=0∧y.2=x.2+1
def Irr:List (Nat × Nat)→Prop
  | []=>True
  | x :: l=>(∀ y,l.head?=some y→¬ Sibs x y)∧Irr l
theorem Fit.node {a h b:Nat} (f:Fit a h b) (hh:h≤62) (hb:b≤4611686018427387904):Node h (a / 2 ^ h)∧a / 2 ^ h*2 ^ h=a∧(a / 2 ^ h+1)*2 ^ h=a+2 ^ h:=by
  have h1:a / 2 ^ h*2 ^ h=a:=Nat.div_mul_cancel (Nat.dvd_of_mod_eq_zero f.1)
  have h2:(a / 2 ^ h+1)*2 ^ h=a+2 ^ h:=by rw [Nat.add_mul,Nat.one_mul,h1]
  refine ⟨⟨hh,?_⟩,h1,h2⟩
  have h3:(a / 2 ^ h+1)*2 ^ h≤2 ^ (62 - h)*2 ^ h:=by
    rw [h2,← Nat.pow_add,show 62 - h+h=62 by omega]
    have:=f.2
    simp
    omega
  exact Nat.le_of_mul_le_mul_right h3 (Nat.two_pow_pos h)
theorem z7i (h:Nat):2 ^ (h+1)=2*2 ^ h:=by rw [Nat.pow_succ,Nat.mul_comm]
theorem zc2 {k h:Nat}:k*2 ^ h % 2 ^ (h+1)=0↔k % 2=0:=by
  rw [Nat.pow_succ,Nat.mul_comm (2 ^ h) 2,Nat.mul_mod_mul_right]
  have:=Nat.two_pow_pos h
  constructor
  · intro e
    rcases Nat.mul_eq_zero.1 e with e | e
    · exact e
    · omega
  · intro e
    rw [e,Nat.zero_mul]
theorem zef {b:Nat} (hb:b≤4611686018427387904):∀ f a,b - a≤f→a≤b→Tile a (SPAN a b) b:=by
  intro f
  induction f with
  | zero=>
    intro a h1 h2
    rw [z6R (by omega)]
    exact (by omega:a=b)
  | succ f ih=>
    intro a h1 h2
    rcases Nat.lt_or_ge a b with h | h
    · obtain ⟨s1,s2,_⟩:=zc0 h hb
      obtain ⟨n1,n2,n3⟩:=s2.node s1 hb
      rw [z5J h]
      refine ⟨n1,n2,?_⟩
      show Tile ((a / 2 ^ HT a b+1)*2 ^ HT a b) _ b
      rw [n3]
      have:=Nat.two_pow_pos (HT a b)
      exact ih _ (by omega) s2.2
    · rw [z6R h]
      exact (by omega:a=b)
theorem z8P {a b:Nat} (hb:b≤4611686018427387904) (h:a≤b):Tile a (SPAN a b) b:=zef hb (b - a) a (Nat.le_refl _) h
theorem Tile.bound {l:List (Nat × Nat)}:∀ {a b:Nat},Tile a l b→a≤b∧(l≠[]→a<b∧b≤4611686018427387904):=by
  induction l with
  | nil=>intro a b h;exact ⟨by have:a=b:=h;omega,fun h=>absurd rfl h⟩
  | cons s l ih=>
    intro a b ⟨h1,h2,h3⟩
    have i:=ih h3
    have:=Nat.two_pow_pos s.1
    have e:(s.2+1)*2 ^ s.1=s.2*2 ^ s.1+2 ^ s.1:=by rw [Nat.add_mul,Nat.one_mul]
    refine ⟨by omega,fun _=>⟨by omega,?_⟩⟩
    cases l with
    | nil=>
      have h4:(s.2+1)*2 ^ s.1=b:=h3
      have:=h1.span
      simp at this
      omega
    | cons t l=>exact (i.2 (by simp)).2
theorem zeg {l:List (Nat × Nat)}:∀ {a b:Nat},Tile a l b→Irr l→l=SPAN a b:=by
  induction l with
  | nil=>
    intro a b h _
    have:a=b:=h
    rw [z6R (by omega)]
  | cons s l ih=>
    intro a b ht hi
    obtain ⟨h1,h2,h3⟩:=ht
    obtain ⟨hab,hb⟩:=(Tile.bound (l:=s :: l) ⟨h1,h2,h3⟩).2 (by simp)
    have e:(s.2+1)*2 ^ s.1=s.2*2 ^ s.1+2 ^ s.1:=by rw [Nat.add_mul,Nat.one_mul]
    have hl:=ih h3 hi.2
    have hle:=h3.bound.1
    have hpos:=Nat.two_pow_pos s.1
    have hf:Fit a s.1 b:=⟨by rw [← h2];exact Nat.mul_mod_left _ _,by omega⟩
    have hn:¬ Fit a (s.1+1) b:=by
      intro hf2
      have hk:s.2 % 2=0:=zc2.1 (by rw [h2];exact hf2.1)
      have p2:=z7i s.1
      have hf3:=hf2.2
      have hlt:(s.2+1)*2 ^ s.1<b:=by omega
      have hF1:Fit ((s.2+1)*2 ^ s.1) s.1 b:=⟨Nat.mul_mod_left _ _,by omega⟩
      have hF2:¬ Fit ((s.2+1)*2 ^ s.1) (s.1+1) b:=by
        intro h
        have:=zc2.1 h.1
        omega
      have hH:=zc1 hlt hb hF1 hF2
      rw [z5J hlt,← hH,Nat.mul_div_cancel _ hpos] at hl
      refine hi.1 (s.1,s.2+1) (by rw [hl];rfl) ⟨rfl,hk,rfl⟩
    have hH:=zc1 hab hb hf hn
    rw [z5J hab,← hH,hl]
    congr 1
    · rw [← h2,Nat.mul_div_cancel _ hpos]
    · rw [e,h2]
theorem Tile.append {l m:List (Nat × Nat)}:∀ {a b c:Nat},Tile a l b→Tile b m c→Tile a (l ++ m) c:=by
  induction l with
  | nil=>intro a b c h h2;have:a=b:=h;rw [this];exact h2
  | cons s l ih=>intro a b c ⟨h1,h2,h3⟩ h4;exact ⟨h1,h2,ih h3 h4⟩
theorem Tile.node {l:List (Nat × Nat)}:∀ {a b i h k:Nat},Tile a l b→l[i]?=some (h,k)→Node h k:=by
  induction l with
  | nil=>intro a b i h k _ e;simp at e
  | cons s l ih=>
    intro a b i h k ⟨h1,h2,h3⟩ e
    cases i with
    | zero=>simp at e;subst e;exact h1
    | succ i=>exact ih h3 (by simpa using e)
theorem Tile.one {s:Nat × Nat} {a b:Nat}:Tile a [s] b↔Node s.1 s.2∧s.2*2 ^ s.1=a∧(s.2+1)*2 ^ s.1=b:=Iff.rfl
end Go.Proofs.YtbmjoiiagldklaaGreatDoor

namespace Go.Proofs.YtbmjoiiagldklaaGreatDoor
theorem z2X {n:Nat} (h:PC n=0):n=0:=by
  induction n using Nat.strongRecOn with
  | _ n ih=>
    by_cases h0:n=0
    · exact h0
    · rw [z0R] at h
      have:=ih (n / 2) (by omega) (by omega)
      omega
theorem z9W (n a b:Nat) (hab:a≤b):n / 2 ^ a=n / 2 ^ b*2 ^ (b - a)+n / 2 ^ a % 2 ^ (b - a)∧PC (n / 2 ^ a)=PC (n / 2 ^ b)+PC (n / 2 ^ a % 2 ^ (b - a)):=by
  have e:n / 2 ^ b=n / 2 ^ a / 2 ^ (b - a):=by rw [Nat.div_div_eq_div_mul,← Nat.pow_add,show a+(b - a)=b by omega]
  have h1:n / 2 ^ a=n / 2 ^ b*2 ^ (b - a)+n / 2 ^ a % 2 ^ (b - a):=by
    rw [e,Nat.mul_comm]
    exact (Nat.div_add_mod _ _).symm
  refine ⟨h1,?_⟩
  have h2:=z7d (b - a) (n / 2 ^ b) (n / 2 ^ a % 2 ^ (b - a)) (Nat.mod_lt _ (Nat.two_pow_pos _))
  rw [← h1] at h2
  exact h2
theorem zc3 (n:Nat) {a b:Nat} (hab:a≤b):PC (n / 2 ^ b)≤PC (n / 2 ^ a):=by
  have:=(z9W n a b hab).2
  omega
theorem z9X (n:Nat) {a b:Nat} (hab:a≤b) (h:PC (n / 2 ^ a)=PC (n / 2 ^ b)):n / 2 ^ a*2 ^ a=n / 2 ^ b*2 ^ b:=by
  obtain ⟨h1,h2⟩:=z9W n a b hab
  have h3:n / 2 ^ a % 2 ^ (b - a)=0:=z2X (by omega)
  rw [h3,Nat.add_zero] at h1
  rw [h1,Nat.mul_assoc,← Nat.pow_add,show b - a+a=b by omega]
theorem zg1 {n:Nat} (hn:n<2 ^ 64):∀ h,h≤64→∀ i,i<PC (n / 2 ^ h)→∃ g,h≤g∧g<64∧(HS h n)[i]?=some g∧n / 2 ^ g % 2=1∧i=PC (n / 2 ^ (g+1)):=by
  have key:∀ d h,h+d=64→∀ i,i<PC (n / 2 ^ h)→∃ g,h≤g∧g<64∧(HS h n)[i]?=some g∧n / 2 ^ g % 2=1∧i=PC (n / 2 ^ (g+1)):=by
    intro d
    induction d with
    | zero=>
      intro h e i hi
      obtain rfl:h=64:=by omega
      rw [Nat.div_eq_of_lt hn,z1n] at hi
      omega
    | succ d ih=>
      intro h e i hi
      have hl:=z2O hn (h+1) (by omega)
      have hs:PC (n / 2 ^ h)=n / 2 ^ h % 2+PC (n / 2 ^ (h+1)):=by rw [z0R,z0O]
      rcases Nat.lt_or_ge i (PC (n / 2 ^ (h+1))) with h1 | h1
      · obtain ⟨g,a,b,c,r⟩:=ih (h+1) (by omega) i h1
        refine ⟨g,by omega,b,?_,r⟩
        by_cases hb:n / 2 ^ h % 2=1
        · rw [z2N (by omega) hb,List.getElem?_append_left (by omega)]
          exact c
        · rw [z2y (by omega) hb]
          exact c
      · have hb:n / 2 ^ h % 2=1:=by omega
        have hi':i=PC (n / 2 ^ (h+1)):=by omega
        refine ⟨h,Nat.le_refl _,by omega,?_,hb,hi'⟩
        rw [z2N (by omega) hb,List.getElem?_append_right (by omega),hl,hi']
        simp
  intro h hh
  exact key (64 - h) h (by omega)
def HGT (n i:Nat):Nat:=(HS 0 n).getD i 0
def z9x (n:Nat):Nat→Nat
  | 0=>0
  | i+1=>n / 2 ^ HGT n i*2 ^ HGT n i
theorem z2n {n i:Nat} (hn:n<2 ^ 64) (hi:i<PC n):(HS 0 n)[i]?=some (HGT n i)∧n / 2 ^ HGT n i % 2=1∧i=PC (n / 2 ^ (HGT n i+1)):=by
  obtain ⟨g,_,_,c,d,e⟩:=zg1 hn 0 (by omega) i (by rw [Nat.pow_zero,Nat.div_one];exact hi)
  have hg:HGT n i=g:=by unfold HGT;rw [List.getD_eq_getElem?_getD,c];rfl
  rw [hg]
  exact ⟨c,d,e⟩
def KGT (n i:Nat):Nat:=2*(n / 2 ^ (HGT n i+1))
theorem zg2 {n i:Nat} (hn:n<2 ^ 64) (hi:i<PC n):(z1s n).getD i 0=PLC (HGT n i) (KGT n i):=by
  unfold z1s
  rw [List.getD_eq_getElem?_getD,List.getElem?_map,(z2n hn hi).1]
  rfl
theorem z8Q {n i:Nat} (hn:n≤4611686018427387904) (hi:i<PC n):Node (HGT n i) (KGT n i):=Node.peak hn (z2n (by omega) hi).2.1
theorem z6S {n i:Nat} (hn:n<2 ^ 64) (hi:i<PC n):PC (n / 2 ^ HGT n i)=i+1:=by
  obtain ⟨_,h2,h3⟩:=z2n hn hi
  rw [z0R,← z0O]
  omega
theorem z8R {n i:Nat} (hn:n<2 ^ 64) (hi:i+1<PC n):HGT n (i+1)<HGT n i:=by
  have h1:=z6S hn (i:=i) (by omega)
  have h2:=(z2n hn hi).2.2
  rcases Nat.lt_or_ge (HGT n (i+1)) (HGT n i) with h | h
  · exact h
  · have h3:=zc3 n (a:=HGT n i+1) (b:=HGT n (i+1)+1) (by omega)
    have h4:=(z2n hn (i:=i) (by omega)).2.2
    omega
theorem zcS {n i:Nat} (hn:n<2 ^ 64) (hi:i<PC n):KGT n i*2 ^ HGT n i=z9x n i:=by
  have hk:KGT n i*2 ^ HGT n i=n / 2 ^ (HGT n i+1)*2 ^ (HGT n i+1):=z1i _ _
  have h2:=(z2n hn hi).2.2
  cases i with
  | zero=>
    rw [hk,z2X h2.symm,Nat.zero_mul]
    rfl
  | succ i=>
    have h1:=z6S hn (i:=i) (by omega)
    have h3:=z8R hn hi
    rw [hk]
    exact z9X n (by omega) (by omega)
theorem zg3 {n i:Nat} (hn:n<2 ^ 64) (hi:i<PC n):(KGT n i+1)*2 ^ HGT n i=z9x n (i+1):=by
  have:=z5D (z2n hn hi).2.1
  show (2*(n / 2 ^ (HGT n i+1))+1)*2 ^ HGT n i=n / 2 ^ HGT n i*2 ^ HGT n i
  rw [← this]
theorem zeh {n:Nat} (hn:n<2 ^ 64):z9x n (PC n)=n:=by
  cases h:PC n with
  | zero=>
    rw [z2X h]
    rfl
  | succ i=>
    have h1:=z6S hn (i:=i) (by omega)
    have h2:=z9X n (a:=0) (b:=HGT n i) (by omega) (by rw [Nat.pow_zero,Nat.div_one];omega)
    rw [Nat.pow_zero,Nat.div_one,Nat.mul_one] at h2
    exact h2.symm
end Go.Proofs.YtbmjoiiagldklaaGreatDoor

namespace Go.Proofs.YtbmjoiiagldklaaGreatDoor
def PKS (n j c:Nat):List (Nat × Nat):=(List.range' j c).map fun i=>(HGT n i,KGT n i)
theorem z9Y (n j c:Nat):PKS n j (c+1)=(HGT n j,KGT n j) :: PKS n (j+1) c:=by simp [PKS,List.range'_succ]
theorem zjW {n c i:Nat} (h:i<c):(PKS n 0 c)[i]?=some (HGT n i,KGT n i):=by
  simp [PKS,h]
theorem zg4 {n:Nat} (hn:n≤4611686018427387904):∀ c j,j+c=PC n→Tile (z9x n j) (PKS n j c) n∧Irr (PKS n j c):=by
  intro c
  induction c with
  | zero=>
    intro j e
    obtain rfl:j=PC n:=by omega
    exact ⟨zeh (by omega),trivial⟩
  | succ c ih=>
    intro j e
    obtain ⟨i1,i2⟩:=ih (j+1) (by omega)
    rw [z9Y]
    refine ⟨⟨z8Q hn (by omega),zcS (by omega) (by omega),?_⟩,?_,i2⟩
    · show Tile ((KGT n j+1)*2 ^ HGT n j) _ n
      rw [zg3 (by omega) (by omega)]
      exact i1
    · intro y hy ⟨h1,_,_⟩
      cases c with
      | zero=>simp [PKS] at hy
      | succ c=>
        rw [z9Y] at hy
        simp at hy
        subst hy
        have:=z8R (n:=n) (i:=j) (by omega) (by omega)
        dsimp only at h1
        omega
theorem z7j {n:Nat} (hn:n≤4611686018427387904):SPAN 0 n=PKS n 0 (PC n):=by
  obtain ⟨h1,h2⟩:=zg4 hn (PC n) 0 (by omega)
  exact (zeg h1 h2).symm
theorem z1M {n:Nat} (hn:n≤4611686018427387904):(SPAN 0 n).length=PC n:=by
  rw [z7j hn]
  simp [PKS]
theorem z2o {n i:Nat} (hn:n≤4611686018427387904) (hi:i<PC n):(SPAN 0 n)[i]?=some (HGT n i,KGT n i):=by
  rw [z7j hn]
  exact zjW hi
end Go.Proofs.YtbmjoiiagldklaaGreatDoor

namespace Go.Proofs.YtbmjoiiagldklaaGreatDoor
def PLCS (l:List (Nat × Nat)):List Nat:=l.map fun s=>PLC s.1 s.2
theorem z16 (l:List (Nat × Nat)):(PLCS l).length=l.length:=by simp [PLCS]
theorem zb8 (l m:List (Nat × Nat)):PLCS (l ++ m)=PLCS l ++ PLCS m:=by simp [PLCS]
theorem zhf {l:List (Nat × Nat)} {j h k:Nat} (e:l[j]?=some (h,k)):(PLCS l).getD j 0=PLC h k:=by
  simp [PLCS,List.getD,e]
theorem z3A {n:Nat} (hn:n≤4611686018427387904):z1s n=PLCS (SPAN 0 n):=by
  have hl:=z2l (n:=n) (by omega)
  apply List.ext_getElem?
  intro j
  by_cases hj:j<PC n
  · have h1:=zg2 (n:=n) (by omega) hj
    have h2:=z2o hn hj
    rw [List.getD,List.getElem?_eq_getElem (by omega)] at h1
    rw [List.getElem?_eq_getElem (by omega)]
    simp only [Option.getD_some] at h1
    rw [h1]
    simp [PLCS,h2]
  · rw [List.getElem?_eq_none (by omega),List.getElem?_eq_none (by rw [z16,z1M hn];omega)]
def WAYS (i H:Nat):List (Nat × Nat):=(List.range H).map fun h=>(h,SIB (i / 2 ^ h))
theorem z3o (i H:Nat):WAYS i (H+1)=WAYS i H ++ [(H,SIB (i / 2 ^ H))]:=by simp [WAYS,List.range_succ]
theorem z1S (i H:Nat):(WAYS i H).length=H:=by simp [WAYS]
theorem zei (i H:Nat):WAY i H=PLCS (WAYS i H):=by simp [WAY,WAYS,PLCS]
theorem zej {α β:Type} (f:α→β):∀ (l:List α) (k:Nat),(l.map f).eraseIdx k=(l.eraseIdx k).map f:=by
  intro l
  induction l with
  | nil=>intro k;simp
  | cons a l ih=>
    intro k
    cases k with
    | zero=>simp
    | succ k=>simp [ih]
theorem z7k {α:Type} (x:α):∀ (l:List α) (k:Nat),(l ++ [x]).eraseIdx k=if k=l.length then l.eraseIdx k else l.eraseIdx k ++ [x]:=by
  intro l
  induction l with
  | nil=>
    intro k
    cases k with
    | zero=>simp
    | succ k=>simp
  | cons a l ih=>
    intro k
    cases k with
    | zero=>simp
    | succ k=>
      have:=ih k
      rw [List.cons_append,List.eraseIdx_cons_succ,this,List.length_cons,List.eraseIdx_cons_succ]
      by_cases e:k=l.length
      · rw [if_pos e,if_pos (by omega)]
      · rw [if_neg e,if_neg (by omega)]
        rfl
def PSP (i n:Nat):List (Nat × Nat):=WAYS i (RISE i n) ++ (SPAN 0 n).eraseIdx (KTH i n)
theorem z7l {i n:Nat} (hn:n≤4611686018427387904):PLCS (PSP i n)=WAY i (RISE i n) ++ (z1s n).eraseIdx (KTH i n):=by
  unfold PSP
  rw [zb8,zei,z3A hn]
  unfold PLCS
  rw [zej]
def PXS (m n:Nat):List (Nat × Nat):=SPAN 0 m ++ SPAN m n
theorem z54 {i n:Nat} (hi:i<n) (hn:n≤4611686018427387904):(PSP i n).length+1=RISE i n+PC n:=by
  have h1:=z2m hi hn
  have h2:=z1M hn
  unfold PSP
  rw [List.length_append,z1S,List.length_eraseIdx,if_pos (by omega)]
  omega
theorem z68 {i n:Nat} (hi:i<n) (hn:n≤4611686018427387904):(PSP i n).length≤126:=by
  have h1:=z54 hi hn
  have h2:=(z0K hi hn).2.1
  have h3:=z0V 64 n (by omega)
  omega
def Off (s t:Nat × Nat):Prop:=(s.2+1)*2 ^ s.1≤t.2*2 ^ t.1∨(t.2+1)*2 ^ t.1≤s.2*2 ^ s.1
def SIZE (l:List (Nat × Nat)):Nat:=(l.map fun s=>2 ^ s.1).sum
theorem zb9 (l m:List (Nat × Nat)):SIZE (l ++ m)=SIZE l+SIZE m:=by simp [SIZE]
theorem zek (l:List (Nat × Nat)) (s:Nat × Nat):SIZE (l ++ [s])=SIZE l+2 ^ s.1:=by simp [SIZE]
theorem z6T (k h:Nat):(k+1)*2 ^ h=k*2 ^ h+2 ^ h:=by rw [Nat.add_mul,Nat.one_mul]
theorem Tile.size {l:List (Nat × Nat)}:∀ {a b:Nat},Tile a l b→a+SIZE l=b:=by
  induction l with
  | nil=>intro a b h;have:a=b:=h;simp [SIZE,this]
  | cons s l ih=>
    intro a b ⟨h1,h2,h3⟩
    have:=ih h3
    rw [z6T,h2] at this
    simp only [SIZE,List.map_cons,List.sum_cons] at this ⊢
    omega
theorem Tile.within {l:List (Nat × Nat)}:∀ {a b:Nat},Tile a l b→∀ s∈l,a≤s.2*2 ^ s.1∧(s.2+1)*2 ^ s.1≤b∧Node s.1 s.2:=by
  induction l with
  | nil=>intro a b _ s hs;simp at hs
  | cons t l ih=>
    intro a b ⟨h1,h2,h3⟩ s hs
    rcases List.mem_cons.1 hs with rfl | hs
    · exact ⟨by omega,h3.bound.1,h1⟩
    · have:=ih h3 s hs
      have h4:=z6T t.2 t.1
      have h5:=Nat.two_pow_pos t.1
      exact ⟨by omega,this.2⟩
theorem Tile.off {l:List (Nat × Nat)}:∀ {a b:Nat},Tile a l b→l.Pairwise Off:=by
  induction l with
  | nil=>intro a b _;exact List.Pairwise.nil
  | cons t l ih=>
    intro a b ⟨h1,h2,h3⟩
    refine List.Pairwise.cons (fun s hs=>?_) (ih h3)
    exact .inl (h3.within s hs).1
theorem z8S (i H:Nat):i / 2 ^ H*2 ^ H≤i∧i<(i / 2 ^ H+1)*2 ^ H:=by
  have h1:=Nat.div_add_mod i (2 ^ H)
  have h2:=Nat.mod_lt i (Nat.two_pow_pos H)
  rw [Nat.mul_comm] at h1
  rw [z6T]
  omega
theorem z55 (k h:Nat):(SIB k % 2≠k % 2)∧k / 2*2 ^ (h+1)≤SIB k*2 ^ h∧(SIB k+1)*2 ^ h≤(k / 2+1)*2 ^ (h+1)∧k / 2*2 ^ (h+1)≤k*2 ^ h∧(k+1)*2 ^ h≤(k / 2+1)*2 ^ (h+1)∧((SIB k+1)*2 ^ h≤k*2 ^ h∨(k+1)*2 ^ h≤SIB k*2 ^ h):=by
  have e:=z7i h
  have up:∀ m,m*2 ^ (h+1)=(2*m)*2 ^ h:=fun m=>by rw [e,Nat.mul_comm 2 m,Nat.mul_assoc]
  rw [up,up]
  have mono:∀ {a b:Nat},a≤b→a*2 ^ h≤b*2 ^ h:=fun hab=>Nat.mul_le_mul_right _ hab
  unfold SIB
  split
  · exact ⟨by omega,mono (by omega),mono (by omega),mono (by omega),mono (by omega),.inl (mono (by omega))⟩
  · exact ⟨by omega,mono (by omega),mono (by omega),mono (by omega),mono (by omega),.inr (mono (by omega))⟩
theorem z3B (i:Nat):∀ H,∀ s∈WAYS i H,i / 2 ^ H*2 ^ H≤s.2*2 ^ s.1∧(s.2+1)*2 ^ s.1≤(i / 2 ^ H+1)*2 ^ H:=by
  intro H
  induction H with
  | zero=>intro s hs;simp [WAYS] at hs
  | succ H ih=>
    intro s hs
    rw [z3o,List.mem_append,List.mem_singleton] at hs
    have h1:=z55 (i / 2 ^ H) H
    rw [z0O]
    rcases hs with hs | rfl
    · have:=ih s hs
      omega
    · exact ⟨h1.2.1,h1.2.2.1⟩
theorem zg5 (i:Nat):∀ H,(WAYS i H).Pairwise Off:=by
  intro H
  induction H with
  | zero=>simp [WAYS]
  | succ H ih=>
    rw [z3o,List.pairwise_append]
    refine ⟨ih,by simp,fun s hs t ht=>?_⟩
    rw [List.mem_singleton] at ht
    subst ht
    have h1:=(z55 (i / 2 ^ H) H).2.2.2.2.2
    have h2:=z3B i H s hs
    unfold Off
    dsimp only
    omega
theorem zel (i:Nat):∀ H,SIZE (WAYS i H)+1=2 ^ H:=by
  intro H
  induction H with
  | zero=>simp [WAYS,SIZE]
  | succ H ih=>
    rw [z3o,zek,z7i]
    dsimp only
    omega
theorem zem (i:Nat):∀ H,∀ s∈WAYS i H,¬ (s.2*2 ^ s.1≤i∧i<(s.2+1)*2 ^ s.1):=by
  intro H
  induction H with
  | zero=>intro s hs;simp [WAYS] at hs
  | succ H ih=>
    intro s hs
    rw [z3o,List.mem_append,List.mem_singleton] at hs
    rcases hs with hs | rfl
    · exact ih s hs
    · have h1:=(z55 (i / 2 ^ H) H).2.2.2.2.2
      have h2:=z8S i H
      dsimp only
      omega
theorem zen {i:Nat} (hi:i<4611686018427387904):∀ H,H≤62→∀ s∈WAYS i H,Node s.1 s.2:=by
  intro H hH s hs
  simp only [WAYS,List.mem_map,List.mem_range] at hs
  obtain ⟨h,hh,rfl⟩:=hs
  exact (Node.over hi h (by omega)).sib (by omega)
theorem zc4 {h k n:Nat} (hn:(k+1)*2 ^ h≤n):PLC h k<z0t n:=by
  have h1:=z9E hn
  have h2:=z19 ((k+1)*2 ^ h)
  rw [z38] at h2
  have h3:=z24 h k
  have h4:=zbN k
  have h5:2 ^ (h+1)*(k+1)=2*((k+1)*2 ^ h):=by rw [z7i,Nat.mul_assoc,Nat.mul_comm (2 ^ h)]
  omega
theorem z6U {i n:Nat} (hi:i<n) (hn:n≤4611686018427387904):(SPAN 0 n)[KTH i n]?=some (RISE i n,i / 2 ^ RISE i n)∧(z1s n).getD (KTH i n) 0=PLC (RISE i n) (i / 2 ^ RISE i n):=by
  have h1:=z9O hi hn
  have h2:=z2m hi hn
  have h3:=z2o hn h2
  have h4:HGT n (KTH i n)=RISE i n:=by simp [HGT,List.getD,h1]
  have h5:KGT n (KTH i n)=i / 2 ^ RISE i n:=by
    unfold KGT
    rw [h4]
    exact (z0K hi hn).2.2.2.2.symm
  rw [h4,h5] at h3
  refine ⟨h3,?_⟩
  rw [z3A hn]
  exact zhf h3
theorem Pairwise.at_lt {α:Type} {R:α→α→Prop} {l:List α} (h:l.Pairwise R) {a b:Nat} {x y:α} (hab:a<b) (ha:l[a]?=some x) (hb:l[b]?=some y):R x y:=by
  obtain ⟨h1,rfl⟩:=List.getElem?_eq_some_iff.1 ha
  obtain ⟨h2,rfl⟩:=List.getElem?_eq_some_iff.1 hb
  exact (List.pairwise_iff_getElem.1 h) a b h1 h2 hab
theorem zeo {α:Type} {l:List α} {k:Nat} {x:α} (h:x∈l.eraseIdx k):∃ j,j≠k∧l[j]?=some x:=by
  obtain ⟨j,hj⟩:=List.mem_iff_getElem?.1 h
  rw [List.getElem?_eraseIdx] at hj
  split at hj
  · exact ⟨j,by omega,hj⟩
  · exact ⟨j+1,by omega,hj⟩
theorem zg6 {s t:Nat × Nat} (h:Off s t):Off t s:=h.elim .inr .inl
theorem zcT:∀ (l:List (Nat × Nat)) (k:Nat) (s:Nat × Nat),l[k]?=some s→SIZE (l.eraseIdx k)+2 ^ s.1=SIZE l:=by
  intro l
  induction l with
  | nil=>intro k s h;simp at h
  | cons a l ih=>
    intro k s h
    cases k with
    | zero=>
      simp at h
      subst h
      simp [SIZE]
      omega
    | succ k=>
      have:=ih k s (by simpa using h)
      simp only [SIZE,List.eraseIdx_cons_succ,List.map_cons,List.sum_cons] at this ⊢
      omega
theorem z56 {i n:Nat} (hi:i<n) (hn:n≤4611686018427387904):
    (∀ s∈PSP i n,Node s.1 s.2∧PLC s.1 s.2<z0t n∧¬ (s.2*2 ^ s.1≤i∧i<(s.2+1)*2 ^ s.1))∧(PSP i n).Pairwise Off∧SIZE (PSP i n)+1=n:=by
  obtain ⟨hK,_⟩:=z6U hi hn
  have h62:=(z0K hi hn).2.1
  have hT:=z8P hn (Nat.zero_le n)
  have hp:=z8S i (RISE i n)
  have hin:=hT.within _ (List.mem_of_getElem? hK)
  dsimp only at hin
  have hoff:=hT.off
  have hother:∀ s∈(SPAN 0 n).eraseIdx (KTH i n),Off s (RISE i n,i / 2 ^ RISE i n):=by
    intro s hs
    obtain ⟨j,hj,e⟩:=zeo hs
    rcases Nat.lt_or_ge j (KTH i n) with h | h
    · exact Pairwise.at_lt hoff h e hK
    · exact zg6 (Pairwise.at_lt hoff (by omega:KTH i n<j) hK e)
  refine ⟨fun s hs=>?_,?_,?_⟩
  · unfold PSP at hs
    rcases List.mem_append.1 hs with hs | hs
    · have h1:=z3B i _ s hs
      exact ⟨zen (by omega) _ h62 s hs,zc4 (by omega),zem i _ s hs⟩
    · have h1:=hT.within s (List.mem_of_mem_eraseIdx hs)
      have h2:=hother s hs
      unfold Off at h2
      dsimp only at h2
      exact ⟨h1.2.2,zc4 h1.2.1,by omega⟩
  · unfold PSP
    rw [List.pairwise_append]
    refine ⟨zg5 i _,hoff.sublist (List.eraseIdx_sublist _ _),fun s hs t ht=>?_⟩
    have h1:=z3B i _ s hs
    have h2:=hother t ht
    unfold Off at h2 ⊢
    dsimp only at h2
    omega
  · unfold PSP
    rw [zb9]
    have h1:=zel i (RISE i n)
    have h2:=zcT _ _ _ hK
    have h3:=hT.size
    dsimp only at h2
    omega
end Go.Proofs.YtbmjoiiagldklaaGreatDoor

namespace Go.Proofs.YtbmjoiiagldklaaGreatDoor
open Go.RowKit
theorem z1B (n:Nat) (hn:n<64) (w:World):Calls Tryz.prog 87 #[.int .i64 (n:Int)] w fun e w'=>e=.returned (.int .u64 ((2 ^ n:Nat):Int))∧w=w':=by
  have HN:Aside (n<64):=hn
  clear hn
  go_enter Tryz.func87,Tryz.ntmps87
  go_wp2
  go_loopg [3,4] n (fun g s3 s4 wx=>∃ i v:Nat,s3=.int .u64 (v:Int)∧s4=.int .i64 (i:Int)∧Aside (v=2 ^ i∧i+g=n)∧wx=w)
  case atStart=>exact ⟨0,1,rfl,rfl,⟨rfl,by omega⟩,rfl⟩
  case round=>
    obtain ⟨i,v,rfl,rfl,A,hw⟩:=hrel
    subst hw
    cases gk with
    | zero=>
      have hi:¬ (i:Int)<(n:Int):=by have:=A.out.2;omega
      go_wp2
      go_ret
      obtain ⟨r1,r2⟩:=A.out
      refine ⟨?_,rfl⟩
      rw [r1,show i=n by omega]
      rfl
    | succ g=>
      have hi:(i:Int)<(n:Int):=by have:=A.out.2;omega
      go_wp2
      go_roundg g
      case measure=>omega
      case rel=>
        obtain ⟨r1,r2⟩:=A.out
        have h64:=HN.out
        have hp:2 ^ (i+1)≤2 ^ 63:=Nat.pow_le_pow_right (by decide) (by omega)
        refine ⟨i+1,2 ^ (i+1),?_,?_,⟨rfl,by omega⟩,rfl⟩
        · congr 1
          rw [z0d,r1]
          rw [Nat.pow_succ] at hp ⊢
          omega
        · congr 1
          unfold wrap64
          omega
theorem zba (n:Nat) (hn:n≤4611686018427387904) (w:World):Calls Tryz.prog 174 #[.int .u64 (n:Int)] w fun e w'=>e=.returned (.tuple #[.int .u64 ((z0t n:Nat):Int),.bool true])∧w=w':=by
  have HN:Aside (n≤4611686018427387904):=hn
  have hd:¬ (4611686018427387904:Int)<(n:Int):=by omega
  clear hn
  go_enter Tryz.func174,Tryz.ntmps174
  go_wp2
  go_loopg [0,4] n (fun g s0 s4 wx=>∃ v:Nat,s0=.int .u64 (g:Int)∧s4=.int .u64 (v:Int)∧Aside (v+z0t g=z0t n)∧wx=w)
  case atStart=>exact ⟨0,rfl,rfl,by unfold Aside;omega,rfl⟩
  case round=>
    obtain ⟨v,rfl,rfl,A,hw⟩:=hrel
    subst hw
    cases gk with
    | zero=>
      go_wp2
      go_ret2
      have r1:=A.out
      rw [z2W] at r1
      refine ⟨?_,rfl⟩
      rw [← r1]
      rfl
    | succ g=>
      have hi:(0:Int)<(((g+1:Nat)):Int):=by omega
      have e1:Aside (IntKind.u64.wrap ((v:Int)+((g+1:Nat):Int))=((v+(g+1):Nat):Int)):=by
        have h1:=z4Y (g+1)
        have h2:=A.out
        have h3:=z5E HN.out
        unfold Aside
        rw [z0d]
        omega
      have e2:Aside (IntKind.u64.wrap (((g+1:Nat):Int) / 2)=(((g+1) / 2:Nat):Int)):=by
        have h1:=zfC (g+1)
        have h2:=A.out
        have h3:=z5E HN.out
        unfold Aside
        rw [z0d]
        omega
      generalize hG:g+1=G at *
      go_wp2
      go_roundg (G / 2)
      case measure=>omega
      case rel=>
        refine ⟨v+G,?_,?_,?_,rfl⟩
        · first | rfl | (congr 1;omega) | (rw [e2.out])
        · rw [e1.out]
        · have h1:=z4Y G
          have h2:=A.out
          unfold Aside
          omega
end Go.Proofs.YtbmjoiiagldklaaGreatDoor
