/- Texts of SpanVerifies, one behind the other: HashBig, HashAppend, HashSum, HashSums, HashAll, HashAbc, HashAwake, HashRow, HashText. -/
import Derived.Test.YthdpkaiieomdoaaGreatDoorProg
import Derived.Deep.AppendLies
import Derived.Laws.AppendOwnNone
import Derived.Test.YthdpkaiieomdoaaGreatDoorSpanVerifiesP9
namespace Go.Proofs.YthdpkaiieomdoaaGreatDoor.HX
open Go.RowKit
theorem z65 (x n:Int) (w:World):Calls Tryz.prog 183 #[.int .u64 x,.int .i64 n] w fun e w'=>e=.returned (.int .u64 (if n<0 then IntKind.u64.wrap (x*2 ^ min (IntKind.u64.wrap (-IntKind.u64.wrap n)).toNat 64) else x / 2 ^ min (IntKind.u64.wrap n).toNat 64))∧w=w':=by
  by_cases h:n<0
  · rw [if_pos h]
    go_enter Tryz.func183,Tryz.ntmps183
    go_wp2
    go_ret
    exact ⟨rfl,rfl⟩
  · rw [if_neg h]
    go_enter Tryz.func183,Tryz.ntmps183
    go_wp2
    go_ret
    exact ⟨rfl,rfl⟩
theorem z2l (X:Nat) (n:Int) (hX:X<2 ^ 64) (h0 : -(2 ^ 63)≤n) (h1:n<2 ^ 63) (w:World):Calls Tryz.prog 183 #[.int .u64 (X:Int),.int .i64 n] w fun e w'=>e=.returned (.int .u64 ((SHR X n:Nat):Int))∧w=w':=
  (z65 X n w).mono fun e w' h=>by rw [z5x hX h0 h1] at h;exact h
theorem z4a {F f:Nat→Int} {i:Nat} {v:Int} (A:∀ j,f j=if j<i then F j else 0) (hv:v=F i):∀ j,(if j=i then v else f j)=if j<i+1 then F j else 0:=fun j=>by
  by_cases e:j=i
  · subst e
    simp [hv]
  · rw [if_neg e,A j]
    by_cases e2:j<i
    · rw [if_pos e2,if_pos (by omega)]
    · rw [if_neg e2,if_neg (by omega)]
theorem z69 (x:Int) (n:Nat) (F:Nat→Int) (hn:(n:Int)≤8) (w:World) (c:∀ w,Calls Tryz.prog 183 #[.int .u64 x,.int .i64 (8*(n:Int))] w fun e w'=>e=.returned (.int .u64 0)∧w=w')
    (ci:∀ i:Nat,i<n→∃ s:Int,Aside (s % 256=F i)∧∀ w,Calls Tryz.prog 183 #[.int .u64 x,.int .i64 (8*((n:Int) - 1 - (i:Int)))] w fun e w'=>e=.returned (.int .u64 s)∧w=w'):
    Calls Tryz.prog 190 #[.int .u64 x,.int .i64 (n:Int)] w fun e w'=>e=.returned (.tuple #[.slice (some ⟨w.heap.size,0,none⟩) n n,.int .i64 0])∧w.alloc (.cells (BARR n F) 5)=w':=by
  have hmk:=z5C n (by omega)
  have CI:Aside (∀ i:Nat,i<n→∃ s:Int,Aside (s % 256=F i)∧∀ w,Calls Tryz.prog 183 #[.int .u64 x,.int .i64 (8*((n:Int) - 1 - (i:Int)))] w fun e w'=>e=.returned (.int .u64 s)∧w=w'):=ci
  clear ci
  go_enter Tryz.func190,Tryz.ntmps190
  go_wp2_with fail
  refine (c _).mono ?_
  rintro e w' ⟨rfl,rfl⟩
  go_wp2
  go_loopg [23] n (fun g s23 wx=>∃ (i:Nat) (f:Nat→Int),i+g=n∧Aside (∀ j,f j=if j<i then F j else 0)∧s23=.int .i64 i∧wx=w.alloc (.cells (BARR n f) 5))
  case atStart=>exact ⟨0,fun _=>0,by omega,fun j=>by simp,rfl,rfl⟩
  case round=>
    obtain ⟨i,f,hig,A,rfl,rfl⟩:=hrel
    cases gk with
    | zero=>
      obtain rfl:i=n:=by omega
      have hf:BARR i f=BARR i F:=z7q fun j hj=>by rw [A.out j,if_pos hj]
      rw [hf]
      clear hf A
      go_wp2
      go_ret2
      exact ⟨rfl,rfl⟩
    | succ g=>
      have hi:(i:Int)<(n:Int):=by omega
      have hc:(BARR n f)[i]?=some (.int .u8 (f i)):=z1x n f i (by omega)
      have hs:∀ v,(BARR n f).setIfInBounds i (.int .u8 v)=BARR n (fun j=>if j=i then v else f j):=fun v=>z5g n f i v
      obtain ⟨s,hsF,cs⟩:=CI.out i (by omega)
      go_wp2_with fail
      refine (cs _).mono ?_
      rintro e w' ⟨rfl,rfl⟩
      go_wp2
      go_roundg g
      case measure=>omega
      case rel=>exact ⟨i+1,_,by omega,z4a A.out hsF.out,by go_num,rfl⟩
def BYTE (X n:Nat):Nat→Int:=fun i=>((X / 2 ^ (8*(n - 1 - i)) % 256:Nat):Int)
theorem zbl (X n:Nat) (hX:X<2 ^ 64) (hn:n≤8) (h:X / 2 ^ (8*n)=0) (w:World):
    Calls Tryz.prog 190 #[.int .u64 (X:Int),.int .i64 (n:Int)] w fun e w'=>e=.returned (.tuple #[.slice (some ⟨w.heap.size,0,none⟩) n n,.int .i64 0])∧w.alloc (.cells (BARR n (BYTE X n)) 5)=w':=by
  refine z69 X n (BYTE X n) (by omega) w (fun w=>?_) (fun i hi=>?_)
  · have k:=z2l X (8*(n:Int)) hX (by omega) (by omega) w
    have hs:SHR X (8*(n:Int))=0:=by
      unfold SHR
      rw [if_neg (by omega),show (8*(n:Int)).toNat=8*n by omega,h]
    rw [hs] at k
    exact k
  · refine ⟨(SHR X (8*((n:Int) - 1 - (i:Int))):Nat),?_,fun w=>z2l X _ hX (by omega) (by omega) w⟩
    unfold SHR BYTE Aside
    rw [if_neg (by omega),show (8*((n:Int) - 1 - (i:Int))).toNat=8*(n - 1 - i) by omega]
    simp
end Go.Proofs.YthdpkaiieomdoaaGreatDoor.HX

namespace Go.Proofs.YthdpkaiieomdoaaGreatDoor.HX
open Go.RowKit
def z00 (l:List Int):List Value:=l.map (Value.int .u8)
theorem z0m (a b:List Int):z00 (a ++ b)=z00 a ++ z00 b:=by simp [z00]
theorem z0k (l:List Int) (i:Nat) (h:i<l.length):(z00 l)[i]?=some (.int .u8 (l.getD i 0)):=by
  simp [z00,h,List.getD_eq_getElem?_getD]
theorem z15 (l:List Int):∀ u∈z00 l,u.oneCell'=true:=fun u hu=>by
  simp [z00] at hu
  obtain ⟨x,_,rfl⟩:=hu
  rfl
theorem z12:∃ i,Tryz.prog.info? 5=some i∧i.zero=some (.int .u8 0)∧i.size=1∧i.bytes=1:=by
  obtain ⟨i,hi,h⟩:=Option.map_eq_some_iff.1 z0I
  simp only [Prod.mk.injEq] at h
  exact ⟨i,hi,h.1,h.2.1,h.2.2⟩
theorem z0D {ops:Array Oper} {rest:List Oper} {o:Oper} {a:Act} {Q:Exit→Act→World→Prop} (w:World) (hgd:o.guard=none) (s x:Operand)
    (ho:o.op=.call {callee:=.builtin .append,args:=#[s,x],argTypes:=#[26,26]})
    (base:Nat) (v:Value) (n:Nat) (xs:List Int) (hs:a.eval s=v) (hown:w.ownsRow base 5 1 v n (z00 xs))
    (b off m c:Nat) (l:List Int) (hx:a.eval x=.slice (some ⟨b,off,none⟩) m c) (hB:Bytes w (some ⟨b,off,none⟩) m l)
    (hm:0<m) (hb:n+m≤140737488355328) (hbase:base≤w.heap.size)
    (h:∀ g cap w',w'.ownsRow base 5 1 (.slice (some ⟨g,0,none⟩) (n+m) cap) (n+m) (z00 (xs ++ l))→w.grownBy w' v.ownBlock→g<w'.heap.size→wpList Tryz.prog ops Q rest (a.put o.dst (.slice (some ⟨g,0,none⟩) (n+m) cap)) w'):wpList Tryz.prog ops Q (o :: rest) a w:=by
  obtain ⟨i,hi,hz,hs1,hby⟩:=z12
  obtain ⟨b',off',e,_,hc⟩:=hB.2.1 hm
  simp only [Option.some.injEq,Addr.mk.injEq] at e
  obtain ⟨rfl,rfl,_⟩:=e
  refine wpList_append_lies w hgd s x 26 ho base 5 i (.int .u8 0) 1 1 Tryz.underlying26 hi hz hs1 hby rfl (by decide) v n (z00 xs) hs hown ⟨b,off,none⟩ m c (z00 l) hx (by simp [z00,hB.1]) ?_ (z15 l) hm (by simp only [maxLen];omega) (by omega) hbase w.heap.size rfl ?_
  · intro j u hj
    have hjl:j<l.length:=by
      have:=(List.getElem?_eq_some_iff.1 hj).1
      simpa [z00] using this
    rw [z0k l j hjl] at hj
    rw [z0H,hc j (by rw [← hB.1];exact hjl)]
    exact hj
  · intro g cap w' h1 h2 _ h4
    rw [← z0m] at h1
    exact h g cap w' h1 h2 h4
theorem z1F (w:World) (row:Option Nat):w.grownBy w row:=⟨rfl,rfl,rfl,Nat.le_refl _,fun _ _ _=>rfl⟩
theorem z5h {ops:Array Oper} {rest:List Oper} {o:Oper} {a:Act} {Q:Exit→Act→World→Prop} (w:World) (hgd:o.guard=none) (s x:Operand)
    (ho:o.op=.call {callee:=.builtin .append,args:=#[s,x],argTypes:=#[26,26]})
    (base:Nat) (v:Value) (n:Nat) (xs:List Int) (hs:a.eval s=v) (hown:w.ownsRow base 5 1 v n (z00 xs))
    (ao:Option Addr) (c:Nat) (hx:a.eval x=.slice ao 0 c) (hc:ao=none→c=0) (hn:n≤140737488355328) (hbase:base≤w.heap.size)
    (h:∀ a' c' w',w'.ownsRow base 5 1 (.slice a' n c') n (z00 xs)→w.grownBy w' v.ownBlock→wpList Tryz.prog ops Q rest (a.put o.dst (.slice a' n c')) w'):wpList Tryz.prog ops Q (o :: rest) a w:=by
  obtain ⟨i,hi,hz,hs1,hby⟩:=z12
  have form:∀ (v':Value) (w':World),w'.ownsRow base 5 1 v' n (z00 xs)→∃ a' c',v'=.slice a' n c':=fun v' w' h=>by
    rcases h.2 with ⟨rfl,rfl⟩ | ⟨g,cap,cur,rfl,_⟩
    · exact ⟨none,0,rfl⟩
    · exact ⟨_,cap,rfl⟩
  cases ao with
  | none=>
    obtain rfl:=hc rfl
    refine wpList_append_own_none hgd s x 26 ho base 5 i 1 Tryz.underlying26 hi v n (z00 xs) hs hown hx ?_
    obtain ⟨a',c',rfl⟩:=form v w hown
    exact h a' c' w hown (z1F _ _)
  | some ad=>
    refine wpList_append_own w hgd s x 26 ho base 5 i (.int .u8 0) 1 1 Tryz.underlying26 hi hz hs1 hby rfl (by decide) v n (z00 xs) hs hown ad 0 c [] hx rfl (fun j u hj=>by simp at hj) (fun u hu=>by simp at hu) (by simp only [maxLen];omega) (by omega) hbase ?_
    intro v' w' h1 h2 _
    simp only [Nat.add_zero,List.append_nil] at h1
    obtain ⟨a',c',rfl⟩:=form v' w' h1
    exact h a' c' w' h1 h2
theorem z0X {w:World} {base g n cap:Nat} {l:List Int} (h:w.ownsRow base 5 1 (.slice (some ⟨g,0,none⟩) n cap) n (z00 l)) (hg:g<w.heap.size) (hl:∀ x∈l,0≤x∧x≤255):Bytes w (some ⟨g,0,none⟩) n l:=by
  have hlen:l.length=n:=by have:=h.1;simpa [z00] using this
  refine ⟨hlen,fun _=>⟨g,0,rfl,hg,fun i hi=>?_⟩,hl⟩
  rw [Nat.zero_add,h.cellAt i (by omega),z0k l i (by omega)]
theorem z4b (w:World) (base:Nat) (hb:base≤w.heap.size):(w.alloc (.cells #[] 5)).ownsRow base 5 1 (.slice (some ⟨w.heap.size,0,none⟩) 0 0) 0 (z00 []):=
  World.ownsRow_lit w #[] 0 hb (by simp [maxLen]) rfl
theorem z2m (w:World) (n:Nat) (f:Nat→Int) (l:List Int) (hl:l.length=n) (hf:∀ i,i<n→f i=l.getD i 0) (hr:∀ x∈l,0≤x∧x≤255):Bytes (w.alloc (.cells (BARR n f) 5)) (some ⟨w.heap.size,0,none⟩) n l:=by
  refine ⟨hl,fun _=>⟨w.heap.size,0,rfl,by simp,fun i hi=>?_⟩,hr⟩
  rw [Nat.zero_add,World.cell?_alloc_at _ _ _ _ rfl,z1x n f i hi,hf i hi]
theorem z1n {w:World} {base n c:Nat} {a:Option Addr} {l:List Int} (h:w.ownsRow base 5 1 (.slice a n c) n (z00 l)) (hl:∀ x∈l,0≤x∧x≤255):Bytes w a n l∧n≤c:=by
  rcases h.2 with ⟨hv,hn⟩ | ⟨g,cap,cur,hv,_,hg,hc,_⟩
  · simp only [Value.slice.injEq] at hv
    obtain ⟨rfl,rfl,rfl⟩:=hv
    have:l=[]:=by have:=h.1;simpa [z00] using this
    subst this
    exact ⟨⟨rfl,fun h=>by omega,fun x hx=>by simp at hx⟩,Nat.le_refl _⟩
  · simp only [Value.slice.injEq] at hv
    obtain ⟨rfl,_,rfl⟩:=hv
    exact ⟨z0X h (Array.getElem?_eq_some_iff.1 hg).1 hl,hc⟩
theorem z3k {ops:Array Oper} {rest:List Oper} {o:Oper} {a:Act} {Q:Exit→Act→World→Prop} (w:World) (hgd:o.guard=none) (s x:Operand)
    (ho:o.op=.call {callee:=.builtin .append,args:=#[s,x],argTypes:=#[26,26]})
    (base:Nat) (v:Value) (n:Nat) (xs:List Int) (hs:a.eval s=v) (hown:w.ownsRow base 5 1 v n (z00 xs))
    (ao:Option Addr) (m c:Nat) (l:List Int) (hx:a.eval x=.slice ao m c) (hB:Bytes w ao m l) (hc:ao=none→c=0)
    (N:Nat) (L:List Int) (hN:n+m=N) (hL:xs ++ l=L) (hb:N≤140737488355328) (hbase:base≤w.heap.size)
    (h:∀ a' c' w',w'.ownsRow base 5 1 (.slice a' N c') N (z00 L)→w.grownBy w' v.ownBlock→wpList Tryz.prog ops Q rest (a.put o.dst (.slice a' N c')) w'):wpList Tryz.prog ops Q (o :: rest) a w:=by
  subst hN hL
  rcases Nat.eq_zero_or_pos m with hm | hm
  · subst hm
    have hl:l=[]:=by have:=hB.1;simpa using this
    subst hl
    refine z5h w hgd s x ho base v n xs hs hown ao c hx hc (by omega) hbase ?_
    simpa using h
  · obtain ⟨b,off,rfl,_,_⟩:=hB.2.1 hm
    refine z0D w hgd s x ho base v n xs hs hown b off m c l hx hB hm hb hbase ?_
    intro g cap w' h1 h2 _
    exact h _ cap w' h1 h2
end Go.Proofs.YthdpkaiieomdoaaGreatDoor.HX

namespace Go.Proofs.YthdpkaiieomdoaaGreatDoor.HX
open Go.RowKit
set_option maxRecDepth 100000
def INTS (l:List Nat):List Int:=l.map fun (x:Nat)=>(x:Int)
theorem z2Y (l:List Nat) (i:Nat):(INTS l).getD i 0=((l.getD i 0:Nat):Int):=by
  unfold INTS
  rw [List.getD_eq_getElem?_getD,List.getElem?_map,List.getD_eq_getElem?_getD]
  cases l[i]? <;> rfl
theorem Text.bytes {w:World} {a:Option Addr} {n:Nat} {l:List Nat} (h:Text w a n l):Bytes w a n (INTS l):=
  ⟨by rw [INTS,List.length_map];exact h.1,fun hn=>by
    obtain ⟨b,off,e,hl,hc⟩:=h.2.1 hn
    exact ⟨b,off,e,hl,fun i hi=>by rw [z2Y];exact hc i hi⟩,fun x hx=>by
    obtain ⟨y,hy,rfl⟩:=List.mem_map.1 hx
    have:=h.2.2 y hy
    omega⟩
theorem Text.of_bytes {w:World} {a:Option Addr} {n:Nat} {l:List Nat} (h:Bytes w a n (INTS l)):Text w a n l:=
  ⟨by have:=h.1;rwa [INTS,List.length_map] at this,fun hn=>by
    obtain ⟨b,off,e,hl,hc⟩:=h.2.1 hn
    exact ⟨b,off,e,hl,fun i hi=>by rw [← z2Y];exact hc i hi⟩,fun x hx=>by
    have:=h.2.2 (x:Int) (List.mem_map.2 ⟨x,hx,rfl⟩)
    omega⟩
theorem z1t {l:List Nat} (h:Small8 l):∀ x∈INTS l,0≤x∧x≤255:=fun x hx=>by
  obtain ⟨y,hy,rfl⟩:=List.mem_map.1 hx
  have:=h y hy
  omega
theorem z4X (a b:List Nat):INTS (a ++ b)=INTS a ++ INTS b:=by simp [INTS]
def BE8 (X:Nat):List Nat:=(List.range 8).map fun i=>X / 2 ^ (8*(7 - i)) % 256
def z0d (n:Nat):Nat:=(119 - n % 64) % 64
def HEAD (n:Nat):List Nat:=128 :: List.replicate (z0d n) 0
def END (n:Nat):List Nat:=HEAD n ++ BE8 (8*n)
theorem z3C (X:Nat):(BE8 X).length=8:=by simp [BE8]
theorem z4Y (n:Nat):(HEAD n).length=z0d n+1:=by simp [HEAD]
theorem zan (n:Nat):(END n).length=z0d n+9:=by rw [END,List.length_append,z4Y,z3C]
theorem z4e (X:Nat):Small8 (BE8 X):=fun x hx=>by
  simp [BE8] at hx
  obtain ⟨i,_,rfl⟩:=hx
  exact Nat.mod_lt _ (by decide)
theorem z4f (n:Nat):Small8 (END n):=fun x hx=>by
  rcases List.mem_append.1 hx with hx | hx
  · rcases List.mem_cons.1 hx with rfl | hx
    · decide
    · rw [List.eq_of_mem_replicate hx]
      decide
  · exact z4e _ x hx
theorem z8F (n:Nat):(IntKind.u64.wrap (55 - (n:Int))).tmod 64=((z0d n:Nat):Int):=by
  unfold z0d
  rw [z09]
  rw [Int.tmod_eq_emod_of_nonneg (by omega)]
  omega
theorem zd1 (n i:Nat):(HEAD n).getD i 0=if i=0 then 128 else 0:=by
  unfold HEAD
  cases i with
  | zero=>rfl
  | succ i=>
    rw [if_neg (by omega)]
    show (List.replicate (z0d n) 0).getD i 0=0
    rw [List.getD_eq_getElem?_getD,List.getElem?_replicate]
    split <;> rfl
theorem z5K (X:Nat) (hX:X<2 ^ 64) (w:World):Calls Tryz.prog 162 #[.int .u64 (X:Int)] w fun e w'=>e=.returned (.slice (some ⟨w.heap.size,0,none⟩) 8 8)∧w.alloc (.cells (BARR 8 (BYTE X 8)) 5)=w':=by
  have cb:∀ w,Calls Tryz.prog 190 #[.int .u64 (X:Int),.int .i64 8] w fun e w'=>e=.returned (.tuple #[.slice (some ⟨w.heap.size,0,none⟩) 8 8,.int .i64 0])∧w.alloc (.cells (BARR 8 (BYTE X 8)) 5)=w':=fun w=>zbl X 8 hX (by decide) (Nat.div_eq_of_lt hX) w
  clear hX
  go_enter Tryz.func162,Tryz.ntmps162
  go_wp2_with fail
  refine (cb _).mono ?_
  rintro e w' ⟨rfl,rfl⟩
  go_wp2
  go_ret
  exact ⟨rfl,rfl⟩
theorem zd2 {w:World} {base g m k:Nat} {f:Nat→Int} {xs:List Int} (h:Has w g (BARR k f) 5) (hb:base≤g) (hm:m≤k) (hk:k≤1000) (hx:xs.length=m) (hf:∀ i,i<m→f i=xs.getD i 0):w.ownsRow base 5 1 (.slice (some ⟨g,0,none⟩) m k) m (z00 xs):=by
  refine ⟨by simp [z00,hx],Or.inr ⟨g,k,BARR k f,rfl,hb,h,hm,by simp only [maxLen];omega,by rw [z1T];omega,?_⟩⟩
  rw [Nat.mul_one]
  apply List.ext_getElem?
  intro i
  by_cases hi:i<m
  · rw [z0k _ _ (by omega),List.getElem?_take_of_lt hi]
    have:=z1x k f i (by omega)
    rw [← Array.getElem?_toList] at this
    rw [this,hf i hi]
  · rw [List.getElem?_eq_none (by rw [List.length_take];omega),List.getElem?_eq_none (by simp [z00];omega)]
theorem zbC (n:Nat) (hn:n<2 ^ 60) (w:World):Calls Tryz.prog 137 #[.int .u64 (n:Int)] w fun e w'=>
    ∃ a c,e=.returned (.slice a (z0d n+9) c)∧Text w' a (z0d n+9) (END n)∧z0d n+9≤c∧(∀ x,a=some x→w.heap.size≤x.block)∧Below w.heap.size w w':=by
  have hN:=z8F n
  obtain ⟨m,hm⟩:∃ m,m=z0d n+1:=⟨_,rfl⟩
  have hz:z0d n<64:=Nat.mod_lt _ (by decide)
  have hw1:IntKind.u64.wrap (1+((z0d n:Nat):Int))=(m:Int):=by rw [z09];omega
  have hmk:∀ w:World,(Instr.makeSlice 26 (.int .u64 (m:Int)) (.int .i64 73)).run Tryz.prog w=.ok (.slice (some ⟨w.heap.size,0,none⟩) m 73) (w.alloc (.cells (BARR 73 fun _=>0) 5)):=fun w=>by
    obtain ⟨i8,hi,h8⟩:=Option.map_eq_some_iff.1 z0I
    simp only [Prod.mk.injEq] at h8
    have h:=run_make (P:=Tryz.prog) w 26 5 i8 (.int .u8 0) Tryz.underlying26 hi h8.1 .u64 .i64 (m:Int) 73 (by omega) (by omega) (by rw [h8.2.2];decide) (by decide)
    rw [h8.2.1] at h
    have e:madeCells (Value.int .u8 0).cells (((73:Int).toNat)*1)=BARR 73 fun _=>0:=z49 73
    rw [e] at h
    exact h
  have hX:IntKind.u64.wrap (8*(n:Int))=((8*n:Nat):Int):=by rw [z09];omega
  have ci:=z5K (8*n) (by omega)
  generalize hx8:8*n=X at *
  have H:Aside (8*n=X∧m=z0d n+1∧z0d n<64):=⟨hx8,hm,hz⟩
  have hm0:(0:Int)<(m:Int):=by omega
  clear hx8 hm hz hn
  generalize hz2:z0d n=z at *
  have HZ:Aside (z0d n=z):=hz2
  clear hz2
  go_enter Tryz.func137,Tryz.ntmps137
  go_wp2_with fail
  refine (ci _).mono ?_
  rintro e w1 ⟨rfl,rfl⟩
  clear ci
  have e0:(BARR 73 fun _=>0).setIfInBounds 0 (Value.int .u8 128)=BARR 73 fun j=>if j=0 then 128 else 0:=z5g 73 _ 0 128
  rw [e0]
  clear e0
  have hH:Has ((w.alloc (.cells (BARR 73 fun j=>if j=0 then 128 else 0) 5)).alloc (.cells (BARR 8 (BYTE X 8)) 5)) w.heap.size (BARR 73 fun j=>if j=0 then 128 else 0) 5:=(Has.new w _ _).alloc _
  have hO:((w.alloc (.cells (BARR 73 fun j=>if j=0 then 128 else 0) 5)).alloc (.cells (BARR 8 (BYTE X 8)) 5)).ownsRow w.heap.size 5 1 (.slice (some ⟨w.heap.size,0,none⟩) m 73) m (z00 (INTS (HEAD n))):=by
    refine zd2 hH (Nat.le_refl _) (by have:=H.out;omega) (by decide) (by rw [INTS,List.length_map,z4Y,HZ.out];exact H.out.2.1.symm) (fun i _=>?_)
    rw [z2Y,zd1]
    split <;> rfl
  have hT:Bytes ((w.alloc (.cells (BARR 73 fun j=>if j=0 then 128 else 0) 5)).alloc (.cells (BARR 8 (BYTE X 8)) 5)) (some ⟨w.heap.size+1,0,none⟩) 8 (INTS (BE8 X)):=by
    have h:=z2m (w.alloc (.cells (BARR 73 fun j=>if j=0 then 128 else 0) 5)) 8 (BYTE X 8) (INTS (BE8 X)) (by rw [INTS,List.length_map,z3C]) (fun i hi=>by
      rw [z2Y]
      unfold BYTE BE8
      rw [List.getD_eq_getElem?_getD,List.getElem?_map,List.getElem?_range hi]
      rfl) (z1t (z4e X))
    have e:(w.alloc (.cells (BARR 73 fun j=>if j=0 then 128 else 0) 5)).heap.size=w.heap.size+1:=by simp
    rw [e] at h
    exact h
  have hB:Below w.heap.size w ((w.alloc (.cells (BARR 73 fun j=>if j=0 then 128 else 0) 5)).alloc (.cells (BARR 8 (BYTE X 8)) 5)):=((Below.refl _ _).alloc (Nat.le_refl _) _).alloc (by simp) _
  have R:Aside (_∧_∧_):=⟨hO,hT,hB⟩
  clear hH hO hT hB
  go_wp2_with (at_builtin;refine z0D _ rfl (.tmp 13) (.tmp 16) rfl w.heap.size (.slice (some ⟨w.heap.size,0,none⟩) m 73) m (INTS (HEAD n)) rfl R.out.1 (w.heap.size+1) 0 8 8 (INTS (BE8 X)) rfl R.out.2.1 (by decide) (by have:=H.out;omega) (by simp;omega) ?_;intro g cap w' hown hgrow hg)
  have hb2:Below w.heap.size w w':=R.out.2.2.grown hgrow (by simp;omega) (fun k e=>by simp [Value.ownBlock] at e;omega)
  have hge:w.heap.size≤g:=by
    rcases hown.2 with ⟨h,_⟩ | ⟨g2,c2,cur,h,hle,_⟩
    · simp at h
    · simp only [Value.slice.injEq,Option.some.injEq,Addr.mk.injEq] at h
      omega
  rw [← z4X,← H.out.1] at hown
  have hown2:w'.ownsRow w.heap.size 5 1 (.slice (some ⟨g,0,none⟩) (m+8) cap) (m+8) (z00 (INTS (END n))):=hown
  obtain ⟨hby,hle⟩:=z1n hown2 (z1t (z4f n))
  have S:Aside (Bytes w' (some ⟨g,0,none⟩) (m+8) (INTS (END n))∧m+8≤cap∧w.heap.size≤g∧Below w.heap.size w w'):=⟨hby,hle,hge,hb2⟩
  clear hb2 hge hown hown2 hby hle hgrow hg R
  go_wp2
  go_ret
  obtain ⟨s1,s2,s3,s4⟩:=S.out
  have e:m+8=z+9:=by have:=H.out;omega
  rw [e] at s1 s2
  refine ⟨some ⟨g,0,none⟩,cap,?_,Text.of_bytes s1,s2,fun x hx=>by simp only [Option.some.injEq] at hx;rw [← hx];exact s3,s4⟩
  rw [← e]
  rfl
end Go.Proofs.YthdpkaiieomdoaaGreatDoor.HX

namespace Go.Proofs.YthdpkaiieomdoaaGreatDoor.HX
open Go.RowKit
set_option maxRecDepth 100000
theorem zd3 (i:Nat):BEGIN.getD i 0<2 ^ 32:=by
  by_cases h:i<8
  · have:∀ j,j<8→BEGIN.getD j 0<2 ^ 32:=by decide
    exact this i h
  · have:BEGIN.length=8:=rfl
    rw [List.getD_eq_getElem?_getD,List.getElem?_eq_none (by omega)]
    decide
theorem Tabled.begin {w:World} (h:Tabled w):w.rangeAt 0 0 (z06 .u32 8 fun i=>BEGIN.getD i 0):=fun j v hv=>by
  have hj:j<8:=by have:=(List.getElem?_eq_some_iff.1 hv).1;rw [z08] at this;exact this
  rw [z1e _ _ _ _ hj] at hv
  rw [Nat.zero_add,h.2.1 j hj,hv]
theorem zd4 (d:Int) (w:World) (hT:Tabled w):Calls Tryz.prog 135 #[.int .i64 d] w fun e w'=>e=.returned (.agg (UARR .u8 32 (z21 d)))∧Below w.heap.size w w':=by
  have hz:=z0T
  have cj:=z6z (fun i=>BEGIN.getD i 0) zd3
  have cn:=z6A d (z0a fun i=>BEGIN.getD i 0)
  have HT:Aside (Tabled w):=hT
  clear hT
  go_enter Tryz.func135,Tryz.ntmps135
  go_wp2_with (first
    | (refine wpList_load_mid rfl 220 _ rfl 0 0 rfl (z06 .u32 8 fun i=>BEGIN.getD i 0) _ (World.rangeAt_alloc HT.out.begin _) Tryz.underlying220 rfl (by rw [z08];exact z9A) ?_))
  rw [← z0q]
  refine (cj _).mono ?_
  rintro e w1 ⟨rfl,hb1⟩
  clear cj
  have R:Aside (Below w.heap.size w w1∧Has w1 w.heap.size (UARR .u8 32 fun _=>0) 23):=⟨((Below.refl _ _).alloc (Nat.le_refl _) _).trans (hb1.mono (by simp)),(Has.new w _ _).keep hb1⟩
  clear hb1
  go_wp2_with fail
  refine (cn _).mono ?_
  rintro e w2 ⟨rfl,hb2⟩
  clear cn
  have Q:Aside (Below w.heap.size w w2∧Has w2 w.heap.size (UARR .u8 32 fun _=>0) 23):=⟨R.out.1.trans (hb2.mono R.out.1.size),R.out.2.keep hb2⟩
  clear R hb2 hz
  go_wp2_with (first
    | (refine wpList_store_row rfl 23 _ _ rfl _ _ rfl rfl _ _ Q.out.2 (z02 _) (by rw [z01,z01]) (z0e _ _ _) ?_))
  refine bodyPost_ret (v:=.agg (UARR .u8 32 (z21 d))) ?_ rfl ⟨rfl,z04 Q.out.1 (Nat.le_refl _) _⟩
  exact results_cell_row rfl _ _ w.heap.size 23 _ (0,0) _ rfl (Q.out.2.row _) Tryz.underlying23 rfl (z02 _)
theorem z7I (w:World) (o:Obj) (c c':Array Value) (t:TypeId):((w.alloc o).alloc (.cells c t)).setRow (w.heap.size+1) c'=(w.alloc o).alloc (.cells c' t):=by
  have e:(w.alloc o).heap.size=w.heap.size+1:=by simp
  rw [← e]
  exact World.setRow_alloc_new _ _ _ _
theorem zfa (d:Int) (w:World) (hT:Tabled w):Calls Tryz.prog 91 #[.int .i64 d] w fun e w'=>∃ g,e=.returned (.pointer (some ⟨g,0,none⟩))∧w.heap.size≤g∧HASHER w' g d []∧Below w.heap.size w w':=by
  have cf:=fun w (h:Tabled w)=>zd4 d w h
  have HT:Aside (Tabled w):=hT
  clear hT
  go_enter Tryz.func91,Tryz.ntmps91
  go_wp2_with fail
  refine (cf _ (by exact HT.out)).mono ?_
  rintro e w1 ⟨rfl,hb1⟩
  clear cf
  have R:Aside (Below w.heap.size w w1):=hb1
  clear hb1
  go_wp2_with (first | (refine wpList_build rfl 184 _ rfl (by kernel_rfl) ?_;generalize hc:Option.getD (Tryz.prog.built 184 _) #[]=C;obtain rfl:HARR d (z21 d) (fun _=>0) 0=C:=by {rw [← hc];kernel_rfl};clear hc))
  go_ret
  refine ⟨w1.heap.size,rfl,R.out.size,⟨fun _=>0,Has.new _ _ _,fun _=>(by decide:(0:Nat)<256),fun i hi=>?_⟩,R.out.alloc R.out.size _⟩
  simp at hi
theorem z8G:∀ w,(zeroValue 184).run Tryz.prog w=.ok (.agg (HARR 0 (fun _=>0) (fun _=>0) 0)) w:=(zero_of_info (P:=Tryz.prog) (n:=98) (by kernel_rfl)).1
def z0t (d:Int) (l:List Nat):Nat→Nat:=z0l d (l ++ END l.length) ((l ++ END l.length).length / 64)
theorem HASHER.below {w w':World} {g:Nat} {d:Int} {l:List Nat} (h:HASHER w g d l) (hb:Below w.heap.size w w'):HASHER w' g d l:=by
  obtain ⟨b,h1,h2⟩:=h
  exact ⟨b,h1.keep hb,h2⟩
theorem zeh (g:Nat) (d:Int) (l:List Nat) (w:World) (hH:HASHER w g d l) (hT:Tabled w) (hl:Small8 l) (hlen:l.length<2 ^ 60):Calls Tryz.prog 93 #[.pointer (some ⟨g,0,none⟩)] w fun e w'=>e=.returned (.agg (UARR .u8 32 (z0t d l)))∧Below w.heap.size w w':=by
  have hz:=z0T
  have hz98:=z8G
  obtain ⟨b,hHas,hb8,hbl⟩:=hH
  have ce:=zbC l.length hlen
  have H:Aside (Tabled w∧Small8 l∧l.length<2 ^ 60∧Has w g (HARR d (z0l d l (l.length / 64)) b l.length) 184∧(∀ i,b i<256)∧∀ i,i<l.length % 64→b i=l.getD (64*(l.length / 64)+i) 0):=⟨hT,hl,hlen,hHas,hb8,hbl⟩
  have ct:((w.alloc (.cells (UARR .u8 32 fun _=>0) 23)).alloc (.cells (HARR d (z0l d l (l.length / 64)) b l.length) 184)).cell? ⟨g,97,none⟩=some (.int .u64 (l.length:Nat)):=by rw [((hHas.alloc _).alloc _).cell,z3B]
  clear hT hl hlen hHas hb8 hbl
  go_enter Tryz.func93,Tryz.ntmps93
  go_wp2_with (first
    | (refine wpList_load_row rfl 184 _ rfl _ rfl 184 (HARR d (z0l d l (l.length / 64)) b l.length) (0,0) _ (H.out.2.2.2.1.alloc _) Tryz.underlying184 rfl (z4V _ _ _ _) ?_)
    | (refine wpList_store_row rfl 184 _ _ rfl _ _ rfl rfl 184 (HARR 0 (fun _=>0) (fun _=>0) 0) (Has.at _ _ _ (by simp)) (z4V _ _ _ _) (by rw [z0Y,z0Y]) (zd0 _ _ _ _) ?_;rw [z7I]))
  refine (ce _).mono ?_
  rintro e w1 ⟨a1,c1,rfl,ht1,hc1,hs1,hb1⟩
  clear ce
  have hH1:HASHER w1 (w.heap.size+1) d l:=by
    obtain ⟨h1,h2,h3,h4,h5,h6⟩:=H.out
    exact ⟨b,(Has.at _ _ _ (by simp)).keep hb1,h5,h6⟩
  have hT1:Tabled w1:=(H.out.1.below (((Below.refl _ _).alloc (Nat.le_refl _) _).alloc (by simp) _)).below hb1
  have cw:=z7H (w.heap.size+1) d l (END l.length) a1 (z0d l.length+9) c1 w1 hH1 hT1 (by have:=H.out.1.2.2;omega) ht1 (fun x hx=>by have:=hs1 x hx;simp at this;omega) hc1 H.out.2.1 (by have:=H.out.2.2.1;have:z0d l.length<64:=Nat.mod_lt _ (by decide);omega)
  have R:Aside (Below w.heap.size w w1∧Has w1 w.heap.size (UARR .u8 32 fun _=>0) 23):=⟨(((Below.refl _ _).alloc (Nat.le_refl _) _).alloc (by simp) _).trans (hb1.mono (by simp;omega)),((Has.new w _ _).alloc _).keep hb1⟩
  clear ht1 hc1 hs1 hb1 hH1 hT1 hz hz98
  go_wp2_with fail
  refine cw.mono ?_
  rintro e w2 ⟨rfl,⟨b2,hH2,_⟩,hG2⟩
  clear cw
  have S:Aside (Below w.heap.size w w2∧Has w2 w.heap.size (UARR .u8 32 fun _=>0) 23∧w2.rangeAt (w.heap.size+1) 1 (z06 .u8 32 (z0t d l))):=
    ⟨R.out.1.grown hG2 R.out.1.size (fun k e=>by simp at e;omega),(hG2.block _ R.out.2.lt (by simp)).trans R.out.2,hH2.state⟩
  clear R hH2 hG2
  go_wp2_with (first
    | (refine wpList_load_mid rfl 23 _ rfl (w.heap.size+1) 1 rfl (z06 .u8 32 (z0t d l)) _ S.out.2.2 Tryz.underlying23 rfl (by rw [z08];exact z0B) ?_;rw [← z0q])
    | (refine wpList_store_row rfl 23 _ _ rfl _ _ rfl rfl _ _ S.out.2.1 (z02 _) (by rw [z01,z01]) (z0e _ _ _) ?_))
  refine bodyPost_ret (v:=.agg (UARR .u8 32 (z0t d l))) ?_ rfl ⟨rfl,z04 S.out.1 (Nat.le_refl _) _⟩
  exact results_cell_row rfl _ _ w.heap.size 23 _ (0,0) _ rfl (S.out.2.1.row _) Tryz.underlying23 rfl (z02 _)
end Go.Proofs.YthdpkaiieomdoaaGreatDoor.HX

namespace Go.Proofs.YthdpkaiieomdoaaGreatDoor.HX
open Go.RowKit
set_option maxRecDepth 100000
structure PART where
  a:Option Addr
  n:Nat
  c:Nat
  l:List Nat
def Parts (w:World) (a:Option Addr) (k:Nat) (ps:List PART):Prop:=
  ps.length=k∧(0<k→∃ b off,a=some ⟨b,off,none⟩∧b<w.heap.size∧∀ i p,ps[i]?=some p→w.cell? ⟨b,off+i,none⟩=some (.slice p.a p.n p.c))∧∀ p∈ps,Text w p.a p.n p.l∧p.n≤p.c∧∀ x,p.a=some x→x.block<w.heap.size
def JOIN (ps:List PART):List Nat:=(ps.map PART.l).flatten
theorem z1f (ps:List PART) (p:PART):JOIN (ps ++ [p])=JOIN ps ++ p.l:=by simp [JOIN]
theorem z5L {w:World} {a:Option Addr} {k:Nat} {ps:List PART} (h:Parts w a k ps):∀ qs:List PART,(∀ p∈qs,p∈ps)→Small8 (JOIN qs):=fun qs hq x hx=>by
  obtain ⟨y,hy,hx⟩:=List.mem_flatten.1 hx
  obtain ⟨p,hp,rfl⟩:=List.mem_map.1 hy
  exact (h.2.2 p (hq p hp)).1.2.2 x hx
theorem z1i (ps:List PART) (k:Nat):(JOIN (ps.take k)).length≤(JOIN ps).length:=by
  have:JOIN ps=JOIN (ps.take k) ++ JOIN (ps.drop k):=by
    unfold JOIN
    rw [← List.flatten_append,← List.map_append,List.take_append_drop]
  rw [this,List.length_append]
  omega
theorem zfb (d:Int) (a:Option Addr) (k c:Nat) (ps:List PART) (w:World) (hP:Parts w a k ps) (hT:Tabled w) (hlen:(JOIN ps).length<2 ^ 60) (hkk:k<2 ^ 60):Calls Tryz.prog 49 #[.int .i64 d,.slice a k c] w fun e w'=>e=.returned (.agg (UARR .u8 32 (z0t d (JOIN ps))))∧Below w.heap.size w w':=by
  have hz:=z0T
  have H:Aside (Parts w a k ps∧Tabled w∧(JOIN ps).length<2 ^ 60):=⟨hP,hT,hlen⟩
  have HK:Aside (k<2 ^ 60):=hkk
  have cn:=fun w (h:Tabled w)=>zfa d w h
  clear hP hT hlen hkk
  go_enter Tryz.func49,Tryz.ntmps49
  go_wp2_with fail
  refine (cn _ (H.out.2.1.below ((Below.refl _ _).alloc (Nat.le_refl _) _))).mono ?_
  rintro e w1 ⟨g,rfl,hg,hH,hb1⟩
  clear cn
  have hb:Below w.heap.size w w1:=((Below.refl _ _).alloc (Nat.le_refl _) _).trans (hb1.mono (by simp))
  have R:Aside (w.heap.size<g∧HASHER w1 g d []∧Below w.heap.size w w1∧Has w1 w.heap.size (UARR .u8 32 fun _=>0) 23):=⟨by simp at hg;omega,hH,hb,(Has.new w _ _).keep hb1⟩
  clear hb hb1 hg hH hz
  go_wp2
  go_loopg [12] k (fun r s12 wx=>∃ i:Nat,i+r=k∧s12=.int .i64 i∧Aside (HASHER wx g d (JOIN (ps.take i))∧Below w.heap.size w wx∧Has wx w.heap.size (UARR .u8 32 fun _=>0) 23))
  case atStart=>exact ⟨0,by omega,rfl,R.out.2.1,R.out.2.2.1,R.out.2.2.2⟩
  case round=>
    obtain ⟨i,hir,rfl,A⟩:=hrel
    have hk:ps.length=k:=H.out.1.1
    cases gk with
    | zero=>
      obtain rfl:i=k:=by omega
      rw [List.take_of_length_le (by omega)] at A
      have cs:=zeh g d (JOIN ps) wr A.out.1 (H.out.2.1.below A.out.2.1) (z5L H.out.1 ps (fun _ h=>h)) H.out.2.2
      clear hk
      go_wp2_with fail
      refine cs.mono ?_
      rintro e w2 ⟨rfl,hb2⟩
      clear cs
      have S:Aside (Below w.heap.size w w2∧Has w2 w.heap.size (UARR .u8 32 fun _=>0) 23):=⟨A.out.2.1.trans (hb2.mono A.out.2.1.size),A.out.2.2.keep hb2⟩
      clear A hb2
      go_wp2_with (first
        | (refine wpList_store_row rfl 23 _ _ rfl _ _ rfl rfl _ _ S.out.2 (z02 _) (by rw [z01,z01]) (z0e _ _ _) ?_))
      refine bodyPost_ret (v:=.agg (UARR .u8 32 (z0t d (JOIN ps)))) ?_ rfl ⟨rfl,z04 S.out.1 (Nat.le_refl _) _⟩
      exact results_cell_row rfl _ _ w.heap.size 23 _ (0,0) _ rfl (S.out.2.row _) Tryz.underlying23 rfl (z02 _)
    | succ r=>
      have hlt:(i:Int)<(k:Int):=by omega
      obtain ⟨pb,po,rfl,hpb,hcell⟩:=H.out.1.2.1 (by omega)
      obtain ⟨p,hp⟩:∃ p,ps[i]?=some p:=⟨_,List.getElem?_eq_getElem (by omega)⟩
      have hc:=(A.out.2.1.cell (p:=⟨pb,po+i,none⟩) (by exact hpb)).trans (hcell i p hp)
      obtain ⟨ht,hn,hx⟩:=H.out.1.2.2 p (List.mem_of_getElem? hp)
      have hg:=R.out.1
      have hl2:(JOIN (ps.take i)).length+p.n<2 ^ 60:=by
        have h1:=z1i ps (i+1)
        rw [List.take_add_one,hp,Option.toList_some,z1f,List.length_append,ht.1] at h1
        have:=H.out.2.2
        omega
      have cw:=z7H g d (JOIN (ps.take i)) p.l p.a p.n p.c wr A.out.1 (H.out.2.1.below A.out.2.1) (by have:=H.out.2.1.2.2;omega) (ht.below A.out.2.1) (fun x h=>by have:=hx x h;omega) hn (z5L H.out.1 _ (fun _ h=>List.mem_of_mem_take h)) (by omega)
      have S:Aside (ps.take (i+1)=ps.take i ++ [p]∧i+(r+1)=k∧w.heap.size<g):=⟨by rw [List.take_add_one,hp,Option.toList_some],hir,hg⟩
      clear ht hn hx hp hcell hpb hg hl2 hk hir
      go_wp2_with fail
      refine cw.mono ?_
      rintro e w2 ⟨rfl,hH2,hG2⟩
      clear cw
      have T:Aside (HASHER w2 g d (JOIN (ps.take i) ++ p.l)∧Below w.heap.size w w2∧Has w2 w.heap.size (UARR .u8 32 fun _=>0) 23):=⟨hH2,A.out.2.1.grown hG2 A.out.2.1.size (fun k e=>by simp at e;have:=S.out.2.2;omega),(hG2.block _ A.out.2.2.lt (by simp;have:=S.out.2.2;omega)).trans A.out.2.2⟩
      clear hH2 hG2 A
      go_wp2
      go_roundg r
      case measure=>omega
      case rel=>
        refine ⟨i+1,by have:=S.out.2.1;omega,by have h1:=HK.out;have h2:wrap64 ((i:Int)+1)=((i+1:Nat):Int):=(by unfold wrap64;omega);rw [h2],?_,T.out.2.1,T.out.2.2⟩
        rw [S.out.1,z1f]
        exact T.out.1
end Go.Proofs.YthdpkaiieomdoaaGreatDoor.HX

namespace Go.Proofs.YthdpkaiieomdoaaGreatDoor.HX
open Go.RowKit
end Go.Proofs.YthdpkaiieomdoaaGreatDoor.HX

namespace Go.Proofs.YthdpkaiieomdoaaGreatDoor.HX
open Go.RowKit
set_option maxRecDepth 100000
end Go.Proofs.YthdpkaiieomdoaaGreatDoor.HX

namespace Go.Proofs.YthdpkaiieomdoaaGreatDoor.HX
open Go.RowKit
set_option maxRecDepth 100000
end Go.Proofs.YthdpkaiieomdoaaGreatDoor.HX

namespace Go.Proofs.YthdpkaiieomdoaaGreatDoor.HX
open Go.RowKit
set_option maxRecDepth 100000
theorem zbD (q:Nat) (hq:q≤1000000) (w:World):(Instr.makeSlice 26 (.int .i64 0) (.int .i64 (q:Int))).run Tryz.prog w=.ok (.slice (some ⟨w.heap.size,0,none⟩) 0 q) (w.alloc (.cells (BARR q fun _=>0) 5)):=by
  obtain ⟨i8,hi,h8⟩:=Option.map_eq_some_iff.1 z0I
  simp only [Prod.mk.injEq] at h8
  have h:=run_make (P:=Tryz.prog) w 26 5 i8 (.int .u8 0) Tryz.underlying26 hi h8.1 .i64 .i64 0 (q:Int) (by omega) (by omega) (by rw [h8.2.2];omega) (by omega)
  rw [h8.2.1] at h
  have e:madeCells (Value.int .u8 0).cells (((q:Int).toNat)*1)=BARR q fun _=>0:=by
    rw [Int.toNat_natCast,Nat.mul_one]
    exact z49 q
  rw [e] at h
  exact h
theorem zbE (w:World) (q:Nat) (hq:q≤1000000):(w.alloc (.cells (BARR q fun _=>0) 5)).ownsRow w.heap.size 5 1 (.slice (some ⟨w.heap.size,0,none⟩) 0 q) 0 (z00 (INTS [])):=
  ⟨by simp [z00,INTS],Or.inr ⟨w.heap.size,q,BARR q fun _=>0,rfl,Nat.le_refl _,Has.new w _ _,Nat.zero_le _,by simp only [maxLen];omega,by rw [z1T];omega,by simp [z00,INTS]⟩⟩
theorem Parts.at {w:World} {a:Option Addr} {k:Nat} {ps:List PART} (h:Parts w a k ps) {i:Nat} (hi:i<k):∃ b off p,a=some ⟨b,off,none⟩∧b<w.heap.size∧ps[i]?=some p∧w.cell? ⟨b,off+i,none⟩=some (.slice p.a p.n p.c)∧Text w p.a p.n p.l∧ps.take (i+1)=ps.take i ++ [p]∧p∈ps:=by
  obtain ⟨b,off,e,hl,hc⟩:=h.2.1 (by omega)
  have hp:ps[i]?=some (ps[i]'(by have:=h.1;omega)):=List.getElem?_eq_getElem _
  exact ⟨b,off,_,e,hl,hp,hc i _ hp,(h.2.2 _ (List.mem_of_getElem? hp)).1,by rw [List.take_add_one,hp,Option.toList_some],List.mem_of_getElem? hp⟩
set_option maxHeartbeats 1000000 in
theorem z6c (o:Nat) (ho:o<256) (a:Option Addr) (k c:Nat) (ps:List PART) (w:World) (hP:Parts w a k ps) (hnone:∀ p∈ps,p.a=none→p.c=0) (hlen:(JOIN ps).length<5000) (hkk:k<2 ^ 40):Calls Tryz.prog 124 #[.int .u8 (o:Int),.slice a k c] w fun e w'=>
    ∃ a' c',e=.returned (.slice a' ((JOIN ps).length+1) c')∧w'.ownsRow w.heap.size 5 1 (.slice a' ((JOIN ps).length+1) c') ((JOIN ps).length+1) (z00 (INTS (o :: JOIN ps)))∧Below w.heap.size w w':=by
  have H:Aside (Parts w a k ps∧(JOIN ps).length<5000∧k<2 ^ 40∧(∀ p∈ps,p.a=none→p.c=0)∧o<256):=⟨hP,hlen,hkk,hnone,ho⟩
  clear hP hlen hkk hnone ho
  go_enter Tryz.func124,Tryz.ntmps124
  go_wp2_with fail
  go_loopg [5,13] k (fun r s5 s13 wx=>∃ i L:Nat,i+r=k∧s13=.int .i64 i∧s5=.int .i64 L∧w=wx∧Aside (L=(JOIN (ps.take i)).length+1))
  case atStart=>exact ⟨0,1,by omega,rfl,rfl,rfl,rfl⟩
  case round=>
    obtain ⟨i,L,hir,rfl,rfl,rfl,A⟩:=hrel
    have hk:ps.length=k:=H.out.1.1
    cases gk with
    | zero=>
      obtain rfl:i=k:=by omega
      rw [List.take_of_length_le (by omega)] at A
      have hL:L≤1000000:=by have:=A.out;have:=H.out.2.1;omega
      have hmk:=zbD L hL
      have hO:Aside ((w.alloc (.cells (BARR L fun _=>0) 5)).ownsRow w.heap.size 5 1 (.slice (some ⟨w.heap.size,0,none⟩) 0 L) 0 (z00 (INTS []))):=zbE w L hL
      have HM:Aside (Bytes ((w.alloc (.cells (BARR L fun _=>0) 5)).alloc (.cells #[.int .u8 (o:Int)] 5)) (some ⟨w.heap.size+1,0,none⟩) 1 [(o:Int)]):=by
        have h:=z2m (w.alloc (.cells (BARR L fun _=>0) 5)) 1 (fun _=>(o:Int)) [(o:Int)] rfl (fun i hi=>by obtain rfl:i=0:=(by omega);rfl) (fun x hx=>by simp at hx;have:=H.out.2.2.2.2;omega)
        have e:(w.alloc (.cells (BARR L fun _=>0) 5)).heap.size=w.heap.size+1:=by simp
        rw [e] at h
        exact h
      have HB:Aside (Below w.heap.size w ((w.alloc (.cells (BARR L fun _=>0) 5)).alloc (.cells #[.int .u8 (o:Int)] 5))):=((Below.refl _ _).alloc (Nat.le_refl _) _).alloc (by simp) _
      clear hL hk hir
      go_wp2_with (at_builtin;refine z0D _ rfl (.tmp 23) (.tmp 25) rfl w.heap.size (.slice (some ⟨w.heap.size,0,none⟩) 0 L) 0 (INTS []) rfl (hO.out.alloc _) (w.heap.size+1) 0 1 1 [(o:Int)] rfl HM.out (by decide) (by decide) (by simp;omega) ?_;intro g8 cap8 w8 hown8 hgrow8 hg8)
      have S:Aside (w8.ownsRow w.heap.size 5 1 (.slice (some ⟨g8,0,none⟩) (0+1) cap8) (0+1) (z00 (INTS (o :: JOIN (ps.take 0))))∧Below w.heap.size w w8):=⟨hown8,HB.out.grown hgrow8 (by simp;omega) (fun k e=>by simp [Value.ownBlock] at e;omega)⟩
      clear hown8 hgrow8 hg8 HB HM hO hmk A
      go_loopg [8,29] i (fun r s8 s29 wx=>∃ (j N:Nat) (a8:Option Addr) (c8:Nat),j+r=i∧s29=.int .i64 j∧s8=.slice a8 N c8∧Aside (N=(JOIN (ps.take j)).length+1∧wx.ownsRow w.heap.size 5 1 (.slice a8 N c8) N (z00 (INTS (o :: JOIN (ps.take j))))∧Below w.heap.size w wx))
      case atStart=>exact ⟨0,0+1,_,_,by omega,rfl,rfl,rfl,S.out.1,S.out.2⟩
      case round=>
        obtain ⟨j,N,a8,c8,hjr,rfl,rfl,A⟩:=hrel
        have hk:ps.length=i:=H.out.1.1
        cases gk with
        | zero=>
          obtain rfl:j=i:=by omega
          rw [List.take_of_length_le (by omega)] at A
          clear hk
          go_wp2
          go_ret
          obtain ⟨e1,e2,e3⟩:=A.out
          subst e1
          exact ⟨a8,c8,rfl,e2,e3⟩
        | succ r=>
          obtain ⟨pb,po,p,rfl,hpb,hpi,hc,ht,htk,hpm⟩:=H.out.1.at (i:=j) (by omega)
          have hlt:(j:Int)<(i:Int):=by omega
          have hl1:=z1i ps (j+1)
          rw [htk,z1f,List.length_append,ht.1] at hl1
          have hcr:=(A.out.2.2.cell (p:=⟨pb,po+j,none⟩) (by exact hpb)).trans hc
          have S2:Aside (N+p.n=(JOIN (ps.take (j+1))).length+1∧j+(r+1)=i∧N+p.n≤140737488355328∧Bytes wr p.a p.n (INTS p.l)∧(p.a=none→p.c=0)∧INTS (o :: JOIN (ps.take j)) ++ INTS p.l=INTS (o :: JOIN (ps.take (j+1)))):=⟨by rw [htk,z1f,List.length_append,ht.1];have:=A.out.1;omega,hjr,by have:=A.out.1;have:=H.out.2.1;omega,(ht.below A.out.2.2).bytes,H.out.2.2.2.1 p hpm,by rw [htk,z1f,← z4X];rfl⟩
          clear hl1 htk ht hpi hk hc hpm hjr
          go_wp2_with (at_builtin;refine z3k _ rfl (.tmp 33) (.tmp 34) rfl w.heap.size (.slice a8 N c8) N (INTS (o :: JOIN (ps.take j))) rfl A.out.2.1 p.a p.n p.c (INTS p.l) rfl S2.out.2.2.2.1 S2.out.2.2.2.2.1 (N+p.n) (INTS (o :: JOIN (ps.take (j+1)))) rfl S2.out.2.2.2.2.2 S2.out.2.2.1 A.out.2.2.size ?_;intro a9 c9 w9 hown9 hgrow9)
          go_roundg r
          case measure=>omega
          case rel=>
            refine ⟨j+1,N+p.n,a9,c9,by have:=S2.out.2.1;omega,?_,rfl,S2.out.1,hown9,A.out.2.2.grown hgrow9 A.out.2.2.size (fun k e=>(A.out.2.1.lt k e).1)⟩
            have h1:=H.out.2.2.1
            have h2:wrap64 ((j:Int)+1)=((j+1:Nat):Int):=by unfold wrap64;omega
            rw [h2]
    | succ r=>
      obtain ⟨pb,po,p,rfl,hpb,hpi,hc,ht,htk,hpm⟩:=H.out.1.at (i:=i) (by omega)
      have hlt:(i:Int)<(k:Int):=by omega
      have hl1:=z1i ps (i+1)
      rw [htk,z1f,List.length_append,ht.1] at hl1
      have hw1:IntKind.i64.wrap ((L:Int)+(p.n:Int))=((L+p.n:Nat):Int):=by rw [IntKind.wrap_i64];have:=A.out;have:=H.out.2.1;omega
      have S:Aside (L+p.n=(JOIN (ps.take (i+1))).length+1∧i+(r+1)=k):=⟨by rw [htk,z1f,List.length_append,ht.1];have:=A.out;omega,hir⟩
      clear hl1 htk ht hpi hk
      go_wp2
      go_roundg r
      case measure=>omega
      case rel=>
        refine ⟨i+1,L+p.n,by omega,?_,?_,rfl,S.out.1⟩
        · have h1:=H.out.2.2.1
          have h2:wrap64 ((i:Int)+1)=((i+1:Nat):Int):=by unfold wrap64;omega
          rw [h2]
        · go_num
end Go.Proofs.YthdpkaiieomdoaaGreatDoor.HX
