/- ManyMakes: part 20. -/
import Derived.Test.YthmnailmbgondaaGreatDoorManyMakesP19
namespace Go.Proofs.YthmnailmbgondaaGreatDoor
open Go.RowKit
def z00 (l:List Int):List Value:=l.map (Value.int .u8)
theorem z0x (a b:List Int):z00 (a ++ b)=z00 a ++ z00 b:=by simp [z00]
theorem z0u (l:List Int) (i:Nat) (h:i<l.length):(z00 l)[i]?=some (.int .u8 (l.getD i 0)):=by
 simp [z00,h,List.getD_eq_getElem?_getD]
theorem z1h (l:List Int):∀ u∈z00 l,u.oneCell'=true:=fun u hu=>by
 simp [z00] at hu;obtain ⟨x,_,rfl⟩:=hu;rfl
theorem z1e:∃ i,Tryz.prog.info? 5=some i/\i.zero=some (.int .u8 0)/\i.size=1/\i.bytes=1:=by
 obtain ⟨i,hi,h⟩:=Option.map_eq_some_iff.1 z0Q;simp only [Prod.mk.injEq] at h;exact ⟨i,hi,h.1,h.2.1,h.2.2⟩
theorem z1i {ops:Array Oper} {rest:List Oper} {o:Oper} {a:Act} {Q:Exit->Act->World->Prop} (w:World) (hgd:o.guard=none) (s x:Operand)
  (ho:o.op=.call {callee:=.builtin .append,args:=#[s,x],argTypes:=#[102,102]})
  (base:Nat) (v:Value) (n:Nat) (xs:List Int) (hs:a.eval s=v) (hown:w.ownsRow base 5 1 v n (z00 xs))
  (b off m c:Nat) (l:List Int) (hx:a.eval x=.slice (some ⟨b,off,none⟩) m c) (hB:Bytes w (some ⟨b,off,none⟩) m l)
  (hm:0<m) (hb:n+m<=140737488355328) (hbase:base<=w.heap.size)
  (h:∀ g cap w',w'.ownsRow base 5 1 (.slice (some ⟨g,0,none⟩) (n+m) cap) (n+m) (z00 (xs ++ l))->w.grownBy w' v.ownBlock->g<w'.heap.size->wpList Tryz.prog ops Q rest (a.put o.dst (.slice (some ⟨g,0,none⟩) (n+m) cap)) w'):wpList Tryz.prog ops Q (o :: rest) a w:=by
 obtain ⟨i,hi,hz,hs1,hby⟩:=z1e;obtain ⟨b',off',e,_,hc⟩:=hB.2.1 hm;simp only [Option.some.injEq,Addr.mk.injEq] at e;obtain ⟨rfl,rfl,_⟩:=e;refine wpList_append_lies w hgd s x 102 ho base 5 i (.int .u8 0) 1 1 Tryz.underlying102 hi hz hs1 hby rfl (by decide) v n (z00 xs) hs hown ⟨b,off,none⟩ m c (z00 l) hx (by simp [z00,hB.1]) ?_ (z1h l) hm (by simp only [maxLen];omega) (by omega) hbase w.heap.size rfl ?_
 ·intro j u hj
  have hjl:j<l.length:=by
   have:=(List.getElem?_eq_some_iff.1 hj).1;simpa [z00] using this
  rw [z0u l j hjl] at hj;rw [z0K,hc j (by rw [<-hB.1];exact hjl)];exact hj
 ·intro g cap w' h1 h2 _ h4
  rw [<-z0x] at h1;exact h g cap w' h1 h2 h4
theorem z1S (w:World) (row:Option Nat):w.grownBy w row:=⟨rfl,rfl,rfl,Nat.le_refl _,fun _ _ _=>rfl⟩
theorem z5B {ops:Array Oper} {rest:List Oper} {o:Oper} {a:Act} {Q:Exit->Act->World->Prop} (w:World) (hgd:o.guard=none) (s x:Operand)
   (ho:o.op=.call {callee:=.builtin .append,args:=#[s,x],argTypes:=#[102,102]})
   (base:Nat) (v:Value) (n:Nat) (xs:List Int) (hs:a.eval s=v) (hown:w.ownsRow base 5 1 v n (z00 xs))
   (ao:Option Addr) (c:Nat) (hx:a.eval x=.slice ao 0 c) (hc:ao=none->c=0) (hn:n<=140737488355328) (hbase:base<=w.heap.size)
   (h:∀ a' c' w',w'.ownsRow base 5 1 (.slice a' n c') n (z00 xs)->w.grownBy w' v.ownBlock->wpList Tryz.prog ops Q rest (a.put o.dst (.slice a' n c')) w'):wpList Tryz.prog ops Q (o :: rest) a w:=by
 obtain ⟨i,hi,hz,hs1,hby⟩:=z1e
 have form:∀ (v':Value) (w':World),w'.ownsRow base 5 1 v' n (z00 xs)->∃ a' c',v'=.slice a' n c':=fun v' w' h=>by
   rcases h.2 with ⟨rfl,rfl⟩ | ⟨g,cap,cur,rfl,_⟩
   ·exact ⟨none,0,rfl⟩
   ·exact ⟨_,cap,rfl⟩
 cases ao with
 | none=>
   obtain rfl:=hc rfl;refine wpList_append_own_none hgd s x 102 ho base 5 i 1 Tryz.underlying102 hi v n (z00 xs) hs hown hx ?_;obtain ⟨a',c',rfl⟩:=form v w hown;exact h a' c' w hown (z1S _ _)
 | some ad=>
   refine wpList_append_own w hgd s x 102 ho base 5 i (.int .u8 0) 1 1 Tryz.underlying102 hi hz hs1 hby rfl (by decide) v n (z00 xs) hs hown ad 0 c [] hx rfl (fun j u hj=>by simp at hj) (fun u hu=>by simp at hu) (by simp only [maxLen];omega) (by omega) hbase ?_;intro v' w' h1 h2 _;simp only [Nat.add_zero,List.append_nil] at h1;obtain ⟨a',c',rfl⟩:=form v' w' h1;exact h a' c' w' h1 h2
theorem z24 {w:World} {base g n cap:Nat} {l:List Int} (h:w.ownsRow base 5 1 (.slice (some ⟨g,0,none⟩) n cap) n (z00 l)) (hg:g<w.heap.size) (hl:∀ x∈l,0<=x/\x<=255):Bytes w (some ⟨g,0,none⟩) n l:=by
 have hlen:l.length=n:=by have:=h.1;simpa [z00] using this
 refine ⟨hlen,fun _=>⟨g,0,rfl,hg,fun i hi=>?_⟩,hl⟩;rw [Nat.zero_add,h.cellAt i (by omega),z0u l i (by omega)]
theorem z77 (w:World) (base:Nat) (hb:base<=w.heap.size):(w.alloc (.cells #[] 5)).ownsRow base 5 1 (.slice (some ⟨w.heap.size,0,none⟩) 0 0) 0 (z00 []):=
 World.ownsRow_lit w #[] 0 hb (by simp [maxLen]) rfl
theorem z3o (w:World) (n:Nat) (f:Nat->Int) (l:List Int) (hl:l.length=n) (hf:∀ i,i<n->f i=l.getD i 0) (hr:∀ x∈l,0<=x/\x<=255):Bytes (w.alloc (.cells (BARR n f) 5)) (some ⟨w.heap.size,0,none⟩) n l:=by
 refine ⟨hl,fun _=>⟨w.heap.size,0,rfl,by simp,fun i hi=>?_⟩,hr⟩;rw [Nat.zero_add,World.cell?_alloc_at _ _ _ _ rfl,z1H n f i hi,hf i hi]
theorem z1A {w:World} {base n c:Nat} {a:Option Addr} {l:List Int} (h:w.ownsRow base 5 1 (.slice a n c) n (z00 l)) (hl:∀ x∈l,0<=x/\x<=255):Bytes w a n l/\n<=c:=by
 rcases h.2 with ⟨hv,hn⟩ | ⟨g,cap,cur,hv,_,hg,hc,_⟩
 ·simp only [Value.slice.injEq] at hv
  obtain ⟨rfl,rfl,rfl⟩:=hv;have:l=[]:=by have:=h.1;simpa [z00] using this
  subst this;exact ⟨⟨rfl,fun h=>by omega,fun x hx=>by simp at hx⟩,Nat.le_refl _⟩
 ·simp only [Value.slice.injEq] at hv
  obtain ⟨rfl,_,rfl⟩:=hv;exact ⟨z24 h (Array.getElem?_eq_some_iff.1 hg).1 hl,hc⟩
theorem z54 {ops:Array Oper} {rest:List Oper} {o:Oper} {a:Act} {Q:Exit->Act->World->Prop} (w:World) (hgd:o.guard=none) (s x:Operand)
  (ho:o.op=.call {callee:=.builtin .append,args:=#[s,x],argTypes:=#[102,102]})
  (base:Nat) (v:Value) (n:Nat) (xs:List Int) (hs:a.eval s=v) (hown:w.ownsRow base 5 1 v n (z00 xs))
  (ao:Option Addr) (m c:Nat) (l:List Int) (hx:a.eval x=.slice ao m c) (hB:Bytes w ao m l) (hc:ao=none->c=0)
  (N:Nat) (L:List Int) (hN:n+m=N) (hL:xs ++ l=L) (hb:N<=140737488355328) (hbase:base<=w.heap.size)
  (h:∀ a' c' w',w'.ownsRow base 5 1 (.slice a' N c') N (z00 L)->w.grownBy w' v.ownBlock->wpList Tryz.prog ops Q rest (a.put o.dst (.slice a' N c')) w'):wpList Tryz.prog ops Q (o :: rest) a w:=by
 subst hN hL;rcases Nat.eq_zero_or_pos m with hm | hm
 ·subst hm
  have hl:l=[]:=by have:=hB.1;simpa using this
  subst hl;refine z5B w hgd s x ho base v n xs hs hown ao c hx hc (by omega) hbase ?_;simpa using h
 ·obtain ⟨b,off,rfl,_,_⟩:=hB.2.1 hm
  refine z1i w hgd s x ho base v n xs hs hown b off m c l hx hB hm hb hbase ?_;intro g cap w' h1 h2 _;exact h _ cap w' h1 h2
def z1s (X j:Nat):List Int:=(List.range j).map fun i=>((X / 128 ^ i % 128+128:Nat):Int)
theorem z9A (X j:Nat):z1s X (j+1)=z1s X j ++ [((X / 128 ^ j % 128+128:Nat):Int)]:=by simp [z1s,List.range_succ]
theorem z7D (X j:Nat):(z1s X j).length=j:=by simp [z1s]
def TOPG (X:Nat):Nat->Nat
 | 0=>0
 | k+1=>if X<128 then 0 else TOPG (X / 128) k+1
def NTOP (X:Nat):Nat:=TOPG X 9
def z10 (X:Nat):List Int:=z1s X (NTOP X) ++ [((X / 128 ^ NTOP X:Nat):Int)]
theorem z39 (X:Nat):(z10 X).length=NTOP X+1:=by simp [z10,z7D]
theorem zaw:∀ (k X:Nat),TOPG X k<=k
 | 0,_=>Nat.le_refl _
 | k + 1,X=>by
   unfold TOPG;split
   ·omega
   ·have:=zaw k (X / 128)
    omega
theorem z6c:∀ (k X j:Nat),j<TOPG X k->128<=X / 128 ^ j
 | 0,_,_,h=>by simp [TOPG] at h
 | k + 1,X,j,h=>by
   unfold TOPG at h;split at h
   ·omega
   ·cases j with
    | zero=>simp;omega
    | succ j=>
      have:=z6c k (X / 128) j (by omega);rw [Nat.div_div_eq_div_mul,Nat.mul_comm,<-Nat.pow_succ] at this;exact this
theorem zax:∀ (k X:Nat),X<128 ^ (k+1)->X / 128 ^ TOPG X k<128
 | 0,X,h=>by simpa [TOPG] using h
 | k + 1,X,h=>by
   unfold TOPG;split
   ·simpa using ‹X<128›
   ·have:=zax k (X / 128) (by rw [Nat.pow_succ] at h;exact Nat.div_lt_of_lt_mul (by omega))
    rw [Nat.div_div_eq_div_mul,Nat.mul_comm,<-Nat.pow_succ] at this;exact this
theorem z6J (X:Nat):NTOP X<=9:=zaw 9 X
theorem zay {X:Nat} (hX:X<2 ^ 64):X / 128 ^ NTOP X<128:=zax 9 X (Nat.lt_of_lt_of_le hX (by decide))
theorem zfX {X:Nat} (hX:X<2 ^ 64) {j:Nat} (hj:∀ i,i<j->128<=X / 128 ^ i) (h:X / 128 ^ j<128):NTOP X=j:=by
 rcases Nat.lt_trichotomy (NTOP X) j with h1 | h1 | h1
 ·have:=hj _ h1
  have:=zay hX;omega
 ·exact h1
 ·have:=z6c 9 X j h1
  omega
theorem zew (X:Nat) {i j:Nat} (h:i<=j):X / 128 ^ j<=X / 128 ^ i:=Nat.div_le_div_left (Nat.pow_le_pow_right (by decide) h) (Nat.pow_pos (by decide))
theorem z8q (X j:Nat):∀ x∈z1s X j,0<=x/\x<=255:=fun x hx=>by
 simp only [z1s,List.mem_map] at hx;obtain ⟨i,_,rfl⟩:=hx;omega
theorem z3u {X:Nat} (hX:X<2 ^ 64):∀ x∈z10 X,0<=x/\x<=255:=fun x hx=>by
 simp only [z10,List.mem_append,List.mem_singleton] at hx;rcases hx with hx | rfl
 ·exact z8q X _ x hx
 ·have:=zay hX
  generalize X / 128 ^ NTOP X=y at *
  omega
theorem z7c (w:World) (v:Int) (h0:0<=v) (h1:v<=255):Bytes (w.alloc (.cells #[.int .u8 v] 5)) (some ⟨w.heap.size,0,none⟩) 1 [v]:=by
 refine ⟨rfl,fun _=>⟨w.heap.size,0,rfl,by simp,fun i hi=>?_⟩,fun x hx=>by simp at hx;omega⟩;obtain rfl:i=0:=by omega
 rw [Nat.zero_add,World.cell?_alloc_at _ _ _ _ rfl];rfl
theorem zex (w:World) (base:Nat) (hb:base<=w.heap.size) (cur:Array Value) (cap:Nat) (hm:cap<=1000) (hs:cur.size=cap):(w.alloc (.cells cur 5)).ownsRow base 5 1 (.slice (some ⟨w.heap.size,0,none⟩) 0 cap) 0 (z00 []):=
 World.ownsRow_made w cur cap hb (by simp only [maxLen];omega) (by omega)
set_option maxHeartbeats 1000000 in
theorem z5D (X:Nat) (hX:X<2 ^ 64) (w:World):Calls Tryz.prog 112 #[.int .u64 (X:Int)] w fun e w'=>
  ∃ g cap,e=.returned (.slice (some ⟨g,0,none⟩) (NTOP X+1) cap)/\w'.ownsRow w.heap.size 5 1 (.slice (some ⟨g,0,none⟩) (NTOP X+1) cap) (NTOP X+1) (z00 (z10 X))/\g<w'.heap.size/\Below w.heap.size w w':=by
 have hmk:∀ w:World,(Instr.makeSlice 102 (.int .i64 0) (.int .i64 10)).run Tryz.prog w=.ok (.slice (some ⟨w.heap.size,0,none⟩) 0 10) (w.alloc (.cells #[.int .u8 0,.int .u8 0,.int .u8 0,.int .u8 0,.int .u8 0,.int .u8 0,.int .u8 0,.int .u8 0,.int .u8 0,.int .u8 0] 5)):=fun _=>by kernel_rfl
 have HX:Aside (X<2 ^ 64):=hX;clear hX;go_enter Tryz.func112,Tryz.ntmps112;go_wp2;go_loopg [0,3] 10 (fun g s0 s3 wx=>∃ (j x:Nat),j+g=10/\Aside (x=X / 128 ^ j/\(∀ i,i<j->128<=X / 128 ^ i)/\wx.ownsRow w.heap.size 5 1 s3 j (z00 (z1s X j))/\Below w.heap.size w wx)/\s0=.int .u64 (x:Int))
 case atStart=>exact ⟨0,X,by omega,⟨by simp,fun i hi=>by omega,zex w _ (Nat.le_refl _) _ 10 (by decide) rfl,(Below.refl _ _).alloc (Nat.le_refl _) _⟩,rfl⟩
 case round=>
  obtain ⟨j,x,hjg,A,rfl⟩:=hrel;by_cases hx:128<=(x:Int)
  ·go_wp2_with (at_builtin;refine z1i _ rfl (.tmp 9) (.tmp 14) rfl w.heap.size u3 j (z1s X j) rfl (A.out.2.2.1.alloc _) wr.heap.size 0 1 1 [(x:Int) % 128+128] rfl (z7c wr _ (by omega) (by omega)) (by omega) (by omega) (by have:=A.out.2.2.2.size;simp;omega) ?_;intro g cap w1 hown hgrow hg)
   have R:(x / 128=X / 128 ^ (j+1))/\(∀ i,i<j+1->128<=X / 128 ^ i)/\w1.ownsRow w.heap.size 5 1 (.slice (some ⟨g,0,none⟩) (j+1) cap) (j+1) (z00 (z1s X (j+1)))/\Below w.heap.size w w1:=by
    obtain ⟨hxe,hall,hown0,hb⟩:=A.out;refine ⟨by rw [hxe,Nat.div_div_eq_div_mul,<-Nat.pow_succ],fun i hi=>?_,?_,?_⟩
    ·by_cases e:i=j
     ·rw [e,<-hxe];omega
     ·exact hall i (by omega)
    ·rw [z9A,show ((X / 128 ^ j % 128+128:Nat):Int)=(x:Int) % 128+128 by rw [<-hxe];omega]
     exact hown
    ·exact (hb.alloc hb.size _).grown hgrow (by have:=hb.size;simp;omega) (fun k e=>(hown0.lt k e).1)
   have HR:Aside ((x / 128=X / 128 ^ (j+1))/\(∀ i,i<j+1->128<=X / 128 ^ i)/\w1.ownsRow w.heap.size 5 1 (.slice (some ⟨g,0,none⟩) (j+1) cap) (j+1) (z00 (z1s X (j+1)))/\Below w.heap.size w w1):=R
   have hj9:j<9:=by
    obtain ⟨hxe,hall,_,_⟩:=A.out;rcases Nat.lt_or_ge j 9 with h | h
    ·exact h
    ·have h1:=zew X h
     have h2:X / 128 ^ 9<2:=Nat.div_lt_of_lt_mul (Nat.lt_of_lt_of_le HX.out (by decide));omega
   clear hown hgrow hg R A;go_wp2;go_roundg (gk - 1)
   case measure=>omega
   case rel=>exact ⟨j+1,x / 128,by omega,HR,by first | rfl | go_num⟩
  ·go_wp2_with (at_builtin;refine z1i _ rfl (.tmp 16) (.tmp 19) rfl w.heap.size u3 j (z1s X j) rfl (A.out.2.2.1.alloc _) wr.heap.size 0 1 1 [(x:Int)] rfl (z7c wr _ (by omega) (by omega)) (by omega) (by omega) (by have:=A.out.2.2.2.size;simp;omega) ?_;intro g cap w1 hown hgrow hg)
   obtain ⟨hxe,hall,hown0,hb⟩:=A.out;have hN:NTOP X=j:=zfX HX.out hall (by rw [<-hxe];omega)
   have R:w1.ownsRow w.heap.size 5 1 (.slice (some ⟨g,0,none⟩) (NTOP X+1) cap) (NTOP X+1) (z00 (z10 X))/\g<w1.heap.size/\Below w.heap.size w w1:=by
    refine ⟨?_,hg,(hb.alloc hb.size _).grown hgrow (by have:=hb.size;simp;omega) (fun k e=>(hown0.lt k e).1)⟩;unfold z10;rw [hN,<-hxe];exact hown
   have HR:Aside (w1.ownsRow w.heap.size 5 1 (.slice (some ⟨g,0,none⟩) (NTOP X+1) cap) (NTOP X+1) (z00 (z10 X))/\g<w1.heap.size/\Below w.heap.size w w1):=R;have HN:Aside (NTOP X=j):=hN;clear hown hgrow hg R A hxe hall hown0 hb hN;go_wp2;go_ret;obtain ⟨h1,h2,h3⟩:=HR.out;refine ⟨g,cap,?_,h1,h2,h3⟩;rw [HN.out];rfl
end Go.Proofs.YthmnailmbgondaaGreatDoor
namespace Go.Proofs.YthmnailmbgondaaGreatDoor
abbrev Fit (a h b:Nat):Prop:=a % 2 ^ h=0/\a+2 ^ h<=b
theorem Fit.down {a h b:Nat} (f:Fit a (h+1) b):Fit a h b:=by
 have h1:2 ^ (h+1)=2 ^ h*2:=Nat.pow_succ 2 h;have h2:=f.2;refine ⟨?_,by omega⟩;have h3:=f.1;have h4:2 ^ h ∣ 2 ^ (h+1):=⟨2,h1⟩
 exact Nat.mod_eq_zero_of_dvd (Nat.dvd_trans h4 (Nat.dvd_of_mod_eq_zero h3))
theorem Fit.le {a g b:Nat}:∀ h,h<=g->Fit a g b->Fit a h b:=by
 intro h hg f;induction g with
 | zero => obtain rfl:h=0:=by omega
           exact f
 | succ g ih=>
   rcases Nat.lt_or_ge h (g+1) with h1 | h1
   ·exact ih (by omega) f.down
   ·obtain rfl:h=g+1:=by omega
    exact f
theorem Fit.zero {a b:Nat} (h:a<b):Fit a 0 b:=⟨Nat.mod_one a,by simp;omega⟩
def HTF:Nat->Nat->Nat->Nat
 | 0,_,_=>0
 | f+1,a,b=>if Fit a (f+1) b then f+1 else HTF f a b
def HT (a b:Nat):Nat:=HTF 62 a b
def Tile:Nat->List (Nat × Nat)->Nat->Prop
 | a,[],b=>a=b
 | a,s :: l,b=>Node s.1 s.2/\s.2*2 ^ s.1=a/\Tile ((s.2+1)*2 ^ s.1) l b
abbrev Sibs (x y:Nat × Nat):Prop:=x.1=y.1/\x.2 % 2=0/\y.2=x.2+1
def Irr:List (Nat × Nat)->Prop
 | []=>True
 | x :: l=>(∀ y,l.head?=some y->¬ Sibs x y)/\Irr l
theorem Fit.node {a h b:Nat} (f:Fit a h b) (hh:h<=62) (hb:b<=4611686018427387904):Node h (a / 2 ^ h)/\a / 2 ^ h*2 ^ h=a/\(a / 2 ^ h+1)*2 ^ h=a+2 ^ h:=by
 have h1:a / 2 ^ h*2 ^ h=a:=Nat.div_mul_cancel (Nat.dvd_of_mod_eq_zero f.1);have h2:(a / 2 ^ h+1)*2 ^ h=a+2 ^ h:=by rw [Nat.add_mul,Nat.one_mul,h1]
 refine ⟨⟨hh,?_⟩,h1,h2⟩
 have h3:(a / 2 ^ h+1)*2 ^ h<=2 ^ (62 - h)*2 ^ h:=by
  rw [h2,<-Nat.pow_add,show 62 - h+h=62 by omega];have:=f.2;simp;omega
 exact Nat.le_of_mul_le_mul_right h3 (Nat.two_pow_pos h)
theorem zgW (h:Nat):2 ^ (h+1)=2*2 ^ h:=by rw [Nat.pow_succ,Nat.mul_comm]
theorem Tile.bound {l:List (Nat × Nat)}:∀ {a b:Nat},Tile a l b->a<=b/\(l≠[]->a<b/\b<=4611686018427387904):=by
 induction l with
 | nil=>intro a b h;exact ⟨by have:a=b:=h;omega,fun h=>absurd rfl h⟩
 | cons s l ih=>
   intro a b ⟨h1,h2,h3⟩;have i:=ih h3;have:=Nat.two_pow_pos s.1;have e:(s.2+1)*2 ^ s.1=s.2*2 ^ s.1+2 ^ s.1:=by rw [Nat.add_mul,Nat.one_mul]
   refine ⟨by omega,fun _=>⟨by omega,?_⟩⟩;cases l with
   | nil=>
     have h4:(s.2+1)*2 ^ s.1=b:=h3;have:=h1.span;simp at this;omega
   | cons t l=>exact (i.2 (by simp)).2
theorem Tile.append {l m:List (Nat × Nat)}:∀ {a b c:Nat},Tile a l b->Tile b m c->Tile a (l ++ m) c:=by
 induction l with
 | nil=>intro a b c h h2;have:a=b:=h;rw [this];exact h2
 | cons s l ih=>intro a b c ⟨h1,h2,h3⟩ h4;exact ⟨h1,h2,ih h3 h4⟩
theorem Tile.node {l:List (Nat × Nat)}:∀ {a b i h k:Nat},Tile a l b->l[i]?=some (h,k)->Node h k:=by
 induction l with
 | nil=>intro a b i h k _ e;simp at e
 | cons s l ih=>
   intro a b i h k ⟨h1,h2,h3⟩ e;cases i with
   | zero=>simp at e;subst e;exact h1
   | succ i=>exact ih h3 (by simpa using e)
theorem Tile.one {s:Nat × Nat} {a b:Nat}:Tile a [s] b↔Node s.1 s.2/\s.2*2 ^ s.1=a/\(s.2+1)*2 ^ s.1=b:=Iff.rfl
theorem z44 {n:Nat} (h:PC n=0):n=0:=by
 induction n using Nat.strongRecOn with
 | _ n ih=>
   by_cases h0:n=0
   ·exact h0
   ·rw [z0F] at h
    have:=ih (n / 2) (by omega) (by omega);omega
theorem z8r (n a b:Nat) (hab:a<=b):n / 2 ^ a=n / 2 ^ b*2 ^ (b - a)+n / 2 ^ a % 2 ^ (b - a)/\PC (n / 2 ^ a)=PC (n / 2 ^ b)+PC (n / 2 ^ a % 2 ^ (b - a)):=by
 have e:n / 2 ^ b=n / 2 ^ a / 2 ^ (b - a):=by rw [Nat.div_div_eq_div_mul,<-Nat.pow_add,show a+(b - a)=b by omega]
 have h1:n / 2 ^ a=n / 2 ^ b*2 ^ (b - a)+n / 2 ^ a % 2 ^ (b - a):=by
  rw [e,Nat.mul_comm];exact (Nat.div_add_mod _ _).symm
 refine ⟨h1,?_⟩;have h2:=z4D (b - a) (n / 2 ^ b) (n / 2 ^ a % 2 ^ (b - a)) (Nat.mod_lt _ (Nat.two_pow_pos _));rw [<-h1] at h2;exact h2
theorem zfY (n:Nat) {a b:Nat} (hab:a<=b):PC (n / 2 ^ b)<=PC (n / 2 ^ a):=by
 have:=(z8r n a b hab).2;omega
theorem z8s (n:Nat) {a b:Nat} (hab:a<=b) (h:PC (n / 2 ^ a)=PC (n / 2 ^ b)):n / 2 ^ a*2 ^ a=n / 2 ^ b*2 ^ b:=by
 obtain ⟨h1,h2⟩:=z8r n a b hab;have h3:n / 2 ^ a % 2 ^ (b - a)=0:=z44 (by omega);rw [h3,Nat.add_zero] at h1;rw [h1,Nat.mul_assoc,<-Nat.pow_add,show b - a+a=b by omega]
theorem zey {n:Nat} (hn:n<2 ^ 64):∀ h,h<=64->∀ i,i<PC (n / 2 ^ h)->∃ g,h<=g/\g<64/\(HS h n)[i]?=some g/\n / 2 ^ g % 2=1/\i=PC (n / 2 ^ (g+1)):=by
 have key:∀ d h,h+d=64->∀ i,i<PC (n / 2 ^ h)->∃ g,h<=g/\g<64/\(HS h n)[i]?=some g/\n / 2 ^ g % 2=1/\i=PC (n / 2 ^ (g+1)):=by
  intro d;induction d with
  | zero=>
    intro h e i hi;obtain rfl:h=64:=by omega
    rw [Nat.div_eq_of_lt hn,z1a] at hi;omega
  | succ d ih=>
    intro h e i hi;have hl:=z4J hn (h+1) (by omega);have hs:PC (n / 2 ^ h)=n / 2 ^ h % 2+PC (n / 2 ^ (h+1)):=by rw [z0F,z1c]
    rcases Nat.lt_or_ge i (PC (n / 2 ^ (h+1))) with h1 | h1
    ·obtain ⟨g,a,b,c,r⟩:=ih (h+1) (by omega) i h1
     refine ⟨g,by omega,b,?_,r⟩;by_cases hb:n / 2 ^ h % 2=1
     ·rw [z3F (by omega) hb,List.getElem?_append_left (by omega)]
      exact c
     ·rw [z38 (by omega) hb]
      exact c
    ·have hb:n / 2 ^ h % 2=1:=by omega
     have hi':i=PC (n / 2 ^ (h+1)):=by omega
     refine ⟨h,Nat.le_refl _,by omega,?_,hb,hi'⟩;rw [z3F (by omega) hb,List.getElem?_append_right (by omega),hl,hi'];simp
 intro h hh;exact key (64 - h) h (by omega)
def HGT (n i:Nat):Nat:=(HS 0 n).getD i 0
def z7N (n:Nat):Nat->Nat
 | 0=>0
 | i+1=>n / 2 ^ HGT n i*2 ^ HGT n i
theorem z3a {n i:Nat} (hn:n<2 ^ 64) (hi:i<PC n):(HS 0 n)[i]?=some (HGT n i)/\n / 2 ^ HGT n i % 2=1/\i=PC (n / 2 ^ (HGT n i+1)):=by
 obtain ⟨g,_,_,c,d,e⟩:=zey hn 0 (by omega) i (by rw [Nat.pow_zero,Nat.div_one];exact hi);have hg:HGT n i=g:=by unfold HGT;rw [List.getD_eq_getElem?_getD,c];rfl
 rw [hg];exact ⟨c,d,e⟩
def KGT (n i:Nat):Nat:=2*(n / 2 ^ (HGT n i+1))
theorem zd6 {n i:Nat} (hn:n<=4611686018427387904) (hi:i<PC n):Node (HGT n i) (KGT n i):=Node.peak hn (z3a (by omega) hi).2.1
theorem z5E {n i:Nat} (hn:n<2 ^ 64) (hi:i<PC n):PC (n / 2 ^ HGT n i)=i+1:=by
 obtain ⟨_,h2,h3⟩:=z3a hn hi;rw [z0F,<-z1c];omega
theorem z7d {n i:Nat} (hn:n<2 ^ 64) (hi:i+1<PC n):HGT n (i+1)<HGT n i:=by
 have h1:=z5E hn (i:=i) (by omega);have h2:=(z3a hn hi).2.2;rcases Nat.lt_or_ge (HGT n (i+1)) (HGT n i) with h | h
 ·exact h
 ·have h3:=zfY n (a:=HGT n i+1) (b:=HGT n (i+1)+1) (by omega)
  have h4:=(z3a hn (i:=i) (by omega)).2.2;omega
theorem zbE {n i:Nat} (hn:n<2 ^ 64) (hi:i<PC n):KGT n i*2 ^ HGT n i=z7N n i:=by
 have hk:KGT n i*2 ^ HGT n i=n / 2 ^ (HGT n i+1)*2 ^ (HGT n i+1):=z17 _ _;have h2:=(z3a hn hi).2.2;cases i with
 | zero=>
   rw [hk,z44 h2.symm,Nat.zero_mul];rfl
 | succ i=>
   have h1:=z5E hn (i:=i) (by omega);have h3:=z7d hn hi;rw [hk];exact z8s n (by omega) (by omega)
theorem zez {n i:Nat} (hn:n<2 ^ 64) (hi:i<PC n):(KGT n i+1)*2 ^ HGT n i=z7N n (i+1):=by
 have:=z6a (z3a hn hi).2.1;show (2*(n / 2 ^ (HGT n i+1))+1)*2 ^ HGT n i=n / 2 ^ HGT n i*2 ^ HGT n i;rw [<-this]
theorem zd7 {n:Nat} (hn:n<2 ^ 64):z7N n (PC n)=n:=by
 cases h:PC n with
 | zero=>
   rw [z44 h];rfl
 | succ i=>
   have h1:=z5E hn (i:=i) (by omega);have h2:=z8s n (a:=0) (b:=HGT n i) (by omega) (by rw [Nat.pow_zero,Nat.div_one];omega);rw [Nat.pow_zero,Nat.div_one,Nat.mul_one] at h2;exact h2.symm
def PKS (n j c:Nat):List (Nat × Nat):=(List.range' j c).map fun i=>(HGT n i,KGT n i)
theorem z8t (n j c:Nat):PKS n j (c+1)=(HGT n j,KGT n j) :: PKS n (j+1) c:=by simp [PKS,List.range'_succ]
theorem zgX {n c i:Nat} (h:i<c):(PKS n 0 c)[i]?=some (HGT n i,KGT n i):=by
 simp [PKS,h]
theorem zeA {n:Nat} (hn:n<=4611686018427387904):∀ c j,j+c=PC n->Tile (z7N n j) (PKS n j c) n/\Irr (PKS n j c):=by
 intro c;induction c with
 | zero=>
   intro j e;obtain rfl:j=PC n:=by omega
   exact ⟨zd7 (by omega),trivial⟩
 | succ c ih=>
   intro j e;obtain ⟨i1,i2⟩:=ih (j+1) (by omega);rw [z8t];refine ⟨⟨zd6 hn (by omega),zbE (by omega) (by omega),?_⟩,?_,i2⟩
   ·show Tile ((KGT n j+1)*2 ^ HGT n j) _ n
    rw [zez (by omega) (by omega)];exact i1
   ·intro y hy ⟨h1,_,_⟩
    cases c with
    | zero=>simp [PKS] at hy
    | succ c=>
      rw [z8t] at hy;simp at hy;subst hy;have:=z7d (n:=n) (i:=j) (by omega) (by omega);dsimp only at h1;omega
def PLCS (l:List (Nat × Nat)):List Nat:=l.map fun s=>PLC s.1 s.2
theorem z9B (l:List (Nat × Nat)):(PLCS l).length=l.length:=by simp [PLCS]
theorem zfZ {l:List (Nat × Nat)} {j h k:Nat} (e:l[j]?=some (h,k)):(PLCS l).getD j 0=PLC h k:=by
 simp [PLCS,List.getD,e]
def Off (s t:Nat × Nat):Prop:=(s.2+1)*2 ^ s.1<=t.2*2 ^ t.1\/(t.2+1)*2 ^ t.1<=s.2*2 ^ s.1
def SIZE (l:List (Nat × Nat)):Nat:=(l.map fun s=>2 ^ s.1).sum
theorem z8u (k h:Nat):(k+1)*2 ^ h=k*2 ^ h+2 ^ h:=by rw [Nat.add_mul,Nat.one_mul]
theorem Tile.size {l:List (Nat × Nat)}:∀ {a b:Nat},Tile a l b->a+SIZE l=b:=by
 induction l with
 | nil=>intro a b h;have:a=b:=h;simp [SIZE,this]
 | cons s l ih=>
   intro a b ⟨h1,h2,h3⟩;have:=ih h3;rw [z8u,h2] at this;simp only [SIZE,List.map_cons,List.sum_cons] at this ⊢;omega
theorem Tile.within {l:List (Nat × Nat)}:∀ {a b:Nat},Tile a l b->∀ s∈l,a<=s.2*2 ^ s.1/\(s.2+1)*2 ^ s.1<=b/\Node s.1 s.2:=by
 induction l with
 | nil=>intro a b _ s hs;simp at hs
 | cons t l ih=>
   intro a b ⟨h1,h2,h3⟩ s hs;rcases List.mem_cons.1 hs with rfl | hs
   ·exact ⟨by omega,h3.bound.1,h1⟩
   ·have:=ih h3 s hs
    have h4:=z8u t.2 t.1;have h5:=Nat.two_pow_pos t.1;exact ⟨by omega,this.2⟩
theorem Tile.off {l:List (Nat × Nat)}:∀ {a b:Nat},Tile a l b->l.Pairwise Off:=by
 induction l with
 | nil=>intro a b _;exact List.Pairwise.nil
 | cons t l ih=>
   intro a b ⟨h1,h2,h3⟩;refine List.Pairwise.cons (fun s hs=>?_) (ih h3);exact .inl (h3.within s hs).1
theorem zaz {h k n:Nat} (hn:(k+1)*2 ^ h<=n):PLC h k<z01 n:=by
 have h1:=z3Z hn;have h2:=z0D ((k+1)*2 ^ h);rw [z2p] at h2;have h3:=z1M h k;have h4:=zao k;have h5:2 ^ (h+1)*(k+1)=2*((k+1)*2 ^ h):=by rw [zgW,Nat.mul_assoc,Nat.mul_comm (2 ^ h)]
 omega
end Go.Proofs.YthmnailmbgondaaGreatDoor
namespace Go.Proofs.YthmnailmbgondaaGreatDoor
open Go.RowKit
theorem z1o (n:Nat) (hn:n<64) (w:World):Calls Tryz.prog 71 #[.int .i64 (n:Int)] w fun e w'=>e=.returned (.int .u64 ((2 ^ n:Nat):Int))/\w=w':=by
 have HN:Aside (n<64):=hn;clear hn;go_enter Tryz.func71,Tryz.ntmps71;go_wp2;go_loopg [3,4] n (fun g s3 s4 wx=>∃ i v:Nat,s3=.int .u64 (v:Int)/\s4=.int .i64 (i:Int)/\Aside (v=2 ^ i/\i+g=n)/\wx=w)
 case atStart=>exact ⟨0,1,rfl,rfl,⟨rfl,by omega⟩,rfl⟩
 case round=>
  obtain ⟨i,v,rfl,rfl,A,hw⟩:=hrel;subst hw;cases gk with
  | zero=>
    have hi:¬ (i:Int)<(n:Int):=by have:=A.out.2;omega
    go_wp2;go_ret;obtain ⟨r1,r2⟩:=A.out;refine ⟨?_,rfl⟩;rw [r1,show i=n by omega];rfl
  | succ g=>
    have hi:(i:Int)<(n:Int):=by have:=A.out.2;omega
    go_wp2;go_roundg g
    case measure=>omega
    case rel=>
     obtain ⟨r1,r2⟩:=A.out;have h64:=HN.out;have hp:2 ^ (i+1)<=2 ^ 63:=Nat.pow_le_pow_right (by decide) (by omega);refine ⟨i+1,2 ^ (i+1),?_,?_,⟨rfl,by omega⟩,rfl⟩
     ·congr 1
      rw [z0b,r1];rw [Nat.pow_succ] at hp ⊢;omega
     ·congr 1
      unfold wrap64;omega
theorem z9C (n:Nat) (hn:n<=4611686018427387904) (w:World):Calls Tryz.prog 75 #[.int .u64 (n:Int)] w fun e w'=>e=.returned (.tuple #[.int .u64 ((z01 n:Nat):Int),.bool true])/\w=w':=by
 have HN:Aside (n<=4611686018427387904):=hn;have hd:¬ (4611686018427387904:Int)<(n:Int):=by omega
 clear hn;go_enter Tryz.func75,Tryz.ntmps75;go_wp2;go_loopg [0,4] n (fun g s0 s4 wx=>∃ v:Nat,s0=.int .u64 (g:Int)/\s4=.int .u64 (v:Int)/\Aside (v+z01 g=z01 n)/\wx=w)
 case atStart=>exact ⟨0,rfl,rfl,by unfold Aside;omega,rfl⟩
 case round=>
  obtain ⟨v,rfl,rfl,A,hw⟩:=hrel;subst hw;cases gk with
  | zero=>
    go_wp2;go_ret2;have r1:=A.out;rw [z2f] at r1;refine ⟨?_,rfl⟩;rw [<-r1];rfl
  | succ g=>
    have hi:(0:Int)<(((g+1:Nat)):Int):=by omega
    have e1:Aside (IntKind.u64.wrap ((v:Int)+((g+1:Nat):Int))=((v+(g+1):Nat):Int)):=by
     have h1:=z3Y (g+1);have h2:=A.out;have h3:=z4K HN.out;unfold Aside;rw [z0b];omega
    have e2:Aside (IntKind.u64.wrap (((g+1:Nat):Int) / 2)=(((g+1) / 2:Nat):Int)):=by
     have h1:=zec (g+1);have h2:=A.out;have h3:=z4K HN.out;unfold Aside;rw [z0b];omega
    generalize hG:g+1=G at *
    go_wp2;go_roundg (G / 2)
    case measure=>omega
    case rel=>
     refine ⟨v+G,?_,?_,?_,rfl⟩
     ·first | rfl | (congr 1;omega) | (rw [e2.out])
     ·rw [e1.out]
     ·have h1:=z3Y G
      have h2:=A.out;unfold Aside;omega
theorem z9D (p:Int) (hp:9223372036854775807<=p) (w:World):Calls Tryz.prog 57 #[.int .u64 p] w fun e w'=>e=.returned (.tuple #[SPOT 0 0,.bool false])/\Below w.heap.size w w':=by
 have c1:=z1o 62 (by omega);rw [show (((2 ^ 62:Nat):Int))=4611686018427387904 by decide,show (((62:Nat):Int))=62 from rfl] at c1;have hd:(9223372036854775806:Int)<p:=by omega
 go_enter Tryz.func57,Tryz.ntmps57;go_wp2_with fail
 refine (c1 _).mono ?_;rintro e w' ⟨rfl,rfl⟩;clear c1;go_wp2;refine bodyPost_ret (v:=.tuple #[SPOT 0 0,.bool false]) ?_ rfl ⟨rfl,(Below.refl _ _).alloc (Nat.le_refl _) _⟩;simp [results,Tryz.f57,go_sem]
theorem zd8 {a b c:Nat} (h:a+b=c) (hc:c<2 ^ 64):IntKind.u64.wrap ((a:Int)+(b:Int))=(c:Int):=by rw [z0b];omega
theorem zgY {a c:Nat} (h:a+1=c) (hc:c<2 ^ 64):IntKind.u64.wrap ((a:Int)+1)=(c:Int):=by rw [z0b];omega
theorem zgZ {a c:Nat} (h:c+1=a) (hc:c<2 ^ 64):IntKind.u64.wrap ((a:Int) - 1)=(c:Int):=by rw [z0b];omega
theorem zd9 {a c:Nat} (h:2*a=c) (hc:c<2 ^ 64):IntKind.u64.wrap (2*(a:Int))=(c:Int):=by rw [z0b];omega
theorem zg0 {a c:Nat} (h:2*c=a) (hc:c<2 ^ 64):IntKind.u64.wrap ((a:Int) / 2)=(c:Int):=by rw [z0b];omega
theorem zeB {a c:Nat} (h:2*c=a):(a:Int) / 2=(c:Int):=by omega
theorem zeC {g m b p z1 bz:Nat} (hg:g+1<=62) (hN:Node (g+1) m) (hb:b=z01 (m*2 ^ (g+1))) (hbp:b<=p) (hpu:p+2<=b+2 ^ (g+1+1)) (hz:2 ^ (g+1)=z1+1) (hbz:b+z1=bz) (hT:p≠b+2*z1):
  Node g (2*m)/\Node g (2*m+1)/\b=z01 (2*m*2 ^ g)/\bz=z01 ((2*m+1)*2 ^ g)/\(bz<=p->p+2<=bz+2 ^ (g+1))/\(p<bz->p+2<=b+2 ^ (g+1)):=by
 have h2:=hN.2;have e:2 ^ (62 - g)=2 ^ (62 - (g+1))*2:=by rw [<-Nat.pow_succ];congr 1;omega
 have e2:2 ^ (g+1+1)=2*(z1+1):=by rw [Nat.pow_succ,hz,Nat.mul_comm]
 refine ⟨⟨by omega,by rw [e];omega⟩,⟨by omega,by rw [e];omega⟩,by rw [hb,z17],?_,fun h=>by omega,fun h=>by omega⟩;rw [z43,z17,<-hb];unfold TREE;omega
theorem z45 (h k:Nat) (hN:Node h k) (w:World):Calls Tryz.prog 57 #[.int .u64 ((PLC h k:Nat):Int)] w fun e w'=>e=.returned (.tuple #[SPOT h k,.bool true])/\Below w.heap.size w w':=by
 have hp:=hN.lt;obtain ⟨p,hpe⟩:∃ p,p=PLC h k:=⟨_,rfl⟩
 rw [<-hpe] at hp ⊢;have HN:Aside (Node h k/\p=PLC h k/\p<9223372036854775807):=⟨hN,hpe,hp⟩
 have c1:=z1o 62 (by omega);rw [show (((2 ^ 62:Nat):Int))=4611686018427387904 by decide,show (((62:Nat):Int))=62 from rfl] at c1;have hd:¬ (9223372036854775806:Int)<(p:Int):=by omega
 clear hN hpe hp;go_enter Tryz.func57,Tryz.ntmps57;go_wp2_with fail
 refine (c1 _).mono ?_;rintro e w' ⟨rfl,rfl⟩;clear c1;go_wp2;go_loopg [4,5,6] 62 (fun g s4 s5 s6 wx=>∃ b m:Nat,s4=.int .u64 (b:Int)/\s5=.int .i64 (g:Int)/\s6=.int .u64 (m:Int)/\Aside (wx=w.alloc (.cells #[.int .u8 0,.int .u64 0] 101)/\g<=62/\b=z01 (m*2 ^ g)/\Node g m/\b<=p/\p+2<=b+2 ^ (g+1)))
 case atStart=>exact ⟨0,0,rfl,rfl,rfl,rfl,by omega,by simp [z2f],⟨by omega,by simp⟩,by omega,by have:=HN.out.2.2;omega⟩
 case round=>
  obtain ⟨b,m,rfl,rfl,rfl,A⟩:=hrel;obtain ⟨hw,hg,hb,hNm,hbp,hpu⟩:=A.out;clear A;have hpl:2 ^ gk<=2 ^ 62:=Nat.pow_le_pow_right (by decide) hg;obtain ⟨z1,hz⟩:∃ z1,2 ^ gk=z1+1:=⟨2 ^ gk - 1,by have:=Nat.two_pow_pos gk;omega⟩
  have c1:=z1o gk (by omega);rw [hz] at c1 hpl;have hbl:b<9223372036854775807:=by have:=HN.out.2.2;omega
  obtain ⟨u,hu⟩:∃ u,2*z1=u:=⟨_,rfl⟩
  obtain ⟨bu,hbu⟩:∃ bu,b+u=bu:=⟨_,rfl⟩
  have e1:IntKind.u64.wrap (((z1+1:Nat):Int) - 1)=(z1:Int):=zgZ rfl (by omega);have e1':IntKind.u64.wrap (z1:Int)=(z1:Int):=by rw [z0b];omega
  rw [show ((z1+1:Nat):Int)=(z1:Int)+1 by omega] at c1 e1;have e2:IntKind.u64.wrap (2*(z1:Int))=(u:Int):=zd9 hu (by omega);have e3:IntKind.u64.wrap ((b:Int)+(u:Int))=(bu:Int):=zd8 hbu (by omega);by_cases hT:p=bu
  ·have hmk:h=gk/\k=m:=by
    refine HN.out.1.one hNm ?_;rw [<-HN.out.2.1];unfold PLC;rw [hz] at hb;rw [Nat.pow_succ,hz,<-hb];omega
   obtain ⟨rfl,rfl⟩:=hmk;have hT':((p:Int) == (bu:Int))=true:=by simp;omega
   have hh:(h:Int) % 256=(h:Int):=by omega
   clear hg hb hNm hbp hpu HN hpl hbl hz hu hbu hT;subst hw;go_wp2_with fail
   refine (c1 _).mono ?_;rintro e w' ⟨rfl,rfl⟩;clear c1;go_wp2;refine bodyPost_ret (v:=.tuple #[SPOT h k,.bool true]) ?_ rfl ⟨rfl,(Below.refl _ _).alloc (Nat.le_refl _) _⟩;simp [results,Tryz.f57,go_sem]
  ·have hT':((p:Int) == (bu:Int))=false:=by simp;omega
   have h1:1<=gk:=by
    rcases Nat.eq_zero_or_pos gk with h0 | h0
    ·subst h0
     simp at hz;omega
    ·exact h0
   obtain ⟨g,rfl⟩:∃ g,gk=g+1:=⟨gk - 1,by omega⟩
   have hm62:=hNm.index_lt;obtain ⟨bz,hbz⟩:∃ bz,b+z1=bz:=⟨_,rfl⟩
   obtain ⟨m2,hm2⟩:∃ m2,2*m=m2:=⟨_,rfl⟩
   obtain ⟨m3,hm3⟩:∃ m3,m2+1=m3:=⟨_,rfl⟩
   have RR:=zeC hg hNm hb hbp hpu hz hbz (by omega);rw [hm2,hm3] at RR;have e4:IntKind.u64.wrap (2*(m:Int))=(m2:Int):=zd9 hm2 (by omega);have e5:IntKind.u64.wrap ((u:Int) / 2)=(z1:Int):=zg0 hu (by omega);have e5':(u:Int) / 2=(z1:Int):=zeB hu;have e6:wrap64 (g:Int)=(g:Int):=by unfold wrap64;omega
   have e7:IntKind.u64.wrap ((b:Int)+(z1:Int))=(bz:Int):=zd8 hbz (by omega);have e8:IntKind.u64.wrap ((m2:Int)+1)=(m3:Int):=zgY hm3 (by omega);have R:Aside (wr=w.alloc (.cells #[.int .u8 0,.int .u64 0] 101)/\g+1<=62/\b<=p/\Node g m2/\Node g m3/\b=z01 (m2*2 ^ g)/\bz=z01 (m3*2 ^ g)/\(bz<=p->p+2<=bz+2 ^ (g+1))/\(p<bz->p+2<=b+2 ^ (g+1))):=⟨hw,hg,hbp,RR⟩
   rw [show (((g+1:Nat):Int))=(g:Int)+1 by omega] at c1 ⊢;clear RR hw hg hNm hbp hb hpu hT hz hbz hbu hu HN hpl hbl h1 hm62 hm2 hm3 hd;by_cases hlt:bz<=p
   ·have hd3:(bz:Int)<=(p:Int):=by omega
    have R2:Aside (bz<=p):=hlt;clear hlt;go_wp2_with fail
    refine (c1 _).mono ?_;rintro e w' ⟨rfl,rfl⟩;clear c1;go_wp2;go_roundg g
    case measure=>omega
    case rel=>
     obtain ⟨r1,r2,r3,r4,r5,r6,r7,r8,r9⟩:=R.out;have s1:=R2.out;rw [e6];exact ⟨bz,m3,rfl,rfl,rfl,r1,by omega,r7,r5,s1,r8 s1⟩
   ·have hd3:¬ (bz:Int)<=(p:Int):=by omega
    have R2:Aside (p<bz):=by unfold Aside;omega
    clear hlt;go_wp2_with fail
    refine (c1 _).mono ?_;rintro e w' ⟨rfl,rfl⟩;clear c1;go_wp2;go_roundg g
    case measure=>omega
    case rel=>
     obtain ⟨r1,r2,r3,r4,r5,r6,r7,r8,r9⟩:=R.out;have s1:=R2.out;rw [e6];exact ⟨b,m2,rfl,rfl,rfl,r1,by omega,r6,r4,r3,r9 s1⟩
def RefAt (p:Int) (h k:Nat) (ok:Bool):Prop:=∀ w,Calls Tryz.prog 57 #[.int .u64 p] w fun e w'=>e=.returned (.tuple #[SPOT h k,.bool ok])/\Below w.heap.size w w'
theorem RefAt.node {h k:Nat} (hN:Node h k):RefAt ((PLC h k:Nat):Int) h k true:=fun w=>z45 h k hN w
theorem RefAt.out {p:Int} (hp:9223372036854775807<=p):RefAt p 0 0 false:=fun w=>z9D p hp w
theorem z8v (h k:Nat) (t z y l a r:Int) (w:World) (hh:h<=62) (hm:wrap64 (h:Int)=(h:Int)) (hm2:IntKind.u64.wrap (h:Int)=(h:Int)) (ht:wrap64 (62 - (h:Int))=t) (hk:decide (y<=(k:Int))=false)
  (cy:∀ w,Calls Tryz.prog 71 #[.int .i64 t] w fun e w'=>e=.returned (.int .u64 y)/\w=w') (cz:∀ w,Calls Tryz.prog 71 #[.int .i64 (h:Int)] w fun e w'=>e=.returned (.int .u64 z)/\w=w')
  (e0:IntKind.u64.wrap ((k:Int)+1)=(k:Int)+1) (e1:IntKind.u64.wrap (IntKind.u64.wrap (((k:Int)+1)*z) - 1)=l) (ca:∀ w,Calls Tryz.prog 75 #[.int .u64 l] w fun e w'=>e=.returned (.tuple #[.int .u64 a,.bool true])/\w=w') (e2:IntKind.u64.wrap (a+(h:Int))=r):
  Calls Tryz.prog 45 #[SPOT h k] w fun e w'=>e=.returned (.tuple #[.int .u64 r,.bool true])/\Below w.heap.size w w':=by
 have hd:decide ((62:Int)<(h:Int))=false:=by simp;omega
 go_enter Tryz.func45,Tryz.ntmps45;go_wp2;have hc0:(w.alloc (.cells #[.int .u8 (h:Int),.int .u64 (k:Int)] 101)).cell? ⟨w.heap.size,0,none⟩=some (.int .u8 (h:Int)):=by simp
 have hc1:(w.alloc (.cells #[.int .u8 (h:Int),.int .u64 (k:Int)] 101)).cell? ⟨w.heap.size,1,none⟩=some (.int .u64 (k:Int)):=by simp
 have R2:Aside (Below w.heap.size w (w.alloc (.cells #[.int .u8 (h:Int),.int .u64 (k:Int)] 101))):=(Below.refl _ _).alloc (Nat.le_refl _) _;generalize w.alloc (.cells #[.int .u8 (h:Int),.int .u64 (k:Int)] 101)=W at *
 generalize hb:w.heap.size=b at *
 clear hh;go_quiet ((go_at_call 71;exact z0B (cy _)))
 have R3:Aside (Below b w (W.drewN nq)):=below_drewN R2.out nq;have hc0':(W.drewN nq).cell? ⟨b,0,none⟩=some (.int .u8 (h:Int)):=hc0;have hc1':(W.drewN nq).cell? ⟨b,1,none⟩=some (.int .u64 (k:Int)):=hc1;clear hc0 hc1 R2 cy;generalize W.drewN nq=W2 at *
 go_wp2;go_quiet (first | (go_at_call 71;exact z0B (cz _)) | (go_at_call 75;exact z0B (ca _)))
 go_wp2;go_ret2;exact ⟨rfl,by rw [hb];exact below_drewN R3.out _⟩
theorem z6d (p:Int) (h k k1:Nat) (r:Int) (w:World) (hh:((h:Int) == 62)=false) (e1:IntKind.u64.wrap ((k:Int)+1)=(k1:Int)) (ha:((k:Int) % 2 == 1)=false) (cs:RefAt p h k true)
  (cp:∀ w,Calls Tryz.prog 45 #[SPOT h k1] w fun e w'=>e=.returned (.tuple #[.int .u64 r,.bool true])/\Below w.heap.size w w'):
  Calls Tryz.prog 58 #[.int .u64 p] w fun e w'=>e=.returned (.tuple #[.int .u64 r,.bool true])/\Below w.heap.size w w':=by
 have cs:=cs w;go_enter Tryz.func58,Tryz.ntmps58;go_wp2_with fail
 refine cs.mono ?_;rintro e w1 ⟨rfl,hb⟩;clear cs;have R:Aside (Below w.heap.size w w1):=hb;clear hb;go_wp2_with fail
 refine (cp _).mono ?_;rintro e w2 ⟨rfl,hb2⟩;have R2:Aside (Below w.heap.size w w2):=(R.out.alloc R.out.size _).trans (hb2.mono (by have:=R.out.size;simp;omega));clear cp hb2 R;go_wp2;go_ret2;exact ⟨rfl,R2.out⟩
theorem z5F (p:Int) (h k k1:Nat) (r:Int) (w:World) (hh:((h:Int) == 62)=false) (e1:IntKind.u64.wrap ((k:Int) - 1)=(k1:Int)) (ha:((k:Int) % 2 == 1)=true) (cs:RefAt p h k true)
  (cp:∀ w,Calls Tryz.prog 45 #[SPOT h k1] w fun e w'=>e=.returned (.tuple #[.int .u64 r,.bool true])/\Below w.heap.size w w'):
  Calls Tryz.prog 58 #[.int .u64 p] w fun e w'=>e=.returned (.tuple #[.int .u64 r,.bool true])/\Below w.heap.size w w':=by
 have cs:=cs w;go_enter Tryz.func58,Tryz.ntmps58;go_wp2_with fail
 refine cs.mono ?_;rintro e w1 ⟨rfl,hb⟩;clear cs;have R:Aside (Below w.heap.size w w1):=hb;clear hb;go_wp2_with fail
 refine (cp _).mono ?_;rintro e w2 ⟨rfl,hb2⟩;have R2:Aside (Below w.heap.size w w2):=(R.out.alloc R.out.size _).trans (hb2.mono (by have:=R.out.size;simp;omega));clear cp hb2 R;go_wp2;go_ret2;exact ⟨rfl,R2.out⟩
theorem zaA (k:Nat):((k:Int) % 2 == 1)=decide (k % 2=1):=by
 rw [Bool.eq_iff_iff];simp;omega
theorem z3v (h k:Nat) (hN:Node h k) (w:World):Calls Tryz.prog 45 #[SPOT h k] w fun e w'=>e=.returned (.tuple #[.int .u64 ((PLC h k:Nat):Int),.bool true])/\Below w.heap.size w w':=by
 have h1:=hN.1;have h2:=hN.2;have h3:=hN.span;have h4:=hN.index_lt;have h5:=hN.lt;have h7:=z5A h k;have h8:=z6F h k;refine z8v h k ((62 - h:Nat):Int) ((2 ^ h:Nat):Int) ((2 ^ (62 - h):Nat):Int) (((k+1)*2 ^ h - 1:Nat):Int) ((z01 ((k+1)*2 ^ h - 1):Nat):Int) _ w h1 (by unfold wrap64;omega) (by rw [z0b];omega) (by unfold wrap64;omega) (by simp only [decide_eq_false_iff_not];omega) (fun w=>z1o _ (by omega) w) (fun w=>z1o _ (by omega) w) (by rw [z0b];omega) ?_ (fun w=>z9C _ (by omega) w) ?_
 ·rw [show (((k:Int)+1)*((2 ^ h:Nat):Int))=(((k+1)*2 ^ h:Nat):Int) by rw [Int.natCast_mul];rfl]
  generalize (k+1)*2 ^ h=x at *
  rw [z0b,z0b];omega
 ·rw [z0b]
  omega
theorem z7E (h k:Nat) (hN:Node h k) (hh:h<62) (w:World):Calls Tryz.prog 58 #[.int .u64 ((PLC h k:Nat):Int)] w fun e w'=>e=.returned (.tuple #[.int .u64 ((PLC h (SIB k):Nat):Int),.bool true])/\Below w.heap.size w w':=by
 have hs:=hN.sib hh;have hi:=hN.index_lt;by_cases hk:k % 2=1
 ·have e:SIB k=k - 1:=by unfold SIB;rw [if_pos hk]
  rw [e] at hs ⊢;exact z5F _ h k (k - 1) _ w (by simp;omega) (by rw [z0b];omega) (by rw [zaA,decide_eq_true hk]) (.node hN) (fun w=>z3v _ _ hs w)
 ·have e:SIB k=k+1:=by unfold SIB;rw [if_neg hk]
  rw [e] at hs ⊢;exact z6d _ h k (k+1) _ w (by simp;omega) (by rw [z0b];omega) (by rw [zaA,decide_eq_false hk]) (.node hN) (fun w=>z3v _ _ hs w)
end Go.Proofs.YthmnailmbgondaaGreatDoor
