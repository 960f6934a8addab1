/- ProofMakes: part 20. -/
import Derived.Test.YthmnailmbgondaaGreatDoorProofMakesP19
namespace Go.Proofs.YthmnailmbgondaaGreatDoor
open Go.RowKit
def z00 (l:List Int):List Value:=l.map (Value.int .u8)
theorem z0t (a b:List Int):z00 (a ++ b)=z00 a ++ z00 b:=by simp [z00]
theorem z0y (l:List Int) (i:Nat) (h:i<l.length):(z00 l)[i]?=some (.int .u8 (l.getD i 0)):=by
 simp [z00,h,List.getD_eq_getElem?_getD]
theorem z1p (l:List Int):∀ u∈z00 l,u.oneCell'=true:=fun u hu=>by
 simp [z00] at hu;obtain ⟨x,_,rfl⟩:=hu;rfl
theorem z1c:∃ i,Tryz.prog.info? 5=some i/\i.zero=some (.int .u8 0)/\i.size=1/\i.bytes=1:=by
 obtain ⟨i,hi,h⟩:=Option.map_eq_some_iff.1 z0Q;simp only [Prod.mk.injEq] at h;exact ⟨i,hi,h.1,h.2.1,h.2.2⟩
theorem z1m {ops:Array Oper} {rest:List Oper} {o:Oper} {a:Act} {Q:Exit->Act->World->Prop} (w:World) (hgd:o.guard=none) (s x:Operand)
  (ho:o.op=.call {callee:=.builtin .append,args:=#[s,x],argTypes:=#[102,102]})
  (base:Nat) (v:Value) (n:Nat) (xs:List Int) (hs:a.eval s=v) (hown:w.ownsRow base 5 1 v n (z00 xs))
  (b off m c:Nat) (l:List Int) (hx:a.eval x=.slice (some ⟨b,off,none⟩) m c) (hB:Bytes w (some ⟨b,off,none⟩) m l)
  (hm:0<m) (hb:n+m<=140737488355328) (hbase:base<=w.heap.size)
  (h:∀ g cap w',w'.ownsRow base 5 1 (.slice (some ⟨g,0,none⟩) (n+m) cap) (n+m) (z00 (xs ++ l))->w.grownBy w' v.ownBlock->g<w'.heap.size->wpList Tryz.prog ops Q rest (a.put o.dst (.slice (some ⟨g,0,none⟩) (n+m) cap)) w'):wpList Tryz.prog ops Q (o :: rest) a w:=by
 obtain ⟨i,hi,hz,hs1,hby⟩:=z1c;obtain ⟨b',off',e,_,hc⟩:=hB.2.1 hm;simp only [Option.some.injEq,Addr.mk.injEq] at e;obtain ⟨rfl,rfl,_⟩:=e;refine wpList_append_lies w hgd s x 102 ho base 5 i (.int .u8 0) 1 1 Tryz.underlying102 hi hz hs1 hby rfl (by decide) v n (z00 xs) hs hown ⟨b,off,none⟩ m c (z00 l) hx (by simp [z00,hB.1]) ?_ (z1p l) hm (by simp only [maxLen];omega) (by omega) hbase w.heap.size rfl ?_
 ·intro j u hj
  have hjl:j<l.length:=by
   have:=(List.getElem?_eq_some_iff.1 hj).1;simpa [z00] using this
  rw [z0y l j hjl] at hj;rw [z0O,hc j (by rw [<-hB.1];exact hjl)];exact hj
 ·intro g cap w' h1 h2 _ h4
  rw [<-z0t] at h1;exact h g cap w' h1 h2 h4
theorem z1v (w:World) (row:Option Nat):w.grownBy w row:=⟨rfl,rfl,rfl,Nat.le_refl _,fun _ _ _=>rfl⟩
theorem z5E {ops:Array Oper} {rest:List Oper} {o:Oper} {a:Act} {Q:Exit->Act->World->Prop} (w:World) (hgd:o.guard=none) (s x:Operand)
   (ho:o.op=.call {callee:=.builtin .append,args:=#[s,x],argTypes:=#[102,102]})
   (base:Nat) (v:Value) (n:Nat) (xs:List Int) (hs:a.eval s=v) (hown:w.ownsRow base 5 1 v n (z00 xs))
   (ao:Option Addr) (c:Nat) (hx:a.eval x=.slice ao 0 c) (hc:ao=none->c=0) (hn:n<=140737488355328) (hbase:base<=w.heap.size)
   (h:∀ a' c' w',w'.ownsRow base 5 1 (.slice a' n c') n (z00 xs)->w.grownBy w' v.ownBlock->wpList Tryz.prog ops Q rest (a.put o.dst (.slice a' n c')) w'):wpList Tryz.prog ops Q (o :: rest) a w:=by
 obtain ⟨i,hi,hz,hs1,hby⟩:=z1c
 have form:∀ (v':Value) (w':World),w'.ownsRow base 5 1 v' n (z00 xs)->∃ a' c',v'=.slice a' n c':=fun v' w' h=>by
   rcases h.2 with ⟨rfl,rfl⟩ | ⟨g,cap,cur,rfl,_⟩
   ·exact ⟨none,0,rfl⟩
   ·exact ⟨_,cap,rfl⟩
 cases ao with
 | none=>
   obtain rfl:=hc rfl;refine wpList_append_own_none hgd s x 102 ho base 5 i 1 Tryz.underlying102 hi v n (z00 xs) hs hown hx ?_;obtain ⟨a',c',rfl⟩:=form v w hown;exact h a' c' w hown (z1v _ _)
 | some ad=>
   refine wpList_append_own w hgd s x 102 ho base 5 i (.int .u8 0) 1 1 Tryz.underlying102 hi hz hs1 hby rfl (by decide) v n (z00 xs) hs hown ad 0 c [] hx rfl (fun j u hj=>by simp at hj) (fun u hu=>by simp at hu) (by simp only [maxLen];omega) (by omega) hbase ?_;intro v' w' h1 h2 _;simp only [Nat.add_zero,List.append_nil] at h1;obtain ⟨a',c',rfl⟩:=form v' w' h1;exact h a' c' w' h1 h2
theorem z2A {w:World} {base g n cap:Nat} {l:List Int} (h:w.ownsRow base 5 1 (.slice (some ⟨g,0,none⟩) n cap) n (z00 l)) (hg:g<w.heap.size) (hl:∀ x∈l,0<=x/\x<=255):Bytes w (some ⟨g,0,none⟩) n l:=by
 have hlen:l.length=n:=by have:=h.1;simpa [z00] using this
 refine ⟨hlen,fun _=>⟨g,0,rfl,hg,fun i hi=>?_⟩,hl⟩;rw [Nat.zero_add,h.cellAt i (by omega),z0y l i (by omega)]
theorem z7q (w:World) (base:Nat) (hb:base<=w.heap.size):(w.alloc (.cells #[] 5)).ownsRow base 5 1 (.slice (some ⟨w.heap.size,0,none⟩) 0 0) 0 (z00 []):=
 World.ownsRow_lit w #[] 0 hb (by simp [maxLen]) rfl
theorem z3p (w:World) (n:Nat) (f:Nat->Int) (l:List Int) (hl:l.length=n) (hf:∀ i,i<n->f i=l.getD i 0) (hr:∀ x∈l,0<=x/\x<=255):Bytes (w.alloc (.cells (BARR n f) 5)) (some ⟨w.heap.size,0,none⟩) n l:=by
 refine ⟨hl,fun _=>⟨w.heap.size,0,rfl,by simp,fun i hi=>?_⟩,hr⟩;rw [Nat.zero_add,World.cell?_alloc_at _ _ _ _ rfl,z1I n f i hi,hf i hi]
theorem z1z {w:World} {base n c:Nat} {a:Option Addr} {l:List Int} (h:w.ownsRow base 5 1 (.slice a n c) n (z00 l)) (hl:∀ x∈l,0<=x/\x<=255):Bytes w a n l/\n<=c:=by
 rcases h.2 with ⟨hv,hn⟩ | ⟨g,cap,cur,hv,_,hg,hc,_⟩
 ·simp only [Value.slice.injEq] at hv
  obtain ⟨rfl,rfl,rfl⟩:=hv;have:l=[]:=by have:=h.1;simpa [z00] using this
  subst this;exact ⟨⟨rfl,fun h=>by omega,fun x hx=>by simp at hx⟩,Nat.le_refl _⟩
 ·simp only [Value.slice.injEq] at hv
  obtain ⟨rfl,_,rfl⟩:=hv;exact ⟨z2A h (Array.getElem?_eq_some_iff.1 hg).1 hl,hc⟩
theorem z56 {ops:Array Oper} {rest:List Oper} {o:Oper} {a:Act} {Q:Exit->Act->World->Prop} (w:World) (hgd:o.guard=none) (s x:Operand)
  (ho:o.op=.call {callee:=.builtin .append,args:=#[s,x],argTypes:=#[102,102]})
  (base:Nat) (v:Value) (n:Nat) (xs:List Int) (hs:a.eval s=v) (hown:w.ownsRow base 5 1 v n (z00 xs))
  (ao:Option Addr) (m c:Nat) (l:List Int) (hx:a.eval x=.slice ao m c) (hB:Bytes w ao m l) (hc:ao=none->c=0)
  (N:Nat) (L:List Int) (hN:n+m=N) (hL:xs ++ l=L) (hb:N<=140737488355328) (hbase:base<=w.heap.size)
  (h:∀ a' c' w',w'.ownsRow base 5 1 (.slice a' N c') N (z00 L)->w.grownBy w' v.ownBlock->wpList Tryz.prog ops Q rest (a.put o.dst (.slice a' N c')) w'):wpList Tryz.prog ops Q (o :: rest) a w:=by
 subst hN hL;rcases Nat.eq_zero_or_pos m with hm | hm
 ·subst hm
  have hl:l=[]:=by have:=hB.1;simpa using this
  subst hl;refine z5E w hgd s x ho base v n xs hs hown ao c hx hc (by omega) hbase ?_;simpa using h
 ·obtain ⟨b,off,rfl,_,_⟩:=hB.2.1 hm
  refine z1m w hgd s x ho base v n xs hs hown b off m c l hx hB hm hb hbase ?_;intro g cap w' h1 h2 _;exact h _ cap w' h1 h2
def z1n (X j:Nat):List Int:=(List.range j).map fun i=>((X / 128 ^ i % 128+128:Nat):Int)
theorem z9H (X j:Nat):z1n X (j+1)=z1n X j ++ [((X / 128 ^ j % 128+128:Nat):Int)]:=by simp [z1n,List.range_succ]
theorem z7R (X j:Nat):(z1n X j).length=j:=by simp [z1n]
def TOPG (X:Nat):Nat->Nat
 | 0=>0
 | k+1=>if X<128 then 0 else TOPG (X / 128) k+1
def NTOP (X:Nat):Nat:=TOPG X 9
def z15 (X:Nat):List Int:=z1n X (NTOP X) ++ [((X / 128 ^ NTOP X:Nat):Int)]
theorem z4N (X:Nat):(z15 X).length=NTOP X+1:=by simp [z15,z7R]
theorem zaz:∀ (k X:Nat),TOPG X k<=k
 | 0,_=>Nat.le_refl _
 | k + 1,X=>by
   unfold TOPG;split
   ·omega
   ·have:=zaz k (X / 128)
    omega
theorem z6i:∀ (k X j:Nat),j<TOPG X k->128<=X / 128 ^ j
 | 0,_,_,h=>by simp [TOPG] at h
 | k + 1,X,j,h=>by
   unfold TOPG at h;split at h
   ·omega
   ·cases j with
    | zero=>simp;omega
    | succ j=>
      have:=z6i k (X / 128) j (by omega);rw [Nat.div_div_eq_div_mul,Nat.mul_comm,<-Nat.pow_succ] at this;exact this
theorem zaA:∀ (k X:Nat),X<128 ^ (k+1)->X / 128 ^ TOPG X k<128
 | 0,X,h=>by simpa [TOPG] using h
 | k + 1,X,h=>by
   unfold TOPG;split
   ·simpa using ‹X<128›
   ·have:=zaA k (X / 128) (by rw [Nat.pow_succ] at h;exact Nat.div_lt_of_lt_mul (by omega))
    rw [Nat.div_div_eq_div_mul,Nat.mul_comm,<-Nat.pow_succ] at this;exact this
theorem zaB (X:Nat):NTOP X<=9:=zaz 9 X
theorem zaC {X:Nat} (hX:X<2 ^ 64):X / 128 ^ NTOP X<128:=zaA 9 X (Nat.lt_of_lt_of_le hX (by decide))
theorem zgh {X:Nat} (hX:X<2 ^ 64) {j:Nat} (hj:∀ i,i<j->128<=X / 128 ^ i) (h:X / 128 ^ j<128):NTOP X=j:=by
 rcases Nat.lt_trichotomy (NTOP X) j with h1 | h1 | h1
 ·have:=hj _ h1
  have:=zaC hX;omega
 ·exact h1
 ·have:=z6i 9 X j h1
  omega
theorem zeM (X:Nat) {i j:Nat} (h:i<=j):X / 128 ^ j<=X / 128 ^ i:=Nat.div_le_div_left (Nat.pow_le_pow_right (by decide) h) (Nat.pow_pos (by decide))
theorem z8F (X j:Nat):∀ x∈z1n X j,0<=x/\x<=255:=fun x hx=>by
 simp only [z1n,List.mem_map] at hx;obtain ⟨i,_,rfl⟩:=hx;omega
theorem z5m {X:Nat} (hX:X<2 ^ 64):∀ x∈z15 X,0<=x/\x<=255:=fun x hx=>by
 simp only [z15,List.mem_append,List.mem_singleton] at hx;rcases hx with hx | rfl
 ·exact z8F X _ x hx
 ·have:=zaC hX
  generalize X / 128 ^ NTOP X=y at *
  omega
theorem z7w (w:World) (v:Int) (h0:0<=v) (h1:v<=255):Bytes (w.alloc (.cells #[.int .u8 v] 5)) (some ⟨w.heap.size,0,none⟩) 1 [v]:=by
 refine ⟨rfl,fun _=>⟨w.heap.size,0,rfl,by simp,fun i hi=>?_⟩,fun x hx=>by simp at hx;omega⟩;obtain rfl:i=0:=by omega
 rw [Nat.zero_add,World.cell?_alloc_at _ _ _ _ rfl];rfl
theorem zeN (w:World) (base:Nat) (hb:base<=w.heap.size) (cur:Array Value) (cap:Nat) (hm:cap<=1000) (hs:cur.size=cap):(w.alloc (.cells cur 5)).ownsRow base 5 1 (.slice (some ⟨w.heap.size,0,none⟩) 0 cap) 0 (z00 []):=
 World.ownsRow_made w cur cap hb (by simp only [maxLen];omega) (by omega)
set_option maxHeartbeats 1000000 in
theorem z8G (X:Nat) (hX:X<2 ^ 64) (w:World):Calls Tryz.prog 112 #[.int .u64 (X:Int)] w fun e w'=>
  ∃ g cap,e=.returned (.slice (some ⟨g,0,none⟩) (NTOP X+1) cap)/\w'.ownsRow w.heap.size 5 1 (.slice (some ⟨g,0,none⟩) (NTOP X+1) cap) (NTOP X+1) (z00 (z15 X))/\g<w'.heap.size/\Below w.heap.size w w':=by
 have hmk:∀ w:World,(Instr.makeSlice 102 (.int .i64 0) (.int .i64 10)).run Tryz.prog w=.ok (.slice (some ⟨w.heap.size,0,none⟩) 0 10) (w.alloc (.cells #[.int .u8 0,.int .u8 0,.int .u8 0,.int .u8 0,.int .u8 0,.int .u8 0,.int .u8 0,.int .u8 0,.int .u8 0,.int .u8 0] 5)):=fun _=>by kernel_rfl
 have HX:Aside (X<2 ^ 64):=hX;clear hX;go_enter Tryz.func112,Tryz.ntmps112;go_wp2;go_loopg [0,3] 10 (fun g s0 s3 wx=>∃ (j x:Nat),j+g=10/\Aside (x=X / 128 ^ j/\(∀ i,i<j->128<=X / 128 ^ i)/\wx.ownsRow w.heap.size 5 1 s3 j (z00 (z1n X j))/\Below w.heap.size w wx)/\s0=.int .u64 (x:Int))
 case atStart=>exact ⟨0,X,by omega,⟨by simp,fun i hi=>by omega,zeN w _ (Nat.le_refl _) _ 10 (by decide) rfl,(Below.refl _ _).alloc (Nat.le_refl _) _⟩,rfl⟩
 case round=>
  obtain ⟨j,x,hjg,A,rfl⟩:=hrel;by_cases hx:128<=(x:Int)
  ·go_wp2_with (at_builtin;refine z1m _ rfl (.tmp 9) (.tmp 14) rfl w.heap.size u3 j (z1n X j) rfl (A.out.2.2.1.alloc _) wr.heap.size 0 1 1 [(x:Int) % 128+128] rfl (z7w wr _ (by omega) (by omega)) (by omega) (by omega) (by have:=A.out.2.2.2.size;simp;omega) ?_;intro g cap w1 hown hgrow hg)
   have R:(x / 128=X / 128 ^ (j+1))/\(∀ i,i<j+1->128<=X / 128 ^ i)/\w1.ownsRow w.heap.size 5 1 (.slice (some ⟨g,0,none⟩) (j+1) cap) (j+1) (z00 (z1n X (j+1)))/\Below w.heap.size w w1:=by
    obtain ⟨hxe,hall,hown0,hb⟩:=A.out;refine ⟨by rw [hxe,Nat.div_div_eq_div_mul,<-Nat.pow_succ],fun i hi=>?_,?_,?_⟩
    ·by_cases e:i=j
     ·rw [e,<-hxe];omega
     ·exact hall i (by omega)
    ·rw [z9H,show ((X / 128 ^ j % 128+128:Nat):Int)=(x:Int) % 128+128 by rw [<-hxe];omega]
     exact hown
    ·exact (hb.alloc hb.size _).grown hgrow (by have:=hb.size;simp;omega) (fun k e=>(hown0.lt k e).1)
   have HR:Aside ((x / 128=X / 128 ^ (j+1))/\(∀ i,i<j+1->128<=X / 128 ^ i)/\w1.ownsRow w.heap.size 5 1 (.slice (some ⟨g,0,none⟩) (j+1) cap) (j+1) (z00 (z1n X (j+1)))/\Below w.heap.size w w1):=R
   have hj9:j<9:=by
    obtain ⟨hxe,hall,_,_⟩:=A.out;rcases Nat.lt_or_ge j 9 with h | h
    ·exact h
    ·have h1:=zeM X h
     have h2:X / 128 ^ 9<2:=Nat.div_lt_of_lt_mul (Nat.lt_of_lt_of_le HX.out (by decide));omega
   clear hown hgrow hg R A;go_wp2;go_roundg (gk - 1)
   case measure=>omega
   case rel=>exact ⟨j+1,x / 128,by omega,HR,by first | rfl | go_num⟩
  ·go_wp2_with (at_builtin;refine z1m _ rfl (.tmp 16) (.tmp 19) rfl w.heap.size u3 j (z1n X j) rfl (A.out.2.2.1.alloc _) wr.heap.size 0 1 1 [(x:Int)] rfl (z7w wr _ (by omega) (by omega)) (by omega) (by omega) (by have:=A.out.2.2.2.size;simp;omega) ?_;intro g cap w1 hown hgrow hg)
   obtain ⟨hxe,hall,hown0,hb⟩:=A.out;have hN:NTOP X=j:=zgh HX.out hall (by rw [<-hxe];omega)
   have R:w1.ownsRow w.heap.size 5 1 (.slice (some ⟨g,0,none⟩) (NTOP X+1) cap) (NTOP X+1) (z00 (z15 X))/\g<w1.heap.size/\Below w.heap.size w w1:=by
    refine ⟨?_,hg,(hb.alloc hb.size _).grown hgrow (by have:=hb.size;simp;omega) (fun k e=>(hown0.lt k e).1)⟩;unfold z15;rw [hN,<-hxe];exact hown
   have HR:Aside (w1.ownsRow w.heap.size 5 1 (.slice (some ⟨g,0,none⟩) (NTOP X+1) cap) (NTOP X+1) (z00 (z15 X))/\g<w1.heap.size/\Below w.heap.size w w1):=R;have HN:Aside (NTOP X=j):=hN;clear hown hgrow hg R A hxe hall hown0 hb hN;go_wp2;go_ret;obtain ⟨h1,h2,h3⟩:=HR.out;refine ⟨g,cap,?_,h1,h2,h3⟩;rw [HN.out];rfl
end Go.Proofs.YthmnailmbgondaaGreatDoor
namespace Go.Proofs.YthmnailmbgondaaGreatDoor
abbrev Fit (a h b:Nat):Prop:=a % 2 ^ h=0/\a+2 ^ h<=b
theorem Fit.down {a h b:Nat} (f:Fit a (h+1) b):Fit a h b:=by
 have h1:2 ^ (h+1)=2 ^ h*2:=Nat.pow_succ 2 h;have h2:=f.2;refine ⟨?_,by omega⟩;have h3:=f.1;have h4:2 ^ h ∣ 2 ^ (h+1):=⟨2,h1⟩
 exact Nat.mod_eq_zero_of_dvd (Nat.dvd_trans h4 (Nat.dvd_of_mod_eq_zero h3))
theorem Fit.le {a g b:Nat}:∀ h,h<=g->Fit a g b->Fit a h b:=by
 intro h hg f;induction g with
 | zero => obtain rfl:h=0:=by omega
           exact f
 | succ g ih=>
   rcases Nat.lt_or_ge h (g+1) with h1 | h1
   ·exact ih (by omega) f.down
   ·obtain rfl:h=g+1:=by omega
    exact f
theorem Fit.zero {a b:Nat} (h:a<b):Fit a 0 b:=⟨Nat.mod_one a,by simp;omega⟩
def HTF:Nat->Nat->Nat->Nat
 | 0,_,_=>0
 | f+1,a,b=>if Fit a (f+1) b then f+1 else HTF f a b
def HT (a b:Nat):Nat:=HTF 62 a b
theorem zeO {a b:Nat} (hab:a<b):∀ f,¬ Fit a (f+1) b->HTF f a b<=f/\Fit a (HTF f a b) b/\¬ Fit a (HTF f a b+1) b:=by
 intro f;induction f with
 | zero=>intro h;exact ⟨Nat.le_refl _,Fit.zero hab,h⟩
 | succ f ih=>
   intro h;unfold HTF;split
   ·rename_i h1
    exact ⟨Nat.le_refl _,h1,h⟩
   ·rename_i h1
    have:=ih h1;exact ⟨by omega,this.2⟩
theorem z2Y {a b:Nat} (hab:a<b) (hb:b<=4611686018427387904):HT a b<=62/\Fit a (HT a b) b/\¬ Fit a (HT a b+1) b:=by
 refine zeO hab 62 ?_;intro h;have:=h.2;simp at this;omega
theorem z72 {a b h:Nat} (hab:a<b) (hb:b<=4611686018427387904) (h1:Fit a h b) (h2:¬ Fit a (h+1) b):h=HT a b:=by
 obtain ⟨_,a1,a2⟩:=z2Y hab hb;rcases Nat.lt_trichotomy h (HT a b) with c | c | c
 ·exact absurd (a1.le (h+1) (by omega)) h2
 ·exact c
 ·exact absurd (h1.le (HT a b+1) (by omega)) a2
def z48:Nat->Nat->Nat->List (Nat × Nat)
 | 0,_,_=>[]
 | f+1,a,b=>if a<b then (HT a b,a / 2 ^ HT a b) :: z48 f (a+2 ^ HT a b) b else []
def SPAN (a b:Nat):List (Nat × Nat):=z48 (b - a) a b
theorem zbH:∀ f g a b,b - a<=f->b - a<=g->z48 f a b=z48 g a b:=by
 intro f;induction f with
 | zero=>
   intro g a b h1 h2;cases g with
   | zero=>rfl
   | succ g=>simp [z48];omega
 | succ f ih=>
   intro g a b h1 h2;cases g with
   | zero=>simp [z48];omega
   | succ g=>
     unfold z48;have:=Nat.two_pow_pos (HT a b);rw [ih g (a+2 ^ HT a b) b (by omega) (by omega)]
theorem z1i {a b:Nat} (h:b<=a):SPAN a b=[]:=by
 unfold SPAN;rw [show b - a=0 by omega];rfl
theorem z1Q {a b:Nat} (h:a<b):SPAN a b=(HT a b,a / 2 ^ HT a b) :: SPAN (a+2 ^ HT a b) b:=by
 unfold SPAN;obtain ⟨f,hf⟩:∃ f,b - a=f+1:=⟨b - a - 1,by omega⟩
 have:=Nat.two_pow_pos (HT a b);rw [hf];show (if a<b then _ else _)=_;rw [if_pos h];congr 1
 exact zbH _ _ _ _ (by omega) (by omega)
def Tile:Nat->List (Nat × Nat)->Nat->Prop
 | a,[],b=>a=b
 | a,s :: l,b=>Node s.1 s.2/\s.2*2 ^ s.1=a/\Tile ((s.2+1)*2 ^ s.1) l b
abbrev Sibs (x y:Nat × Nat):Prop:=x.1=y.1/\x.2 % 2=0/\y.2=x.2+1
def Irr:List (Nat × Nat)->Prop
 | []=>True
 | x :: l=>(∀ y,l.head?=some y->¬ Sibs x y)/\Irr l
theorem Fit.node {a h b:Nat} (f:Fit a h b) (hh:h<=62) (hb:b<=4611686018427387904):Node h (a / 2 ^ h)/\a / 2 ^ h*2 ^ h=a/\(a / 2 ^ h+1)*2 ^ h=a+2 ^ h:=by
 have h1:a / 2 ^ h*2 ^ h=a:=Nat.div_mul_cancel (Nat.dvd_of_mod_eq_zero f.1);have h2:(a / 2 ^ h+1)*2 ^ h=a+2 ^ h:=by rw [Nat.add_mul,Nat.one_mul,h1]
 refine ⟨⟨hh,?_⟩,h1,h2⟩
 have h3:(a / 2 ^ h+1)*2 ^ h<=2 ^ (62 - h)*2 ^ h:=by
  rw [h2,<-Nat.pow_add,show 62 - h+h=62 by omega];have:=f.2;simp;omega
 exact Nat.le_of_mul_le_mul_right h3 (Nat.two_pow_pos h)
theorem z3I (h:Nat):2 ^ (h+1)=2*2 ^ h:=by rw [Nat.pow_succ,Nat.mul_comm]
theorem z3J {k h:Nat}:k*2 ^ h % 2 ^ (h+1)=0↔k % 2=0:=by
 rw [Nat.pow_succ,Nat.mul_comm (2 ^ h) 2,Nat.mul_mod_mul_right];have:=Nat.two_pow_pos h;constructor
 ·intro e
  rcases Nat.mul_eq_zero.1 e with e | e
  ·exact e
  ·omega
 ·intro e
  rw [e,Nat.zero_mul]
theorem zd9 {b:Nat} (hb:b<=4611686018427387904):∀ f a,b - a<=f->a<=b->Tile a (SPAN a b) b:=by
 intro f;induction f with
 | zero=>
   intro a h1 h2;rw [z1i (by omega)];exact (by omega:a=b)
 | succ f ih=>
   intro a h1 h2;rcases Nat.lt_or_ge a b with h | h
   ·obtain ⟨s1,s2,_⟩:=z2Y h hb
    obtain ⟨n1,n2,n3⟩:=s2.node s1 hb;rw [z1Q h];refine ⟨n1,n2,?_⟩;show Tile ((a / 2 ^ HT a b+1)*2 ^ HT a b) _ b;rw [n3];have:=Nat.two_pow_pos (HT a b);exact ih _ (by omega) s2.2
   ·rw [z1i h]
    exact (by omega:a=b)
theorem z2D {a b:Nat} (hb:b<=4611686018427387904) (h:a<=b):Tile a (SPAN a b) b:=zd9 hb (b - a) a (Nat.le_refl _) h
theorem Tile.bound {l:List (Nat × Nat)}:∀ {a b:Nat},Tile a l b->a<=b/\(l≠[]->a<b/\b<=4611686018427387904):=by
 induction l with
 | nil=>intro a b h;exact ⟨by have:a=b:=h;omega,fun h=>absurd rfl h⟩
 | cons s l ih=>
   intro a b ⟨h1,h2,h3⟩;have i:=ih h3;have:=Nat.two_pow_pos s.1;have e:(s.2+1)*2 ^ s.1=s.2*2 ^ s.1+2 ^ s.1:=by rw [Nat.add_mul,Nat.one_mul]
   refine ⟨by omega,fun _=>⟨by omega,?_⟩⟩;cases l with
   | nil=>
     have h4:(s.2+1)*2 ^ s.1=b:=h3;have:=h1.span;simp at this;omega
   | cons t l=>exact (i.2 (by simp)).2
theorem zda {l:List (Nat × Nat)}:∀ {a b:Nat},Tile a l b->Irr l->l=SPAN a b:=by
 induction l with
 | nil=>
   intro a b h _;have:a=b:=h;rw [z1i (by omega)]
 | cons s l ih=>
   intro a b ht hi;obtain ⟨h1,h2,h3⟩:=ht;obtain ⟨hab,hb⟩:=(Tile.bound (l:=s :: l) ⟨h1,h2,h3⟩).2 (by simp);have e:(s.2+1)*2 ^ s.1=s.2*2 ^ s.1+2 ^ s.1:=by rw [Nat.add_mul,Nat.one_mul]
   have hl:=ih h3 hi.2;have hle:=h3.bound.1;have hpos:=Nat.two_pow_pos s.1;have hf:Fit a s.1 b:=⟨by rw [<-h2];exact Nat.mul_mod_left _ _,by omega⟩
   have hn:¬ Fit a (s.1+1) b:=by
    intro hf2;have hk:s.2 % 2=0:=z3J.1 (by rw [h2];exact hf2.1);have p2:=z3I s.1;have hf3:=hf2.2;have hlt:(s.2+1)*2 ^ s.1<b:=by omega
    have hF1:Fit ((s.2+1)*2 ^ s.1) s.1 b:=⟨Nat.mul_mod_left _ _,by omega⟩
    have hF2:¬ Fit ((s.2+1)*2 ^ s.1) (s.1+1) b:=by
     intro h;have:=z3J.1 h.1;omega
    have hH:=z72 hlt hb hF1 hF2;rw [z1Q hlt,<-hH,Nat.mul_div_cancel _ hpos] at hl;refine hi.1 (s.1,s.2+1) (by rw [hl];rfl) ⟨rfl,hk,rfl⟩
   have hH:=z72 hab hb hf hn;rw [z1Q hab,<-hH,hl];congr 1
   ·rw [<-h2,Nat.mul_div_cancel _ hpos]
   ·rw [e,h2]
theorem Tile.append {l m:List (Nat × Nat)}:∀ {a b c:Nat},Tile a l b->Tile b m c->Tile a (l ++ m) c:=by
 induction l with
 | nil=>intro a b c h h2;have:a=b:=h;rw [this];exact h2
 | cons s l ih=>intro a b c ⟨h1,h2,h3⟩ h4;exact ⟨h1,h2,ih h3 h4⟩
theorem Tile.node {l:List (Nat × Nat)}:∀ {a b i h k:Nat},Tile a l b->l[i]?=some (h,k)->Node h k:=by
 induction l with
 | nil=>intro a b i h k _ e;simp at e
 | cons s l ih=>
   intro a b i h k ⟨h1,h2,h3⟩ e;cases i with
   | zero=>simp at e;subst e;exact h1
   | succ i=>exact ih h3 (by simpa using e)
theorem Tile.one {s:Nat × Nat} {a b:Nat}:Tile a [s] b↔Node s.1 s.2/\s.2*2 ^ s.1=a/\(s.2+1)*2 ^ s.1=b:=Iff.rfl
theorem z7x {b:Nat}:∀ g f a,b - a<=f->a % 2 ^ g=0->b - a<2 ^ g->b<=4611686018427387904->(SPAN a b).length<=g:=by
 intro g f;induction f generalizing g with
 | zero=>intro a h1 _ _ _;rw [z1i (by omega)];simp
 | succ f ih=>
   intro a h1 h2 h3 hb;rcases Nat.lt_or_ge a b with h | h
   ·obtain ⟨s1,s2,s3⟩:=z2Y h hb
    rw [z1Q h];have hp:=Nat.two_pow_pos (HT a b)
    have hlt:HT a b<g:=by
     rcases Nat.lt_or_ge (HT a b) g with c | c
     ·exact c
     ·have:=(s2.le g c).2
      omega
    have hd:a % 2 ^ (HT a b+1)=0:=by
     have h4:2 ^ (HT a b+1) ∣ 2 ^ g:=Nat.pow_dvd_pow 2 hlt;exact Nat.mod_eq_zero_of_dvd (Nat.dvd_trans h4 (Nat.dvd_of_mod_eq_zero h2))
    have hs:¬ a+2 ^ (HT a b+1)<=b:=fun c=>s3 ⟨hd,c⟩;rw [z3I] at hs;have:=ih (HT a b) (a+2 ^ HT a b) (by omega) (by rw [Nat.add_mod_right];exact s2.1) (by omega) hb;rw [List.length_cons];omega
   ·rw [z1i h];simp
theorem zgi {b:Nat}:∀ f g e a,b - a<=f->a % 2 ^ g=0->b - a<2 ^ e->g<=e->b<=4611686018427387904->(SPAN a b).length<=(e - g)+e:=by
 intro f;induction f with
 | zero=>intro g e a h1 _ _ _ _;rw [z1i (by omega)];simp
 | succ f ih=>
   intro g e a h1 h2 h3 hge hb;rcases Nat.lt_or_ge a b with h | h
   ·obtain ⟨s1,s2,s3⟩:=z2Y h hb
    rw [z1Q h,List.length_cons];have hp:=Nat.two_pow_pos (HT a b)
    have hlt:HT a b<e:=by
     rcases Nat.lt_or_ge (HT a b) e with c | c
     ·exact c
     ·have:=(s2.le e c).2
      omega
    by_cases hd:a % 2 ^ (HT a b+1)=0
    ·have hs:¬ a+2 ^ (HT a b+1)<=b:=fun c=>s3 ⟨hd,c⟩
     rw [z3I] at hs;have:=z7x (HT a b) f (a+2 ^ HT a b) (by omega) (by rw [Nat.add_mod_right];exact s2.1) (by omega) hb;omega
    ·have hg:g<=HT a b:=by
      rcases Nat.lt_or_ge (HT a b) g with c | c
      ·have h4:2 ^ (HT a b+1) ∣ 2 ^ g:=Nat.pow_dvd_pow 2 c
       exact absurd (Nat.mod_eq_zero_of_dvd (Nat.dvd_trans h4 (Nat.dvd_of_mod_eq_zero h2))) hd
      ·exact c
     obtain ⟨n1,n2,n3⟩:=s2.node s1 hb
     have hodd:(a / 2 ^ HT a b+1) % 2=0:=by
      have:¬ a / 2 ^ HT a b % 2=0:=fun c=>hd (by have:=z3J (h:=HT a b).2 c;rw [n2] at this;exact this);omega
     have:=ih (HT a b+1) e (a+2 ^ HT a b) (by omega) (by rw [<-n3];exact z3J.2 hodd) (by omega) (by omega) hb;omega
   ·rw [z1i h];simp
theorem z1Y {a b:Nat} (hb:b<=4611686018427387904):(SPAN a b).length<=124:=by
 rcases Nat.eq_zero_or_pos a with h | h
 ·subst h
  have:=z7x (b:=b) 63 b 0 (by omega) (by simp) (by simp;omega) hb;omega
 ·exact zgi (b:=b) b 0 62 a (by omega) (by simp [Nat.mod_one]) (by simp;omega) (by omega) hb
theorem z49 {n:Nat} (h:PC n=0):n=0:=by
 induction n using Nat.strongRecOn with
 | _ n ih=>
   by_cases h0:n=0
   ·exact h0
   ·rw [z0E] at h
    have:=ih (n / 2) (by omega) (by omega);omega
theorem z8H (n a b:Nat) (hab:a<=b):n / 2 ^ a=n / 2 ^ b*2 ^ (b - a)+n / 2 ^ a % 2 ^ (b - a)/\PC (n / 2 ^ a)=PC (n / 2 ^ b)+PC (n / 2 ^ a % 2 ^ (b - a)):=by
 have e:n / 2 ^ b=n / 2 ^ a / 2 ^ (b - a):=by rw [Nat.div_div_eq_div_mul,<-Nat.pow_add,show a+(b - a)=b by omega]
 have h1:n / 2 ^ a=n / 2 ^ b*2 ^ (b - a)+n / 2 ^ a % 2 ^ (b - a):=by
  rw [e,Nat.mul_comm];exact (Nat.div_add_mod _ _).symm
 refine ⟨h1,?_⟩;have h2:=z4G (b - a) (n / 2 ^ b) (n / 2 ^ a % 2 ^ (b - a)) (Nat.mod_lt _ (Nat.two_pow_pos _));rw [<-h1] at h2;exact h2
theorem zaD (n:Nat) {a b:Nat} (hab:a<=b):PC (n / 2 ^ b)<=PC (n / 2 ^ a):=by
 have:=(z8H n a b hab).2;omega
theorem z8I (n:Nat) {a b:Nat} (hab:a<=b) (h:PC (n / 2 ^ a)=PC (n / 2 ^ b)):n / 2 ^ a*2 ^ a=n / 2 ^ b*2 ^ b:=by
 obtain ⟨h1,h2⟩:=z8H n a b hab;have h3:n / 2 ^ a % 2 ^ (b - a)=0:=z49 (by omega);rw [h3,Nat.add_zero] at h1;rw [h1,Nat.mul_assoc,<-Nat.pow_add,show b - a+a=b by omega]
theorem zeP {n:Nat} (hn:n<2 ^ 64):∀ h,h<=64->∀ i,i<PC (n / 2 ^ h)->∃ g,h<=g/\g<64/\(HS h n)[i]?=some g/\n / 2 ^ g % 2=1/\i=PC (n / 2 ^ (g+1)):=by
 have key:∀ d h,h+d=64->∀ i,i<PC (n / 2 ^ h)->∃ g,h<=g/\g<64/\(HS h n)[i]?=some g/\n / 2 ^ g % 2=1/\i=PC (n / 2 ^ (g+1)):=by
  intro d;induction d with
  | zero=>
    intro h e i hi;obtain rfl:h=64:=by omega
    rw [Nat.div_eq_of_lt hn,z1a] at hi;omega
  | succ d ih=>
    intro h e i hi;have hl:=z2C hn (h+1) (by omega);have hs:PC (n / 2 ^ h)=n / 2 ^ h % 2+PC (n / 2 ^ (h+1)):=by rw [z0E,z0r]
    rcases Nat.lt_or_ge i (PC (n / 2 ^ (h+1))) with h1 | h1
    ·obtain ⟨g,a,b,c,r⟩:=ih (h+1) (by omega) i h1
     refine ⟨g,by omega,b,?_,r⟩;by_cases hb:n / 2 ^ h % 2=1
     ·rw [z2B (by omega) hb,List.getElem?_append_left (by omega)]
      exact c
     ·rw [z2u (by omega) hb]
      exact c
    ·have hb:n / 2 ^ h % 2=1:=by omega
     have hi':i=PC (n / 2 ^ (h+1)):=by omega
     refine ⟨h,Nat.le_refl _,by omega,?_,hb,hi'⟩;rw [z2B (by omega) hb,List.getElem?_append_right (by omega),hl,hi'];simp
 intro h hh;exact key (64 - h) h (by omega)
def HGT (n i:Nat):Nat:=(HS 0 n).getD i 0
def z7Z (n:Nat):Nat->Nat
 | 0=>0
 | i+1=>n / 2 ^ HGT n i*2 ^ HGT n i
theorem z2i {n i:Nat} (hn:n<2 ^ 64) (hi:i<PC n):(HS 0 n)[i]?=some (HGT n i)/\n / 2 ^ HGT n i % 2=1/\i=PC (n / 2 ^ (HGT n i+1)):=by
 obtain ⟨g,_,_,c,d,e⟩:=zeP hn 0 (by omega) i (by rw [Nat.pow_zero,Nat.div_one];exact hi);have hg:HGT n i=g:=by unfold HGT;rw [List.getD_eq_getElem?_getD,c];rfl
 rw [hg];exact ⟨c,d,e⟩
def KGT (n i:Nat):Nat:=2*(n / 2 ^ (HGT n i+1))
theorem zeQ {n i:Nat} (hn:n<2 ^ 64) (hi:i<PC n):(z0T n).getD i 0=PLC (HGT n i) (KGT n i):=by
 unfold z0T;rw [List.getD_eq_getElem?_getD,List.getElem?_map,(z2i hn hi).1];rfl
theorem z7y {n i:Nat} (hn:n<=4611686018427387904) (hi:i<PC n):Node (HGT n i) (KGT n i):=Node.peak hn (z2i (by omega) hi).2.1
theorem z5I {n i:Nat} (hn:n<2 ^ 64) (hi:i<PC n):PC (n / 2 ^ HGT n i)=i+1:=by
 obtain ⟨_,h2,h3⟩:=z2i hn hi;rw [z0E,<-z0r];omega
theorem z7z {n i:Nat} (hn:n<2 ^ 64) (hi:i+1<PC n):HGT n (i+1)<HGT n i:=by
 have h1:=z5I hn (i:=i) (by omega);have h2:=(z2i hn hi).2.2;rcases Nat.lt_or_ge (HGT n (i+1)) (HGT n i) with h | h
 ·exact h
 ·have h3:=zaD n (a:=HGT n i+1) (b:=HGT n (i+1)+1) (by omega)
  have h4:=(z2i hn (i:=i) (by omega)).2.2;omega
theorem zbI {n i:Nat} (hn:n<2 ^ 64) (hi:i<PC n):KGT n i*2 ^ HGT n i=z7Z n i:=by
 have hk:KGT n i*2 ^ HGT n i=n / 2 ^ (HGT n i+1)*2 ^ (HGT n i+1):=z17 _ _;have h2:=(z2i hn hi).2.2;cases i with
 | zero=>
   rw [hk,z49 h2.symm,Nat.zero_mul];rfl
 | succ i=>
   have h1:=z5I hn (i:=i) (by omega);have h3:=z7z hn hi;rw [hk];exact z8I n (by omega) (by omega)
theorem zeR {n i:Nat} (hn:n<2 ^ 64) (hi:i<PC n):(KGT n i+1)*2 ^ HGT n i=z7Z n (i+1):=by
 have:=z4L (z2i hn hi).2.1;show (2*(n / 2 ^ (HGT n i+1))+1)*2 ^ HGT n i=n / 2 ^ HGT n i*2 ^ HGT n i;rw [<-this]
theorem zdb {n:Nat} (hn:n<2 ^ 64):z7Z n (PC n)=n:=by
 cases h:PC n with
 | zero=>
   rw [z49 h];rfl
 | succ i=>
   have h1:=z5I hn (i:=i) (by omega);have h2:=z8I n (a:=0) (b:=HGT n i) (by omega) (by rw [Nat.pow_zero,Nat.div_one];omega);rw [Nat.pow_zero,Nat.div_one,Nat.mul_one] at h2;exact h2.symm
def PKS (n j c:Nat):List (Nat × Nat):=(List.range' j c).map fun i=>(HGT n i,KGT n i)
theorem z8J (n j c:Nat):PKS n j (c+1)=(HGT n j,KGT n j) :: PKS n (j+1) c:=by simp [PKS,List.range'_succ]
theorem zhg {n c i:Nat} (h:i<c):(PKS n 0 c)[i]?=some (HGT n i,KGT n i):=by
 simp [PKS,h]
theorem zeS {n:Nat} (hn:n<=4611686018427387904):∀ c j,j+c=PC n->Tile (z7Z n j) (PKS n j c) n/\Irr (PKS n j c):=by
 intro c;induction c with
 | zero=>
   intro j e;obtain rfl:j=PC n:=by omega
   exact ⟨zdb (by omega),trivial⟩
 | succ c ih=>
   intro j e;obtain ⟨i1,i2⟩:=ih (j+1) (by omega);rw [z8J];refine ⟨⟨z7y hn (by omega),zbI (by omega) (by omega),?_⟩,?_,i2⟩
   ·show Tile ((KGT n j+1)*2 ^ HGT n j) _ n
    rw [zeR (by omega) (by omega)];exact i1
   ·intro y hy ⟨h1,_,_⟩
    cases c with
    | zero=>simp [PKS] at hy
    | succ c=>
      rw [z8J] at hy;simp at hy;subst hy;have:=z7z (n:=n) (i:=j) (by omega) (by omega);dsimp only at h1;omega
theorem z6j {n:Nat} (hn:n<=4611686018427387904):SPAN 0 n=PKS n 0 (PC n):=by
 obtain ⟨h1,h2⟩:=zeS hn (PC n) 0 (by omega);exact (zda h1 h2).symm
theorem z23 {n:Nat} (hn:n<=4611686018427387904):(SPAN 0 n).length=PC n:=by
 rw [z6j hn];simp [PKS]
theorem z4O {n i:Nat} (hn:n<=4611686018427387904) (hi:i<PC n):(SPAN 0 n)[i]?=some (HGT n i,KGT n i):=by
 rw [z6j hn];exact zhg hi
def PLCS (l:List (Nat × Nat)):List Nat:=l.map fun s=>PLC s.1 s.2
theorem z1D (l:List (Nat × Nat)):(PLCS l).length=l.length:=by simp [PLCS]
theorem z3w (l m:List (Nat × Nat)):PLCS (l ++ m)=PLCS l ++ PLCS m:=by simp [PLCS]
theorem zaE {l:List (Nat × Nat)} {j h k:Nat} (e:l[j]?=some (h,k)):(PLCS l).getD j 0=PLC h k:=by
 simp [PLCS,List.getD,e]
theorem z3x {n:Nat} (hn:n<=4611686018427387904):z0T n=PLCS (SPAN 0 n):=by
 have hl:=z1P (n:=n) (by omega);apply List.ext_getElem?;intro j;by_cases hj:j<PC n
 ·have h1:=zeQ (n:=n) (by omega) hj
  have h2:=z4O hn hj;rw [List.getD,List.getElem?_eq_getElem (by omega)] at h1;rw [List.getElem?_eq_getElem (by omega)];simp only [Option.getD_some] at h1;rw [h1];simp [PLCS,h2]
 ·rw [List.getElem?_eq_none (by omega),List.getElem?_eq_none (by rw [z1D,z23 hn];omega)]
def WAYS (i H:Nat):List (Nat × Nat):=(List.range H).map fun h=>(h,SIB (i / 2 ^ h))
theorem z3r (i H:Nat):WAYS i (H+1)=WAYS i H ++ [(H,SIB (i / 2 ^ H))]:=by simp [WAYS,List.range_succ]
theorem z9I (i H:Nat):(WAYS i H).length=H:=by simp [WAYS]
theorem zdc (i H:Nat):WAY i H=PLCS (WAYS i H):=by simp [WAY,WAYS,PLCS]
theorem zdd {α β:Type} (f:α->β):∀ (l:List α) (k:Nat),(l.map f).eraseIdx k=(l.eraseIdx k).map f:=by
 intro l;induction l with
 | nil=>intro k;simp
 | cons a l ih=>
   intro k;cases k with
   | zero=>simp
   | succ k=>simp [ih]
theorem z6k {α:Type} (x:α):∀ (l:List α) (k:Nat),(l ++ [x]).eraseIdx k=if k=l.length then l.eraseIdx k else l.eraseIdx k ++ [x]:=by
 intro l;induction l with
 | nil=>
   intro k;cases k with
   | zero=>simp
   | succ k=>simp
 | cons a l ih=>
   intro k;cases k with
   | zero=>simp
   | succ k=>
     have:=ih k;rw [List.cons_append,List.eraseIdx_cons_succ,this,List.length_cons,List.eraseIdx_cons_succ];by_cases e:k=l.length
     ·rw [if_pos e,if_pos (by omega)]
     ·rw [if_neg e,if_neg (by omega)]
      rfl
def PSP (i n:Nat):List (Nat × Nat):=WAYS i (RISE i n) ++ (SPAN 0 n).eraseIdx (KTH i n)
theorem z6l {i n:Nat} (hn:n<=4611686018427387904):PLCS (PSP i n)=WAY i (RISE i n) ++ (z0T n).eraseIdx (KTH i n):=by
 unfold PSP;rw [z3w,zdc,z3x hn];unfold PLCS;rw [zdd]
def PXS (m n:Nat):List (Nat × Nat):=SPAN 0 m ++ SPAN m n
theorem zeT {m n:Nat} (hmn:m<=n) (hn:n<=4611686018427387904):Tile 0 (PXS m n) n:=(z2D (by omega) (Nat.zero_le _)).append (z2D hn hmn)
theorem z6m {m n:Nat} (hmn:m<=n) (hn:n<=4611686018427387904):PLCS (PXS m n)=z0T m ++ PLCS (SPAN m n):=by
 unfold PXS;rw [z3w,z3x (by omega)]
theorem zbJ {m n:Nat} (hmn:m<=n) (hn:n<=4611686018427387904):(PXS m n).length<=188:=by
 have h1:=z23 (n:=m) (by omega);have h2:=z19 64 m (by omega);have h3:=z1Y (a:=m) hn;unfold PXS;rw [List.length_append];omega
theorem zbK {i n:Nat} (hi:i<n) (hn:n<=4611686018427387904):(PSP i n).length+1=RISE i n+PC n:=by
 have h1:=z3b hi hn;have h2:=z23 hn;unfold PSP;rw [List.length_append,z9I,List.length_eraseIdx,if_pos (by omega)];omega
theorem zgj {i n:Nat} (hi:i<n) (hn:n<=4611686018427387904):(PSP i n).length<=126:=by
 have h1:=zbK hi hn;have h2:=(z0R hi hn).2.1;have h3:=z19 64 n (by omega);omega
def Off (s t:Nat × Nat):Prop:=(s.2+1)*2 ^ s.1<=t.2*2 ^ t.1\/(t.2+1)*2 ^ t.1<=s.2*2 ^ s.1
def SIZE (l:List (Nat × Nat)):Nat:=(l.map fun s=>2 ^ s.1).sum
theorem z9J (l m:List (Nat × Nat)):SIZE (l ++ m)=SIZE l+SIZE m:=by simp [SIZE]
theorem zde (l:List (Nat × Nat)) (s:Nat × Nat):SIZE (l ++ [s])=SIZE l+2 ^ s.1:=by simp [SIZE]
theorem z5J (k h:Nat):(k+1)*2 ^ h=k*2 ^ h+2 ^ h:=by rw [Nat.add_mul,Nat.one_mul]
theorem Tile.size {l:List (Nat × Nat)}:∀ {a b:Nat},Tile a l b->a+SIZE l=b:=by
 induction l with
 | nil=>intro a b h;have:a=b:=h;simp [SIZE,this]
 | cons s l ih=>
   intro a b ⟨h1,h2,h3⟩;have:=ih h3;rw [z5J,h2] at this;simp only [SIZE,List.map_cons,List.sum_cons] at this ⊢;omega
theorem Tile.within {l:List (Nat × Nat)}:∀ {a b:Nat},Tile a l b->∀ s∈l,a<=s.2*2 ^ s.1/\(s.2+1)*2 ^ s.1<=b/\Node s.1 s.2:=by
 induction l with
 | nil=>intro a b _ s hs;simp at hs
 | cons t l ih=>
   intro a b ⟨h1,h2,h3⟩ s hs;rcases List.mem_cons.1 hs with rfl | hs
   ·exact ⟨by omega,h3.bound.1,h1⟩
   ·have:=ih h3 s hs
    have h4:=z5J t.2 t.1;have h5:=Nat.two_pow_pos t.1;exact ⟨by omega,this.2⟩
theorem Tile.off {l:List (Nat × Nat)}:∀ {a b:Nat},Tile a l b->l.Pairwise Off:=by
 induction l with
 | nil=>intro a b _;exact List.Pairwise.nil
 | cons t l ih=>
   intro a b ⟨h1,h2,h3⟩;refine List.Pairwise.cons (fun s hs=>?_) (ih h3);exact .inl (h3.within s hs).1
theorem z7A (i H:Nat):i / 2 ^ H*2 ^ H<=i/\i<(i / 2 ^ H+1)*2 ^ H:=by
 have h1:=Nat.div_add_mod i (2 ^ H);have h2:=Nat.mod_lt i (Nat.two_pow_pos H);rw [Nat.mul_comm] at h1;rw [z5J];omega
theorem z4a (k h:Nat):(SIB k % 2≠k % 2)/\k / 2*2 ^ (h+1)<=SIB k*2 ^ h/\(SIB k+1)*2 ^ h<=(k / 2+1)*2 ^ (h+1)/\k / 2*2 ^ (h+1)<=k*2 ^ h/\(k+1)*2 ^ h<=(k / 2+1)*2 ^ (h+1)/\((SIB k+1)*2 ^ h<=k*2 ^ h\/(k+1)*2 ^ h<=SIB k*2 ^ h):=by
 have e:=z3I h;have up:∀ m,m*2 ^ (h+1)=(2*m)*2 ^ h:=fun m=>by rw [e,Nat.mul_comm 2 m,Nat.mul_assoc]
 rw [up,up];have mono:∀ {a b:Nat},a<=b->a*2 ^ h<=b*2 ^ h:=fun hab=>Nat.mul_le_mul_right _ hab;unfold SIB;split
 ·exact ⟨by omega,mono (by omega),mono (by omega),mono (by omega),mono (by omega),.inl (mono (by omega))⟩
 ·exact ⟨by omega,mono (by omega),mono (by omega),mono (by omega),mono (by omega),.inr (mono (by omega))⟩
theorem z3y (i:Nat):∀ H,∀ s∈WAYS i H,i / 2 ^ H*2 ^ H<=s.2*2 ^ s.1/\(s.2+1)*2 ^ s.1<=(i / 2 ^ H+1)*2 ^ H:=by
 intro H;induction H with
 | zero=>intro s hs;simp [WAYS] at hs
 | succ H ih=>
   intro s hs;rw [z3r,List.mem_append,List.mem_singleton] at hs;have h1:=z4a (i / 2 ^ H) H;rw [z0r];rcases hs with hs | rfl
   ·have:=ih s hs
    omega
   ·exact ⟨h1.2.1,h1.2.2.1⟩
theorem zeU (i:Nat):∀ H,(WAYS i H).Pairwise Off:=by
 intro H;induction H with
 | zero=>simp [WAYS]
 | succ H ih=>
   rw [z3r,List.pairwise_append];refine ⟨ih,by simp,fun s hs t ht=>?_⟩;rw [List.mem_singleton] at ht;subst ht;have h1:=(z4a (i / 2 ^ H) H).2.2.2.2.2;have h2:=z3y i H s hs;unfold Off;dsimp only;omega
theorem zdf (i:Nat):∀ H,SIZE (WAYS i H)+1=2 ^ H:=by
 intro H;induction H with
 | zero=>simp [WAYS,SIZE]
 | succ H ih=>
   rw [z3r,zde,z3I];dsimp only;omega
theorem zdg (i:Nat):∀ H,∀ s∈WAYS i H,¬ (s.2*2 ^ s.1<=i/\i<(s.2+1)*2 ^ s.1):=by
 intro H;induction H with
 | zero=>intro s hs;simp [WAYS] at hs
 | succ H ih=>
   intro s hs;rw [z3r,List.mem_append,List.mem_singleton] at hs;rcases hs with hs | rfl
   ·exact ih s hs
   ·have h1:=(z4a (i / 2 ^ H) H).2.2.2.2.2
    have h2:=z7A i H;dsimp only;omega
theorem zdh {i:Nat} (hi:i<4611686018427387904):∀ H,H<=62->∀ s∈WAYS i H,Node s.1 s.2:=by
 intro H hH s hs;simp only [WAYS,List.mem_map,List.mem_range] at hs;obtain ⟨h,hh,rfl⟩:=hs;exact (Node.over hi h (by omega)).sib (by omega)
theorem z73 {h k n:Nat} (hn:(k+1)*2 ^ h<=n):PLC h k<z01 n:=by
 have h1:=z42 hn;have h2:=z0C ((k+1)*2 ^ h);rw [z2r] at h2;have h3:=z1O h k;have h4:=zat k;have h5:2 ^ (h+1)*(k+1)=2*((k+1)*2 ^ h):=by rw [z3I,Nat.mul_assoc,Nat.mul_comm (2 ^ h)]
 omega
theorem zeV {i n:Nat} (hi:i<n) (hn:n<=4611686018427387904):(SPAN 0 n)[KTH i n]?=some (RISE i n,i / 2 ^ RISE i n)/\(z0T n).getD (KTH i n) 0=PLC (RISE i n) (i / 2 ^ RISE i n):=by
 have h1:=z8A hi hn;have h2:=z3b hi hn;have h3:=z4O hn h2;have h4:HGT n (KTH i n)=RISE i n:=by simp [HGT,List.getD,h1]
 have h5:KGT n (KTH i n)=i / 2 ^ RISE i n:=by
  unfold KGT;rw [h4];exact (z0R hi hn).2.2.2.2.symm
 rw [h4,h5] at h3;refine ⟨h3,?_⟩;rw [z3x hn];exact zaE h3
theorem Pairwise.at_lt {α:Type} {R:α->α->Prop} {l:List α} (h:l.Pairwise R) {a b:Nat} {x y:α} (hab:a<b) (ha:l[a]?=some x) (hb:l[b]?=some y):R x y:=by
 obtain ⟨h1,rfl⟩:=List.getElem?_eq_some_iff.1 ha;obtain ⟨h2,rfl⟩:=List.getElem?_eq_some_iff.1 hb;exact (List.pairwise_iff_getElem.1 h) a b h1 h2 hab
theorem zdi {α:Type} {l:List α} {k:Nat} {x:α} (h:x∈l.eraseIdx k):∃ j,j≠k/\l[j]?=some x:=by
 obtain ⟨j,hj⟩:=List.mem_iff_getElem?.1 h;rw [List.getElem?_eraseIdx] at hj;split at hj
 ·exact ⟨j,by omega,hj⟩
 ·exact ⟨j+1,by omega,hj⟩
theorem zeW {s t:Nat × Nat} (h:Off s t):Off t s:=h.elim .inr .inl
theorem zbL:∀ (l:List (Nat × Nat)) (k:Nat) (s:Nat × Nat),l[k]?=some s->SIZE (l.eraseIdx k)+2 ^ s.1=SIZE l:=by
 intro l;induction l with
 | nil=>intro k s h;simp at h
 | cons a l ih=>
   intro k s h;cases k with
   | zero=>
     simp at h;subst h;simp [SIZE];omega
   | succ k=>
     have:=ih k s (by simpa using h);simp only [SIZE,List.eraseIdx_cons_succ,List.map_cons,List.sum_cons] at this ⊢;omega
theorem zeX {i n:Nat} (hi:i<n) (hn:n<=4611686018427387904):
  (∀ s∈PSP i n,Node s.1 s.2/\PLC s.1 s.2<z01 n/\¬ (s.2*2 ^ s.1<=i/\i<(s.2+1)*2 ^ s.1))/\(PSP i n).Pairwise Off/\SIZE (PSP i n)+1=n:=by
 obtain ⟨hK,_⟩:=zeV hi hn;have h62:=(z0R hi hn).2.1;have hT:=z2D hn (Nat.zero_le n);have hp:=z7A i (RISE i n);have hin:=hT.within _ (List.mem_of_getElem? hK);dsimp only at hin;have hoff:=hT.off
 have hother:∀ s∈(SPAN 0 n).eraseIdx (KTH i n),Off s (RISE i n,i / 2 ^ RISE i n):=by
  intro s hs;obtain ⟨j,hj,e⟩:=zdi hs;rcases Nat.lt_or_ge j (KTH i n) with h | h
  ·exact Pairwise.at_lt hoff h e hK
  ·exact zeW (Pairwise.at_lt hoff (by omega:KTH i n<j) hK e)
 refine ⟨fun s hs=>?_,?_,?_⟩
 ·unfold PSP at hs
  rcases List.mem_append.1 hs with hs | hs
  ·have h1:=z3y i _ s hs
   exact ⟨zdh (by omega) _ h62 s hs,z73 (by omega),zdg i _ s hs⟩
  ·have h1:=hT.within s (List.mem_of_mem_eraseIdx hs)
   have h2:=hother s hs;unfold Off at h2;dsimp only at h2;exact ⟨h1.2.2,z73 h1.2.1,by omega⟩
 ·unfold PSP
  rw [List.pairwise_append];refine ⟨zeU i _,hoff.sublist (List.eraseIdx_sublist _ _),fun s hs t ht=>?_⟩;have h1:=z3y i _ s hs;have h2:=hother t ht;unfold Off at h2 ⊢;dsimp only at h2;omega
 ·unfold PSP
  rw [z9J];have h1:=zdf i (RISE i n);have h2:=zbL _ _ _ hK;have h3:=hT.size;dsimp only at h2;omega
end Go.Proofs.YthmnailmbgondaaGreatDoor
