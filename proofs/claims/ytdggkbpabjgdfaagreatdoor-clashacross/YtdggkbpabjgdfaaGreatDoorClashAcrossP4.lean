/- ClashAcross: part 4. -/
import Derived.Laws.AppendOwnNone
import Derived.Test.YtdggkbpabjgdfaaGreatDoorClashAcrossP3
namespace Go.Proofs.YtdggkbpabjgdfaaGreatDoor
open Go.RowKit
def z01 (l:List Int):List Value:=l.map (Value.int .u8)
theorem z0x (a b:List Int):z01 (a ++ b)=z01 a ++ z01 b:=by simp [z01]
theorem z0G (l:List Int) (i:Nat) (h:i<l.length):(z01 l)[i]?=some (.int .u8 (l.getD i 0)):=by
 simp [z01,h,List.getD_eq_getElem?_getD]
theorem z1y (l:List Int):∀ u∈z01 l,u.oneCell'=true:=fun u hu=>by
 simp [z01] at hu;obtain ⟨x,_,rfl⟩:=hu;rfl
theorem z1w:∃ i,Tryz.prog.info? 5=some i/\i.zero=some (.int .u8 0)/\i.size=1/\i.bytes=1:=by
 obtain ⟨i,hi,h⟩:=Option.map_eq_some_iff.1 z0X;simp only [Prod.mk.injEq] at h;exact ⟨i,hi,h.1,h.2.1,h.2.2⟩
theorem z1k {ops:Array Oper} {rest:List Oper} {o:Oper} {a:Act} {Q:Exit->Act->World->Prop} (w:World) (hgd:o.guard=none) (s x:Operand)
  (ho:o.op=.call {callee:=.builtin .append,args:=#[s,x],argTypes:=#[25,25]})
  (base:Nat) (v:Value) (n:Nat) (xs:List Int) (hs:a.eval s=v) (hown:w.ownsRow base 5 1 v n (z01 xs))
  (b off m c:Nat) (l:List Int) (hx:a.eval x=.slice (some ⟨b,off,none⟩) m c) (hB:Bytes w (some ⟨b,off,none⟩) m l)
  (hm:0<m) (hb:n+m<=140737488355328) (hbase:base<=w.heap.size)
  (h:∀ g cap w',w'.ownsRow base 5 1 (.slice (some ⟨g,0,none⟩) (n+m) cap) (n+m) (z01 (xs ++ l))->w.grownBy w' v.ownBlock->g<w'.heap.size->wpList Tryz.prog ops Q rest (a.put o.dst (.slice (some ⟨g,0,none⟩) (n+m) cap)) w'):wpList Tryz.prog ops Q (o :: rest) a w:=by
 obtain ⟨i,hi,hz,hs1,hby⟩:=z1w;obtain ⟨b',off',e,_,hc⟩:=hB.2.1 hm;simp only [Option.some.injEq,Addr.mk.injEq] at e;obtain ⟨rfl,rfl,_⟩:=e;refine wpList_append_lies w hgd s x 25 ho base 5 i (.int .u8 0) 1 1 Tryz.underlying25 hi hz hs1 hby rfl (by decide) v n (z01 xs) hs hown ⟨b,off,none⟩ m c (z01 l) hx (by simp [z01,hB.1]) ?_ (z1y l) hm (by simp only [maxLen];omega) (by omega) hbase w.heap.size rfl ?_
 ·intro j u hj
  have hjl:j<l.length:=by
   have:=(List.getElem?_eq_some_iff.1 hj).1;simpa [z01] using this
  rw [z0G l j hjl] at hj;rw [z1a,hc j (by rw [<-hB.1];exact hjl)];exact hj
 ·intro g cap w' h1 h2 _ h4
  rw [<-z0x] at h1;exact h g cap w' h1 h2 h4
theorem z3k (w:World) (row:Option Nat):w.grownBy w row:=⟨rfl,rfl,rfl,Nat.le_refl _,fun _ _ _=>rfl⟩
theorem z6E {ops:Array Oper} {rest:List Oper} {o:Oper} {a:Act} {Q:Exit->Act->World->Prop} (w:World) (hgd:o.guard=none) (s x:Operand)
   (ho:o.op=.call {callee:=.builtin .append,args:=#[s,x],argTypes:=#[25,25]})
   (base:Nat) (v:Value) (n:Nat) (xs:List Int) (hs:a.eval s=v) (hown:w.ownsRow base 5 1 v n (z01 xs))
   (ao:Option Addr) (c:Nat) (hx:a.eval x=.slice ao 0 c) (hc:ao=none->c=0) (hn:n<=140737488355328) (hbase:base<=w.heap.size)
   (h:∀ a' c' w',w'.ownsRow base 5 1 (.slice a' n c') n (z01 xs)->w.grownBy w' v.ownBlock->wpList Tryz.prog ops Q rest (a.put o.dst (.slice a' n c')) w'):wpList Tryz.prog ops Q (o :: rest) a w:=by
 obtain ⟨i,hi,hz,hs1,hby⟩:=z1w
 have form:∀ (v':Value) (w':World),w'.ownsRow base 5 1 v' n (z01 xs)->∃ a' c',v'=.slice a' n c':=fun v' w' h=>by
   rcases h.2 with ⟨rfl,rfl⟩ | ⟨g,cap,cur,rfl,_⟩
   ·exact ⟨none,0,rfl⟩
   ·exact ⟨_,cap,rfl⟩
 cases ao with
 | none=>
   obtain rfl:=hc rfl;refine wpList_append_own_none hgd s x 25 ho base 5 i 1 Tryz.underlying25 hi v n (z01 xs) hs hown hx ?_;obtain ⟨a',c',rfl⟩:=form v w hown;exact h a' c' w hown (z3k _ _)
 | some ad=>
   refine wpList_append_own w hgd s x 25 ho base 5 i (.int .u8 0) 1 1 Tryz.underlying25 hi hz hs1 hby rfl (by decide) v n (z01 xs) hs hown ad 0 c [] hx rfl (fun j u hj=>by simp at hj) (fun u hu=>by simp at hu) (by simp only [maxLen];omega) (by omega) hbase ?_;intro v' w' h1 h2 _;simp only [Nat.add_zero,List.append_nil] at h1;obtain ⟨a',c',rfl⟩:=form v' w' h1;exact h a' c' w' h1 h2
theorem z2e {w:World} {base g n cap:Nat} {l:List Int} (h:w.ownsRow base 5 1 (.slice (some ⟨g,0,none⟩) n cap) n (z01 l)) (hg:g<w.heap.size) (hl:∀ x∈l,0<=x/\x<=255):Bytes w (some ⟨g,0,none⟩) n l:=by
 have hlen:l.length=n:=by have:=h.1;simpa [z01] using this
 refine ⟨hlen,fun _=>⟨g,0,rfl,hg,fun i hi=>?_⟩,hl⟩;rw [Nat.zero_add,h.cellAt i (by omega),z0G l i (by omega)]
theorem z5k (w:World) (base:Nat) (hb:base<=w.heap.size):(w.alloc (.cells #[] 5)).ownsRow base 5 1 (.slice (some ⟨w.heap.size,0,none⟩) 0 0) 0 (z01 []):=
 World.ownsRow_lit w #[] 0 hb (by simp [maxLen]) rfl
theorem z3b (w:World) (n:Nat) (f:Nat->Int) (l:List Int) (hl:l.length=n) (hf:∀ i,i<n->f i=l.getD i 0) (hr:∀ x∈l,0<=x/\x<=255):Bytes (w.alloc (.cells (BARR n f) 5)) (some ⟨w.heap.size,0,none⟩) n l:=by
 refine ⟨hl,fun _=>⟨w.heap.size,0,rfl,by simp,fun i hi=>?_⟩,hr⟩;rw [Nat.zero_add,World.cell?_alloc_at _ _ _ _ rfl,z2d n f i hi,hf i hi]
theorem z13 {w:World} {base n c:Nat} {a:Option Addr} {l:List Int} (h:w.ownsRow base 5 1 (.slice a n c) n (z01 l)) (hl:∀ x∈l,0<=x/\x<=255):Bytes w a n l/\n<=c:=by
 rcases h.2 with ⟨hv,hn⟩ | ⟨g,cap,cur,hv,_,hg,hc,_⟩
 ·simp only [Value.slice.injEq] at hv
  obtain ⟨rfl,rfl,rfl⟩:=hv;have:l=[]:=by have:=h.1;simpa [z01] using this
  subst this;exact ⟨⟨rfl,fun h=>by omega,fun x hx=>by simp at hx⟩,Nat.le_refl _⟩
 ·simp only [Value.slice.injEq] at hv
  obtain ⟨rfl,_,rfl⟩:=hv;exact ⟨z2e h (Array.getElem?_eq_some_iff.1 hg).1 hl,hc⟩
theorem z4j {ops:Array Oper} {rest:List Oper} {o:Oper} {a:Act} {Q:Exit->Act->World->Prop} (w:World) (hgd:o.guard=none) (s x:Operand)
  (ho:o.op=.call {callee:=.builtin .append,args:=#[s,x],argTypes:=#[25,25]})
  (base:Nat) (v:Value) (n:Nat) (xs:List Int) (hs:a.eval s=v) (hown:w.ownsRow base 5 1 v n (z01 xs))
  (ao:Option Addr) (m c:Nat) (l:List Int) (hx:a.eval x=.slice ao m c) (hB:Bytes w ao m l) (hc:ao=none->c=0)
  (N:Nat) (L:List Int) (hN:n+m=N) (hL:xs ++ l=L) (hb:N<=140737488355328) (hbase:base<=w.heap.size)
  (h:∀ a' c' w',w'.ownsRow base 5 1 (.slice a' N c') N (z01 L)->w.grownBy w' v.ownBlock->wpList Tryz.prog ops Q rest (a.put o.dst (.slice a' N c')) w'):wpList Tryz.prog ops Q (o :: rest) a w:=by
 subst hN hL;rcases Nat.eq_zero_or_pos m with hm | hm
 ·subst hm
  have hl:l=[]:=by have:=hB.1;simpa using this
  subst hl;refine z6E w hgd s x ho base v n xs hs hown ao c hx hc (by omega) hbase ?_;simpa using h
 ·obtain ⟨b,off,rfl,_,_⟩:=hB.2.1 hm
  refine z1k w hgd s x ho base v n xs hs hown b off m c l hx hB hm hb hbase ?_;intro g cap w' h1 h2 _;exact h _ cap w' h1 h2
def z1z (X j:Nat):List Int:=(List.range j).map fun i=>((X / 128 ^ i % 128+128:Nat):Int)
theorem zbg (X j:Nat):z1z X (j+1)=z1z X j ++ [((X / 128 ^ j % 128+128:Nat):Int)]:=by simp [z1z,List.range_succ]
theorem z2t (X j:Nat):(z1z X j).length=j:=by simp [z1z]
def TOPG (X:Nat):Nat->Nat
 | 0=>0
 | k+1=>if X<128 then 0 else TOPG (X / 128) k+1
def NTOP (X:Nat):Nat:=TOPG X 9
def z0s (X:Nat):List Int:=z1z X (NTOP X) ++ [((X / 128 ^ NTOP X:Nat):Int)]
theorem z0Y (X:Nat):(z0s X).length=NTOP X+1:=by simp [z0s,z2t]
theorem zc6:∀ (k X:Nat),TOPG X k<=k
 | 0,_=>Nat.le_refl _
 | k + 1,X=>by
   unfold TOPG;split
   ·omega
   ·have:=zc6 k (X / 128)
    omega
theorem z4z:∀ (k X j:Nat),j<TOPG X k->128<=X / 128 ^ j
 | 0,_,_,h=>by simp [TOPG] at h
 | k + 1,X,j,h=>by
   unfold TOPG at h;split at h
   ·omega
   ·cases j with
    | zero=>simp;omega
    | succ j=>
      have:=z4z k (X / 128) j (by omega);rw [Nat.div_div_eq_div_mul,Nat.mul_comm,<-Nat.pow_succ] at this;exact this
theorem zc7:∀ (k X:Nat),X<128 ^ (k+1)->X / 128 ^ TOPG X k<128
 | 0,X,h=>by simpa [TOPG] using h
 | k + 1,X,h=>by
   unfold TOPG;split
   ·simpa using ‹X<128›
   ·have:=zc7 k (X / 128) (by rw [Nat.pow_succ] at h;exact Nat.div_lt_of_lt_mul (by omega))
    rw [Nat.div_div_eq_div_mul,Nat.mul_comm,<-Nat.pow_succ] at this;exact this
theorem z4k (X:Nat):NTOP X<=9:=zc6 9 X
theorem z89 {X:Nat} (hX:X<2 ^ 64):X / 128 ^ NTOP X<128:=zc7 9 X (Nat.lt_of_lt_of_le hX (by decide))
theorem zc8 {X:Nat} (hX:X<2 ^ 64) {j:Nat} (hj:∀ i,i<j->128<=X / 128 ^ i) (h:X / 128 ^ j<128):NTOP X=j:=by
 rcases Nat.lt_trichotomy (NTOP X) j with h1 | h1 | h1
 ·have:=hj _ h1
  have:=z89 hX;omega
 ·exact h1
 ·have:=z4z 9 X j h1
  omega
theorem zgc (X:Nat) {i j:Nat} (h:i<=j):X / 128 ^ j<=X / 128 ^ i:=Nat.div_le_div_left (Nat.pow_le_pow_right (by decide) h) (Nat.pow_pos (by decide))
theorem za5 (X j:Nat):∀ x∈z1z X j,0<=x/\x<=255:=fun x hx=>by
 simp only [z1z,List.mem_map] at hx;obtain ⟨i,_,rfl⟩:=hx;omega
theorem z30 {X:Nat} (hX:X<2 ^ 64):∀ x∈z0s X,0<=x/\x<=255:=fun x hx=>by
 simp only [z0s,List.mem_append,List.mem_singleton] at hx;rcases hx with hx | rfl
 ·exact za5 X _ x hx
 ·have:=z89 hX
  generalize X / 128 ^ NTOP X=y at *
  omega
theorem z3R (w:World) (v:Int) (h0:0<=v) (h1:v<=255):Bytes (w.alloc (.cells #[.int .u8 v] 5)) (some ⟨w.heap.size,0,none⟩) 1 [v]:=by
 refine ⟨rfl,fun _=>⟨w.heap.size,0,rfl,by simp,fun i hi=>?_⟩,fun x hx=>by simp at hx;omega⟩;obtain rfl:i=0:=by omega
 rw [Nat.zero_add,World.cell?_alloc_at _ _ _ _ rfl];rfl
end Go.Proofs.YtdggkbpabjgdfaaGreatDoor
namespace Go.Proofs.YtdggkbpabjgdfaaGreatDoor
abbrev Fit (a h b:Nat):Prop:=a % 2 ^ h=0/\a+2 ^ h<=b
theorem Fit.down {a h b:Nat} (f:Fit a (h+1) b):Fit a h b:=by
 have h1:2 ^ (h+1)=2 ^ h*2:=Nat.pow_succ 2 h;have h2:=f.2;refine ⟨?_,by omega⟩;have h3:=f.1;have h4:2 ^ h ∣ 2 ^ (h+1):=⟨2,h1⟩
 exact Nat.mod_eq_zero_of_dvd (Nat.dvd_trans h4 (Nat.dvd_of_mod_eq_zero h3))
theorem Fit.le {a g b:Nat}:∀ h,h<=g->Fit a g b->Fit a h b:=by
 intro h hg f;induction g with
 | zero => obtain rfl:h=0:=by omega
           exact f
 | succ g ih=>
   rcases Nat.lt_or_ge h (g+1) with h1 | h1
   ·exact ih (by omega) f.down
   ·obtain rfl:h=g+1:=by omega
    exact f
theorem Fit.zero {a b:Nat} (h:a<b):Fit a 0 b:=⟨Nat.mod_one a,by simp;omega⟩
def HTF:Nat->Nat->Nat->Nat
 | 0,_,_=>0
 | f+1,a,b=>if Fit a (f+1) b then f+1 else HTF f a b
def HT (a b:Nat):Nat:=HTF 62 a b
theorem zgd {a b:Nat} (hab:a<b):∀ f,¬ Fit a (f+1) b->HTF f a b<=f/\Fit a (HTF f a b) b/\¬ Fit a (HTF f a b+1) b:=by
 intro f;induction f with
 | zero=>intro h;exact ⟨Nat.le_refl _,Fit.zero hab,h⟩
 | succ f ih=>
   intro h;unfold HTF;split
   ·rename_i h1
    exact ⟨Nat.le_refl _,h1,h⟩
   ·rename_i h1
    have:=ih h1;exact ⟨by omega,this.2⟩
theorem z2h {a b:Nat} (hab:a<b) (hb:b<=4611686018427387904):HT a b<=62/\Fit a (HT a b) b/\¬ Fit a (HT a b+1) b:=by
 refine zgd hab 62 ?_;intro h;have:=h.2;simp at this;omega
theorem z8a {a b h:Nat} (hab:a<b) (hb:b<=4611686018427387904) (h1:Fit a h b) (h2:¬ Fit a (h+1) b):h=HT a b:=by
 obtain ⟨_,a1,a2⟩:=z2h hab hb;rcases Nat.lt_trichotomy h (HT a b) with c | c | c
 ·exact absurd (a1.le (h+1) (by omega)) h2
 ·exact c
 ·exact absurd (h1.le (HT a b+1) (by omega)) a2
def z4A:Nat->Nat->Nat->List (Nat × Nat)
 | 0,_,_=>[]
 | f+1,a,b=>if a<b then (HT a b,a / 2 ^ HT a b) :: z4A f (a+2 ^ HT a b) b else []
def SPAN (a b:Nat):List (Nat × Nat):=z4A (b - a) a b
theorem zcR:∀ f g a b,b - a<=f->b - a<=g->z4A f a b=z4A g a b:=by
 intro f;induction f with
 | zero=>
   intro g a b h1 h2;cases g with
   | zero=>rfl
   | succ g=>simp [z4A];omega
 | succ f ih=>
   intro g a b h1 h2;cases g with
   | zero=>simp [z4A];omega
   | succ g=>
     unfold z4A;have:=Nat.two_pow_pos (HT a b);rw [ih g (a+2 ^ HT a b) b (by omega) (by omega)]
theorem z17 {a b:Nat} (h:b<=a):SPAN a b=[]:=by
 unfold SPAN;rw [show b - a=0 by omega];rfl
theorem z1o {a b:Nat} (h:a<b):SPAN a b=(HT a b,a / 2 ^ HT a b) :: SPAN (a+2 ^ HT a b) b:=by
 unfold SPAN;obtain ⟨f,hf⟩:∃ f,b - a=f+1:=⟨b - a - 1,by omega⟩
 have:=Nat.two_pow_pos (HT a b);rw [hf];show (if a<b then _ else _)=_;rw [if_pos h];congr 1
 exact zcR _ _ _ _ (by omega) (by omega)
def Tile:Nat->List (Nat × Nat)->Nat->Prop
 | a,[],b=>a=b
 | a,s :: l,b=>Node s.1 s.2/\s.2*2 ^ s.1=a/\Tile ((s.2+1)*2 ^ s.1) l b
abbrev Sibs (x y:Nat × Nat):Prop:=x.1=y.1/\x.2 % 2=0/\y.2=x.2+1
def Irr:List (Nat × Nat)->Prop
 | []=>True
 | x :: l=>(∀ y,l.head?=some y->¬ Sibs x y)/\Irr l
theorem Fit.node {a h b:Nat} (f:Fit a h b) (hh:h<=62) (hb:b<=4611686018427387904):Node h (a / 2 ^ h)/\a / 2 ^ h*2 ^ h=a/\(a / 2 ^ h+1)*2 ^ h=a+2 ^ h:=by
 have h1:a / 2 ^ h*2 ^ h=a:=Nat.div_mul_cancel (Nat.dvd_of_mod_eq_zero f.1);have h2:(a / 2 ^ h+1)*2 ^ h=a+2 ^ h:=by rw [Nat.add_mul,Nat.one_mul,h1]
 refine ⟨⟨hh,?_⟩,h1,h2⟩
 have h3:(a / 2 ^ h+1)*2 ^ h<=2 ^ (62 - h)*2 ^ h:=by
  rw [h2,<-Nat.pow_add,show 62 - h+h=62 by omega];have:=f.2;simp;omega
 exact Nat.le_of_mul_le_mul_right h3 (Nat.two_pow_pos h)
theorem z23 (h:Nat):2 ^ (h+1)=2*2 ^ h:=by rw [Nat.pow_succ,Nat.mul_comm]
theorem z2U {k h:Nat}:k*2 ^ h % 2 ^ (h+1)=0↔k % 2=0:=by
 rw [Nat.pow_succ,Nat.mul_comm (2 ^ h) 2,Nat.mul_mod_mul_right];have:=Nat.two_pow_pos h;constructor
 ·intro e
  rcases Nat.mul_eq_zero.1 e with e | e
  ·exact e
  ·omega
 ·intro e
  rw [e,Nat.zero_mul]
theorem zen {b:Nat} (hb:b<=4611686018427387904):∀ f a,b - a<=f->a<=b->Tile a (SPAN a b) b:=by
 intro f;induction f with
 | zero=>
   intro a h1 h2;rw [z17 (by omega)];exact (by omega:a=b)
 | succ f ih=>
   intro a h1 h2;rcases Nat.lt_or_ge a b with h | h
   ·obtain ⟨s1,s2,_⟩:=z2h h hb
    obtain ⟨n1,n2,n3⟩:=s2.node s1 hb;rw [z1o h];refine ⟨n1,n2,?_⟩;show Tile ((a / 2 ^ HT a b+1)*2 ^ HT a b) _ b;rw [n3];have:=Nat.two_pow_pos (HT a b);exact ih _ (by omega) s2.2
   ·rw [z17 h]
    exact (by omega:a=b)
theorem z0T {a b:Nat} (hb:b<=4611686018427387904) (h:a<=b):Tile a (SPAN a b) b:=zen hb (b - a) a (Nat.le_refl _) h
theorem Tile.bound {l:List (Nat × Nat)}:∀ {a b:Nat},Tile a l b->a<=b/\(l≠[]->a<b/\b<=4611686018427387904):=by
 induction l with
 | nil=>intro a b h;exact ⟨by have:a=b:=h;omega,fun h=>absurd rfl h⟩
 | cons s l ih=>
   intro a b ⟨h1,h2,h3⟩;have i:=ih h3;have:=Nat.two_pow_pos s.1;have e:(s.2+1)*2 ^ s.1=s.2*2 ^ s.1+2 ^ s.1:=by rw [Nat.add_mul,Nat.one_mul]
   refine ⟨by omega,fun _=>⟨by omega,?_⟩⟩;cases l with
   | nil=>
     have h4:(s.2+1)*2 ^ s.1=b:=h3;have:=h1.span;simp at this;omega
   | cons t l=>exact (i.2 (by simp)).2
theorem z8H {l:List (Nat × Nat)}:∀ {a b:Nat},Tile a l b->Irr l->l=SPAN a b:=by
 induction l with
 | nil=>
   intro a b h _;have:a=b:=h;rw [z17 (by omega)]
 | cons s l ih=>
   intro a b ht hi;obtain ⟨h1,h2,h3⟩:=ht;obtain ⟨hab,hb⟩:=(Tile.bound (l:=s :: l) ⟨h1,h2,h3⟩).2 (by simp);have e:(s.2+1)*2 ^ s.1=s.2*2 ^ s.1+2 ^ s.1:=by rw [Nat.add_mul,Nat.one_mul]
   have hl:=ih h3 hi.2;have hle:=h3.bound.1;have hpos:=Nat.two_pow_pos s.1;have hf:Fit a s.1 b:=⟨by rw [<-h2];exact Nat.mul_mod_left _ _,by omega⟩
   have hn:¬ Fit a (s.1+1) b:=by
    intro hf2;have hk:s.2 % 2=0:=z2U.1 (by rw [h2];exact hf2.1);have p2:=z23 s.1;have hf3:=hf2.2;have hlt:(s.2+1)*2 ^ s.1<b:=by omega
    have hF1:Fit ((s.2+1)*2 ^ s.1) s.1 b:=⟨Nat.mul_mod_left _ _,by omega⟩
    have hF2:¬ Fit ((s.2+1)*2 ^ s.1) (s.1+1) b:=by
     intro h;have:=z2U.1 h.1;omega
    have hH:=z8a hlt hb hF1 hF2;rw [z1o hlt,<-hH,Nat.mul_div_cancel _ hpos] at hl;refine hi.1 (s.1,s.2+1) (by rw [hl];rfl) ⟨rfl,hk,rfl⟩
   have hH:=z8a hab hb hf hn;rw [z1o hab,<-hH,hl];congr 1
   ·rw [<-h2,Nat.mul_div_cancel _ hpos]
   ·rw [e,h2]
theorem zge {b:Nat} (hb:b<=4611686018427387904):∀ f a,b - a<=f->Irr (SPAN a b):=by
 intro f;induction f with
 | zero=>
   intro a h1;rw [z17 (by omega)];trivial
 | succ f ih=>
   intro a h1;rcases Nat.lt_or_ge a b with h | h
   ·obtain ⟨s1,s2,s3⟩:=z2h h hb
    obtain ⟨n1,n2,n3⟩:=s2.node s1 hb;have hp:=Nat.two_pow_pos (HT a b);rw [z1o h];refine ⟨?_,ih _ (by omega)⟩;intro y hy ⟨y1,y2,y3⟩;rcases Nat.lt_or_ge (a+2 ^ HT a b) b with h2 | h2
    ·rw [z1o h2] at hy
     simp at hy;subst hy;obtain ⟨t1,t2,t3⟩:=z2h h2 hb;dsimp only at y1 y2 y3;apply s3;refine ⟨?_,?_⟩
     ·have:=z2U (h:=HT a b).2 y2
      rw [n2] at this;exact this
     ·have:=t2.2
      rw [<-y1] at this;rw [z23];omega
    ·rw [z17 h2] at hy
     simp at hy
   ·rw [z17 h]
    trivial
theorem zgf {a b:Nat} (hb:b<=4611686018427387904):Irr (SPAN a b):=zge hb (b - a) a (Nat.le_refl _)
theorem Tile.append {l m:List (Nat × Nat)}:∀ {a b c:Nat},Tile a l b->Tile b m c->Tile a (l ++ m) c:=by
 induction l with
 | nil=>intro a b c h h2;have:a=b:=h;rw [this];exact h2
 | cons s l ih=>intro a b c ⟨h1,h2,h3⟩ h4;exact ⟨h1,h2,ih h3 h4⟩
theorem Tile.node {l:List (Nat × Nat)}:∀ {a b i h k:Nat},Tile a l b->l[i]?=some (h,k)->Node h k:=by
 induction l with
 | nil=>intro a b i h k _ e;simp at e
 | cons s l ih=>
   intro a b i h k ⟨h1,h2,h3⟩ e;cases i with
   | zero=>simp at e;subst e;exact h1
   | succ i=>exact ih h3 (by simpa using e)
theorem Tile.one {s:Nat × Nat} {a b:Nat}:Tile a [s] b↔Node s.1 s.2/\s.2*2 ^ s.1=a/\(s.2+1)*2 ^ s.1=b:=Iff.rfl
theorem Irr.snoc {l:List (Nat × Nat)} {x:Nat × Nat} (hi:Irr l) (hx:∀ y,l.getLast?=some y->¬ Sibs y x):Irr (l ++ [x]):=by
 induction l with
 | nil=>exact ⟨by simp,trivial⟩
 | cons s l ih=>
   refine ⟨?_,ih hi.2 ?_⟩
   ·intro y hy
    cases l with
    | nil=>
      simp at hy;subst hy;exact hx s (by simp)
    | cons t l=>exact hi.1 y (by simpa using hy)
   ·intro y hy
    cases l with
    | nil=>simp at hy
    | cons t l=>exact hx y (by rw [List.getLast?_cons_cons];exact hy)
theorem z8I {b:Nat}:∀ g f a,b - a<=f->a % 2 ^ g=0->b - a<2 ^ g->b<=4611686018427387904->(SPAN a b).length<=g:=by
 intro g f;induction f generalizing g with
 | zero=>intro a h1 _ _ _;rw [z17 (by omega)];simp
 | succ f ih=>
   intro a h1 h2 h3 hb;rcases Nat.lt_or_ge a b with h | h
   ·obtain ⟨s1,s2,s3⟩:=z2h h hb
    rw [z1o h];have hp:=Nat.two_pow_pos (HT a b)
    have hlt:HT a b<g:=by
     rcases Nat.lt_or_ge (HT a b) g with c | c
     ·exact c
     ·have:=(s2.le g c).2
      omega
    have hd:a % 2 ^ (HT a b+1)=0:=by
     have h4:2 ^ (HT a b+1) ∣ 2 ^ g:=Nat.pow_dvd_pow 2 hlt;exact Nat.mod_eq_zero_of_dvd (Nat.dvd_trans h4 (Nat.dvd_of_mod_eq_zero h2))
    have hs:¬ a+2 ^ (HT a b+1)<=b:=fun c=>s3 ⟨hd,c⟩;rw [z23] at hs;have:=ih (HT a b) (a+2 ^ HT a b) (by omega) (by rw [Nat.add_mod_right];exact s2.1) (by omega) hb;rw [List.length_cons];omega
   ·rw [z17 h];simp
theorem zhI {b:Nat}:∀ f g e a,b - a<=f->a % 2 ^ g=0->b - a<2 ^ e->g<=e->b<=4611686018427387904->(SPAN a b).length<=(e - g)+e:=by
 intro f;induction f with
 | zero=>intro g e a h1 _ _ _ _;rw [z17 (by omega)];simp
 | succ f ih=>
   intro g e a h1 h2 h3 hge hb;rcases Nat.lt_or_ge a b with h | h
   ·obtain ⟨s1,s2,s3⟩:=z2h h hb
    rw [z1o h,List.length_cons];have hp:=Nat.two_pow_pos (HT a b)
    have hlt:HT a b<e:=by
     rcases Nat.lt_or_ge (HT a b) e with c | c
     ·exact c
     ·have:=(s2.le e c).2
      omega
    by_cases hd:a % 2 ^ (HT a b+1)=0
    ·have hs:¬ a+2 ^ (HT a b+1)<=b:=fun c=>s3 ⟨hd,c⟩
     rw [z23] at hs;have:=z8I (HT a b) f (a+2 ^ HT a b) (by omega) (by rw [Nat.add_mod_right];exact s2.1) (by omega) hb;omega
    ·have hg:g<=HT a b:=by
      rcases Nat.lt_or_ge (HT a b) g with c | c
      ·have h4:2 ^ (HT a b+1) ∣ 2 ^ g:=Nat.pow_dvd_pow 2 c
       exact absurd (Nat.mod_eq_zero_of_dvd (Nat.dvd_trans h4 (Nat.dvd_of_mod_eq_zero h2))) hd
      ·exact c
     obtain ⟨n1,n2,n3⟩:=s2.node s1 hb
     have hodd:(a / 2 ^ HT a b+1) % 2=0:=by
      have:¬ a / 2 ^ HT a b % 2=0:=fun c=>hd (by have:=z2U (h:=HT a b).2 c;rw [n2] at this;exact this);omega
     have:=ih (HT a b+1) e (a+2 ^ HT a b) (by omega) (by rw [<-n3];exact z2U.2 hodd) (by omega) (by omega) hb;omega
   ·rw [z17 h];simp
theorem z1L {a b:Nat} (hb:b<=4611686018427387904):(SPAN a b).length<=124:=by
 rcases Nat.eq_zero_or_pos a with h | h
 ·subst h
  have:=z8I (b:=b) 63 b 0 (by omega) (by simp) (by simp;omega) hb;omega
 ·exact zhI (b:=b) b 0 62 a (by omega) (by simp [Nat.mod_one]) (by simp;omega) (by omega) hb
theorem z1Z {n:Nat} (h:PC n=0):n=0:=by
 induction n using Nat.strongRecOn with
 | _ n ih=>
   by_cases h0:n=0
   ·exact h0
   ·rw [z0W] at h
    have:=ih (n / 2) (by omega) (by omega);omega
theorem za6 (n a b:Nat) (hab:a<=b):n / 2 ^ a=n / 2 ^ b*2 ^ (b - a)+n / 2 ^ a % 2 ^ (b - a)/\PC (n / 2 ^ a)=PC (n / 2 ^ b)+PC (n / 2 ^ a % 2 ^ (b - a)):=by
 have e:n / 2 ^ b=n / 2 ^ a / 2 ^ (b - a):=by rw [Nat.div_div_eq_div_mul,<-Nat.pow_add,show a+(b - a)=b by omega]
 have h1:n / 2 ^ a=n / 2 ^ b*2 ^ (b - a)+n / 2 ^ a % 2 ^ (b - a):=by
  rw [e,Nat.mul_comm];exact (Nat.div_add_mod _ _).symm
 refine ⟨h1,?_⟩;have h2:=z74 (b - a) (n / 2 ^ b) (n / 2 ^ a % 2 ^ (b - a)) (Nat.mod_lt _ (Nat.two_pow_pos _));rw [<-h1] at h2;exact h2
theorem zc9 (n:Nat) {a b:Nat} (hab:a<=b):PC (n / 2 ^ b)<=PC (n / 2 ^ a):=by
 have:=(za6 n a b hab).2;omega
theorem za7 (n:Nat) {a b:Nat} (hab:a<=b) (h:PC (n / 2 ^ a)=PC (n / 2 ^ b)):n / 2 ^ a*2 ^ a=n / 2 ^ b*2 ^ b:=by
 obtain ⟨h1,h2⟩:=za6 n a b hab;have h3:n / 2 ^ a % 2 ^ (b - a)=0:=z1Z (by omega);rw [h3,Nat.add_zero] at h1;rw [h1,Nat.mul_assoc,<-Nat.pow_add,show b - a+a=b by omega]
theorem zgg {n:Nat} (hn:n<2 ^ 64):∀ h,h<=64->∀ i,i<PC (n / 2 ^ h)->∃ g,h<=g/\g<64/\(HS h n)[i]?=some g/\n / 2 ^ g % 2=1/\i=PC (n / 2 ^ (g+1)):=by
 have key:∀ d h,h+d=64->∀ i,i<PC (n / 2 ^ h)->∃ g,h<=g/\g<64/\(HS h n)[i]?=some g/\n / 2 ^ g % 2=1/\i=PC (n / 2 ^ (g+1)):=by
  intro d;induction d with
  | zero=>
    intro h e i hi;obtain rfl:h=64:=by omega
    rw [Nat.div_eq_of_lt hn,z1q] at hi;omega
  | succ d ih=>
    intro h e i hi;have hl:=z3a hn (h+1) (by omega);have hs:PC (n / 2 ^ h)=n / 2 ^ h % 2+PC (n / 2 ^ (h+1)):=by rw [z0W,z0S]
    rcases Nat.lt_or_ge i (PC (n / 2 ^ (h+1))) with h1 | h1
    ·obtain ⟨g,a,b,c,r⟩:=ih (h+1) (by omega) i h1
     refine ⟨g,by omega,b,?_,r⟩;by_cases hb:n / 2 ^ h % 2=1
     ·rw [z39 (by omega) hb,List.getElem?_append_left (by omega)]
      exact c
     ·rw [z2S (by omega) hb]
      exact c
    ·have hb:n / 2 ^ h % 2=1:=by omega
     have hi':i=PC (n / 2 ^ (h+1)):=by omega
     refine ⟨h,Nat.le_refl _,by omega,?_,hb,hi'⟩;rw [z39 (by omega) hb,List.getElem?_append_right (by omega),hl,hi'];simp
 intro h hh;exact key (64 - h) h (by omega)
def HGT (n i:Nat):Nat:=(HS 0 n).getD i 0
def z9D (n:Nat):Nat->Nat
 | 0=>0
 | i+1=>n / 2 ^ HGT n i*2 ^ HGT n i
theorem z2J {n i:Nat} (hn:n<2 ^ 64) (hi:i<PC n):(HS 0 n)[i]?=some (HGT n i)/\n / 2 ^ HGT n i % 2=1/\i=PC (n / 2 ^ (HGT n i+1)):=by
 obtain ⟨g,_,_,c,d,e⟩:=zgg hn 0 (by omega) i (by rw [Nat.pow_zero,Nat.div_one];exact hi);have hg:HGT n i=g:=by unfold HGT;rw [List.getD_eq_getElem?_getD,c];rfl
 rw [hg];exact ⟨c,d,e⟩
def KGT (n i:Nat):Nat:=2*(n / 2 ^ (HGT n i+1))
theorem zgh {n i:Nat} (hn:n<2 ^ 64) (hi:i<PC n):(z1h n).getD i 0=PLC (HGT n i) (KGT n i):=by
 unfold z1h;rw [List.getD_eq_getElem?_getD,List.getElem?_map,(z2J hn hi).1];rfl
theorem z8J {n i:Nat} (hn:n<=4611686018427387904) (hi:i<PC n):Node (HGT n i) (KGT n i):=Node.peak hn (z2J (by omega) hi).2.1
theorem z6F {n i:Nat} (hn:n<2 ^ 64) (hi:i<PC n):PC (n / 2 ^ HGT n i)=i+1:=by
 obtain ⟨_,h2,h3⟩:=z2J hn hi;rw [z0W,<-z0S];omega
theorem z8K {n i:Nat} (hn:n<2 ^ 64) (hi:i+1<PC n):HGT n (i+1)<HGT n i:=by
 have h1:=z6F hn (i:=i) (by omega);have h2:=(z2J hn hi).2.2;rcases Nat.lt_or_ge (HGT n (i+1)) (HGT n i) with h | h
 ·exact h
 ·have h3:=zc9 n (a:=HGT n i+1) (b:=HGT n (i+1)+1) (by omega)
  have h4:=(z2J hn (i:=i) (by omega)).2.2;omega
theorem zcS {n i:Nat} (hn:n<2 ^ 64) (hi:i<PC n):KGT n i*2 ^ HGT n i=z9D n i:=by
 have hk:KGT n i*2 ^ HGT n i=n / 2 ^ (HGT n i+1)*2 ^ (HGT n i+1):=z1m _ _;have h2:=(z2J hn hi).2.2;cases i with
 | zero=>
   rw [hk,z1Z h2.symm,Nat.zero_mul];rfl
 | succ i=>
   have h1:=z6F hn (i:=i) (by omega);have h3:=z8K hn hi;rw [hk];exact za7 n (by omega) (by omega)
theorem zgi {n i:Nat} (hn:n<2 ^ 64) (hi:i<PC n):(KGT n i+1)*2 ^ HGT n i=z9D n (i+1):=by
 have:=z5f (z2J hn hi).2.1;show (2*(n / 2 ^ (HGT n i+1))+1)*2 ^ HGT n i=n / 2 ^ HGT n i*2 ^ HGT n i;rw [<-this]
theorem zeo {n:Nat} (hn:n<2 ^ 64):z9D n (PC n)=n:=by
 cases h:PC n with
 | zero=>
   rw [z1Z h];rfl
 | succ i=>
   have h1:=z6F hn (i:=i) (by omega);have h2:=za7 n (a:=0) (b:=HGT n i) (by omega) (by rw [Nat.pow_zero,Nat.div_one];omega);rw [Nat.pow_zero,Nat.div_one,Nat.mul_one] at h2;exact h2.symm
theorem z48 {n i:Nat}:z0v n<=PLC (HGT n i+1) (KGT n i / 2):=by
 have e:KGT n i / 2=n / 2 ^ (HGT n i+1):=by unfold KGT;omega
 rw [e];have h1:=z6z (HGT n i+1) (n / 2 ^ (HGT n i+1))
 have h2:n<=(n / 2 ^ (HGT n i+1)+1)*2 ^ (HGT n i+1) - 1:=by
  have:=Nat.lt_mul_div_succ n (Nat.two_pow_pos (HGT n i+1));rw [Nat.mul_comm] at this;omega
 have h3:=z6y h2;omega
def PKS (n j c:Nat):List (Nat × Nat):=(List.range' j c).map fun i=>(HGT n i,KGT n i)
theorem za8 (n j c:Nat):PKS n j (c+1)=(HGT n j,KGT n j) :: PKS n (j+1) c:=by simp [PKS,List.range'_succ]
theorem ziH {n c i:Nat} (h:i<c):(PKS n 0 c)[i]?=some (HGT n i,KGT n i):=by
 simp [PKS,h]
theorem zgj {n:Nat} (hn:n<=4611686018427387904):∀ c j,j+c=PC n->Tile (z9D n j) (PKS n j c) n/\Irr (PKS n j c):=by
 intro c;induction c with
 | zero=>
   intro j e;obtain rfl:j=PC n:=by omega
   exact ⟨zeo (by omega),trivial⟩
 | succ c ih=>
   intro j e;obtain ⟨i1,i2⟩:=ih (j+1) (by omega);rw [za8];refine ⟨⟨z8J hn (by omega),zcS (by omega) (by omega),?_⟩,?_,i2⟩
   ·show Tile ((KGT n j+1)*2 ^ HGT n j) _ n
    rw [zgi (by omega) (by omega)];exact i1
   ·intro y hy ⟨h1,_,_⟩
    cases c with
    | zero=>simp [PKS] at hy
    | succ c=>
      rw [za8] at hy;simp at hy;subst hy;have:=z8K (n:=n) (i:=j) (by omega) (by omega);dsimp only at h1;omega
theorem z78 {n:Nat} (hn:n<=4611686018427387904):SPAN 0 n=PKS n 0 (PC n):=by
 obtain ⟨h1,h2⟩:=zgj hn (PC n) 0 (by omega);exact (z8H h1 h2).symm
theorem z0i {n:Nat} (hn:n<=4611686018427387904):(SPAN 0 n).length=PC n:=by
 rw [z78 hn];simp [PKS]
theorem z1f {n i:Nat} (hn:n<=4611686018427387904) (hi:i<PC n):(SPAN 0 n)[i]?=some (HGT n i,KGT n i):=by
 rw [z78 hn];exact ziH hi
def PLCS (l:List (Nat × Nat)):List Nat:=l.map fun s=>PLC s.1 s.2
theorem z0u (l:List (Nat × Nat)):(PLCS l).length=l.length:=by simp [PLCS]
theorem z49 (l m:List (Nat × Nat)):PLCS (l ++ m)=PLCS l ++ PLCS m:=by simp [PLCS]
theorem zhJ {l:List (Nat × Nat)} {j h k:Nat} (e:l[j]?=some (h,k)):(PLCS l).getD j 0=PLC h k:=by
 simp [PLCS,List.getD,e]
theorem z31 {n:Nat} (hn:n<=4611686018427387904):z1h n=PLCS (SPAN 0 n):=by
 have hl:=z1Q (n:=n) (by omega);apply List.ext_getElem?;intro j;by_cases hj:j<PC n
 ·have h1:=zgh (n:=n) (by omega) hj
  have h2:=z1f hn hj;rw [List.getD,List.getElem?_eq_getElem (by omega)] at h1;rw [List.getElem?_eq_getElem (by omega)];simp only [Option.getD_some] at h1;rw [h1];simp [PLCS,h2]
 ·rw [List.getElem?_eq_none (by omega),List.getElem?_eq_none (by rw [z0u,z0i hn];omega)]
def WAYS (i H:Nat):List (Nat × Nat):=(List.range H).map fun h=>(h,SIB (i / 2 ^ h))
theorem z3S (i H:Nat):WAYS i (H+1)=WAYS i H ++ [(H,SIB (i / 2 ^ H))]:=by simp [WAYS,List.range_succ]
theorem z27 (i H:Nat):(WAYS i H).length=H:=by simp [WAYS]
theorem zep (i H:Nat):WAY i H=PLCS (WAYS i H):=by simp [WAY,WAYS,PLCS]
theorem zeq {α β:Type} (f:α->β):∀ (l:List α) (k:Nat),(l.map f).eraseIdx k=(l.eraseIdx k).map f:=by
 intro l;induction l with
 | nil=>intro k;simp
 | cons a l ih=>
   intro k;cases k with
   | zero=>simp
   | succ k=>simp [ih]
theorem z79 {α:Type} (x:α):∀ (l:List α) (k:Nat),(l ++ [x]).eraseIdx k=if k=l.length then l.eraseIdx k else l.eraseIdx k ++ [x]:=by
 intro l;induction l with
 | nil=>
   intro k;cases k with
   | zero=>simp
   | succ k=>simp
 | cons a l ih=>
   intro k;cases k with
   | zero=>simp
   | succ k=>
     have:=ih k;rw [List.cons_append,List.eraseIdx_cons_succ,this,List.length_cons,List.eraseIdx_cons_succ];by_cases e:k=l.length
     ·rw [if_pos e,if_pos (by omega)]
     ·rw [if_neg e,if_neg (by omega)]
      rfl
def PSP (i n:Nat):List (Nat × Nat):=WAYS i (RISE i n) ++ (SPAN 0 n).eraseIdx (KTH i n)
theorem z7a {i n:Nat} (hn:n<=4611686018427387904):PLCS (PSP i n)=WAY i (RISE i n) ++ (z1h n).eraseIdx (KTH i n):=by
 unfold PSP;rw [z49,zep,z31 hn];unfold PLCS;rw [zeq]
def PXS (m n:Nat):List (Nat × Nat):=SPAN 0 m ++ SPAN m n
theorem z1M {m n:Nat} (hmn:m<=n) (hn:n<=4611686018427387904):Tile 0 (PXS m n) n:=(z0T (by omega) (Nat.zero_le _)).append (z0T hn hmn)
theorem z7b {m n:Nat} (hmn:m<=n) (hn:n<=4611686018427387904):PLCS (PXS m n)=z1h m ++ PLCS (SPAN m n):=by
 unfold PXS;rw [z49,z31 (by omega)]
theorem z2K {m n:Nat} (hmn:m<=n) (hn:n<=4611686018427387904):(PXS m n).length<=188:=by
 have h1:=z0i (n:=m) (by omega);have h2:=z0C 64 m (by omega);have h3:=z1L (a:=m) hn;unfold PXS;rw [List.length_append];omega
theorem z4B {i n:Nat} (hi:i<n) (hn:n<=4611686018427387904):(PSP i n).length+1=RISE i n+PC n:=by
 have h1:=z2I hi hn;have h2:=z0i hn;unfold PSP;rw [List.length_append,z27,List.length_eraseIdx,if_pos (by omega)];omega
theorem z5Y {i n:Nat} (hi:i<n) (hn:n<=4611686018427387904):(PSP i n).length<=126:=by
 have h1:=z4B hi hn;have h2:=(z0L hi hn).2.1;have h3:=z0C 64 n (by omega);omega
def Off (s t:Nat × Nat):Prop:=(s.2+1)*2 ^ s.1<=t.2*2 ^ t.1\/(t.2+1)*2 ^ t.1<=s.2*2 ^ s.1
def SIZE (l:List (Nat × Nat)):Nat:=(l.map fun s=>2 ^ s.1).sum
theorem zbh (l m:List (Nat × Nat)):SIZE (l ++ m)=SIZE l+SIZE m:=by simp [SIZE]
theorem zer (l:List (Nat × Nat)) (s:Nat × Nat):SIZE (l ++ [s])=SIZE l+2 ^ s.1:=by simp [SIZE]
theorem z0N (k h:Nat):(k+1)*2 ^ h=k*2 ^ h+2 ^ h:=by rw [Nat.add_mul,Nat.one_mul]
theorem Tile.size {l:List (Nat × Nat)}:∀ {a b:Nat},Tile a l b->a+SIZE l=b:=by
 induction l with
 | nil=>intro a b h;have:a=b:=h;simp [SIZE,this]
 | cons s l ih=>
   intro a b ⟨h1,h2,h3⟩;have:=ih h3;rw [z0N,h2] at this;simp only [SIZE,List.map_cons,List.sum_cons] at this ⊢;omega
theorem Tile.within {l:List (Nat × Nat)}:∀ {a b:Nat},Tile a l b->∀ s∈l,a<=s.2*2 ^ s.1/\(s.2+1)*2 ^ s.1<=b/\Node s.1 s.2:=by
 induction l with
 | nil=>intro a b _ s hs;simp at hs
 | cons t l ih=>
   intro a b ⟨h1,h2,h3⟩ s hs;rcases List.mem_cons.1 hs with rfl | hs
   ·exact ⟨by omega,h3.bound.1,h1⟩
   ·have:=ih h3 s hs
    have h4:=z0N t.2 t.1;have h5:=Nat.two_pow_pos t.1;exact ⟨by omega,this.2⟩
theorem Tile.off {l:List (Nat × Nat)}:∀ {a b:Nat},Tile a l b->l.Pairwise Off:=by
 induction l with
 | nil=>intro a b _;exact List.Pairwise.nil
 | cons t l ih=>
   intro a b ⟨h1,h2,h3⟩;refine List.Pairwise.cons (fun s hs=>?_) (ih h3);exact .inl (h3.within s hs).1
theorem z2f (i H:Nat):i / 2 ^ H*2 ^ H<=i/\i<(i / 2 ^ H+1)*2 ^ H:=by
 have h1:=Nat.div_add_mod i (2 ^ H);have h2:=Nat.mod_lt i (Nat.two_pow_pos H);rw [Nat.mul_comm] at h1;rw [z0N];omega
theorem z4C (k h:Nat):(SIB k % 2≠k % 2)/\k / 2*2 ^ (h+1)<=SIB k*2 ^ h/\(SIB k+1)*2 ^ h<=(k / 2+1)*2 ^ (h+1)/\k / 2*2 ^ (h+1)<=k*2 ^ h/\(k+1)*2 ^ h<=(k / 2+1)*2 ^ (h+1)/\((SIB k+1)*2 ^ h<=k*2 ^ h\/(k+1)*2 ^ h<=SIB k*2 ^ h):=by
 have e:=z23 h;have up:∀ m,m*2 ^ (h+1)=(2*m)*2 ^ h:=fun m=>by rw [e,Nat.mul_comm 2 m,Nat.mul_assoc]
 rw [up,up];have mono:∀ {a b:Nat},a<=b->a*2 ^ h<=b*2 ^ h:=fun hab=>Nat.mul_le_mul_right _ hab;unfold SIB;split
 ·exact ⟨by omega,mono (by omega),mono (by omega),mono (by omega),mono (by omega),.inl (mono (by omega))⟩
 ·exact ⟨by omega,mono (by omega),mono (by omega),mono (by omega),mono (by omega),.inr (mono (by omega))⟩
theorem z4a (i:Nat):∀ H,∀ s∈WAYS i H,i / 2 ^ H*2 ^ H<=s.2*2 ^ s.1/\(s.2+1)*2 ^ s.1<=(i / 2 ^ H+1)*2 ^ H:=by
 intro H;induction H with
 | zero=>intro s hs;simp [WAYS] at hs
 | succ H ih=>
   intro s hs;rw [z3S,List.mem_append,List.mem_singleton] at hs;have h1:=z4C (i / 2 ^ H) H;rw [z0S];rcases hs with hs | rfl
   ·have:=ih s hs
    omega
   ·exact ⟨h1.2.1,h1.2.2.1⟩
theorem zgk (i:Nat):∀ H,(WAYS i H).Pairwise Off:=by
 intro H;induction H with
 | zero=>simp [WAYS]
 | succ H ih=>
   rw [z3S,List.pairwise_append];refine ⟨ih,by simp,fun s hs t ht=>?_⟩;rw [List.mem_singleton] at ht;subst ht;have h1:=(z4C (i / 2 ^ H) H).2.2.2.2.2;have h2:=z4a i H s hs;unfold Off;dsimp only;omega
theorem zes (i:Nat):∀ H,SIZE (WAYS i H)+1=2 ^ H:=by
 intro H;induction H with
 | zero=>simp [WAYS,SIZE]
 | succ H ih=>
   rw [z3S,zer,z23];dsimp only;omega
theorem zet (i:Nat):∀ H,∀ s∈WAYS i H,¬ (s.2*2 ^ s.1<=i/\i<(s.2+1)*2 ^ s.1):=by
 intro H;induction H with
 | zero=>intro s hs;simp [WAYS] at hs
 | succ H ih=>
   intro s hs;rw [z3S,List.mem_append,List.mem_singleton] at hs;rcases hs with hs | rfl
   ·exact ih s hs
   ·have h1:=(z4C (i / 2 ^ H) H).2.2.2.2.2
    have h2:=z2f i H;dsimp only;omega
theorem zeu {i:Nat} (hi:i<4611686018427387904):∀ H,H<=62->∀ s∈WAYS i H,Node s.1 s.2:=by
 intro H hH s hs;simp only [WAYS,List.mem_map,List.mem_range] at hs;obtain ⟨h,hh,rfl⟩:=hs;exact (Node.over hi h (by omega)).sib (by omega)
theorem z4l {h k n:Nat} (hn:(k+1)*2 ^ h<=n):PLC h k<z0v n:=by
 have h1:=z6y hn;have h2:=z1e ((k+1)*2 ^ h);rw [z3B] at h2;have h3:=z2c h k;have h4:=zbW k;have h5:2 ^ (h+1)*(k+1)=2*((k+1)*2 ^ h):=by rw [z23,Nat.mul_assoc,Nat.mul_comm (2 ^ h)]
 omega
theorem z3D {i n:Nat} (hi:i<n) (hn:n<=4611686018427387904):(SPAN 0 n)[KTH i n]?=some (RISE i n,i / 2 ^ RISE i n)/\(z1h n).getD (KTH i n) 0=PLC (RISE i n) (i / 2 ^ RISE i n):=by
 have h1:=z9Y hi hn;have h2:=z2I hi hn;have h3:=z1f hn h2;have h4:HGT n (KTH i n)=RISE i n:=by simp [HGT,List.getD,h1]
 have h5:KGT n (KTH i n)=i / 2 ^ RISE i n:=by
  unfold KGT;rw [h4];exact (z0L hi hn).2.2.2.2.symm
 rw [h4,h5] at h3;refine ⟨h3,?_⟩;rw [z31 hn];exact zhJ h3
theorem Pairwise.at_lt {α:Type} {R:α->α->Prop} {l:List α} (h:l.Pairwise R) {a b:Nat} {x y:α} (hab:a<b) (ha:l[a]?=some x) (hb:l[b]?=some y):R x y:=by
 obtain ⟨h1,rfl⟩:=List.getElem?_eq_some_iff.1 ha;obtain ⟨h2,rfl⟩:=List.getElem?_eq_some_iff.1 hb;exact (List.pairwise_iff_getElem.1 h) a b h1 h2 hab
theorem zev {α:Type} {l:List α} {k:Nat} {x:α} (h:x∈l.eraseIdx k):∃ j,j≠k/\l[j]?=some x:=by
 obtain ⟨j,hj⟩:=List.mem_iff_getElem?.1 h;rw [List.getElem?_eraseIdx] at hj;split at hj
 ·exact ⟨j,by omega,hj⟩
 ·exact ⟨j+1,by omega,hj⟩
theorem za9 {s t:Nat × Nat} (h:Off s t):Off t s:=h.elim .inr .inl
theorem zcT:∀ (l:List (Nat × Nat)) (k:Nat) (s:Nat × Nat),l[k]?=some s->SIZE (l.eraseIdx k)+2 ^ s.1=SIZE l:=by
 intro l;induction l with
 | nil=>intro k s h;simp at h
 | cons a l ih=>
   intro k s h;cases k with
   | zero=>
     simp at h;subst h;simp [SIZE];omega
   | succ k=>
     have:=ih k s (by simpa using h);simp only [SIZE,List.eraseIdx_cons_succ,List.map_cons,List.sum_cons] at this ⊢;omega
theorem z4D {i n:Nat} (hi:i<n) (hn:n<=4611686018427387904):
  (∀ s∈PSP i n,Node s.1 s.2/\PLC s.1 s.2<z0v n/\¬ (s.2*2 ^ s.1<=i/\i<(s.2+1)*2 ^ s.1))/\(PSP i n).Pairwise Off/\SIZE (PSP i n)+1=n:=by
 obtain ⟨hK,_⟩:=z3D hi hn;have h62:=(z0L hi hn).2.1;have hT:=z0T hn (Nat.zero_le n);have hp:=z2f i (RISE i n);have hin:=hT.within _ (List.mem_of_getElem? hK);dsimp only at hin;have hoff:=hT.off
 have hother:∀ s∈(SPAN 0 n).eraseIdx (KTH i n),Off s (RISE i n,i / 2 ^ RISE i n):=by
  intro s hs;obtain ⟨j,hj,e⟩:=zev hs;rcases Nat.lt_or_ge j (KTH i n) with h | h
  ·exact Pairwise.at_lt hoff h e hK
  ·exact za9 (Pairwise.at_lt hoff (by omega:KTH i n<j) hK e)
 refine ⟨fun s hs=>?_,?_,?_⟩
 ·unfold PSP at hs
  rcases List.mem_append.1 hs with hs | hs
  ·have h1:=z4a i _ s hs
   exact ⟨zeu (by omega) _ h62 s hs,z4l (by omega),zet i _ s hs⟩
  ·have h1:=hT.within s (List.mem_of_mem_eraseIdx hs)
   have h2:=hother s hs;unfold Off at h2;dsimp only at h2;exact ⟨h1.2.2,z4l h1.2.1,by omega⟩
 ·unfold PSP
  rw [List.pairwise_append];refine ⟨zgk i _,hoff.sublist (List.eraseIdx_sublist _ _),fun s hs t ht=>?_⟩;have h1:=z4a i _ s hs;have h2:=hother t ht;unfold Off at h2 ⊢;dsimp only at h2;omega
 ·unfold PSP
  rw [zbh];have h1:=zes i (RISE i n);have h2:=zcT _ _ _ hK;have h3:=hT.size;dsimp only at h2;omega
end Go.Proofs.YtdggkbpabjgdfaaGreatDoor
namespace Go.Proofs.YtdggkbpabjgdfaaGreatDoor
open Go.RowKit
theorem z1b (n:Nat) (hn:n<64) (w:World):Calls Tryz.prog 58 #[.int .i64 (n:Int)] w fun e w'=>e=.returned (.int .u64 ((2 ^ n:Nat):Int))/\w=w':=by
 have HN:Aside (n<64):=hn;clear hn;go_enter Tryz.func58,Tryz.ntmps58;go_wp2;go_loopg [3,4] n (fun g s3 s4 wx=>∃ i v:Nat,s3=.int .u64 (v:Int)/\s4=.int .i64 (i:Int)/\Aside (v=2 ^ i/\i+g=n)/\wx=w)
 case atStart=>exact ⟨0,1,rfl,rfl,⟨rfl,by omega⟩,rfl⟩
 case round=>
  obtain ⟨i,v,rfl,rfl,A,hw⟩:=hrel;subst hw;cases gk with
  | zero=>
    have hi:¬ (i:Int)<(n:Int):=by have:=A.out.2;omega
    go_wp2;go_ret;obtain ⟨r1,r2⟩:=A.out;refine ⟨?_,rfl⟩;rw [r1,show i=n by omega];rfl
  | succ g=>
    have hi:(i:Int)<(n:Int):=by have:=A.out.2;omega
    go_wp2;go_roundg g
    case measure=>omega
    case rel=>
     obtain ⟨r1,r2⟩:=A.out;have h64:=HN.out;have hp:2 ^ (i+1)<=2 ^ 63:=Nat.pow_le_pow_right (by decide) (by omega);refine ⟨i+1,2 ^ (i+1),?_,?_,⟨rfl,by omega⟩,rfl⟩
     ·congr 1
      rw [z08,r1];rw [Nat.pow_succ] at hp ⊢;omega
     ·congr 1
      unfold wrap64;omega
theorem zbi (n:Nat) (hn:n<=4611686018427387904) (w:World):Calls Tryz.prog 125 #[.int .u64 (n:Int)] w fun e w'=>e=.returned (.tuple #[.int .u64 ((z0v n:Nat):Int),.bool true])/\w=w':=by
 have HN:Aside (n<=4611686018427387904):=hn;have hd:¬ (4611686018427387904:Int)<(n:Int):=by omega
 clear hn;go_enter Tryz.func125,Tryz.ntmps125;go_wp2;go_loopg [0,4] n (fun g s0 s4 wx=>∃ v:Nat,s0=.int .u64 (g:Int)/\s4=.int .u64 (v:Int)/\Aside (v+z0v g=z0v n)/\wx=w)
 case atStart=>exact ⟨0,rfl,rfl,by unfold Aside;omega,rfl⟩
 case round=>
  obtain ⟨v,rfl,rfl,A,hw⟩:=hrel;subst hw;cases gk with
  | zero=>
    go_wp2;go_ret2;have r1:=A.out;rw [z2G] at r1;refine ⟨?_,rfl⟩;rw [<-r1];rfl
  | succ g=>
    have hi:(0:Int)<(((g+1:Nat)):Int):=by omega
    have e1:Aside (IntKind.u64.wrap ((v:Int)+((g+1:Nat):Int))=((v+(g+1):Nat):Int)):=by
     have h1:=z4w (g+1);have h2:=A.out;have h3:=z5g HN.out;unfold Aside;rw [z08];omega
    have e2:Aside (IntKind.u64.wrap (((g+1:Nat):Int) / 2)=(((g+1) / 2:Nat):Int)):=by
     have h1:=zfS (g+1);have h2:=A.out;have h3:=z5g HN.out;unfold Aside;rw [z08];omega
    generalize hG:g+1=G at *
    go_wp2;go_roundg (G / 2)
    case measure=>omega
    case rel=>
     refine ⟨v+G,?_,?_,?_,rfl⟩
     ·first | rfl | (congr 1;omega) | (rw [e2.out])
     ·rw [e1.out]
     ·have h1:=z4w G
      have h2:=A.out;unfold Aside;omega
theorem zbj (p:Int) (hp:9223372036854775807<=p) (w:World):Calls Tryz.prog 143 #[.int .u64 p] w fun e w'=>e=.returned (.tuple #[SPOT 0 0,.bool false])/\Below w.heap.size w w':=by
 have c1:=z1b 62 (by omega);rw [show (((2 ^ 62:Nat):Int))=4611686018427387904 by decide,show (((62:Nat):Int))=62 from rfl] at c1;have hd:(9223372036854775806:Int)<p:=by omega
 go_enter Tryz.func143,Tryz.ntmps143;go_wp2_with fail
 refine (c1 _).mono ?_;rintro e w' ⟨rfl,rfl⟩;clear c1;go_wp2;refine bodyPost_ret (v:=.tuple #[SPOT 0 0,.bool false]) ?_ rfl ⟨rfl,(Below.refl _ _).alloc (Nat.le_refl _) _⟩;simp [results,Tryz.f143,go_sem]
theorem zew {a b c:Nat} (h:a+b=c) (hc:c<2 ^ 64):IntKind.u64.wrap ((a:Int)+(b:Int))=(c:Int):=by rw [z08];omega
theorem ziI {a c:Nat} (h:a+1=c) (hc:c<2 ^ 64):IntKind.u64.wrap ((a:Int)+1)=(c:Int):=by rw [z08];omega
theorem ziJ {a c:Nat} (h:c+1=a) (hc:c<2 ^ 64):IntKind.u64.wrap ((a:Int) - 1)=(c:Int):=by rw [z08];omega
theorem zex {a c:Nat} (h:2*a=c) (hc:c<2 ^ 64):IntKind.u64.wrap (2*(a:Int))=(c:Int):=by rw [z08];omega
theorem zhK {a c:Nat} (h:2*c=a) (hc:c<2 ^ 64):IntKind.u64.wrap ((a:Int) / 2)=(c:Int):=by rw [z08];omega
theorem zgl {a c:Nat} (h:2*c=a):(a:Int) / 2=(c:Int):=by omega
theorem zgm {g m b p z1 bz:Nat} (hg:g+1<=62) (hN:Node (g+1) m) (hb:b=z0v (m*2 ^ (g+1))) (hbp:b<=p) (hpu:p+2<=b+2 ^ (g+1+1)) (hz:2 ^ (g+1)=z1+1) (hbz:b+z1=bz) (hT:p≠b+2*z1):
  Node g (2*m)/\Node g (2*m+1)/\b=z0v (2*m*2 ^ g)/\bz=z0v ((2*m+1)*2 ^ g)/\(bz<=p->p+2<=bz+2 ^ (g+1))/\(p<bz->p+2<=b+2 ^ (g+1)):=by
 have h2:=hN.2;have e:2 ^ (62 - g)=2 ^ (62 - (g+1))*2:=by rw [<-Nat.pow_succ];congr 1;omega
 have e2:2 ^ (g+1+1)=2*(z1+1):=by rw [Nat.pow_succ,hz,Nat.mul_comm]
 refine ⟨⟨by omega,by rw [e];omega⟩,⟨by omega,by rw [e];omega⟩,by rw [hb,z1m],?_,fun h=>by omega,fun h=>by omega⟩;rw [z4y,z1m,<-hb];unfold TREE;omega
theorem zcU (h k:Nat) (hN:Node h k) (w:World):Calls Tryz.prog 143 #[.int .u64 ((PLC h k:Nat):Int)] w fun e w'=>e=.returned (.tuple #[SPOT h k,.bool true])/\Below w.heap.size w w':=by
 have hp:=hN.lt;obtain ⟨p,hpe⟩:∃ p,p=PLC h k:=⟨_,rfl⟩
 rw [<-hpe] at hp ⊢;have HN:Aside (Node h k/\p=PLC h k/\p<9223372036854775807):=⟨hN,hpe,hp⟩
 have c1:=z1b 62 (by omega);rw [show (((2 ^ 62:Nat):Int))=4611686018427387904 by decide,show (((62:Nat):Int))=62 from rfl] at c1;have hd:¬ (9223372036854775806:Int)<(p:Int):=by omega
 clear hN hpe hp;go_enter Tryz.func143,Tryz.ntmps143;go_wp2_with fail
 refine (c1 _).mono ?_;rintro e w' ⟨rfl,rfl⟩;clear c1;go_wp2;go_loopg [4,5,6] 62 (fun g s4 s5 s6 wx=>∃ b m:Nat,s4=.int .u64 (b:Int)/\s5=.int .i64 (g:Int)/\s6=.int .u64 (m:Int)/\Aside (wx=w.alloc (.cells #[.int .u8 0,.int .u64 0] 77)/\g<=62/\b=z0v (m*2 ^ g)/\Node g m/\b<=p/\p+2<=b+2 ^ (g+1)))
 case atStart=>exact ⟨0,0,rfl,rfl,rfl,rfl,by omega,by simp [z2G],⟨by omega,by simp⟩,by omega,by have:=HN.out.2.2;omega⟩
 case round=>
  obtain ⟨b,m,rfl,rfl,rfl,A⟩:=hrel;obtain ⟨hw,hg,hb,hNm,hbp,hpu⟩:=A.out;clear A;have hpl:2 ^ gk<=2 ^ 62:=Nat.pow_le_pow_right (by decide) hg;obtain ⟨z1,hz⟩:∃ z1,2 ^ gk=z1+1:=⟨2 ^ gk - 1,by have:=Nat.two_pow_pos gk;omega⟩
  have c1:=z1b gk (by omega);rw [hz] at c1 hpl;have hbl:b<9223372036854775807:=by have:=HN.out.2.2;omega
  obtain ⟨u,hu⟩:∃ u,2*z1=u:=⟨_,rfl⟩
  obtain ⟨bu,hbu⟩:∃ bu,b+u=bu:=⟨_,rfl⟩
  have e1:IntKind.u64.wrap (((z1+1:Nat):Int) - 1)=(z1:Int):=ziJ rfl (by omega);have e1':IntKind.u64.wrap (z1:Int)=(z1:Int):=by rw [z08];omega
  rw [show ((z1+1:Nat):Int)=(z1:Int)+1 by omega] at c1 e1;have e2:IntKind.u64.wrap (2*(z1:Int))=(u:Int):=zex hu (by omega);have e3:IntKind.u64.wrap ((b:Int)+(u:Int))=(bu:Int):=zew hbu (by omega);by_cases hT:p=bu
  ·have hmk:h=gk/\k=m:=by
    refine HN.out.1.one hNm ?_;rw [<-HN.out.2.1];unfold PLC;rw [hz] at hb;rw [Nat.pow_succ,hz,<-hb];omega
   obtain ⟨rfl,rfl⟩:=hmk;have hT':((p:Int) == (bu:Int))=true:=by simp;omega
   have hh:(h:Int) % 256=(h:Int):=by omega
   clear hg hb hNm hbp hpu HN hpl hbl hz hu hbu hT;subst hw;go_wp2_with fail
   refine (c1 _).mono ?_;rintro e w' ⟨rfl,rfl⟩;clear c1;go_wp2;refine bodyPost_ret (v:=.tuple #[SPOT h k,.bool true]) ?_ rfl ⟨rfl,(Below.refl _ _).alloc (Nat.le_refl _) _⟩;simp [results,Tryz.f143,go_sem]
  ·have hT':((p:Int) == (bu:Int))=false:=by simp;omega
   have h1:1<=gk:=by
    rcases Nat.eq_zero_or_pos gk with h0 | h0
    ·subst h0
     simp at hz;omega
    ·exact h0
   obtain ⟨g,rfl⟩:∃ g,gk=g+1:=⟨gk - 1,by omega⟩
   have hm62:=hNm.index_lt;obtain ⟨bz,hbz⟩:∃ bz,b+z1=bz:=⟨_,rfl⟩
   obtain ⟨m2,hm2⟩:∃ m2,2*m=m2:=⟨_,rfl⟩
   obtain ⟨m3,hm3⟩:∃ m3,m2+1=m3:=⟨_,rfl⟩
   have RR:=zgm hg hNm hb hbp hpu hz hbz (by omega);rw [hm2,hm3] at RR;have e4:IntKind.u64.wrap (2*(m:Int))=(m2:Int):=zex hm2 (by omega);have e5:IntKind.u64.wrap ((u:Int) / 2)=(z1:Int):=zhK hu (by omega);have e5':(u:Int) / 2=(z1:Int):=zgl hu;have e6:wrap64 (g:Int)=(g:Int):=by unfold wrap64;omega
   have e7:IntKind.u64.wrap ((b:Int)+(z1:Int))=(bz:Int):=zew hbz (by omega);have e8:IntKind.u64.wrap ((m2:Int)+1)=(m3:Int):=ziI hm3 (by omega);have R:Aside (wr=w.alloc (.cells #[.int .u8 0,.int .u64 0] 77)/\g+1<=62/\b<=p/\Node g m2/\Node g m3/\b=z0v (m2*2 ^ g)/\bz=z0v (m3*2 ^ g)/\(bz<=p->p+2<=bz+2 ^ (g+1))/\(p<bz->p+2<=b+2 ^ (g+1))):=⟨hw,hg,hbp,RR⟩
   rw [show (((g+1:Nat):Int))=(g:Int)+1 by omega] at c1 ⊢;clear RR hw hg hNm hbp hb hpu hT hz hbz hbu hu HN hpl hbl h1 hm62 hm2 hm3 hd;by_cases hlt:bz<=p
   ·have hd3:(bz:Int)<=(p:Int):=by omega
    have R2:Aside (bz<=p):=hlt;clear hlt;go_wp2_with fail
    refine (c1 _).mono ?_;rintro e w' ⟨rfl,rfl⟩;clear c1;go_wp2;go_roundg g
    case measure=>omega
    case rel=>
     obtain ⟨r1,r2,r3,r4,r5,r6,r7,r8,r9⟩:=R.out;have s1:=R2.out;rw [e6];exact ⟨bz,m3,rfl,rfl,rfl,r1,by omega,r7,r5,s1,r8 s1⟩
   ·have hd3:¬ (bz:Int)<=(p:Int):=by omega
    have R2:Aside (p<bz):=by unfold Aside;omega
    clear hlt;go_wp2_with fail
    refine (c1 _).mono ?_;rintro e w' ⟨rfl,rfl⟩;clear c1;go_wp2;go_roundg g
    case measure=>omega
    case rel=>
     obtain ⟨r1,r2,r3,r4,r5,r6,r7,r8,r9⟩:=R.out;have s1:=R2.out;rw [e6];exact ⟨b,m2,rfl,rfl,rfl,r1,by omega,r6,r4,r3,r9 s1⟩
end Go.Proofs.YtdggkbpabjgdfaaGreatDoor
