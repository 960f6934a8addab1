/- FindProves: part 11. -/
import Derived.Deep.Cut
import Derived.Laws.BitsAllLaws
import Derived.Test.YtlbcnaenhghieaaGreatDoorFindProvesP10
namespace Go.Proofs.YtlbcnaenhghieaaGreatDoor
set_option maxRecDepth 100000
theorem RANKS.take:∀ {L:List Nat} {t r:Nat},RANKS L t r->L.take r=L.filter fun y=>decide (y<t)
 | [],t,r,_=>by simp
 | x :: l,t,0,h=>by
   rw [List.take_zero];symm;rw [List.filter_eq_nil_iff];intro y hy;obtain ⟨i,hi⟩:=List.getElem?_of_mem hy;have:=h.hi i y (Nat.zero_le _) hi;simp;omega
 | x :: l,t,r+1,h=>by
   have hx:x<t:=h.lo 0 x (by omega) rfl;have h':RANKS l t r:=⟨by have:=h.le;simp at this;omega,fun i y hi hy=>h.lo (i+1) y (by omega) (by simpa using hy),fun i y hi hy=>h.hi (i+1) y (by omega) (by simpa using hy)⟩
   rw [List.take_succ_cons,List.filter_cons_of_pos (by simpa using hx),h'.take]
theorem RANKS.drop:∀ {L:List Nat} {t r:Nat},RANKS L t r->L.drop r=L.filter fun y=>!decide (y<t)
 | [],t,r,_=>by simp
 | x :: l,t,0,h=>by
   rw [List.drop_zero];symm;rw [List.filter_eq_self];intro y hy;obtain ⟨i,hi⟩:=List.getElem?_of_mem hy;have:=h.hi i y (Nat.zero_le _) hi;simp;omega
 | x :: l,t,r+1,h=>by
   have hx:x<t:=h.lo 0 x (by omega) rfl;have h':RANKS l t r:=⟨by have:=h.le;simp at this;omega,fun i y hi hy=>h.lo (i+1) y (by omega) (by simpa using hy),fun i y hi hy=>h.hi (i+1) y (by omega) (by simpa using hy)⟩
   rw [List.drop_succ_cons,List.filter_cons_of_neg (by simpa using hx),h'.drop]
theorem RISES.take {L:List Nat} (h:RISES L) (r:Nat):RISES (L.take r):=fun i j x y hij hx hy=>by
 rw [List.getElem?_take] at hx hy;split at hx
 ·split at hy
  ·exact h i j x y hij hx hy
  ·cases hy
 ·cases hx
theorem RISES.drop {L:List Nat} (h:RISES L) (r:Nat):RISES (L.drop r):=fun i j x y hij hx hy=>by
 rw [List.getElem?_drop] at hx hy;exact h (r+i) (r+j) x y (by omega) hx hy
end Go.Proofs.YtlbcnaenhghieaaGreatDoor
namespace Go.Proofs.YtlbcnaenhghieaaGreatDoor
open Go.RowKit
set_option maxRecDepth 100000
structure SPLIT (w w':World) (a:Option Addr) (n c:Nat) (L:List Nat) (t r:Nat) (a':Option Addr):Prop where
 rank:RANKS L t r
 lies:NUML w a' (L.drop r)
 nil:a'=none->c - r=0
 block:∀ x,a'=some x->∃ y,a=some y/\x.block=y.block
 spot:∀ x,a'=some x->x.spot=none
 below:Below w.heap.size w w'
theorem zgq {ops:Array Oper} {rest:List Oper} {o:Oper} {a:Act} {Q:Exit->Act->World->Prop} (w:World) (hgd:o.guard=none) (s x:Operand)
  (ho:o.op=.call {callee:=.builtin .append,args:=#[s,x],argTypes:=#[23,23]})
  (base:Nat) (v:Value) (n:Nat) (xs:List Nat) (hs:a.eval s=v) (hown:w.ownsRow base 36 1 v n (z06 xs))
  (b c:Nat) (y:Nat) (hx:a.eval x=.slice (some ⟨b,0,none⟩) 1 c) (hc:w.cell? ⟨b,0,none⟩=some (.int .u64 (y:Int)))
  (hb:n<=2 ^ 30) (hbase:base<=w.heap.size)
  (h:∀ g cap w',w'.ownsRow base 36 1 (.slice (some ⟨g,0,none⟩) (n+1) cap) (n+1) (z06 (xs ++ [y]))->w.grownBy w' v.ownBlock->g<w'.heap.size->wpList Tryz.prog ops Q rest (a.put o.dst (.slice (some ⟨g,0,none⟩) (n+1) cap)) w'):wpList Tryz.prog ops Q (o :: rest) a w:=by
 obtain ⟨i,hi,hz,hs1,hby⟩:=info_parts z1u;refine wpList_append_lies w hgd s x 23 ho base 36 i (.int .u64 0) 1 8 Tryz.underlying23 hi hz hs1 hby rfl (by decide) v n (z06 xs) hs hown ⟨b,0,none⟩ 1 c [.int .u64 (y:Int)] hx rfl ?_ (fun u hu=>by simp at hu;subst hu;rfl) (by decide) (by simp only [maxLen];omega) (by omega) hbase w.heap.size rfl ?_
 ·intro j u hj
  cases j with
  | zero=>
    simp only [List.getElem?_cons_zero,Option.some.injEq] at hj;subst hj;exact hc
  | succ j=>simp at hj
 ·intro g cap w' h1 h2 _ h4
  rw [<-z1y] at h1;exact h g cap w' h1 h2 h4
structure TAKING (w0 w:World) (bp:Nat) (acc:List Nat):Prop where
 row:∃ v,Has w bp #[v] 23/\w.ownsRow w0.heap.size 36 1 v acc.length (z06 acc)
 keep:∀ b,b<w0.heap.size->b≠bp->w.heap[b]?=w0.heap[b]?
 lt:bp<w0.heap.size
 below:Below bp w0 w
end Go.Proofs.YtlbcnaenhghieaaGreatDoor
namespace Go.Proofs.YtlbcnaenhghieaaGreatDoor
open Go.RowKit Go.Maps
set_option maxRecDepth 100000
set_option maxHeartbeats 4000000 in
theorem zaA {w:World} {B p n:Nat} {v:Value} {m:Option Nat} {f:Nat->List Int} (H:FIND w B p v m f n) (hn:n<=100000) {h:List Int} (hh:FISH h):Calls Tryz.prog 33 #[.pointer (some ⟨p,0,none⟩),.agg (z00 h).toArray] w fun e w'=>∃ a c,e=.returned (.slice a (ATS f n h).length c)/\w'.ownsRow w.heap.size 36 1 (.slice a (ATS f n h).length c) (ATS f n h).length (z06 (ATS f n h))/\Below w.heap.size w w':=by
  obtain ⟨a,c,rfl,hac,hg⟩:=H.slice;obtain ⟨w0,hw0⟩:∃ w0,w.alloc (.cells (z00 h).toArray 25)=w0:=⟨_,rfl⟩
  obtain ⟨b3,hb3⟩:∃ b,w.heap.size=b:=⟨_,rfl⟩
  have hb0:Below w.heap.size w w0:=by rw [<-hw0];exact (Below.refl _ _).alloc (Nat.le_refl _) _
  have k3:Has w0 b3 (z00 h).toArray 25:=by rw [<-hw0,<-hb3];exact Has.new _ _ _
  have h3:w0.rangeAt b3 0 (z00 h):=z0s k3;have L:Aside (h.length=32):=hh.1;have hs:=z7f (H.keep hb0) hh;have HA:Aside (FIND w B p (.slice a n c) m f n/\n<=100000/\Below w.heap.size w w0/\FISH h/\b3=w.heap.size):=⟨H,hn,hb0,hh,hb3.symm⟩
  clear H hn hb0 k3 hh hg hac;go_enter Tryz.func33,Tryz.ntmps33
  go_wp2_with (first
    | (refine wpList_load_mid rfl 25 (.tmp 3) rfl b3 0 rfl (z00 h) _ h3 Tryz.underlying25 rfl (z0g L.out) ?_)
    | fail)
  refine hs.mono ?_;rintro e w1 ⟨rfl,hb1⟩;have HB:Aside (Below w.heap.size w w1):=HA.out.2.2.1.trans (hb1.mono HA.out.2.2.1.size);clear hs hb1 hw0 hb3 h3;go_wp2_with fail
  go_loopg [5,6] n (fun q s5 s6 wx=>∃ (j k:Nat) (oa:Option Addr) (oc:Nat) (X:List Nat),s5=.slice oa k oc/\s6=.int .i64 (LSTI f j h)/\Aside (j<=q/\j<=n/\X.length=k/\ATS f n h=ATS f j h ++ X.reverse/\Below w.heap.size w wx/\wx.ownsRow w.heap.size 36 1 (.slice oa k oc) k (z06 X)))
  case atStart=>exact ⟨n,0,none,0,[],rfl,rfl,Nat.le_refl _,Nat.le_refl _,rfl,by simp,HB.out,⟨rfl,.inl ⟨rfl,rfl⟩⟩⟩
  case round =>
    obtain ⟨j,k,oa,oc,X,rfl,rfl,A⟩:=hrel;by_cases hl:LSTI f j h = -1
    · have hl2:(LSTI f j h != -1)=false:=by simp [hl]
      have Z:Aside (ATS f n h=X.reverse/\X.length=k/\Below w.heap.size w wr/\wr.ownsRow w.heap.size 36 1 (.slice oa k oc) k (z06 X)):=⟨by rw [A.out.2.2.2.1,z7O hl];rfl,A.out.2.2.1,A.out.2.2.2.2⟩
      have hk:k<=100000:=by
        have e:=Z.out.1;have:=z1g f h n;rw [e,List.length_reverse,Z.out.2.1] at this;exact Nat.le_trans this HA.out.2.1
      clear A;rw [hl];clear hl hl2;have hlen:(ATS f n h).length=k:=by rw [Z.out.1,List.length_reverse,Z.out.2.1]
      have FIN:Aside (∀ W,W.ownsRow w.heap.size 36 1 (.slice oa k oc) k (z06 X.reverse)->Below w.heap.size w W->∃ a c,Ending.returned (.slice oa k oc)=.returned (.slice a (ATS f n h).length c)/\W.ownsRow w.heap.size 36 1 (.slice a (ATS f n h).length c) (ATS f n h).length (z06 (ATS f n h))/\Below w.heap.size w W):=fun W h1 h2=>⟨oa,oc,by rw [hlen],by rw [hlen,Z.out.1];exact h1,h2⟩
      clear hlen;rcases Z.out.2.2.2.2 with ⟨e,h0⟩ | ⟨g,cap,cur,e,hg,_⟩
      · cases e
        have hr:=zeS wr;have ZZ:Aside (wr.ownsRow w.heap.size 36 1 (.slice none 0 0) 0 (z06 X.reverse)/\Below w.heap.size w wr):=⟨⟨by rw [z7C,List.length_reverse,Z.out.2.1],.inl ⟨rfl,rfl⟩⟩,Z.out.2.2.1⟩
        clear Z HA HB;go_wp2_with fail
        refine hr.mono ?_;rintro e w2 ⟨rfl,rfl⟩;clear hr;go_wp2;go_ret;exact FIN.out _ ZZ.out.1 ZZ.out.2
      · cases e
        have hr:=zeR Z.out.2.1 Z.out.2.2.2 (by omega);clear HA HB;go_wp2_with fail
        refine hr.mono ?_;rintro e w2 ⟨rfl,hr2⟩;have ZZ:Aside (w2.ownsRow w.heap.size 36 1 (.slice (some ⟨g,0,none⟩) k oc) k (z06 X.reverse)/\Below w.heap.size w w2):=⟨hr2.own,Z.out.2.2.1.trans hr2.bel⟩
        clear hr hr2 Z;go_wp2;go_ret;exact FIN.out _ ZZ.out.1 ZZ.out.2
    · obtain ⟨i,hi⟩:∃ i:Nat,LSTI f j h=(i:Int):=⟨(LSTI f j h).toNat,by have:=z2D f h j;omega⟩
      obtain ⟨l1,l2,l3⟩:=z6U hi;cases gk with
      | zero=>have:=A.out.1;omega
      | succ q=>
        have hne:((i:Int) != -1)=true:=by rw [bne_iff_ne];omega
        have hin:i<n:=by have:=A.out.2.1;omega
        have hin':i<n:=hin;have hlt:(i:Int)<(n:Int):=by omega
        obtain ⟨g,rfl, -⟩:∃ g,a=some ⟨g,0,none⟩/\True:=by
          rcases HA.out.1.own.2 with ⟨e,e0⟩ | ⟨g,cap,cur,e,_⟩
          · omega
          · cases e
            exact ⟨g,rfl,trivial⟩
        have hiu:IntKind.u64.wrap (i:Int)=(i:Int):=u64f (by have:=HA.out.2.1;omega)
        have hn6:k<=1000000:=by
          have e:=A.out.2.2.2.1;have:=z1g f h n;rw [e,List.length_append,List.length_reverse,A.out.2.2.1] at this;have:=HA.out.2.1;omega
        have FW:Aside (∀ W,Below wr.heap.size wr W->W.cell? ⟨p,0,none⟩=some (.slice (some ⟨g,0,none⟩) n c)/\W.cell? ⟨g,i*33+32,none⟩=some (.int .i64 (LSTI f i h))):=fun W hW=>by
          have F:=HA.out.1.keep (A.out.2.2.2.2.1.trans (hW.mono A.out.2.2.2.2.1.size));have e:=F.before hin;rw [l2] at e;exact ⟨F.box.cell 0,e⟩
        have R:Aside (i<=q/\i<=n/\X.length=k/\ATS f n h=ATS f i h ++ (X ++ [i]).reverse/\Below w.heap.size w wr/\wr.ownsRow w.heap.size 36 1 (.slice oa k oc) k (z06 X)):=⟨by have:=A.out.1;omega,by omega,A.out.2.2.1,by rw [A.out.2.2.2.1,l3];simp,A.out.2.2.2.2⟩
        rw [hi];have hF:Aside (f i=h):=l2;clear A l1 l2 l3 hi hl hin
        go_wp2_with (first
          | (at_builtin;refine zgq _ rfl (.tmp 20) (.tmp 23) rfl w.heap.size (.slice oa k oc) k X rfl (R.out.2.2.2.2.2.alloc _) wr.heap.size 1 i rfl ((Has.new _ _ _).cell 0) (by omega) (by have:=R.out.2.2.2.2.1.size;simp;omega) ?_;intro g3 c3 w3 hown hgrow hg3
             have hbw:Below wr.heap.size wr (wr.alloc (.cells #[.int .u64 (i:Int)] 36)):=(Below.refl _ _).alloc (Nat.le_refl _) _;have Z:Aside (Below w.heap.size w w3/\w3.ownsRow w.heap.size 36 1 (.slice (some ⟨g3,0,none⟩) (k+1) c3) (k+1) (z06 (X ++ [i]))):=⟨(R.out.2.2.2.2.1.alloc R.out.2.2.2.2.1.size _).grown hgrow (by have:=R.out.2.2.2.2.1.size;simp;omega) (fun k e=>(R.out.2.2.2.2.2.lt k e).1),hown⟩
             have F:=HA.out.1.keep Z.out.1;have x0:w3.cell? ⟨p,0,none⟩=some (.slice (some ⟨g,0,none⟩) n c):=F.box.cell 0;have x1:w3.cell? ⟨g,i*33+32,none⟩=some (.int .i64 (LSTI f i (f i))):=F.before hin';clear hown hgrow hg3 hbw F)
          | fail)
        clear x0 x1;go_wp2;go_roundg q
        case measure=>exact Nat.lt_succ_self _
        case rel=>exact ⟨i,k+1,some ⟨g3,0,none⟩,c3,X ++ [i],rfl,by rw [hF.out],R.out.1,R.out.2.1,by rw [List.length_append,R.out.2.2.1];rfl,R.out.2.2.2.1,Z.out⟩
end Go.Proofs.YtlbcnaenhghieaaGreatDoor
namespace Go.Proofs.YtlbcnaenhghieaaGreatDoor.HX
open Go.RowKit
def ROTR (n x:Nat):Nat:=x / 2 ^ n+x % 2 ^ n*2 ^ (32 - n)
theorem z0q {n x:Nat} (hn:n<=32) (hx:x<2 ^ 32):ROTR n x<2 ^ 32:=by
 unfold ROTR;have h1:(2:Nat) ^ 32=2 ^ n*2 ^ (32 - n):=by rw [<-Nat.pow_add];congr 1;omega
 have h2:x / 2 ^ n<2 ^ (32 - n):=by
  apply Nat.div_lt_of_lt_mul;rw [<-h1];exact hx
 have h3:x % 2 ^ n+1<=2 ^ n:=Nat.mod_lt _ (Nat.two_pow_pos n);have h4:=Nat.mul_le_mul_right (2 ^ (32 - n)) h3;rw [Nat.add_mul,Nat.one_mul,<-h1] at h4;omega
theorem zho {n x:Nat} (hn:n<=32) (hx:x<2 ^ 32):x*2 ^ (32 - n) % 2 ^ 32 ||| x / 2 ^ n=ROTR n x:=by
 have h1:(2:Nat) ^ 32=2 ^ n*2 ^ (32 - n):=by rw [<-Nat.pow_add];congr 1;omega
 have h2:x / 2 ^ n<2 ^ (32 - n):=by
  apply Nat.div_lt_of_lt_mul;rw [<-h1];exact hx
 have h3:x*2 ^ (32 - n) % 2 ^ 32=x % 2 ^ n*2 ^ (32 - n):=by
  rw [h1,Nat.mul_mod_mul_right]
 rw [h3,nat_join (32 - n) _ _ (Nat.mul_mod_left _ _) h2];unfold ROTR;omega
def MIX (i j k x:Nat):Nat:=ROTR i x ^^^ ROTR j x ^^^ ROTR k x
def z1d (i j k x:Nat):Nat:=ROTR i x ^^^ ROTR j x ^^^ x / 2 ^ k
def CHO (x y z:Nat):Nat:=(x &&& y) ^^^ ((4294967295 - x) &&& z)
def MAJ (x y z:Nat):Nat:=(x &&& y) ^^^ (x &&& z) ^^^ (y &&& z)
theorem zd5 {i j k x:Nat} (hi:i<=32) (hj:j<=32) (hk:k<=32) (hx:x<2 ^ 32):MIX i j k x<2 ^ 32:=Nat.xor_lt_two_pow (Nat.xor_lt_two_pow (z0q hi hx) (z0q hj hx)) (z0q hk hx)
theorem z8n {i j k x:Nat} (hi:i<=32) (hj:j<=32) (hx:x<2 ^ 32):z1d i j k x<2 ^ 32:=Nat.xor_lt_two_pow (Nat.xor_lt_two_pow (z0q hi hx) (z0q hj hx)) (Nat.lt_of_le_of_lt (Nat.div_le_self _ _) hx)
theorem zd6 {x y z:Nat} (hx:x<2 ^ 32) (hz:z<2 ^ 32):CHO x y z<2 ^ 32:=Nat.xor_lt_two_pow (Nat.lt_of_le_of_lt Nat.and_le_left hx) (Nat.lt_of_le_of_lt Nat.and_le_right hz)
theorem zd7 {x y z:Nat} (hx:x<2 ^ 32) (hy:y<2 ^ 32):MAJ x y z<2 ^ 32:=Nat.xor_lt_two_pow (Nat.xor_lt_two_pow (Nat.lt_of_le_of_lt Nat.and_le_left hx) (Nat.lt_of_le_of_lt Nat.and_le_left hx)) (Nat.lt_of_le_of_lt Nat.and_le_left hy)
def z0c (s:Nat->Nat) (o:Nat):Nat:=s o*16777216+s (o+1)*65536+s (o+2)*256+s (o+3)
theorem z1j {s:Nat->Nat} (o:Nat) (h:∀ i,s i<256):z0c s o<2 ^ 32:=by
 have h0:=h o;have h1:=h (o+1);have h2:=h (o+2);have h3:=h (o+3);unfold z0c;omega
def SCHL (b:Nat->Nat):Nat->Nat->Nat
 | 0,t=>if t<16 then z0c b (4*t) else 0
 | k+1,t=>if t=16+k then (z1d 17 19 10 (SCHL b k (14+k))+SCHL b k (9+k)+z1d 7 18 3 (SCHL b k (1+k))+SCHL b k k) % 4294967296 else SCHL b k t
def SCH (b:Nat->Nat):Nat->Nat:=SCHL b 48
theorem z21 {b:Nat->Nat} (h:∀ i,b i<256):∀ k t,SCHL b k t<2 ^ 32
 | 0,t=>by
   unfold SCHL;split
   ·exact z1j _ h
   ·decide
 | k+1,t=>by
   unfold SCHL;split
   ·exact Nat.mod_lt _ (by decide)
   ·exact z21 h k t
theorem z5Y (b:Nat->Nat) (k:Nat):∀ m t,t<16+k->SCHL b (k+m) t=SCHL b k t
 | 0,_,_=>rfl
 | m+1,t,h=>by
   show SCHL b (k+m+1) t=_;rw [SCHL,if_neg (by omega)];exact z5Y b k m t h
def KLIST:List Nat:=[1116352408,1899447441,3049323471,3921009573,961987163,1508970993,2453635748,2870763221,3624381080,310598401,607225278,1426881987,1925078388,2162078206,2614888103,3248222580,3835390401,4022224774,264347078,604807628,770255983,1249150122,1555081692,1996064986,2554220882,2821834349,2952996808,3210313671,3336571891,3584528711,113926993,338241895,666307205,773529912,1294757372,1396182291,1695183700,1986661051,2177026350,2456956037,2730485921,2820302411,3259730800,3345764771,3516065817,3600352804,4094571909,275423344,430227734,506948616,659060556,883997877,958139571,1322822218,1537002063,1747873779,1955562222,2024104815,2227730452,2361852424,2428436474,2756734187,3204031479,3329325298]
def KC (t:Nat):Nat:=KLIST.getD t 0
theorem zhU (t:Nat):KC t<2 ^ 32:=by
 by_cases h:t<64
 ·have:∀ i,i<64->KC i<2 ^ 32:=by decide
  exact this t h
 ·have:KLIST.length=64:=rfl
  unfold KC;rw [List.getD_eq_getElem?_getD,List.getElem?_eq_none (by omega)];decide
structure ST where
 a:Nat
 b:Nat
 c:Nat
 d:Nat
 e:Nat
 f:Nat
 g:Nat
 h:Nat
def T1 (k x:Nat) (s:ST):Nat:=(s.h+MIX 6 11 25 s.e+CHO s.e s.f s.g+k+x) % 4294967296
def T2 (s:ST):Nat:=(MIX 2 13 22 s.a+MAJ s.a s.b s.c) % 4294967296
def RND (k x:Nat) (s:ST):ST:={a:=(T1 k x s+T2 s) % 4294967296,b:=s.a,c:=s.b,d:=s.c,e:=(s.d+T1 k x s) % 4294967296,f:=s.e,g:=s.f,h:=s.g}
def Small (s:ST):Prop:=s.a<2 ^ 32/\s.b<2 ^ 32/\s.c<2 ^ 32/\s.d<2 ^ 32/\s.e<2 ^ 32/\s.f<2 ^ 32/\s.g<2 ^ 32/\s.h<2 ^ 32
theorem Small.rnd {s:ST} (h:Small s) (k x:Nat):Small (RND k x s):=by
 obtain ⟨h1,h2,h3,h4,h5,h6,h7,h8⟩:=h;exact ⟨Nat.mod_lt _ (by decide),h1,h2,h3,Nat.mod_lt _ (by decide),h5,h6,h7⟩
def RUN (x:Nat->Nat) (s:ST):Nat->ST
 | 0=>s
 | t+1=>RND (KC t) (x t) (RUN x s t)
theorem z4y (x:Nat->Nat) {s:ST} (h:Small s):∀ t,Small (RUN x s t)
 | 0=>h
 | t+1=>(z4y x h t).rnd _ _
def STOF (s:Nat->Nat):ST:={a:=z0c s 0,b:=z0c s 4,c:=z0c s 8,d:=z0c s 12,e:=z0c s 16,f:=z0c s 20,g:=z0c s 24,h:=z0c s 28}
theorem z5Z {s:Nat->Nat} (h:∀ i,s i<256):Small (STOF s):=
 ⟨z1j _ h,z1j _ h,z1j _ h,z1j _ h,z1j _ h,z1j _ h,z1j _ h,z1j _ h⟩
def ST.at (s:ST):Nat->Nat
 | 0=>s.a
 | 1=>s.b
 | 2=>s.c
 | 3=>s.d
 | 4=>s.e
 | 5=>s.f
 | 6=>s.g
 | 7=>s.h
 | _=>0
def OUTW (s b:Nat->Nat) (i:Nat):Nat:=(z0c s (4*i)+(RUN (SCH b) (STOF s) 64).at i) % 4294967296
def z0e (x:Nat->Nat) (i:Nat):Nat:=x (i / 4) / 2 ^ (24 - 8*(i % 4)) % 256
def WID (w:Int):Nat:=(min (max w 1) 32).toNat
def z0u (w:Int) (s:Nat->Nat) (i:Nat):Nat:=if i<WID w then s i else 0
def COMP (w:Int) (s b:Nat->Nat):Nat->Nat:=z0u w (z0e (OUTW s b))
theorem z8o (x:Nat->Nat) (i:Nat):z0e x i<256:=Nat.mod_lt _ (by decide)
theorem z7h {w:Int} {s:Nat->Nat} (h:∀ i,s i<256) (i:Nat):z0u w s i<256:=by
 unfold z0u;split
 ·exact h i
 ·decide
theorem zgr (w:Int) (s b:Nat->Nat) (i:Nat):COMP w s b i<256:=z7h (z8o _) i
theorem zby (w:Int):1<=WID w/\WID w<=32:=by unfold WID;omega
theorem z4U (z:Int):IntKind.u32.wrap z=z % 2 ^ 32:=by rw [IntKind.wrap_u32];rfl
theorem z3f {a b:Nat} (ha:a<2 ^ 32) (hb:b<2 ^ 32):bits .xor .u32 (a:Int) (b:Int)=((a ^^^ b:Nat):Int):=u32_xor_nat a b ha hb
theorem z60 {a b:Nat} (ha:a<2 ^ 32) (hb:b<2 ^ 32):bits .and .u32 (a:Int) (b:Int)=((a &&& b:Nat):Int):=u32_and_nat a b ha hb
theorem or32 {a b:Nat} (ha:a<2 ^ 32) (hb:b<2 ^ 32):bits .or .u32 (a:Int) (b:Int)=((a ||| b:Nat):Int):=u32_or_nat a b ha hb
theorem zeT (x n s a b r:Int) (w:World) (hs:bits .and .u64 (IntKind.u64.wrap n) 31=s) (h0:0<=s) (h1:0<=IntKind.u64.wrap (32 - s)) (ha:IntKind.u32.wrap (x*2 ^ min s.toNat 32)=a) (hb:x / 2 ^ min (IntKind.u64.wrap (32 - s)).toNat 32=b) (hr:bits .or .u32 a b=r):
  Calls Tryz.prog 136 #[.int .u32 x,.int .i64 n] w fun e w'=>e=.returned (.int .u32 r)/\w=w':=by
 go_enter Tryz.func136,Tryz.ntmps136;go_wp2;go_ret;exact ⟨rfl,rfl⟩
theorem zhV (n:Nat) (h1:1<=n) (h2:n<32):bits .and .u64 (IntKind.u64.wrap (wrap64 (-(n:Int)))) 31=((32 - n:Nat):Int):=by
 have e:IntKind.u64.wrap (wrap64 (-(n:Int)))=((18446744073709551616 - n:Nat):Int):=by
  rw [z0b];unfold wrap64;omega
 have f:(31:Int)=((31:Nat):Int):=rfl;rw [e,f,z4g (by omega) (by decide)];congr 1
 have:(31:Nat)=2 ^ 5 - 1:=rfl;rw [this,Nat.and_two_pow_sub_one_eq_mod];omega
theorem zgs (X n:Nat) (hX:X<2 ^ 32) (h1:1<=n) (h2:n<32) (w:World):Calls Tryz.prog 136 #[.int .u32 (X:Int),.int .i64 (wrap64 (-(n:Int)))] w fun e w'=>e=.returned (.int .u32 ((ROTR n X:Nat):Int))/\w=w':=by
 have e:IntKind.u64.wrap (32 - ((32 - n:Nat):Int))=(n:Int):=by rw [z0b];omega
 refine zeT X _ ((32 - n:Nat):Int) ((X*2 ^ (32 - n) % 2 ^ 32:Nat):Int) ((X / 2 ^ n:Nat):Int) _ w (zhV n h1 h2) (by omega) (by rw [e];omega) ?_ ?_ ?_
 ·rw [Int.toNat_natCast,show min (32 - n) 32=32 - n by omega,z4U]
  simp
 ·rw [e,Int.toNat_natCast,show min n 32=n by omega,z2e]
 ·rw [or32 (Nat.mod_lt _ (by decide)) (Nat.lt_of_le_of_lt (Nat.div_le_self _ _) hX),zho (by omega) hX]
theorem z4r (x n r:Int) (w:World) (c:∀ w,Calls Tryz.prog 136 #[.int .u32 x,.int .i64 (wrap64 (-n))] w fun e w'=>e=.returned (.int .u32 r)/\w=w'):
  Calls Tryz.prog 130 #[.int .u32 x,.int .i64 n] w fun e w'=>e=.returned (.int .u32 r)/\w=w':=by
 go_enter Tryz.func130,Tryz.ntmps130;go_wp2_with fail
 refine (c _).mono ?_;rintro e w' ⟨rfl,rfl⟩;go_wp2;go_ret;exact ⟨rfl,rfl⟩
theorem right_ok (X n:Nat) (hX:X<2 ^ 32) (h1:1<=n) (h2:n<32) (w:World):Calls Tryz.prog 130 #[.int .u32 (X:Int),.int .i64 (n:Int)] w fun e w'=>e=.returned (.int .u32 ((ROTR n X:Nat):Int))/\w=w':=
 z4r X n _ w (fun w=>zgs X n hX h1 h2 w)
theorem zgt (x i j k a b c p r:Int) (w:World) (e1:bits .xor .u32 a b=p) (e2:bits .xor .u32 p c=r)
  (ca:∀ w,Calls Tryz.prog 130 #[.int .u32 x,.int .i64 i] w fun e w'=>e=.returned (.int .u32 a)/\w=w')
  (cb:∀ w,Calls Tryz.prog 130 #[.int .u32 x,.int .i64 j] w fun e w'=>e=.returned (.int .u32 b)/\w=w')
  (cc:∀ w,Calls Tryz.prog 130 #[.int .u32 x,.int .i64 k] w fun e w'=>e=.returned (.int .u32 c)/\w=w'):
  Calls Tryz.prog 111 #[.int .u32 x,.int .i64 i,.int .i64 j,.int .i64 k] w fun e w'=>e=.returned (.int .u32 r)/\w=w':=by
 go_enter Tryz.func111,Tryz.ntmps111;go_wp2_with fail
 refine (ca _).mono ?_;rintro e w' ⟨rfl,rfl⟩;clear ca;go_wp2_with fail
 refine (cb _).mono ?_;rintro e w' ⟨rfl,rfl⟩;clear cb;go_wp2_with fail
 refine (cc _).mono ?_;rintro e w' ⟨rfl,rfl⟩;clear cc;go_wp2;go_ret;exact ⟨rfl,rfl⟩
theorem zd8 (X i j k:Nat) (hX:X<2 ^ 32) (hi:1<=i/\i<32) (hj:1<=j/\j<32) (hk:1<=k/\k<32) (w:World):Calls Tryz.prog 111 #[.int .u32 (X:Int),.int .i64 (i:Int),.int .i64 (j:Int),.int .i64 (k:Int)] w fun e w'=>e=.returned (.int .u32 ((MIX i j k X:Nat):Int))/\w=w':=
 zgt X i j k _ _ _ _ _ w (z3f (z0q (by omega) hX) (z0q (by omega) hX)) (z3f (Nat.xor_lt_two_pow (z0q (by omega) hX) (z0q (by omega) hX)) (z0q (by omega) hX)) (fun w=>right_ok X i hX hi.1 hi.2 w) (fun w=>right_ok X j hX hj.1 hj.2 w) (fun w=>right_ok X k hX hk.1 hk.2 w)
theorem zeU {X:Nat} (hX:X<2 ^ 32):4294967295 ^^^ X=4294967295 - X:=by
 apply Nat.eq_of_testBit_eq;intro i;have e:(4294967295:Nat)=2 ^ 32 - 1:=rfl;have e2:4294967295 - X=2 ^ 32 - (X+1):=by omega
 rw [e2,Nat.testBit_two_pow_sub_succ hX,Nat.testBit_xor,e,Nat.testBit_two_pow_sub_one];by_cases h:i<32
 ·simp [h]
 ·have:X.testBit i=false:=Nat.testBit_lt_two_pow (Nat.lt_of_lt_of_le hX (Nat.pow_le_pow_right (by decide) (by omega)))
  simp [h,this]
theorem zhW {X:Nat} (hX:X<2 ^ 32):bits .xor .u32 IntKind.u32.max (X:Int)=((4294967295 - X:Nat):Int):=by
 rw [<-zeU hX];exact z3f (a:=4294967295) (by decide) hX
theorem zbz (x y z p q s r:Int) (w:World) (e1:bits .and .u32 x y=p) (e2:bits .xor .u32 IntKind.u32.max x=q) (e3:bits .and .u32 q z=s) (e4:bits .xor .u32 p s=r):
  Calls Tryz.prog 112 #[.int .u32 x,.int .u32 y,.int .u32 z] w fun e w'=>e=.returned (.int .u32 r)/\w=w':=by
 go_enter Tryz.func112,Tryz.ntmps112;go_wp2;go_ret;exact ⟨rfl,rfl⟩
theorem zd9 (X Y Z:Nat) (hX:X<2 ^ 32) (hY:Y<2 ^ 32) (hZ:Z<2 ^ 32) (w:World):Calls Tryz.prog 112 #[.int .u32 (X:Int),.int .u32 (Y:Int),.int .u32 (Z:Int)] w fun e w'=>e=.returned (.int .u32 ((CHO X Y Z:Nat):Int))/\w=w':=
 zbz X Y Z _ ((4294967295 - X:Nat):Int) _ _ w (z60 hX hY) (zhW hX) (z60 (by omega) hZ) (z3f (Nat.lt_of_le_of_lt Nat.and_le_left hX) (Nat.lt_of_le_of_lt Nat.and_le_right hZ))
theorem z8p (x y z p q s t r:Int) (w:World) (e1:bits .and .u32 x y=p) (e2:bits .and .u32 x z=q) (e3:bits .xor .u32 p q=s) (e4:bits .and .u32 y z=t) (e5:bits .xor .u32 s t=r):
  Calls Tryz.prog 113 #[.int .u32 x,.int .u32 y,.int .u32 z] w fun e w'=>e=.returned (.int .u32 r)/\w=w':=by
 go_enter Tryz.func113,Tryz.ntmps113;go_wp2;go_ret;exact ⟨rfl,rfl⟩
theorem z9B (X Y Z:Nat) (hX:X<2 ^ 32) (hY:Y<2 ^ 32) (hZ:Z<2 ^ 32) (w:World):Calls Tryz.prog 113 #[.int .u32 (X:Int),.int .u32 (Y:Int),.int .u32 (Z:Int)] w fun e w'=>e=.returned (.int .u32 ((MAJ X Y Z:Nat):Int))/\w=w':=
 z8p X Y Z _ _ _ _ _ w (z60 hX hY) (z60 hX hZ) (z3f (Nat.lt_of_le_of_lt Nat.and_le_left hX) (Nat.lt_of_le_of_lt Nat.and_le_left hX)) (z60 hY hZ) (z3f (Nat.xor_lt_two_pow (Nat.lt_of_le_of_lt Nat.and_le_left hX) (Nat.lt_of_le_of_lt Nat.and_le_left hX)) (Nat.lt_of_le_of_lt Nat.and_le_left hY))
theorem z0z {P:Program} {f:FuncId} {args:Array Value} {w:World} {n:Nat} {v:Value}
  (h:Calls P f args (w.drewN n) fun e w'=>e=.returned v/\w.drewN n=w'):Calls P f args (w.drewN n) fun e w''=>e=.returned v/\∃ m,w''=w.drewN m:=
 h.mono fun _ _ ⟨he,hm⟩=>⟨he,n,hm.symm⟩
theorem zda (x i j k c p r:Int) (R:Int->Int) (w:World) (hi:1<=i/\i<32) (hj:1<=j/\j<32) (hk:0<=k) (e1:bits .xor .u32 (R i) (R j)=p) (e2:bits .xor .u32 p c=r) (e3:x / 2 ^ min k.toNat 32=c)
  (ca:∀ n:Int,1<=n/\n<32->∀ w,Calls Tryz.prog 130 #[.int .u32 x,.int .i64 n] w fun e w'=>e=.returned (.int .u32 (R n))/\w=w'):
  Calls Tryz.prog 129 #[.int .u32 x,.int .i64 i,.int .i64 j,.int .i64 k] w fun e w'=>e=.returned (.int .u32 r)/\∃ m,w'=w.drewN m:=by
 go_enter Tryz.func129,Tryz.ntmps129;go_wp2;go_quiet ((go_at_call 130;exact z0z (ca _ (by assumption) _)))
 go_wp2;go_ret;exact ⟨rfl,_,rfl⟩
theorem z8q (X i j k:Nat) (hX:X<2 ^ 32) (hi:1<=i/\i<32) (hj:1<=j/\j<32) (hk:k<32) (w:World):Calls Tryz.prog 129 #[.int .u32 (X:Int),.int .i64 (i:Int),.int .i64 (j:Int),.int .i64 (k:Int)] w fun e w'=>e=.returned (.int .u32 ((z1d i j k X:Nat):Int))/\∃ m,w'=w.drewN m:=by
 refine zda X i j k ((X / 2 ^ k:Nat):Int) ((ROTR i X ^^^ ROTR j X:Nat):Int) _ (fun n=>((ROTR n.toNat X:Nat):Int)) w (by omega) (by omega) (by omega) ?_ ?_ ?_ ?_
 ·simp only [Int.toNat_natCast]
  exact z3f (z0q (by omega) hX) (z0q (by omega) hX)
 ·exact z3f (Nat.xor_lt_two_pow (z0q (by omega) hX) (z0q (by omega) hX)) (Nat.lt_of_le_of_lt (Nat.div_le_self _ _) hX)
 ·rw [Int.toNat_natCast,show min k 32=k by omega,z2e]
 ·intro n hn w
  obtain ⟨N,rfl⟩:∃ N:Nat,n=(N:Int):=⟨n.toNat,by omega⟩
  exact right_ok X N hX (by omega) (by omega) w
theorem zeV (b o n c:Nat) (v0 v1 v2 v3 x0 x1 x2 y1 y2 r:Int) (w:World) (hn:4<=n) (c0:w.cell? ⟨b,o,none⟩=some (.int .u8 v0)) (c1:w.cell? ⟨b,o+1,none⟩=some (.int .u8 v1)) (c2:w.cell? ⟨b,o+2,none⟩=some (.int .u8 v2)) (c3:w.cell? ⟨b,o+3,none⟩=some (.int .u8 v3))
  (e0:v0 % 4294967296*16777216 % 4294967296=x0) (e1:v1 % 4294967296*65536 % 4294967296=x1) (e2:v2 % 4294967296*256 % 4294967296=x2) (f1:bits .or .u32 x0 x1=y1) (f2:bits .or .u32 y1 x2=y2) (f3:bits .or .u32 y2 (v3 % 4294967296)=r):
  Calls Tryz.prog 128 #[.slice (some ⟨b,o,none⟩) n c] w fun e w'=>e=.returned (.int .u32 r)/\∃ m,w'=w.drewN m:=by
 have h0:(0:Int)<(n:Int):=by omega
 have h1:(1:Int)<(n:Int):=by omega
 have h2:(2:Int)<(n:Int):=by omega
 have h3:(3:Int)<(n:Int):=by omega
 clear hn;go_enter Tryz.func128,Tryz.ntmps128;go_wp2;go_quiet (fail)
 go_wp2;go_ret;exact ⟨rfl,_,rfl⟩
theorem zbA {a b k:Nat} (ha:a % 2 ^ k=0) (hb:b<2 ^ k) (h1:a<2 ^ 32) (h2:b<2 ^ 32):bits .or .u32 (a:Int) (b:Int)=((a+b:Nat):Int):=by
 rw [or32 h1 h2,nat_join k a b ha hb]
theorem zaB (b o n c:Nat) (s:Nat->Nat) (h:∀ i,s i<256) (i:Nat) (w:World) (hn:4<=n) (hc:∀ j,j<4->w.cell? ⟨b,o+j,none⟩=some (.int .u8 (s (i+j):Int))):
  Calls Tryz.prog 128 #[.slice (some ⟨b,o,none⟩) n c] w fun e w'=>e=.returned (.int .u32 ((z0c s i:Nat):Int))/\∃ m,w'=w.drewN m:=by
 have h0:=h i;have h1:=h (i+1);have h2:=h (i+2);have h3:=h (i+3);have w3:((s (i+3):Nat):Int) % 4294967296=((s (i+3):Nat):Int):=by omega
 refine zeV b o n c (s i:Nat) (s (i+1):Nat) (s (i+2):Nat) (s (i+3):Nat) ((s i*16777216:Nat):Int) ((s (i+1)*65536:Nat):Int) ((s (i+2)*256:Nat):Int) _ _ _ w hn (hc 0 (by omega)) (hc 1 (by omega)) (hc 2 (by omega)) (hc 3 (by omega)) ?_ ?_ ?_ (zbA (k:=24) ?_ ?_ ?_ ?_) (zbA (k:=16) ?_ ?_ ?_ ?_) (by rw [w3];exact zbA (k:=8) (by omega) (by omega) (by omega) (by omega));all_goals omega
def UARR (k:IntKind) (n:Nat) (f:Nat->Nat):Array Value:=((List.range n).map fun i=>Value.int k ((f i:Nat):Int)).toArray
theorem z03 (k:IntKind) (n:Nat) (f:Nat->Nat):(UARR k n f).size=n:=by simp [UARR]
theorem z0f (k:IntKind) (n:Nat) (f:Nat->Nat) (i:Nat) (h:i<n):(UARR k n f)[i]?=some (.int k ((f i:Nat):Int)):=by simp [UARR,h]
theorem z0m {k:IntKind} {n:Nat} {f g:Nat->Nat} (h:∀ i,i<n->f i=g i):UARR k n f=UARR k n g:=by
 unfold UARR;congr 1
 apply List.map_congr_left;intro i hi;rw [h i (by simpa using hi)]
theorem z1W (k:IntKind) (n:Nat) (f:Nat->Nat) (i:Nat) (v:Nat):(UARR k n f).setIfInBounds i (.int k (v:Int))=UARR k n fun j=>if j=i then v else f j:=by
 apply Array.ext_getElem?;intro j;by_cases hj:j<n
 ·rw [z0f _ _ _ j hj,Array.getElem?_setIfInBounds]
  by_cases h:i=j
  ·subst h
   simp [z03,hj]
  ·have h':¬ j=i:=fun e=>h e.symm
   simp [h,h',z0f _ _ _ j hj]
 ·rw [Array.getElem?_eq_none (by simp [z03];omega),Array.getElem?_eq_none (by simp [z03];omega)]
theorem z0j (k:IntKind) (n:Nat) (f:Nat->Nat):(UARR k n f).all (·.oneCell')=true:=by
 apply Array.all_eq_true_iff_forall_mem.2;intro v hv;simp [UARR] at hv;obtain ⟨i,_,rfl⟩:=hv;rfl
theorem z0M:(Tryz.prog.info? 25).map (·.size)=some 32:=by kernel_rfl
theorem z3R:(Tryz.prog.info? 148).map (·.size)=some 64:=by kernel_rfl
theorem zaC:(Tryz.prog.info? 168).map (·.size)=some 8:=by kernel_rfl
theorem zeW:(Tryz.prog.info? 170).map (·.size)=some 64:=by kernel_rfl
theorem z04 (f:Nat->Nat):(Tryz.prog.info? 25).map (·.size)=some (UARR .u8 32 f).size:=by rw [z03];exact z0M
theorem z61 (f:Nat->Nat):(Tryz.prog.info? 148).map (·.size)=some (UARR .u8 64 f).size:=by rw [z03];exact z3R
theorem z2Q (f:Nat->Nat):(Tryz.prog.info? 168).map (·.size)=some (UARR .u32 8 f).size:=by rw [z03];exact zaC
theorem z3S (f:Nat->Nat):(Tryz.prog.info? 170).map (·.size)=some (UARR .u32 64 f).size:=by rw [z03];exact zeW
def Has (w:World) (g:Nat) (c:Array Value) (t:TypeId):Prop:=w.heap[g]?=some (.cells c t)
theorem Has.cell {w:World} {g:Nat} {c:Array Value} {t:TypeId} (h:Has w g c t) (i:Nat):w.cell? ⟨g,i,none⟩=c[i]?:=cell_of_row w g i c t _ h
theorem Has.lt {w:World} {g:Nat} {c:Array Value} {t:TypeId} (h:Has w g c t):g<w.heap.size:=(Array.getElem?_eq_some_iff.1 h).1
theorem Has.frozen {w:World} {g:Nat} {c:Array Value} {t:TypeId} (h:Has w g c t) (i:Nat):w.frozen? ⟨g,i,none⟩=false:=by
 have e:w.heap[g]?=some (.cells c t):=h;simp [World.frozen?,e]
theorem Has.set {w:World} {g:Nat} {c:Array Value} {t:TypeId} (h:Has w g c t) (i:Nat) (v:Value):Has (w.setCell ⟨g,i,none⟩ v) g (c.setIfInBounds i v) t:=by
 have e:w.heap[g]?=some (.cells c t):=h;unfold Has;rw [setCell_eq_setRow w g i c t _ v e,setRow_heap w g c _ t _ e]
theorem Has.other {w:World} {g:Nat} {c:Array Value} {t:TypeId} (h:Has w g c t) {a:Addr} (ha:g≠a.block) (v:Value):Has (w.setCell a v) g c t:=by
 have e:w.heap[g]?=some (.cells c t):=h;unfold Has;rw [Below.heap_setCell w a v g ha,e]
theorem Has.below {B:Nat} {w w':World} {g:Nat} {c:Array Value} {t:TypeId} (h:Has w g c t) (hb:Below B w w') (hg:g<B):Has w' g c t:=(hb.block g hg).trans h
theorem Has.keep {w w':World} {g:Nat} {c:Array Value} {t:TypeId} (h:Has w g c t) (hb:Below w.heap.size w w'):Has w' g c t:=h.below hb h.lt
theorem Has.alloc {w:World} {g:Nat} {c:Array Value} {t:TypeId} (h:Has w g c t) (o:Obj):Has (w.alloc o) g c t:=by
 have e:w.heap[g]?=some (.cells c t):=h;unfold Has;rw [Below.heap_alloc w o g h.lt,e]
theorem Has.new (w:World) (c:Array Value) (t:TypeId):Has (w.alloc (.cells c t)) w.heap.size c t:=heap_alloc_new w _
theorem Has.at (w:World) (c:Array Value) (t:TypeId) {g:Nat} (hg:g=w.heap.size):Has (w.alloc (.cells c t)) g c t:=by subst hg;exact Has.new w c t
theorem Has.row {w:World} {g:Nat} {c:Array Value} {t:TypeId} (h:Has w g c t) (c':Array Value):Has (w.setRow g c') g c' t:=setRow_heap w g c c' t _ h
theorem Has.row_other {w:World} {g k:Nat} {c:Array Value} {t:TypeId} (h:Has w g c t) (hk:g≠k) (c':Array Value):Has (w.setRow k c') g c t:=by
 have e:w.heap[g]?=some (.cells c t):=h;unfold Has;rw [setRow_other w k g c' hk,e]
theorem Has.drewN {w:World} {g:Nat} {c:Array Value} {t:TypeId} (h:Has w g c t) (n:Nat):Has (w.drewN n) g c t:=h
theorem z1N {w:World} {b i j:Nat} (h:i≠j) (v:Value):(w.setCell ⟨b,i,none⟩ v).cell? ⟨b,j,none⟩=w.cell? ⟨b,j,none⟩:=World.cell?_setCell_other w _ _ v (fun e=>h (congrArg Addr.off e))
theorem z0d {B g:Nat} {w0 w:World} (hb:Below B w0 w) (hBg:B<=g) (cs:Array Value):Below B w0 (w.setRow g cs):=
 ⟨hb.os,hb.tape,hb.output,by have:=hb.size;simpa [World.setRow] using this,fun k hk=>by rw [setRow_other w g k cs (by omega)];exact hb.block k hk⟩
theorem z62 (b i:Nat) (h:i<32) (l:Int) (hl:l=(i:Int)) (w:World):(Instr.sliceAt 25 (.pointer (some ⟨b,0,none⟩)) (some (.int .i64 l)) none none).run Tryz.prog w=.ok (.slice (some ⟨b,i,none⟩) (32 - i) (32 - i)) w:=by
 subst hl;have hn:Tryz.prog.arrayLen 25=32:=by kernel_rfl
 rw [run_sliceAt_array_l w 25 ⟨b,0,none⟩ (by kernel_rfl) .i64 (i:Int) (by omega) (by rw [hn];omega),hn];have he:Tryz.prog.elem 25=5:=by kernel_rfl
 obtain ⟨i8,hi,h8⟩:=Option.map_eq_some_iff.1 z0Q;simp only [Prod.mk.injEq] at h8;rw [he];simp [sizeOf,typeInfo,hi,h8.2.1,slicedAt];rw [if_neg (by omega)];simp [Addr.add];omega
theorem z9C (b i:Nat) (h:i<64) (l:Int) (hl:l=(i:Int)) (w:World):(Instr.sliceAt 148 (.pointer (some ⟨b,0,none⟩)) (some (.int .i64 l)) none none).run Tryz.prog w=.ok (.slice (some ⟨b,i,none⟩) (64 - i) (64 - i)) w:=by
 subst hl;have hn:Tryz.prog.arrayLen 148=64:=by kernel_rfl
 rw [run_sliceAt_array_l w 148 ⟨b,0,none⟩ (by kernel_rfl) .i64 (i:Int) (by omega) (by rw [hn];omega),hn];have he:Tryz.prog.elem 148=5:=by kernel_rfl
 obtain ⟨i8,hi,h8⟩:=Option.map_eq_some_iff.1 z0Q;simp only [Prod.mk.injEq] at h8;rw [he];simp [sizeOf,typeInfo,hi,h8.2.1,slicedAt];rw [if_neg (by omega)];simp [Addr.add];omega
theorem z3T {k:IntKind} {n i:Nat} {F f:Nat->Nat} (hf:∀ j,f j=if j<i then F j else 0) (v:Nat) (hv:v=F i):(UARR k n f).setIfInBounds i (.int k (v:Int))=UARR k n fun j=>if j<i+1 then F j else 0:=by
 rw [z1W];apply z0m;intro j _;by_cases e:j=i
 ·subst e
  simp [hv]
 ·rw [if_neg e,hf j]
  by_cases e2:j<i
  ·rw [if_pos e2,if_pos (by omega)]
  ·rw [if_neg e2,if_neg (by omega)]
theorem zeX (s:Nat->Nat) (h:∀ i,s i<256) (w:World):Calls Tryz.prog 109 #[.agg (UARR .u8 32 s)] w fun e w'=>e=.returned (.agg (UARR .u32 8 fun i=>z0c s (4*i)))/\Below w.heap.size w w':=by
 have hz:(#[.int .u32 0,.int .u32 0,.int .u32 0,.int .u32 0,.int .u32 0,.int .u32 0,.int .u32 0,.int .u32 0]:Array Value)=UARR .u32 8 fun _=>0:=rfl;have H:Aside (∀ i,s i<256):=h;clear h;go_enter Tryz.func109,Tryz.ntmps109;go_wp2;go_loopg [5] 8 (fun g s5 wx=>∃ i:Nat,i+g=8/\s5=.int .i64 i/\Aside (Below w.heap.size w wx/\Has wx w.heap.size (UARR .u8 32 s) 25/\Has wx (w.heap.size+1) (UARR .u32 8 fun _=>0) 168/\Has wx (w.heap.size+2) (UARR .u32 8 fun j=>if j<i then z0c s (4*j) else 0) 168))
 case atStart=>
  refine ⟨0,by omega,rfl,?_⟩;have e:(UARR .u32 8 fun j=>if j<0 then z0c s (4*j) else 0)=UARR .u32 8 fun _=>0:=z0m fun j _=>if_neg (by omega);rw [e];exact ⟨(((Below.refl _ _).alloc (Nat.le_refl _) _).alloc (by simp) _).alloc (by simp;omega) _,((Has.new w _ _).alloc _).alloc _,(Has.at _ _ _ (by simp)).alloc _,Has.at _ _ _ (by simp)⟩
 case round=>
  obtain ⟨i,hig,rfl,A⟩:=hrel;cases gk with
  | zero=>
    obtain rfl:i=8:=by omega
    obtain ⟨hb,h0,h1,h2⟩:=A.out
    go_wp2_with (first
     | (refine wpList_load_row rfl 168 _ rfl _ rfl _ _ (0,0) _ h2 Tryz.underlying168 rfl (z2Q _) ?_)
     | (refine wpList_store_row rfl 168 _ _ rfl _ _ rfl rfl _ _ h1 (z2Q _) (by rw [z03,z03]) (z0j _ _ _) ?_))
    have e:(UARR .u32 8 fun j=>if j<8 then z0c s (4*j) else 0)=UARR .u32 8 fun i=>z0c s (4*i):=z0m fun j hj=>by rw [if_pos hj]
    rw [e];refine bodyPost_ret (v:=.agg (UARR .u32 8 fun i=>z0c s (4*i))) ?_ rfl ⟨rfl,z0d hb (by omega) _⟩;exact results_cell_row rfl _ _ (w.heap.size+1) 168 _ (0,0) _ rfl (h1.row _) Tryz.underlying168 rfl (z2Q _)
  | succ g=>
    obtain ⟨hb,h0,h1,h2⟩:=A.out;have hi:(i:Int)<8:=by omega
    have hsl:=z62 w.heap.size (4*i) (by omega) (4*(i:Int)) (by omega);have hw:=zaB w.heap.size (4*i) (32 - 4*i) (32 - 4*i) s H.out (4*i) wr (by omega) (fun j hj=>by rw [h0.cell,z0f _ _ _ _ (by omega)]);have hc:wr.cell? ⟨w.heap.size+1+1,i,none⟩=some (.int .u32 0):=by rw [h2.cell,z0f _ _ _ _ (by omega),if_neg (by omega)];rfl
    have hf:wr.frozen? ⟨w.heap.size+1+1,i,none⟩=false:=h2.frozen i;generalize hv:z0c s (4*i)=v at hw;have R:Aside (Below w.heap.size w wr/\Has wr w.heap.size (UARR .u8 32 s) 25/\Has wr (w.heap.size+1) (UARR .u32 8 fun _=>0) 168/\Has wr (w.heap.size+2) (UARR .u32 8 fun j=>if j<i then z0c s (4*j) else 0) 168/\z0c s (4*i)=v):=⟨hb,h0,h1,h2,hv⟩
    clear hb h0 h1 h2 hv A;go_wp2_with fail
    refine hw.mono ?_;rintro e w' ⟨rfl,m,rfl⟩;clear hw;go_wp2;go_roundg g
    case measure=>omega
    case rel=>
     obtain ⟨hb,h0,h1,h2,hv⟩:=R.out;refine ⟨i+1,by omega,by go_num,?_⟩;rw [<-z3T (F:=fun j=>z0c s (4*j)) (fun j=>rfl) v hv.symm];exact ⟨(below_drewN hb m).setCell (by show _<=w.heap.size+1+1;omega) _,(h0.drewN m).other (by show w.heap.size≠w.heap.size+1+1;omega) _,(h1.drewN m).other (by show w.heap.size+1≠w.heap.size+1+1;omega) _,(h2.drewN m).set i _⟩
end Go.Proofs.YtlbcnaenhghieaaGreatDoor.HX
