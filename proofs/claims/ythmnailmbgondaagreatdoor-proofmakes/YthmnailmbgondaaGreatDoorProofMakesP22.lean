/- ProofMakes: part 22. -/
import Derived.Test.YthmnailmbgondaaGreatDoorProofMakesP20
import Derived.Test.YthmnailmbgondaaGreatDoorProofMakesP21
set_option maxHeartbeats 2000000
namespace Go.Proofs.YthmnailmbgondaaGreatDoor
open Go.RowKit
theorem z3K {ops:Array Oper} {rest:List Oper} {o:Oper} {a:Act} {Q:Exit->Act->World->Prop} (w:World) (hgd:o.guard=none) (s x:Operand)
  (ho:o.op=.call {callee:=.builtin .append,args:=#[s,x],argTypes:=#[23,23]})
  (base:Nat) (v:Value) (n:Nat) (xs:List Nat) (hs:a.eval s=v) (hown:w.ownsRow base 24 1 v n (z06 xs))
  (b c:Nat) (y:Nat) (hx:a.eval x=.slice (some ⟨b,0,none⟩) 1 c) (hc:w.cell? ⟨b,0,none⟩=some (.int .u64 (y:Int)))
  (hb:n<=1000) (hbase:base<=w.heap.size)
  (h:∀ g cap w',w'.ownsRow base 24 1 (.slice (some ⟨g,0,none⟩) (n+1) cap) (n+1) (z06 (xs ++ [y]))->w.grownBy w' v.ownBlock->g<w'.heap.size->wpList Tryz.prog ops Q rest (a.put o.dst (.slice (some ⟨g,0,none⟩) (n+1) cap)) w'):wpList Tryz.prog ops Q (o :: rest) a w:=by
 obtain ⟨i,hi,hz,hs1,hby⟩:=info_parts z24;refine wpList_append_lies w hgd s x 23 ho base 24 i (.int .u64 0) 1 8 Tryz.underlying23 hi hz hs1 hby rfl (by decide) v n (z06 xs) hs hown ⟨b,0,none⟩ 1 c [.int .u64 (y:Int)] hx rfl ?_ (fun u hu=>by simp at hu;subst hu;rfl) (by decide) (by simp only [maxLen];omega) (by omega) hbase w.heap.size rfl ?_
 ·intro j u hj
  cases j with
  | zero=>
    simp only [List.getElem?_cons_zero,Option.some.injEq] at hj;subst hj;exact hc
  | succ j=>simp at hj
 ·intro g cap w' h1 h2 _ h4
  rw [<-z1E] at h1;exact h g cap w' h1 h2 h4
theorem zf2 (i n x r:Int) (w:World) (hd:decide (4611686018427387904<n)=false) (hi:decide (n<=i)=false) (hx:bits .xor .u64 i n=x) (c:∀ w,Calls Tryz.prog 92 #[.int .u64 x] w fun e w'=>e=.returned (.int .i64 r)/\w=w'):
  Calls Tryz.prog 105 #[.int .u64 i,.int .u64 n] w fun e w'=>e=.returned (.tuple #[.int .i64 r,.bool true])/\w=w':=by
 go_enter Tryz.func105,Tryz.ntmps105;have hd':¬ 4611686018427387904<n:=by simpa using hd
 have hi':¬ n<=i:=by simpa using hi
 go_wp2_with fail
 refine (c _).mono ?_;rintro e w' ⟨rfl,rfl⟩;go_wp2;go_ret2;exact ⟨rfl,rfl⟩
theorem zaG (i n:Nat) (hi:i<n) (hn:n<=4611686018427387904) (w:World):Calls Tryz.prog 105 #[.int .u64 (i:Int),.int .u64 (n:Int)] w fun e w'=>e=.returned (.tuple #[.int .i64 ((RISE i n:Nat):Int),.bool true])/\w=w':=by
 have hX:i ^^^ n<2 ^ 63:=Nat.xor_lt_two_pow (by omega) (by omega);have h1:=(z0R hi hn).1;refine zf2 i n ((i ^^^ n:Nat):Int) _ w (by simp;omega) (by simp;omega) (bits_xor_u64_nat i n (by omega) (by omega)) (fun w=>?_);have:=z71 (i ^^^ n) (by omega) w;rw [show ((LEN (i ^^^ n):Nat):Int) - 1=((RISE i n:Nat):Int) by unfold RISE;omega] at this;exact this
theorem zf3 (i n:Int) (h:¬ (i<n/\n<=4611686018427387904)) (w:World):Calls Tryz.prog 105 #[.int .u64 i,.int .u64 n] w fun e w'=>e=.returned (.tuple #[.int .i64 0,.bool false])/\w=w':=by
 by_cases hd:4611686018427387904<n
 ·clear h
  go_enter Tryz.func105,Tryz.ntmps105;go_wp2;go_ret2;exact ⟨rfl,rfl⟩
 ·have hi:n<=i:=by omega
  clear h;go_enter Tryz.func105,Tryz.ntmps105;go_wp2;go_ret2;exact ⟨rfl,rfl⟩
theorem zf4 (i n r x y k:Int) (w:World) (h:Nat) (hr:r=(h:Int)) (e1:n / 2 ^ min h 64=x) (e2:x / 2=y) (c:∀ w,Calls Tryz.prog 105 #[.int .u64 i,.int .u64 n] w fun e w'=>e=.returned (.tuple #[.int .i64 r,.bool true])/\w=w') (co:∀ w,Calls Tryz.prog 90 #[.int .u64 y] w fun e w'=>e=.returned (.int .i64 k)/\w=w'):
  Calls Tryz.prog 73 #[.int .u64 i,.int .u64 n] w fun e w'=>e=.returned (.tuple #[.int .i64 k,.bool true])/\w=w':=by
 subst hr;go_enter Tryz.func73,Tryz.ntmps73;go_wp2_with fail
 refine (c _).mono ?_;rintro e w' ⟨rfl,rfl⟩;clear c;go_wp2_with fail
 refine (co _).mono ?_;rintro e w' ⟨rfl,rfl⟩;go_wp2;go_ret2;exact ⟨rfl,rfl⟩
theorem zgl (i n:Nat) (hi:i<n) (hn:n<=4611686018427387904) (w:World):Calls Tryz.prog 73 #[.int .u64 (i:Int),.int .u64 (n:Int)] w fun e w'=>e=.returned (.tuple #[.int .i64 ((KTH i n:Nat):Int),.bool true])/\w=w':=by
 have h2:=(z0R hi hn).2.1;refine zf4 i n _ ((n / 2 ^ RISE i n:Nat):Int) ((n / 2 ^ (RISE i n+1):Nat):Int) _ w (RISE i n) rfl ?_ ?_ (fun w=>zaG i n hi hn w) (fun w=>?_)
 ·rw [show min (RISE i n) 64=RISE i n by omega,z21]
 ·rw [z0r]
  omega
 ·have hl:n / 2 ^ (RISE i n+1)<2 ^ 64:=Nat.lt_of_le_of_lt (Nat.div_le_self _ _) (by omega)
  have:=z6O (n / 2 ^ (RISE i n+1)) hl w;rw [z8l hl] at this;exact this
theorem zf5 (i n:Int) (h:¬ (i<n/\n<=4611686018427387904)) (w:World):Calls Tryz.prog 72 #[.int .u64 i,.int .u64 n] w fun e w'=>e=.returned (.tuple #[.slice none 0 0,.bool false])/\w=w':=by
 have c:=zf3 i n h;clear h;go_enter Tryz.func72,Tryz.ntmps72;go_wp2_with fail
 refine (c _).mono ?_;rintro e w' ⟨rfl,rfl⟩;clear c;go_wp2;go_ret2;exact ⟨rfl,rfl⟩
theorem zgm (i n:Nat) (hi:i<n) (hn:n<=4611686018427387904) (w:World):Calls Tryz.prog 72 #[.int .u64 (i:Int),.int .u64 (n:Int)] w fun e w'=>
  ∃ g cap,e=.returned (.tuple #[.slice (some ⟨g,0,none⟩) (RISE i n) cap,.bool true])/\w'.ownsRow w.heap.size 24 1 (.slice (some ⟨g,0,none⟩) (RISE i n) cap) (RISE i n) (z06 (WAY i (RISE i n)))/\g<w'.heap.size/\Below w.heap.size w w':=by
 have c1:=zaG i n hi hn;have h62:=(z0R hi hn).2.1;have c2:=z5G i (by omega);generalize RISE i n=H at *
 obtain ⟨cur,hcs,hmk⟩:=z8M H (by omega) w;have HA:Aside (i<4611686018427387904/\H<=62/\cur.size=H):=⟨by omega,h62,hcs⟩
 have hp:(z01 i:Nat)=PLC 0 (i / 2 ^ 0):=by rw [z5D,Nat.pow_zero,Nat.div_one]
 rw [hp] at c2;clear hi hn h62 hcs hp;go_enter Tryz.func72,Tryz.ntmps72;go_wp2_with fail
 refine (c1 _).mono ?_;rintro e w' ⟨rfl,rfl⟩;clear c1;go_wp2_with fail
 refine (c2 _).mono ?_;rintro e w' ⟨rfl,rfl⟩;clear c2;go_wp2;go_loopg [8,9,25] H (fun g s8 s9 s25 wx=>∃ j:Nat,s25=.int .i64 (j:Int)/\s9=.int .u64 ((PLC j (i / 2 ^ j):Nat):Int)/\Aside (j+g=H/\wx.ownsRow w.heap.size 24 1 s8 j (z06 (WAY i j))/\(∃ b cap,s8=.slice (some ⟨b,0,none⟩) j cap/\b<wx.heap.size)/\Below w.heap.size w wx))
 case atStart=>exact ⟨0,rfl,by rw [Nat.pow_zero,Nat.div_one],by omega,World.ownsRow_made w cur H (Nat.le_refl _) (by have:=HA.out.2.1;simp only [maxLen];omega) (by rw [HA.out.2.2];omega),⟨_,_,rfl,by simp⟩,(Below.refl _ _).alloc (Nat.le_refl _) _⟩
 case round=>
  obtain ⟨j,rfl,rfl,A⟩:=hrel;clear hmk;cases gk with
  | zero=>
    obtain ⟨hj,hown,⟨b,cap,hs,hb⟩,hbel⟩:=A.out;obtain rfl:j=H:=by omega
    subst hs;have hlt:¬ (j:Int)<(j:Int):=by omega
    clear hj hown hb hbel HA;go_wp2;go_ret2;obtain ⟨hj,hown,⟨b',cap',hs,hb⟩,hbel⟩:=A.out;cases hs;exact ⟨b,cap,rfl,hown,hb,hbel⟩
  | succ g=>
    obtain ⟨hj,hown,⟨b,cap,hs,hb⟩,hbel⟩:=A.out;have hlt:(j:Int)<(H:Int):=by omega
    have h62:=HA.out.2.1;have hN:=Node.over HA.out.1 j (by omega);have cb:=z7v j (i / 2 ^ j) hN (by omega);have co:=zgf j (i / 2 ^ j) hN (by omega)
    have hR:(bits .and .u64 ((i:Int) / 2 ^ min j 64) 1 == 1)=decide (i / 2 ^ j % 2=1):=by
     rw [show min j 64=j by omega,z21];exact z8C _ (Nat.lt_of_le_of_lt (Nat.div_le_self _ _) (by have:=HA.out.1;omega))
    have e1:wrap64 ((j:Int)+1)=((j+1:Nat):Int):=by unfold wrap64;omega
    have hj0:¬ (j:Int)<0:=by omega
    rw [<-z0r] at co;have hw:=z8B i j;generalize hz:decide (i / 2 ^ j % 2=1)=z at *
    clear hz;generalize PLC j (i / 2 ^ j)=x at *
    generalize PLC j (SIB (i / 2 ^ j))=y at *
    generalize hv:PLC (j+1) (i / 2 ^ (j+1))=v at *
    have R:Aside (j+1+g=H/\wr.ownsRow w.heap.size 24 1 u8 j (z06 (WAY i j))/\Below w.heap.size w wr/\j<=1000/\WAY i (j+1)=WAY i j ++ [y]/\PLC (j+1) (i / 2 ^ (j+1))=v):=⟨by omega,hown,hbel,by omega,hw,hv⟩
    clear A hj hown hs hb hbel h62 hN hw hv HA;go_wp2_with fail
    refine (cb _).mono ?_;rintro e w' ⟨rfl,rfl⟩;clear cb;go_wp2_with (at_builtin;refine z3K _ rfl (.tmp 33) (.tmp 38) rfl w.heap.size u8 j (WAY i j) rfl (R.out.2.1.alloc _) wr.heap.size 1 y rfl (by rw [World.cell?_alloc_at _ _ _ _ rfl];rfl) R.out.2.2.2.1 (by have:=R.out.2.2.1.size;simp;omega) ?_;intro g' cap w1 hown hgrow hg)
    obtain ⟨r1,r2,r3,r4,r5,r6⟩:=R.out;have R2:Aside (j+1+g=H/\w1.ownsRow w.heap.size 24 1 (.slice (some ⟨g',0,none⟩) (j+1) cap) (j+1) (z06 (WAY i (j+1)))/\g'<w1.heap.size/\Below w.heap.size w w1/\PLC (j+1) (i / 2 ^ (j+1))=v):=⟨r1,by rw [r5];exact hown,hg,(r3.alloc r3.size _).grown hgrow (by have:=r3.size;simp;omega) (fun k e=>(r2.lt k e).1),r6⟩
    clear hown hgrow hg R r1 r2 r3 r4 r5 r6;refine (co _).mono ?_;rintro e w' ⟨rfl,rfl⟩;clear co;go_wp2;go_roundg g
    case measure=>omega
    case rel=>
     obtain ⟨r1,r2,r3,r4,r6⟩:=R2.out;exact ⟨j+1,by first | rfl | (rw [e1]),by rw [r6],r1,r2,⟨_,_,rfl,r3⟩,r4⟩
def z0k (l:List (Nat × Nat)):List Value:=l.flatMap fun x=>[Value.int .u8 (x.1:Int),Value.int .u64 (x.2:Int)]
theorem z9N (l:List (Nat × Nat)) (h k:Nat):z0k (l ++ [(h,k)])=z0k l ++ [Value.int .u8 (h:Int),Value.int .u64 (k:Int)]:=by simp [z0k]
theorem z7C:∀ (l:List (Nat × Nat)) (j h k:Nat),l[j]?=some (h,k)->(z0k l)[j*2]?=some (.int .u8 (h:Int))/\(z0k l)[j*2+1]?=some (.int .u64 (k:Int))
 | [],j,h,k,e=>by simp at e
 | x :: l,0,h,k,e=>by
   simp at e;subst e;simp [z0k]
 | x :: l,j+1,h,k,e=>by
   have:=z7C l j h k (by simpa using e);have e1:(j+1)*2=j*2+1+1:=by omega
   simp only [z0k,List.flatMap_cons,List.cons_append,List.nil_append,e1,List.getElem?_cons_succ];exact this
theorem zdm:(Tryz.prog.info? 101).map (fun i=>(i.zero,i.size,i.bytes))=some (some (.agg #[.int .u8 0,.int .u64 0]),2,16):=by kernel_rfl
theorem z3c {ops:Array Oper} {rest:List Oper} {o:Oper} {a:Act} {Q:Exit->Act->World->Prop} (w:World) (hgd:o.guard=none) (s x:Operand)
  (ho:o.op=.call {callee:=.builtin .append,args:=#[s,x],argTypes:=#[97,97]})
  (base:Nat) (v:Value) (n:Nat) (xs:List (Nat × Nat)) (hs:a.eval s=v) (hown:w.ownsRow base 101 2 v n (z0k xs))
  (b c:Nat) (h k:Nat) (hx:a.eval x=.slice (some ⟨b,0,none⟩) 1 c) (hc0:w.cell? ⟨b,0,none⟩=some (.int .u8 (h:Int))) (hc1:w.cell? ⟨b,1,none⟩=some (.int .u64 (k:Int)))
  (hb:n<=1000) (hbase:base<=w.heap.size)
  (hh:∀ g cap w',w'.ownsRow base 101 2 (.slice (some ⟨g,0,none⟩) (n+1) cap) (n+1) (z0k (xs ++ [(h,k)]))->w.grownBy w' v.ownBlock->g<w'.heap.size->wpList Tryz.prog ops Q rest (a.put o.dst (.slice (some ⟨g,0,none⟩) (n+1) cap)) w'):wpList Tryz.prog ops Q (o :: rest) a w:=by
 obtain ⟨i,hi,hz,hs1,hby⟩:=info_parts zdm;refine wpList_append_lies w hgd s x 97 ho base 101 i _ 2 16 Tryz.underlying97 hi hz hs1 hby rfl (by decide) v n (z0k xs) hs hown ⟨b,0,none⟩ 1 c [.int .u8 (h:Int),.int .u64 (k:Int)] hx rfl ?_ (fun u hu=>by simp at hu;rcases hu with rfl | rfl <;> rfl) (by decide) (by simp only [maxLen];omega) (by omega) hbase w.heap.size rfl ?_
 ·intro j u hj
  match j,hj with
  | 0,hj=>
    simp only [List.getElem?_cons_zero,Option.some.injEq] at hj;subst hj;exact hc0
  | 1,hj=>
    simp only [List.getElem?_cons_succ,List.getElem?_cons_zero,Option.some.injEq] at hj;subst hj;exact hc1
  | j+2,hj=>simp at hj
 ·intro g cap w' h1 h2 _ h4
  rw [<-z9N] at h1;exact hh g cap w' h1 h2 h4
def Spots (w:World) (a:Option Addr) (l:List (Nat × Nat)):Prop:=0<l.length->∃ g,a=some ⟨g,0,none⟩/\g<w.heap.size/\∀ (j h k:Nat),l[j]?=some (h,k)->w.cell? ⟨g,j*2,none⟩=some (.int .u8 (h:Int))/\w.cell? ⟨g,j*2+1,none⟩=some (.int .u64 (k:Int))
theorem Spots.below {w w':World} {a:Option Addr} {l:List (Nat × Nat)} (h:Spots w a l) (hb:Below w.heap.size w w'):Spots w' a l:=fun h0=>by
 obtain ⟨g,e,hg,hc⟩:=h h0;exact ⟨g,e,Nat.lt_of_lt_of_le hg hb.size,fun j x y he=>⟨(hb.cell (p:=⟨g,j*2,none⟩) hg).trans (hc j x y he).1,(hb.cell (p:=⟨g,j*2+1,none⟩) hg).trans (hc j x y he).2⟩⟩
theorem z2E {w:World} {base n:Nat} {v:Value} {l:List (Nat × Nat)} (hl:l.length=n) (h:w.ownsRow base 101 2 v n (z0k l)):∃ a cap,v=.slice a n cap/\Spots w a l:=by
 rcases h.2 with ⟨rfl,h0⟩ | ⟨g,cap,cur,rfl,hb,hg,r⟩
 ·subst h0
  exact ⟨none,0,rfl,fun h=>by omega⟩
 ·refine ⟨_,cap,rfl,fun h0=>⟨g,rfl,?_,fun j x y he=>?_⟩⟩
  ·exact (Array.getElem?_eq_some_iff.1 hg).1
  ·have hj:j<n:=by rw [<-hl];exact (List.getElem?_eq_some_iff.1 he).1
   have h1:=z7C l j x y he;exact ⟨(h.cellAt (j*2) (by omega)).trans h1.1,(h.cellAt (j*2+1) (by omega)).trans h1.2⟩
theorem z0s {w w':World} {base:Nat} {t:TypeId} {s:Nat} {v:Value} {n:Nat} {xs:List Value} (h:w.ownsRow base t s v n xs) (hb:Below w.heap.size w w'):w'.ownsRow base t s v n xs:=by
 refine ⟨h.1,h.2.imp id ?_⟩;rintro ⟨g,c,cur,a,b,r,rest⟩;exact ⟨g,c,cur,a,b,(hb.block g (Array.getElem?_eq_some_iff.1 r).1).trans r,rest⟩
def TOPS (h n:Nat):List (Nat × Nat):=(HS h n).map fun g=>(g,2*(n / 2 ^ (g+1)))
theorem zf6 {h n:Nat} (hh:h<64) (hb:n / 2 ^ h % 2=1):TOPS h n=TOPS (h+1) n ++ [(h,2*(n / 2 ^ (h+1)))]:=by
 unfold TOPS;rw [z2B hh hb,List.map_append];rfl
theorem zbM {h n:Nat} (hh:h<64) (hb:¬ n / 2 ^ h % 2=1):TOPS h n=TOPS (h+1) n:=by
 unfold TOPS;rw [z2u hh hb]
theorem z3z {n:Nat} (hn:n<2 ^ 64) (h:Nat) (hh:h<=64):(TOPS h n).length=PC (n / 2 ^ h):=by
 unfold TOPS;rw [List.length_map];exact z2C hn h hh
theorem zbN {n h at' r:Nat} (ha:at'=n / 2 ^ (h+1)*2 ^ (h+1)) (hr:r=n - at'):at'<=n/\(2 ^ h<=r↔n / 2 ^ h % 2=1)/\at' / 2 ^ h=2*(n / 2 ^ (h+1))/\(n / 2 ^ h % 2=1->at'+2 ^ h=n / 2 ^ h*2 ^ h)/\(¬ n / 2 ^ h % 2=1->at'=n / 2 ^ h*2 ^ h):=by
 have hp:=Nat.two_pow_pos h;have e1:at'=2*(n / 2 ^ (h+1))*2 ^ h:=by rw [ha,z17]
 have hd:=Nat.div_add_mod n (2 ^ h);have hm:=Nat.mod_lt n hp;rw [Nat.mul_comm] at hd;have hq:at' / 2 ^ h=2*(n / 2 ^ (h+1)):=by rw [e1,Nat.mul_div_cancel _ hp]
 by_cases hb:n / 2 ^ h % 2=1
 ·have h2:=z4L hb
  have e2:n / 2 ^ h*2 ^ h=at'+2 ^ h:=by rw [h2,Nat.add_mul,Nat.one_mul,<-e1]
  exact ⟨by omega,⟨fun _=>hb,fun _=>by omega⟩,hq,fun _=>e2.symm,fun h=>absurd hb h⟩
 ·have h2:=z8z hb
  have e2:n / 2 ^ h*2 ^ h=at':=by rw [h2,<-e1]
  exact ⟨by omega,⟨fun _=>by omega,fun h=>absurd h hb⟩,hq,fun h=>absurd h hb,fun _=>e2.symm⟩
theorem zgn (n:Nat) (hn:n<=4611686018427387904) (w:World):Calls Tryz.prog 48 #[.int .u64 (n:Int)] w fun e w'=>
  ∃ v,e=.returned v/\w'.ownsRow w.heap.size 101 2 v (PC n) (z0k (TOPS 0 n))/\Below w.heap.size w w':=by
 have HN:Aside (n<=4611686018427387904):=hn;have hd:¬ (4611686018427387904:Int)<(n:Int):=by omega
 clear hn;go_enter Tryz.func48,Tryz.ntmps48;go_wp2;go_loopg [3,4,5] 63 (fun q s3 s4 s5 wx=>∃ a:Nat,s4=.int .u64 (a:Int)/\s5=.int .i64 ((q:Int) - 1)/\Aside (q<=63/\a=n / 2 ^ q*2 ^ q/\wx.ownsRow w.heap.size 101 2 s3 (PC (n / 2 ^ q)) (z0k (TOPS q n))/\Below w.heap.size w wx))
 case atStart=>
  have hz:n / 2 ^ 63=0:=Nat.div_eq_of_lt (by have:=HN.out;omega);refine ⟨0,rfl,rfl,by omega,by rw [hz,Nat.zero_mul],?_,Below.refl _ _⟩;rw [hz,z1a]
  have ht:TOPS 63 n=[]:=by
    unfold TOPS;rw [z8y (by have:=HN.out;omega)];rfl
  rw [ht];exact ⟨rfl,.inl ⟨rfl,rfl⟩⟩
 case round=>
  obtain ⟨a,rfl,rfl,A⟩:=hrel;cases gk with
  | zero=>
    have hlt:¬ (0:Int)<=((0:Nat):Int) - 1:=by omega
    go_wp2;go_ret;obtain ⟨_,_,hown,hbel⟩:=A.out;rw [Nat.pow_zero,Nat.div_one] at hown;exact ⟨_,rfl,hown,hbel⟩
  | succ h=>
    obtain ⟨h63,ha,hown,hbel⟩:=A.out;have hnn:=HN.out;obtain ⟨r,hr⟩:∃ r,r=n - a:=⟨_,rfl⟩
    obtain ⟨p1,p2,p3,p4,p5⟩:=zbN ha hr;have c:=z0V h (by omega);have hpw:2 ^ h<=2 ^ 62:=Nat.pow_le_pow_right (by decide) (by omega);have hp0:=Nat.two_pow_pos h;have e0:((h+1:Nat):Int) - 1=(h:Int):=by omega
    have e0':¬ (h:Int)<0:=by omega
    have e1:IntKind.u64.wrap ((n:Int) - (a:Int))=(r:Int):=by rw [z0b];omega
    have e3:(h:Int) % 256=(h:Int):=by omega
    have e4:wrap64 ((h:Int) - 1)=(h:Int) - 1:=by unfold wrap64;omega
    rw [e0];by_cases hb:n / 2 ^ h % 2=1
    ·have hge:2 ^ h<=r:=p2.2 hb
     have pq:=p4 hb;have e5:(a:Int) / ((2 ^ h:Nat):Int)=((2*(n / 2 ^ (h+1)):Nat):Int):=by rw [<-p3,Int.natCast_ediv]
     have hT:=zf6 (n:=n) (h:=h) (by omega) hb;have hPC:PC (n / 2 ^ h)=PC (n / 2 ^ (h+1))+1:=by rw [z0E,<-z0r];omega
     have hlen:PC (n / 2 ^ (h+1))<=1000:=by have:=z19 64 (n / 2 ^ (h+1)) (Nat.lt_of_le_of_lt (Nat.div_le_self _ _) (by omega));omega
     have hk64:2*(n / 2 ^ (h+1))<2 ^ 64:=by rw [<-p3];exact Nat.lt_of_le_of_lt (Nat.div_le_self _ _) (by omega)
     generalize 2*(n / 2 ^ (h+1))=k at *
     have e7:IntKind.u64.wrap (k:Int)=(k:Int):=by rw [z0b];omega
     have e6:IntKind.u64.wrap ((a:Int)+((2 ^ h:Nat):Int))=((n / 2 ^ h*2 ^ h:Nat):Int):=by rw [z0b,<-pq];omega
     have hge':((2 ^ h:Nat):Int)<=(r:Int):=by omega
     have hz0:¬ ((2 ^ h:Nat):Int)=0:=by omega
     generalize hm:PC (n / 2 ^ (h+1))=m at *
     generalize hl:TOPS (h+1) n=l at *
     generalize ((2 ^ h:Nat):Int)=z at *
     generalize hx:n / 2 ^ h*2 ^ h=x at *
     have R:Aside (h<=62/\x=n / 2 ^ h*2 ^ h/\wr.ownsRow w.heap.size 101 2 u3 m (z0k l)/\Below w.heap.size w wr/\m<=1000/\PC (n / 2 ^ h)=m+1/\TOPS h n=l ++ [(h,k)]):=⟨by omega,hx.symm,hown,hbel,hlen,hPC,hT⟩
     clear A HN h63 ha hown hbel hnn hr p1 p2 p3 p4 p5 hpw hp0 hb hge pq hT hPC hlen hk64 hm hl hx;go_wp2_with fail
     refine (c _).mono ?_;rintro e w' ⟨rfl,rfl⟩;go_wp2_with fail
     refine (c _).mono ?_;rintro e w' ⟨rfl,rfl⟩;go_wp2_with (at_builtin;refine z3c _ rfl (.tmp 19) (.tmp 27) rfl w.heap.size u3 m l rfl (R.out.2.2.1.alloc _) wr.heap.size 1 h k rfl (by rw [World.cell?_alloc_at _ _ _ _ rfl];rfl) (by rw [World.cell?_alloc_at _ _ _ _ rfl];rfl) R.out.2.2.2.2.1 (by have:=R.out.2.2.2.1.size;simp;omega) ?_;intro g' cap w1 hown hgrow hg)
     obtain ⟨r1,r2,r3,r4,r5,r6,r7⟩:=R.out;have R2:Aside (h<=63/\x=n / 2 ^ h*2 ^ h/\w1.ownsRow w.heap.size 101 2 (.slice (some ⟨g',0,none⟩) (m+1) cap) (PC (n / 2 ^ h)) (z0k (TOPS h n))/\Below w.heap.size w w1):=⟨by omega,r2,by rw [r6,r7];exact hown,(r4.alloc r4.size _).grown hgrow (by have:=r4.size;simp;omega) (fun k e=>(r3.lt k e).1)⟩
     clear hown hgrow hg R r1 r2 r3 r4 r5 r6 r7;refine (c _).mono ?_;rintro e w' ⟨rfl,rfl⟩;clear c;go_wp2;go_roundg h
     case measure=>omega
     case rel=>exact ⟨x,by first | rfl | (rw [e6]),by first | rfl | (rw [e4]),R2.out⟩
    ·have hge:¬ 2 ^ h<=r:=fun h=>hb (p2.1 h)
     have pq:=p5 hb;have hge':¬ ((2 ^ h:Nat):Int)<=(r:Int):=by omega
     have hT:=zbM (n:=n) (h:=h) (by omega) hb;have hPC:PC (n / 2 ^ h)=PC (n / 2 ^ (h+1)):=by rw [z0E,<-z0r];omega
     generalize ((2 ^ h:Nat):Int)=z at *
     have R:Aside (h<=63/\a=n / 2 ^ h*2 ^ h/\wr.ownsRow w.heap.size 101 2 u3 (PC (n / 2 ^ h)) (z0k (TOPS h n))/\Below w.heap.size w wr):=⟨by omega,pq,by rw [hT,hPC];exact hown,hbel⟩
     clear A HN h63 ha hown hbel hnn hr p1 p2 p3 p4 p5 hpw hp0 hb hge pq hT hPC;go_wp2_with fail
     refine (c _).mono ?_;rintro e w' ⟨rfl,rfl⟩;clear c;go_wp2;go_roundg h
     case measure=>omega
     case rel=>exact ⟨a,rfl,by first | rfl | (rw [e4]),R.out⟩
theorem z4c (n:Nat) (hn:n<=4611686018427387904) (w:World):Calls Tryz.prog 48 #[.int .u64 (n:Int)] w fun e w'=>
  ∃ a cap,e=.returned (.slice a (PC n) cap)/\Spots w' a (TOPS 0 n)/\Below w.heap.size w w':=by
 refine (zgn n hn w).mono ?_;rintro e w' ⟨v,rfl,hown,hb⟩;have hl:=z3z (n:=n) (by omega) 0 (by omega);rw [Nat.pow_zero,Nat.div_one] at hl;obtain ⟨a,cap,rfl,hs⟩:=z2E hl hown;exact ⟨a,cap,rfl,hs,hb⟩
theorem zdn {n:Nat} (hn:n<=4611686018427387904) {j h k:Nat} (e:(TOPS 0 n)[j]?=some (h,k)):Node h k/\h<64:=by
 unfold TOPS at e;rw [List.getElem?_map] at e;obtain ⟨g,hg,e2⟩:=Option.map_eq_some_iff.1 e;simp only [Prod.mk.injEq] at e2;obtain ⟨rfl,rfl⟩:=e2;obtain ⟨_,h1,h2⟩:=z7u 0 g (by omega) (List.mem_of_getElem? hg);exact ⟨Node.peak hn h2,h1⟩
theorem zbO (n:Nat):z0T n=(TOPS 0 n).map fun x=>PLC x.1 x.2:=by
 unfold z0T TOPS;rw [List.map_map];rfl
theorem z5o (n:Nat) (hn:n<=4611686018427387904) (w:World):Calls Tryz.prog 40 #[.int .u64 (n:Int)] w fun e w'=>
  ∃ v,e=.returned v/\w'.ownsRow w.heap.size 24 1 v (PC n) (z06 (z0T n))/\Below w.heap.size w w':=by
 have c:=z4c n hn w;have hl:=z3z (n:=n) (by omega) 0 (by omega);rw [Nat.pow_zero,Nat.div_one] at hl;have hP:=z19 64 n (by omega);have hN:=fun (j h k:Nat) (e:(TOPS 0 n)[j]?=some (h,k))=>zdn hn e;have hpt:=zbO n;generalize PC n=L at *
 generalize TOPS 0 n=l at *
 have HL:Aside (l.length=L/\L<=64/\(∀ j h k,l[j]?=some (h,k)->Node h k/\h<64)/\z0T n=l.map fun x=>PLC x.1 x.2):=⟨hl,hP,hN,hpt⟩
 clear hn hl hP hN hpt;go_enter Tryz.func40,Tryz.ntmps40;go_wp2_with fail
 refine c.mono ?_;rintro e w1 ⟨a,cap,rfl,hs,hb⟩;have R1:Aside (Spots w1 a l/\Below w.heap.size w w1):=⟨hs,hb⟩
 clear c hs hb;go_wp2;go_loopg [3,5] L (fun q s3 s5 wx=>∃ j:Nat,s5=.int .i64 (j:Int)/\Aside (j+q=L/\wx.ownsRow w1.heap.size 24 1 s3 j (z06 ((l.take j).map fun x=>PLC x.1 x.2))/\Below w1.heap.size w1 wx))
 case atStart=>exact ⟨0,rfl,by omega,⟨rfl,.inl ⟨rfl,rfl⟩⟩,Below.refl _ _⟩
 case round=>
  obtain ⟨j,rfl,A⟩:=hrel;cases gk with
  | zero=>
    obtain rfl:j=L:=by have:=A.out.1;omega
    have hlt:¬ (j:Int)<(j:Int):=by omega
    go_wp2;go_ret;obtain ⟨_,hown,hbel⟩:=A.out;rw [List.take_of_length_le (by rw [HL.out.1];omega),<-HL.out.2.2.2] at hown;exact ⟨_,rfl,z0P hown R1.out.2.size,R1.out.2.trans (hbel.mono R1.out.2.size)⟩
  | succ q=>
    have hjl:j<L:=by have:=A.out.1;omega
    have hlt:(j:Int)<(L:Int):=by omega
    have hj0:¬ (j:Int)<0:=by omega
    obtain ⟨⟨h,k⟩,hx⟩:∃ x,l[j]?=some x:=⟨_,List.getElem?_eq_getElem (by rw [HL.out.1];exact hjl)⟩
    obtain ⟨g,rfl,hg,hc⟩:=R1.out.1 (by rw [HL.out.1];omega);have h0:wr.cell? ⟨g,j*2,none⟩=some (.int .u8 (h:Int)):=(A.out.2.2.cell (p:=⟨g,j*2,none⟩) hg).trans (hc j h k hx).1;have h1:wr.cell? ⟨g,j*2+1,none⟩=some (.int .u64 (k:Int)):=(A.out.2.2.cell (p:=⟨g,j*2+1,none⟩) hg).trans (hc j h k hx).2;have cp:=fun w=>z1Z h k (HL.out.2.2.1 j h k hx).1 w;have e1:wrap64 ((j:Int)+1)=((j+1:Nat):Int):=by have:=HL.out.2.1;unfold wrap64;omega
    have ht:(l.take (j+1)).map (fun x=>PLC x.1 x.2)=(l.take j).map (fun x=>PLC x.1 x.2) ++ [PLC h k]:=by
     rw [List.take_add_one,hx];simp
    generalize PLC h k=y at *
    generalize hm:(l.take j).map (fun x=>PLC x.1 x.2)=m at *
    generalize hm2:(l.take (j+1)).map (fun x=>PLC x.1 x.2)=m2 at *
    have R:Aside (j+1+q=L/\wr.ownsRow w1.heap.size 24 1 u3 j (z06 m)/\Below w1.heap.size w1 wr/\j<=1000/\m2=m ++ [y]/\(l.take (j+1)).map (fun x=>PLC x.1 x.2)=m2):=⟨by have:=A.out.1;omega,A.out.2.1,A.out.2.2,by have:=HL.out.2.1;omega,ht,hm2⟩
    clear A HL R1 hx hg hc ht hm hm2 hjl;go_wp2_with fail
    refine (cp _).mono ?_;rintro e w2 ⟨rfl,hb⟩;replace R:Aside (j+1+q=L/\w2.ownsRow w1.heap.size 24 1 u3 j (z06 m)/\Below w1.heap.size w1 w2/\j<=1000/\m2=m ++ [y]/\(l.take (j+1)).map (fun x=>PLC x.1 x.2)=m2):=⟨R.out.1,z0s R.out.2.1 hb,R.out.2.2.1.trans (hb.mono R.out.2.2.1.size),R.out.2.2.2⟩
    clear cp hb h0 h1;go_wp2_with (at_builtin;refine z3K _ rfl (.tmp 24) (.tmp 26) rfl w1.heap.size u3 j m rfl (R.out.2.1.alloc _) w2.heap.size 1 y rfl (by rw [World.cell?_alloc_at _ _ _ _ rfl];rfl) R.out.2.2.2.1 (by have:=R.out.2.2.1.size;simp;omega) ?_;intro g' cap' w3 hown hgrow hg)
    obtain ⟨r1,r2,r3,r4,r5,r6⟩:=R.out;have R2:Aside (j+1+q=L/\w3.ownsRow w1.heap.size 24 1 (.slice (some ⟨g',0,none⟩) (j+1) cap') (j+1) (z06 ((l.take (j+1)).map fun x=>PLC x.1 x.2))/\Below w1.heap.size w1 w3):=⟨r1,by rw [r6,r5];exact hown,(r3.alloc r3.size _).grown hgrow (by have:=r3.size;simp;omega) (fun k e=>(r2.lt k e).1)⟩
    clear hown hgrow hg R r1 r2 r3 r4 r5 r6;go_wp2;go_roundg q
    case measure=>omega
    case rel=>exact ⟨j+1,by first | rfl | (rw [e1]),R2.out⟩
theorem zfL {x:Nat} (h:x<2 ^ 64):IntKind.u64.wrap (x:Int)=(x:Int):=by
 rw [z0b];omega
theorem zaH {n j:Nat} (hn:n<2 ^ 64) (hj:j<PC n):(TOPS 0 n)[j]?=some (HGT n j,KGT n j):=by
 unfold TOPS;rw [List.getElem?_map,(z2i hn hj).1];rfl
theorem zaI {i n:Nat} (hi:i<n) (hn:n<=4611686018427387904):HGT n (KTH i n)=RISE i n:=by
 unfold HGT;rw [List.getD_eq_getElem?_getD,z8A hi hn];rfl
theorem zdo {i n k:Nat} (hi:i<n) (hn:n<=4611686018427387904) (hk:k<KTH i n):i / 2 ^ HGT n k≠KGT n k:=by
 have hK:=z3b hi hn;obtain ⟨_,h62,hb,hq,_⟩:=z0R hi hn;obtain ⟨_,h2,h3⟩:=z2i (n:=n) (i:=k) (by omega) (by omega)
 have hlt:RISE i n<HGT n k:=by
  rcases Nat.lt_or_ge (RISE i n) (HGT n k) with h | h
  ·exact h
  ·have:=zaD n (a:=HGT n k+1) (b:=RISE i n+1) (by omega)
   unfold KTH at hk;omega
 have e:∀ x:Nat,x / 2 ^ HGT n k=x / 2 ^ (RISE i n+1) / 2 ^ (HGT n k - (RISE i n+1)):=fun x=>by rw [Nat.div_div_eq_div_mul,<-Nat.pow_add,show RISE i n+1+(HGT n k - (RISE i n+1))=HGT n k by omega]
 have h4:=z4L h2;rw [e i,hq,<-e n,h4];unfold KGT;omega
theorem zgo {i n:Nat} (hi:i<n) (hn:n<=4611686018427387904):i / 2 ^ HGT n (KTH i n)=KGT n (KTH i n):=by
 unfold KGT;rw [zaI hi hn];exact (z0R hi hn).2.2.2.2
theorem z6o (i n:Nat) (hi:i<n) (hn:n<=4611686018427387904) (w:World):Calls Tryz.prog 39 #[.int .u64 (i:Int),.int .u64 (n:Int)] w fun e w'=>e=.returned (.tuple #[.int .i64 ((KTH i n:Nat):Int),.bool true])/\Below w.heap.size w w':=by
 have c:=z4c n hn w;have hK:=z3b hi hn;have hP:=z19 64 n (by omega);have h1:=fun (k:Nat) (hk:k<KTH i n)=>zdo hi hn hk;have h2:=zgo hi hn;have hT:=fun (j:Nat) (hj:j<PC n)=>zaH (n:=n) (by omega) hj;have hN:=fun (j:Nat) (hj:j<PC n)=>(z7y hn hj).1;have hL:=z3z (n:=n) (by omega) 0 (by omega);rw [Nat.pow_zero,Nat.div_one] at hL;have hd:¬ (n:Int)<=(i:Int):=by omega
 have hi64:i<2 ^ 64:=by omega
 generalize KTH i n=K at *
 generalize PC n=L at *
 generalize HGT n=hh at *
 generalize KGT n=kk at *
 generalize TOPS 0 n=l at *
 have HA:Aside (K<L/\L<=64/\(∀ k,k<K->i / 2 ^ hh k≠kk k)/\i / 2 ^ hh K=kk K/\(∀ j,j<L->l[j]?=some (hh j,kk j))/\(∀ j,j<L->hh j<=62)/\l.length=L/\i<2 ^ 64):=⟨hK,hP,h1,h2,hT,hN,hL,hi64⟩
 clear hi hn hK hP h1 h2 hT hN hL hi64;go_enter Tryz.func39,Tryz.ntmps39;go_wp2_with fail
 refine c.mono ?_;rintro e w1 ⟨a,cap,rfl,hs,hb⟩;have R1:Aside (Spots w1 a l/\Below w.heap.size w w1):=⟨hs,hb⟩
 clear c hs hb;go_wp2;go_loopg [7] K (fun q s7 wx=>∃ j:Nat,s7=.int .i64 (j:Int)/\Aside (j+q=K/\Below w1.heap.size w1 wx))
 case atStart=>exact ⟨0,rfl,by omega,Below.refl _ _⟩
 case round=>
  obtain ⟨j,rfl,A⟩:=hrel
  obtain ⟨g,z,t,hv,kv,rfl,y0,y1,b1,b2,b3,b4,b5,b6,b7,b8,b9⟩:∃ (g:Nat) (z t:Int) (hv kv:Nat),a=some ⟨g,0,none⟩/\wr.cell? ⟨g,j*2,none⟩=some (.int .u8 (hv:Int))/\wr.cell? ⟨g,j*2+1,none⟩=some (.int .u64 (kv:Int))/\(∀ w,Calls Tryz.prog 71 #[.int .i64 (hv:Int)] w fun e w'=>e=.returned (.int .u64 z)/\w=w')/\wrap64 (hv:Int)=(hv:Int)/\¬ z=0/\(i:Int) / z=t/\IntKind.u64.wrap t=t/\(j<L/\j<=64)/\(gk=0->j=K)/\(gk=0->t=(kv:Int))/\(gk≠0->¬ t=(kv:Int)):=by
    obtain ⟨a1,a2,a3,a4,a5,a6,a7,a8⟩:=HA.out;have hjK:=A.out.1;have hjL:j<L:=by omega
    obtain ⟨g,rfl,hg,hc⟩:=R1.out.1 (by omega);have hx:=a5 j hjL;have h62:=a6 j hjL;have hp0:=Nat.two_pow_pos (hh j);refine ⟨g,((2 ^ hh j:Nat):Int),((i / 2 ^ hh j:Nat):Int),hh j,kk j,rfl,(A.out.2.cell (p:=⟨g,j*2,none⟩) hg).trans (hc _ _ _ hx).1,(A.out.2.cell (p:=⟨g,j*2+1,none⟩) hg).trans (hc _ _ _ hx).2,fun w=>z0V (hh j) (by omega) w,by unfold wrap64;omega,?_,(Int.natCast_ediv _ _).symm,zfL (Nat.lt_of_le_of_lt (Nat.div_le_self _ _) a8),⟨hjL,by omega⟩,fun h=>by omega,fun h=>?_,fun h=>?_⟩
    ·generalize 2 ^ hh j=x at hp0
     omega
    ·obtain rfl:j=K:=by omega
     rw [a4]
    ·have:=a3 j (by omega)
     generalize i / 2 ^ hh j=x at this;omega
  have hlt:(j:Int)<(L:Int):=by omega
  have hj0:¬ (j:Int)<0:=by omega
  have hj0':(0:Int)<=(j:Int):=by omega
  have e1:wrap64 ((j:Int)+1)=((j+1:Nat):Int):=by unfold wrap64;omega
  have b3':(z == 0)=false:=by simpa using b3
  cases gk with
  | zero=>
    obtain rfl:=b7 rfl;have heq:(t == (kv:Int))=true:=by simpa using b8 rfl
    have R:Aside (Below w.heap.size w wr):=R1.out.2.trans (A.out.2.mono R1.out.2.size);clear A HA R1 b6 b7 b8 b9;go_wp2_with fail
    refine (b1 _).mono ?_;rintro e w' ⟨rfl,rfl⟩;clear b1;go_wp2;go_quiet (fail)
    go_wp2;go_ret2;exact ⟨rfl,below_drewN R.out _⟩
  | succ q=>
    have hne:(t == (kv:Int))=false:=by simpa using b9 (by omega)
    have B:Aside (j+1+q=K/\Below w1.heap.size w1 wr):=⟨by have:=A.out.1;omega,A.out.2⟩
    clear A HA R1 b6 b7 b8 b9;go_wp2_with fail
    refine (b1 _).mono ?_;rintro e w' ⟨rfl,rfl⟩;clear b1;go_wp2;go_quiet (fail)
    go_wp2;go_roundg q
    case measure=>omega
    case rel=>exact ⟨j+1,by first | rfl | (rw [e1]),B.out.1,below_drewN B.out.2 _⟩
def Has (w:World) (g:Nat) (c:Array Value) (t:TypeId):Prop:=w.heap[g]?=some (.cells c t)
theorem Has.cell {w:World} {g:Nat} {c:Array Value} {t:TypeId} (h:Has w g c t) (i:Nat):w.cell? ⟨g,i,none⟩=c[i]?:=cell_of_row w g i c t _ h
theorem Has.lt {w:World} {g:Nat} {c:Array Value} {t:TypeId} (h:Has w g c t):g<w.heap.size:=(Array.getElem?_eq_some_iff.1 h).1
theorem Has.frozen {w:World} {g:Nat} {c:Array Value} {t:TypeId} (h:Has w g c t) (i:Nat):w.frozen? ⟨g,i,none⟩=false:=by
 have e:w.heap[g]?=some (.cells c t):=h;simp [World.frozen?,e]
theorem Has.set {w:World} {g:Nat} {c:Array Value} {t:TypeId} (h:Has w g c t) (i:Nat) (v:Value):Has (w.setCell ⟨g,i,none⟩ v) g (c.setIfInBounds i v) t:=by
 have e:w.heap[g]?=some (.cells c t):=h;unfold Has;rw [setCell_eq_setRow w g i c t _ v e,setRow_heap w g c _ t _ e]
theorem Has.other {w:World} {g:Nat} {c:Array Value} {t:TypeId} (h:Has w g c t) {a:Addr} (ha:g≠a.block) (v:Value):Has (w.setCell a v) g c t:=by
 have e:w.heap[g]?=some (.cells c t):=h;unfold Has;rw [Below.heap_setCell w a v g ha,e]
theorem Has.below {B:Nat} {w w':World} {g:Nat} {c:Array Value} {t:TypeId} (h:Has w g c t) (hb:Below B w w') (hg:g<B):Has w' g c t:=(hb.block g hg).trans h
theorem Has.keep {w w':World} {g:Nat} {c:Array Value} {t:TypeId} (h:Has w g c t) (hb:Below w.heap.size w w'):Has w' g c t:=h.below hb h.lt
theorem Has.alloc {w:World} {g:Nat} {c:Array Value} {t:TypeId} (h:Has w g c t) (o:Obj):Has (w.alloc o) g c t:=by
 have e:w.heap[g]?=some (.cells c t):=h;unfold Has;rw [Below.heap_alloc w o g h.lt,e]
theorem Has.new (w:World) (c:Array Value) (t:TypeId):Has (w.alloc (.cells c t)) w.heap.size c t:=heap_alloc_new w _
theorem Has.at (w:World) (c:Array Value) (t:TypeId) {g:Nat} (hg:g=w.heap.size):Has (w.alloc (.cells c t)) g c t:=by subst hg;exact Has.new w c t
theorem Has.row {w:World} {g:Nat} {c:Array Value} {t:TypeId} (h:Has w g c t) (c':Array Value):Has (w.setRow g c') g c' t:=setRow_heap w g c c' t _ h
theorem Has.drewN {w:World} {g:Nat} {c:Array Value} {t:TypeId} (h:Has w g c t) (n:Nat):Has (w.drewN n) g c t:=h
theorem z1S {w:World} {b i j:Nat} (h:i≠j) (v:Value):(w.setCell ⟨b,i,none⟩ v).cell? ⟨b,j,none⟩=w.cell? ⟨b,j,none⟩:=World.cell?_setCell_other w _ _ v (fun e=>h (congrArg Addr.off e))
theorem z0d {B g:Nat} {w0 w:World} (hb:Below B w0 w) (hBg:B<=g) (cs:Array Value):Below B w0 (w.setRow g cs):=
 ⟨hb.os,hb.tape,hb.output,by have:=hb.size;simpa [World.setRow] using this,fun k hk=>by rw [setRow_other w g k cs (by omega)];exact hb.block k hk⟩
theorem zbP (i n:Nat) (hi:i<n) (hn:n<=4611686018427387904) (w:World):Calls Tryz.prog 38 #[.int .u64 (i:Int),.int .u64 (n:Int)] w fun e w'=>
  ∃ v,e=.returned (.tuple #[v,.bool true])/\w'.ownsRow w.heap.size 24 1 v (RISE i n) (z06 (WAY i (RISE i n)))/\Below w.heap.size w w':=by
 have c1:=z6o i n hi hn w;have c2:=z4c n hn;have hK:=z3b hi hn;have hP:=z19 64 n (by omega);have hT:=zaH (n:=n) (by omega) hK;rw [zaI hi hn] at hT;have h62:=(z0R hi hn).2.1;have hlt:i<4611686018427387904:=by omega
 generalize KTH i n=K at *
 generalize PC n=L at *
 generalize KGT n K=kk at *
 generalize TOPS 0 n=l at *
 generalize RISE i n=H at *
 have HA:Aside (K<L/\L<=64/\l[K]?=some (H,kk)/\H<=62/\i<4611686018427387904):=⟨hK,hP,hT,h62,hlt⟩
 have hKL:(K:Int)<(L:Int):=by omega
 have hK0:¬ (K:Int)<0:=by omega
 clear hi hn hK hP hT h62 hlt;go_enter Tryz.func38,Tryz.ntmps38;go_wp2_with fail
 refine c1.mono ?_;rintro e w1 ⟨rfl,hb⟩;have R1:Aside (Below w.heap.size w w1):=hb;clear c1 hb;go_wp2_with fail
 refine (c2 _).mono ?_;rintro e w2 ⟨a,cap,rfl,hs,hb⟩;obtain ⟨g,rfl,hg,hc⟩:=hs (by have:=(List.getElem?_eq_some_iff.1 HA.out.2.2.1).1;omega);have y0:=(hc _ _ _ HA.out.2.2.1).1;replace R1:Aside (Below w.heap.size w w2):=R1.out.trans (hb.mono R1.out.size);clear c2 hb hs hc hg;go_wp2;have hB:Below w2.heap.size w2 (w2.alloc (.cells #[.int .u8 0,.int .u64 (i:Int)] 101)):=(Below.refl _ _).alloc (Nat.le_refl _) _;have hH:=Has.new w2 #[.int .u8 0,.int .u64 (i:Int)] 101;have R2:Aside (Below w.heap.size w (w2.alloc (.cells #[.int .u8 0,.int .u64 (i:Int)] 101))/\Has (w2.alloc (.cells #[.int .u8 0,.int .u64 (i:Int)] 101)) w2.heap.size #[.int .u8 0,.int .u64 (i:Int)] 101/\w.heap.size<=w2.heap.size):=⟨R1.out.trans (hB.mono R1.out.size),hH,R1.out.size⟩
 generalize w2.alloc (.cells #[.int .u8 0,.int .u64 (i:Int)] 101)=w3 at *
 clear hB hH R1 y0;generalize w2.heap.size=sb at *
 go_loopg [8] H (fun q s8 wx=>∃ j:Nat,Aside (j+q=H/\wx.ownsRow (sb+1) 24 1 s8 j (z06 (WAY i j))/\Has wx sb #[.int .u8 (j:Int),.int .u64 ((i / 2 ^ j:Nat):Int)] 101/\Below w.heap.size w wx))
 case atStart=>exact ⟨0,by omega,⟨rfl,.inl ⟨rfl,rfl⟩⟩,by rw [Nat.pow_zero,Nat.div_one];exact R2.out.2.1,R2.out.1⟩
 case round=>
  obtain ⟨j,A⟩:=hrel;have y0:wr.cell? ⟨sb,0,none⟩=some (.int .u8 (j:Int)):=A.out.2.2.1.cell 0;cases gk with
  | zero=>
    obtain rfl:j=H:=by have:=A.out.1;omega
    have hlt:¬ (j:Int)<(j:Int):=by omega
    go_wp2;go_ret2;obtain ⟨_,hown,_,hbel⟩:=A.out;exact ⟨_,rfl,z0P hown (by have:=R2.out.2.2;omega),hbel⟩
  | succ q=>
    have y1:wr.cell? ⟨sb,1,none⟩=some (.int .u64 ((i / 2 ^ j:Nat):Int)):=A.out.2.2.1.cell 1;have hjH:j<H:=by have:=A.out.1;omega
    have hlt:(j:Int)<(H:Int):=by omega
    have hN:=Node.over HA.out.2.2.2.2 j (by have:=HA.out.2.2.2.1;omega);have cp:=fun w=>z1Z j (i / 2 ^ j) hN w;have cs:=fun w=>z4q j (i / 2 ^ j) hN (by have:=HA.out.2.2.2.1;omega) w;have e1:((j:Int)+1) % 256=((j+1:Nat):Int):=by have:=HA.out.2.2.2.1;omega
    have hk64:i / 2 ^ j<2 ^ 62:=hN.index_lt;have hw:=z8B i j;have hhalf:=z0r i j;have hj63:j<=63:=by have:=HA.out.2.2.2.1;omega
    generalize hk:i / 2 ^ j=k at *
    generalize hk2:i / 2 ^ (j+1)=k2 at *
    have e2:(k:Int) / 2=(k2:Int):=by omega
    have e3:IntKind.u64.wrap (k2:Int)=(k2:Int):=zfL (by omega);generalize PLC j k=x at *
    generalize PLC j (SIB k)=y at *
    have R:Aside (j+1+q=H/\wr.ownsRow (sb+1) 24 1 u8 j (z06 (WAY i j))/\Has wr sb #[.int .u8 (j:Int),.int .u64 (k:Int)] 101/\Below w.heap.size w wr/\j<=1000/\WAY i (j+1)=WAY i j ++ [y]/\i / 2 ^ (j+1)=k2/\w.heap.size<=sb):=⟨by have:=A.out.1;omega,A.out.2.1,A.out.2.2.1,A.out.2.2.2,by omega,hw,hk2,R2.out.2.2⟩
    clear A HA R2 hjH hN hk64 hw hhalf hj63 hk hk2;go_wp2_with fail
    refine (cp _).mono ?_;rintro e w4 ⟨rfl,hb⟩;obtain ⟨r1,r2,r3,r4,r5,r6,r7,r8⟩:=R.out;replace R:Aside (j+1+q=H/\w4.ownsRow (sb+1) 24 1 u8 j (z06 (WAY i j))/\Has w4 sb #[.int .u8 (j:Int),.int .u64 (k:Int)] 101/\Below w.heap.size w w4/\j<=1000/\WAY i (j+1)=WAY i j ++ [y]/\i / 2 ^ (j+1)=k2/\w.heap.size<=sb):=⟨r1,z0s r2 hb,r3.keep hb,r4.trans (hb.mono r4.size),r5,r6,r7,r8⟩
    clear cp hb y0 y1 r1 r2 r3 r4 r5 r6 r7 r8;go_wp2_with fail
    refine (cs _).mono ?_;rintro e w5 ⟨rfl,hb⟩;obtain ⟨r1,r2,r3,r4,r5,r6,r7,r8⟩:=R.out;replace R:Aside (j+1+q=H/\w5.ownsRow (sb+1) 24 1 u8 j (z06 (WAY i j))/\Has w5 sb #[.int .u8 (j:Int),.int .u64 (k:Int)] 101/\Below w.heap.size w w5/\j<=1000/\WAY i (j+1)=WAY i j ++ [y]/\i / 2 ^ (j+1)=k2/\w.heap.size<=sb):=⟨r1,z0s r2 hb,r3.keep hb,r4.trans (hb.mono r4.size),r5,r6,r7,r8⟩
    clear cs hb r1 r2 r3 r4 r5 r6 r7 r8;go_wp2_with (at_builtin;refine z3K _ rfl (.tmp 45) (.tmp 47) rfl (sb+1) u8 j (WAY i j) rfl (R.out.2.1.alloc _) w5.heap.size 1 y rfl (by rw [World.cell?_alloc_at _ _ _ _ rfl];rfl) R.out.2.2.2.2.1 (by have:=R.out.2.2.1.lt;simp;omega) ?_;intro g' cap' w6 hown hgrow hg;have HH:Aside (Has w6 sb #[.int .u8 (j:Int),.int .u64 (k:Int)] 101):=Has.below (R.out.2.2.1.alloc _) ((Below.refl (sb+1) _).grown hgrow (by have:=R.out.2.2.1.lt;simp;omega) (fun k e=>(R.out.2.1.lt k e).1)) (Nat.lt_succ_self _);have y0:w6.cell? ⟨sb,0,none⟩=some (.int .u8 (j:Int)):=HH.out.cell 0;have y1:w6.cell? ⟨sb,1,none⟩=some (.int .u64 (k:Int)):=HH.out.cell 1;have z0:w6.frozen? ⟨sb,0,none⟩=false:=HH.out.frozen 0;have z1:w6.frozen? ⟨sb,1,none⟩=false:=HH.out.frozen 1)
    obtain ⟨r1,r2,r3,r4,r5,r6,r7,r8⟩:=R.out;have R3:Aside (j+1+q=H/\w6.ownsRow (sb+1) 24 1 (.slice (some ⟨g',0,none⟩) (j+1) cap') (j+1) (z06 (WAY i (j+1)))/\Has w6 sb #[.int .u8 (j:Int),.int .u64 (k:Int)] 101/\Below w.heap.size w w6/\i / 2 ^ (j+1)=k2/\w.heap.size<=sb):=⟨r1,by rw [r6];exact hown,HH.out,(r4.alloc r4.size _).grown hgrow (by have:=r4.size;simp;omega) (fun k e=>by have:=(r2.lt k e).1;omega),r7,r8⟩
    clear hown hgrow hg R r1 r2 r3 r4 r5 r6 r7 r8 HH y0 y1 z0 z1;go_roundg q
    case measure=>omega
    case rel=>
     obtain ⟨r1,r2,r3,r4,r7,r8⟩:=R3.out;refine ⟨j+1,r1,ownsRow_setCell_below (ownsRow_setCell_below r2 (Nat.lt_succ_self _) _) (Nat.lt_succ_self _) _,?_,(r4.setCell r8 _).setCell r8 _⟩;have h:=(r3.set 0 (.int .u8 ((j:Int)+1))).set 1 (.int .u64 (k2:Int));rw [r7];exact h
theorem z8O {w:World} {base g n cap:Nat} {l:List Nat} (h:w.ownsRow base 24 1 (.slice (some ⟨g,0,none⟩) n cap) n (z06 l)) (i:Nat) (hi:i<l.length):w.cell? ⟨g,i,none⟩=some (.int .u64 (l.getD i 0:Nat)):=by
 have hlen:l.length=n:=by have:=h.1;simpa [z06] using this
 rw [h.cellAt i (by omega)];unfold z06;rw [List.getElem?_map,List.getD_eq_getElem?_getD,List.getElem?_eq_getElem hi];rfl
end Go.Proofs.YthmnailmbgondaaGreatDoor
