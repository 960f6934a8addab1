/- ClashTrees: part 3. -/
import Derived.Deep.QuietTactic
import Derived.BigQuiet
import Derived.Deep.RegionHeld3
import Derived.RangeFuncBox
import Derived.RangeFuncLeaves
import Derived.RangeFuncCalls
import Derived.Shelf.Abstract
import Derived.Shelf.RegionOpen
import Derived.OwnWalkIn
import Derived.TacticsInMore
import Derived.LoopNIn
import Derived.LoopIn
import Derived.Maps.AppendAt
import Derived.RangeFuncNested
import Derived.Deep.WholeRow
import Derived.Laws.ResultCell
import Derived.Laws.Rows
import Derived.Laws.Tables
import Derived.Maps.OwnSet
import Derived.DeepKeys4
import Derived.Test.YtnimaaflmdoaaaaGreatDoorClashTreesP2
set_option maxHeartbeats 2000000
namespace Go.Proofs.YtnimaaflmdoaaaaGreatDoor
open Go.RowKit
abbrev SPOT (h k:Nat):Value:=.agg #[.int .u8 (h:Int),.int .u64 (k:Int)]
theorem zaf (X:Nat) (hX:X<2 ^ 64) (w:World):Calls Tryz.prog 122 #[.int .u64 (X:Int)] w fun e w'=>e=.returned (.int .i64 ((LEN X:Nat) - 1:Int))/\w=w':=by
 have hl:LEN X<=64:=by
  unfold LEN;have:=z2K (X / 72057594037927936);have:=z2K (X / 281474976710656);have:=z2K (X / 1099511627776);have:=z2K (X / 4294967296);have:=z2K (X / 16777216);have:=z2K (X / 65536);have:=z2K (X / 256);have:=z2K X;repeat' split
  all_goals omega
 exact zer X _ w (fun w=>zgU X hX w) (by omega) (by omega)
theorem zez (p:Int) (hp:9223372036854775807<=p) (w:World):Calls Tryz.prog 76 #[.int .u64 p] w fun e w'=>e=.returned (.tuple #[SPOT 0 0,.bool false])/\Below w.heap.size w w':=by
 go_enter Tryz.func76,Tryz.ntmps76;go_wp2;refine bodyPost_ret (v:=.tuple #[SPOT 0 0,.bool false]) ?_ rfl ⟨rfl,(Below.refl _ _).alloc (Nat.le_refl _) _⟩;simp [results,Tryz.f76,go_sem]
theorem zgX {m H:Nat} (hH:1<=H):m*2 ^ H ||| 2 ^ (H - 1)=(2*m+1)*2 ^ (H - 1):=by
 have h1:2 ^ (H - 1)<2 ^ H:=Nat.pow_lt_pow_right (by decide) (by omega);have h2:=Nat.shiftLeft_add_eq_or_of_lt h1 m;rw [Nat.shiftLeft_eq] at h2;rw [<-h2,Nat.add_mul,Nat.one_mul];congr 1
 obtain ⟨j,rfl⟩:∃ j,H=j+1:=⟨H - 1,by omega⟩
 rw [Nat.add_sub_cancel,Nat.pow_succ,Nat.mul_comm 2 m,Nat.mul_assoc,Nat.mul_comm 2]
theorem z6H (h k:Nat) (hN:Node h k) (w:World):Calls Tryz.prog 76 #[.int .u64 ((PLC h k:Nat):Int)] w fun e w'=>e=.returned (.tuple #[SPOT h k,.bool true])/\Below w.heap.size w w':=by
 have hp:=hN.lt;obtain ⟨p,hpe⟩:∃ p,p=PLC h k:=⟨_,rfl⟩
 rw [<-hpe] at hp ⊢;have HN:Aside (Node h k/\p=PLC h k/\p<9223372036854775807):=⟨hN,hpe,hp⟩
 have hd:decide ((9223372036854775807:Int)<=(p:Int))=false:=by simp;omega
 have e1:IntKind.u64.wrap ((p:Int)+1)=(p:Int)+1:=by rw [z0k];omega
 have c1:=zaf (p+1) (by omega);obtain ⟨h1,h2,h3⟩:=z89 (p+1) (by omega) (by omega);obtain ⟨H,hH⟩:∃ H,LEN (p+1)=H+1:=⟨LEN (p+1) - 1,by omega⟩
 rw [hH] at h2 h3 c1;rw [show (((H+1:Nat):Int) - 1)=(H:Int) by omega,show ((p+1:Nat):Int)=(p:Int)+1 by omega] at c1
 have HH:Aside (H<=62/\p+2<=2 ^ (H+1)):=by
  refine ⟨?_,by omega⟩;rcases Nat.lt_or_ge 62 H with h | h
  ·have:2 ^ 63<=2 ^ H:=Nat.pow_le_pow_right (by decide) h
   simp at h2;omega
  ·exact h
 clear hN hpe hp h1 h2 h3 hH;go_enter Tryz.func76,Tryz.ntmps76;go_wp2_with fail
 refine (c1 _).mono ?_;rintro e w' ⟨rfl,rfl⟩;clear c1;go_wp2;go_loopg [0,4,5] H (fun g s0 s4 s5 wx=>∃ q L:Nat,s0=.int .u64 (q:Int)/\s4=.int .i64 (g:Int)/\s5=.int .u64 (L:Int)/\Aside (wx=w.alloc (.cells #[.int .u8 0,.int .u64 0] 110)/\g<=62/\q+2<=2 ^ (g+1)/\∃ m,L=m*2 ^ g/\Node g m/\p=z05 L+q))
 case atStart=>exact ⟨p,0,rfl,rfl,rfl,rfl,HH.out.1,HH.out.2,0,by simp,⟨HH.out.1,Nat.two_pow_pos _⟩,by rw [z42];omega⟩
 case round=>
  obtain ⟨q,L,rfl,rfl,rfl,A⟩:=hrel;obtain ⟨hw,hg,hq,m,hL,hNm,hpL⟩:=A.out;clear A
  have e2:IntKind.u64.wrap ((q:Int)+1)=(q:Int)+1:=by
   have:2 ^ (gk+1)<=2 ^ 63:=Nat.pow_le_pow_right (by decide) (by omega);rw [z0k];omega
  have c1:=z35 gk (by omega);by_cases hT:q+1=TREE gk
  ·have hmk:h=gk/\k=m:=by
    refine HN.out.1.one hNm ?_;rw [<-HN.out.2.1,hpL,hL];unfold PLC;unfold TREE at hT;have:=z22 gk;omega
   obtain ⟨rfl,rfl⟩:=hmk
   have hLk:(L:Int) / 2 ^ h=(k:Int):=by
    rw [hL,z2h,Nat.mul_div_cancel _ (Nat.two_pow_pos h)]
   rw [<-hT,show ((q+1:Nat):Int)=(q:Int)+1 by omega] at c1;have R:Aside (L=k*2 ^ h/\h<=62/\(L:Int) / 2 ^ h=(k:Int)):=⟨hL,hg,hLk⟩
   clear hg hq hL hNm hpL HN HH hT hLk;subst hw;go_wp2_with fail
   refine (c1 _).mono ?_;rintro e w' ⟨rfl,rfl⟩;clear c1;go_wp2;obtain ⟨hL,hg,hLk⟩:=R.out;rw [show (h:Int) % 256=(h:Int) by omega,show min h 64=h by omega,hLk];refine bodyPost_ret (v:=.tuple #[SPOT h k,.bool true]) ?_ rfl ⟨rfl,(Below.refl _ _).alloc (Nat.le_refl _) _⟩;simp [results,Tryz.f76,go_sem]
  ·have h1 : 1<=gk:=by
    rcases Nat.eq_zero_or_pos gk with h0 | h0
    ·subst h0
     simp at hq;unfold TREE at hT;simp at hT;omega
    ·exact h0
   obtain ⟨g,rfl⟩:∃ g,gk=g+1:=⟨gk - 1,by omega⟩
   have c2:=z35 g (by omega);have hb:((q:Int)+1 == ((TREE (g+1):Nat):Int))=false:=by simp;omega
   generalize hT1:TREE (g+1)=t1 at *
   have e3:wrap64 (g:Int)=(g:Int):=by unfold wrap64;omega
   rw [show (((g+1:Nat):Int))=(g:Int)+1 by omega] at c1 ⊢;have R:Aside (wr=w.alloc (.cells #[.int .u8 0,.int .u64 0] 110)/\g+1<=62/\q+2<=2 ^ (g+1+1)/\L=m*2 ^ (g+1)/\Node (g+1) m/\p=z05 L+q/\q+1≠t1/\TREE (g+1)=t1):=⟨hw,hg,hq,hL,hNm,hpL,hT,hT1⟩
   clear hw hg hq hL hNm hpL hT hT1 h1 HN HH;by_cases hlt:TREE g<=q
   ·have hd2:decide (((TREE g:Nat):Int)<=(q:Int))=true:=by simp;omega
    obtain ⟨t2,ht2⟩:∃ t2,TREE g=t2:=⟨_,rfl⟩
    rw [ht2] at c2 hd2;have hd3:(t2:Int)<=(q:Int):=by simpa using hd2
    have R2:Aside (TREE g=t2/\t2<=q):=⟨ht2,by omega⟩
    clear hlt ht2 hd2;go_wp2_with fail
    refine (c1 _).mono ?_;rintro e w' ⟨rfl,rfl⟩;clear c1;go_wp2_with fail
    refine (c2 _).mono ?_;rintro e w' ⟨rfl,rfl⟩;clear c2;go_wp2;go_roundg g
    case measure=>omega
    case rel=>
     obtain ⟨r1,r2,r3,r4,r5,r6,r7,r8⟩:=R.out;obtain ⟨s1,s2⟩:=R2.out;have hpw:=z22 g;have hpp:2 ^ (g+1+1)=2*2 ^ (g+1):=by rw [Nat.pow_succ 2 (g+1),Nat.mul_comm]
     have hp63:2 ^ (g+1+1)<=2 ^ 63:=Nat.pow_le_pow_right (by decide) (by omega);have hg64:2 ^ g<2 ^ 64:=Nat.pow_lt_pow_right (by decide) (by omega)
     have hL64:L<2 ^ 64:=by
      have:=r5.span;rw [Nat.add_mul,<-r4] at this;omega
     have ea:IntKind.u64.wrap ((q:Int) - t2)=((q - t2:Nat):Int):=by rw [z0k];omega
     have eb:bits .or .u64 (L:Int) (IntKind.u64.wrap (2 ^ min g 64))=(((2*m+1)*2 ^ g:Nat):Int):=by
      have e5:IntKind.u64.wrap (2 ^ min g 64)=((2 ^ g:Nat):Int):=by
              rw [z0k,show min g 64=g by omega,Int.natCast_pow];have:((2 ^ g:Nat):Int)=(2:Int) ^ g:=by simp
              have h7:((2:Nat):Int)=2:=rfl;rw [h7,<-this];omega
      rw [e5,z5U hL64 hg64,r4];exact congrArg (fun x:Nat=>(x:Int)) (zgX (m:=m) (H:=g+1) (by omega))
     unfold TREE at s1 r8;rw [ea,eb,e3];refine ⟨q - t2,(2*m+1)*2 ^ g,rfl,rfl,rfl,r1,by omega,by omega,2*m+1,rfl,⟨by omega,?_⟩,?_⟩
     ·have:=r5.2
      rw [show 62 - g=62 - (g+1)+1 by omega,Nat.pow_succ];omega
     ·have e6:=z44 m g
      rw [z1p,<-r4] at e6;rw [e6,r6];unfold TREE;omega
   ·have hd3:¬ ((TREE g:Nat):Int)<=(q:Int):=by omega
    obtain ⟨t2,ht2⟩:∃ t2,TREE g=t2:=⟨_,rfl⟩
    rw [ht2] at c2 hd3;have R2:Aside (TREE g=t2/\q<t2):=⟨ht2,by omega⟩
    clear hlt ht2;go_wp2_with fail
    refine (c1 _).mono ?_;rintro e w' ⟨rfl,rfl⟩;clear c1;go_wp2_with fail
    refine (c2 _).mono ?_;rintro e w' ⟨rfl,rfl⟩;clear c2;go_wp2;go_roundg g
    case measure=>omega
    case rel=>
     obtain ⟨r1,r2,r3,r4,r5,r6,r7,r8⟩:=R.out;obtain ⟨s1,s2⟩:=R2.out;have hpw:=z22 g;unfold TREE at s1;rw [e3];refine ⟨q,L,rfl,rfl,rfl,r1,by omega,by omega,2*m,by rw [z1p,<-r4],⟨by omega,?_⟩,r6⟩;have:=r5.2;rw [show 62 - g=62 - (g+1)+1 by omega,Nat.pow_succ];omega
def SpotAt (p:Int) (h k:Nat) (ok:Bool):Prop:=∀ w,Calls Tryz.prog 76 #[.int .u64 p] w fun e w'=>e=.returned (.tuple #[SPOT h k,.bool ok])/\Below w.heap.size w w'
theorem SpotAt.node {h k:Nat} (hN:Node h k):SpotAt ((PLC h k:Nat):Int) h k true:=fun w=>z6H h k hN w
theorem SpotAt.out {p:Int} (hp:9223372036854775807<=p):SpotAt p 0 0 false:=fun w=>zez p hp w
theorem z9q (p:Int) (h k:Nat) (b:Bool) (r:Int) (w:World) (hh:((h:Int) == 62)=false) (hm:wrap64 (h:Int)=(h:Int)) (ha:(bits .and .u64 (k:Int) 1 == 1)=b) (cs:SpotAt p h k true)
  (co:∀ w,Calls Tryz.prog 100 #[.int .u64 p,.int .i64 (h:Int),.bool b] w fun e w'=>e=.returned (.int .u64 r)/\w=w'):
  Calls Tryz.prog 77 #[.int .u64 p] w fun e w'=>e=.returned (.tuple #[.int .u64 r,.bool true])/\Below w.heap.size w w':=by
 have cs:=cs w;go_enter Tryz.func77,Tryz.ntmps77;go_wp2_with fail
 refine cs.mono ?_;rintro e w1 ⟨rfl,hb⟩;clear cs;have R:Aside (Below w.heap.size w w1):=hb;clear hb;go_wp2_with fail
 refine (co _).mono ?_;rintro e w2 ⟨rfl,rfl⟩;clear co;go_wp2;go_ret2;exact ⟨rfl,R.out.alloc R.out.size _⟩
theorem z4I (p:Int) (h k:Nat) (b:Bool) (w:World) (ha:(bits .and .u64 (k:Int) 1 == 1)=b) (cs:SpotAt p h k true):
  Calls Tryz.prog 38 #[.int .u64 p] w fun e w'=>e=.returned (.bool b)/\Below w.heap.size w w':=by
 have cs:=cs w;go_enter Tryz.func38,Tryz.ntmps38;go_wp2_with fail
 refine cs.mono ?_;rintro e w1 ⟨rfl,hb⟩;clear cs;have R:Aside (Below w.heap.size w w1):=hb;clear hb;go_wp2;go_ret;exact ⟨rfl,R.out.alloc R.out.size _⟩
theorem z45 {P:Program} {f:FuncId} {args:Array Value} {w:World} {n:Nat} {v:Value}
  (h:Calls P f args (w.drewN n) fun e w'=>e=.returned v/\w.drewN n=w'):Calls P f args (w.drewN n) fun e w''=>e=.returned v/\∃ m,w''=w.drewN m:=
 h.mono fun _ _ ⟨he,hm⟩=>⟨he,n,hm.symm⟩
theorem zg3 (k:Nat) (hk:k<2 ^ 64):bits .and .u64 (k:Int) 1=((k % 2:Nat):Int):=by
 have:bits .and .u64 (k:Int) ((1:Nat):Int)=((k &&& 1:Nat):Int):=z4E hk (by decide);rw [Nat.and_one_is_mod] at this;exact this
theorem z8g (k:Nat) (hk:k<2 ^ 64):(bits .and .u64 (k:Int) 1 == 1)=decide (k % 2=1):=by
 rw [zg3 k hk,Bool.eq_iff_iff];simp;omega
theorem zbd (h k:Nat):PLC (h+1) (k / 2)=if k % 2=1 then PLC h k+1 else PLC h k+TREE h+1:=by
 split
 ·have:=z39 h (k / 2)
  rw [show 2*(k / 2)+1=k by omega] at this;exact this
 ·have:=z5f h (k / 2)
  rw [show 2*(k / 2)=k by omega] at this;have h3:=z22 h;unfold TREE;omega
theorem z9r (h k:Nat):PLC h (SIB k)=if k % 2=1 then PLC h k - TREE h else PLC h k+TREE h:=by
 unfold SIB;split
 ·have:=z6C h (k / 2)
  rw [show 2*(k / 2)+1=k by omega,show 2*(k / 2)=k - 1 by omega] at this;omega
 ·have:=z6C h (k / 2)
  rw [show 2*(k / 2)=k by omega] at this;omega
theorem z7P {h k:Nat} (hk:k % 2=1):TREE h<=PLC h k:=by
 have:=z6C h (k / 2);rw [show 2*(k / 2)+1=k by omega] at this;omega
theorem zg4 (h k:Nat) (hN:Node h k) (hh:h<62) (w:World):Calls Tryz.prog 101 #[.int .u64 ((PLC h k:Nat):Int),.int .i64 (h:Int),.bool (decide (k % 2=1))] w fun e w'=>e=.returned (.int .u64 ((PLC (h+1) (k / 2):Nat):Int))/\w=w':=by
 have h1:=(hN.up hh).lt;have h2:=zbd h k;by_cases hk:k % 2=1
 ·rw [if_pos hk] at h2
  rw [decide_eq_true hk];have:=zbb (PLC h k:Nat) (h:Int) w;rw [show IntKind.u64.wrap (((PLC h k:Nat):Int)+1)=((PLC (h+1) (k / 2):Nat):Int) by rw [z0k];omega] at this;exact this
 ·rw [if_neg hk] at h2
  rw [decide_eq_false hk];have:=zcE (PLC h k:Nat) (h:Int) (TREE h:Nat) w (fun w=>z35 h (by omega) w);rw [show IntKind.u64.wrap (IntKind.u64.wrap (((PLC h k:Nat):Int)+((TREE h:Nat):Int))+1)=((PLC (h+1) (k / 2):Nat):Int) by rw [z0k,z0k];omega] at this;exact this
theorem z7d (h k:Nat) (hN:Node h k) (hh:h<62) (w:World):Calls Tryz.prog 100 #[.int .u64 ((PLC h k:Nat):Int),.int .i64 (h:Int),.bool (decide (k % 2=1))] w fun e w'=>e=.returned (.int .u64 ((PLC h (SIB k):Nat):Int))/\w=w':=by
 have h0:=hN.lt;have h1:=(hN.sib hh).lt;have h2:=z9r h k;by_cases hk:k % 2=1
 ·rw [if_pos hk] at h2
  rw [decide_eq_true hk];have h3:=z7P (h:=h) hk;have:=z8b (PLC h k:Nat) (h:Int) (TREE h:Nat) w (fun w=>z35 h (by omega) w);rw [show IntKind.u64.wrap (((PLC h k:Nat):Int) - ((TREE h:Nat):Int))=((PLC h (SIB k):Nat):Int) by rw [z0k];omega] at this;exact this
 ·rw [if_neg hk] at h2
  rw [decide_eq_false hk];have:=z9o (PLC h k:Nat) (h:Int) (TREE h:Nat) w (fun w=>z35 h (by omega) w);rw [show IntKind.u64.wrap (((PLC h k:Nat):Int)+((TREE h:Nat):Int))=((PLC h (SIB k):Nat):Int) by rw [z0k];omega] at this;exact this
theorem zbe (h k:Nat) (hN:Node h k) (hh:h<62) (w:World):Calls Tryz.prog 77 #[.int .u64 ((PLC h k:Nat):Int)] w fun e w'=>e=.returned (.tuple #[.int .u64 ((PLC h (SIB k):Nat):Int),.bool true])/\Below w.heap.size w w':=
 z9q _ h k (decide (k % 2=1)) _ w (by simp;omega) (by unfold wrap64;omega) (z8g k (by have:=hN.index_lt;omega)) (.node hN) (fun w=>z7d h k hN hh w)
theorem right_ok (h k:Nat) (hN:Node h k) (w:World):Calls Tryz.prog 38 #[.int .u64 ((PLC h k:Nat):Int)] w fun e w'=>e=.returned (.bool (decide (k % 2=1)))/\Below w.heap.size w w':=
 z4I _ h k _ w (z8g k (by have:=hN.index_lt;omega)) (.node hN)
end Go.Proofs.YtnimaaflmdoaaaaGreatDoor
namespace Go.Proofs.YtnimaaflmdoaaaaGreatDoor
open Go.RowKit Go.Shelf
attribute [local go_sem] Oper.semAt_some
def UPTO {α:Type} (f:Nat->α) (k:Nat):List α:=(List.range k).map f
theorem z2l {α:Type} (f:Nat->α) (k:Nat):UPTO f (k+1)=UPTO f k ++ [f k]:=by simp [UPTO,List.range_succ]
theorem z3G {α:Type} (f:Nat->α) (k:Nat):(UPTO f k).length=k:=by simp [UPTO]
def KB (n₀ Bs:Nat) (A B:World):Prop:=Below n₀ A B/\B.cell? ⟨Bs,0,none⟩=A.cell? ⟨Bs,0,none⟩
theorem KB.t {n₀ Bs:Nat} {A B C:World} (h:KB n₀ Bs A B) (k:KB n₀ Bs B C):KB n₀ Bs A C:=⟨h.1.trans k.1,k.2.trans h.2⟩
theorem KB.b {n₀ Bs:Nat} {w:World} (hn:n₀<=w.heap.size) (hB:Bs<w.heap.size) (W:World) (l:Nat) (o o':Obj) (hl:w.heap.size<=l) (h:W.heap[l]?=some o) (h1:o.isCells=false) (h2:o.isWalk=false):KB n₀ Bs W (W.putObj l o'):=
 ⟨belowK_b hn W l o o' hl h h1 h2,(belowK_b (Nat.le_refl w.heap.size) W l o o' hl h h1 h2).cell (p:=⟨Bs,0,none⟩) hB⟩
def BACK (len:Nat) (f:Nat->Fin 64) (j:Nat):Nat × Fin 64:=(len - 1 - j,f (len - 1 - j))
set_option maxRecDepth 100000 in
theorem z8h (F:Fence) (n:Nat) (hF:F.fn 159) (hro:F.round=none) (hn:1<=n) (l Bs n₀ b len cap:Nat) (f:Nat->Fin 64) (hreach:len<=64) (hb:b<n₀) (J Jx:List (Nat × Fin 64)->World->Prop)
    (hY:∀ pre x W,J pre W->pre.length<len->YieldAt F (n - 1) Tryz.prog l #[.int .i64 (x.1:Int),.int .i64 (x.2.val:Int)] W fun e W'=>
      (e=.returned (.bool true)/\J (pre ++ [x]) W'/\KB n₀ Bs W W')\/(e=.returned (.bool false)/\Jx (pre ++ [x]) W'))
    (W:World) (hBs:W.cell? ⟨Bs,0,none⟩=some (.slice (some ⟨b,0,none⟩) len cap)) (hc:∀ j,j<len->W.cell? ⟨b,j,none⟩=some (.int .i64 ((f j).val:Int))) (h0:J [] W):
    CallsIn F n Tryz.prog 159 #[.func (.yield l) #[] #[],.pointer (some ⟨Bs,0,none⟩)] W fun e W'=>(∃ v,e=.returned v)/\
      ((∃ ys,ys=UPTO (BACK len f) len/\J ys W')\/(∃ pre,(∃ k,k<=len/\pre=UPTO (BACK len f) k)/\Jx pre W')):=by
  refine callsIn_of_wp Tryz.func159 rfl hF ?_ hro;simp only [Tryz.ntmps159,List.size_toArray,List.length_cons,List.length_nil,Nat.reduceAdd,Nat.reduceSub,Array.replicate_succ,Array.replicate_zero,List.push_toArray,List.append_toArray,List.nil_append,List.cons_append];have e1:wrap64 ((len:Int) - 1)=(len:Int) - 1:=by unfold wrap64;omega
  gi_wp2
  gi_loopw [3] (fun i wr=>∃ k:Nat,k<=len/\i=.int .i64 ((len:Int) - 1 - (k:Int))/\J (UPTO (BACK len f) k) wr/\KB n₀ Bs W wr)
    (fun i _=>(intOf i+1).toNat)
  case atStart=>exact ⟨0,Nat.zero_le _,by simp,h0,Below.refl _ _,rfl⟩
  case round=>
    obtain ⟨k,hk,rfl,hJs,hnx⟩:=hrel;by_cases hlt:k<len
    · obtain ⟨j,hj⟩:∃ j:Nat,(len:Int) - 1 - (k:Int)=(j:Int):=⟨len - 1 - k,by omega⟩
      have hjl:j<len:=by omega
      have hbk:BACK len f k=(j,f j):=by
        unfold BACK;rw [show len - 1 - k=j by omega]
      have hcx:wr.cell? ⟨b,j,none⟩=some (.int .i64 ((f j).val:Int)):=(hnx.1.cell (p:=⟨b,j,none⟩) hb).trans (hc j hjl);have hcs:wr.cell? ⟨Bs,0,none⟩=some (.slice (some ⟨b,0,none⟩) len cap):=hnx.2.trans hBs;obtain ⟨fn,tmps,assign,body,hy,hR⟩:=hY _ (j,f j) wr hJs (by rw [z3G];exact hlt);dsimp only at hy;rw [hj];have e2:wrap64 ((j:Int) - 1)=(j:Int) - 1:=by unfold wrap64;omega
      have hJ':Aside ((len:Int) - 1 - (k:Int)=(j:Int)):=hj;have hjl':(j:Int)<(len:Int):=by omega
      clear hj;gi_wp2
      refine hR.mono ?_;rintro e W3 (⟨rfl,hJ3,hk3⟩ | ⟨rfl,hJx3⟩)
      · gi_wp2
        go_roundw
        case rel=>exact ⟨k+1,by omega,by have:=hJ'.out;congr 1;omega,by rw [z2l,hbk];exact hJ3,hnx.t hk3⟩
        case measure=>simp [intOf]
      · gi_wp2
        refine bodyPost_ret (results_none rfl _ _ _) rfl ?_;exact ⟨⟨_,rfl⟩,.inr ⟨_,⟨k+1,by omega,by rw [z2l,hbk]⟩,hJx3⟩⟩
    · obtain rfl:k=len:=by omega
      rw [show (k:Int) - 1 - (k:Int) = -1 by omega];gi_wp2
      go_end0
      exact ⟨⟨_,rfl⟩,.inl ⟨_,rfl,hJs⟩⟩
theorem z9s (F:Fence) (n:Nat) (hF:F.fn 129) (hro:F.round=none) (a:Option Addr) (len cap:Nat) (w:World):
  CallsIn F n Tryz.prog 129 #[.slice a len cap] w fun e w'=>e=.returned (.func (.func 159) #[] #[.pointer (some ⟨w.heap.size,0,none⟩)])/\w'=w.alloc (.cells #[.slice a len cap] 176):=by
 refine callsIn_of_wp Tryz.func129 rfl hF ?_ hro;simp only [Tryz.ntmps129,List.size_toArray,List.length_cons,List.length_nil,Nat.reduceAdd,Nat.reduceSub,Array.replicate_succ,Array.replicate_zero,List.push_toArray,List.append_toArray,List.nil_append,List.cons_append];gi_wp2
 go_ret;exact ⟨rfl,rfl⟩
theorem z6I (F:Fence) (n:Nat) (hF:F.fn 159) (hro:F.round=none) (hn:1<=n) (Bs n₀ b len cap:Nat) (f:Nat->Fin 64) (hreach:len<=64) (hb:b<n₀) (w:World) (hBs:Bs<w.heap.size) (hn₀:n₀<=w.heap.size)
  (hc:w.cell? ⟨Bs,0,none⟩=some (.slice (some ⟨b,0,none⟩) len cap)) (hI:∀ j,j<len->w.cell? ⟨b,j,none⟩=some (.int .i64 ((f j).val:Int))):
  SeqStopsK F n Tryz.prog 159 #[.pointer (some ⟨Bs,0,none⟩)] (fun x:Nat × Fin 64=>#[Value.int .i64 (x.1:Int),Value.int .i64 (x.2.val:Int)]) (KB n₀ Bs) (fun ys=>ys=UPTO (BACK len f) len)
   (fun pre=>∃ k,k<=len/\pre=UPTO (BACK len f) k) len w:=fun l J Jx W hW _ _ hY h0=>
 z8h F n hF hro hn l Bs n₀ b len cap f hreach hb J Jx hY W ((hW.cell (p:=⟨Bs,0,none⟩) hBs).trans hc) (fun j hj=>(hW.cell (p:=⟨b,j,none⟩) (by show b<_;omega)).trans (hI j hj)) h0
end Go.Proofs.YtnimaaflmdoaaaaGreatDoor

namespace Go.Proofs.YtnimaaflmdoaaaaGreatDoor
open Go.RowKit Go.Shelf
attribute [local go_sem] Oper.semAt_some
def UCELLS (l:List Nat):List Value:=l.map fun (x:Nat)=>Value.int .u64 (x:Int)
theorem z3H (l:List Nat) (x:Nat):UCELLS (l ++ [x])=UCELLS l ++ [.int .u64 (x:Int)]:=by simp [UCELLS]
theorem z2G:(Tryz.prog.info? 24).map (fun i=>(i.zero,i.size,i.bytes))=some (some (.int .u64 0),1,8):=by kernel_rfl
theorem z8i (n:Nat) (hn:n<=64) (w:World):∃ cur:Array Value,cur.size=n/\(Instr.makeSlice 95 (.int .i64 0) (.int .i64 (n:Int))).run Tryz.prog w=.ok (.slice (some ⟨w.heap.size,0,none⟩) 0 n) (w.alloc (.cells cur 24)):=by
 obtain ⟨i,hi,hz,hs1,hby⟩:=info_parts z2G;have h:=run_make (P:=Tryz.prog) w 95 24 i (.int .u64 0) Tryz.underlying95 hi hz .i64 .i64 0 n (by omega) (by omega) (by rw [hby];omega) (by omega);refine ⟨_,?_,h⟩;rw [size_madeCells,hs1];omega
def HTS (pre:List (Nat × Fin 64)):List Nat:=pre.map fun x=>x.2.val
theorem zeA (pre:List (Nat × Fin 64)) (x:Nat × Fin 64):HTS (pre ++ [x])=HTS pre ++ [x.2.val]:=by simp [HTS]
theorem zcK (l:List Nat):(ST l).2.length=l.length:=by
 have key:∀ (l:List Nat) (s:Nat × List Nat),(l.foldl (fun s h=>((s.1+TREE h) % 2 ^ 64,s.2 ++ [((s.1+TREE h) % 2 ^ 64+(2 ^ 64 - 1)) % 2 ^ 64])) s).2.length=s.2.length+l.length:=by
  intro l;induction l with
  | nil=>intro s;simp
  | cons h l ih=>
    intro s;rw [List.foldl_cons,ih];simp;omega
 have:=key l (0,[]);simpa [ST] using this
theorem zhv (l:List Nat):(ST l).1<2 ^ 64:=by
 rcases List.eq_nil_or_concat l with rfl | ⟨i,x,rfl⟩
 ·simp [ST]
 ·rw [List.concat_eq_append,z6G]
  exact Nat.mod_lt _ (by decide)
theorem zeB (X:Nat) (f:Nat->Fin 64) (hf:∀ j,j<POP X->(f j).val=z43 X j):HTS (UPTO (BACK (POP X) f) (POP X))=(z0w X).reverse:=by
 apply List.ext_getElem?;intro j;by_cases hj:j<POP X
 ·rw [List.getElem?_reverse (by rw [z0L];exact hj),z0L,z5z (by omega),<-hf _ (by omega)]
  simp [HTS,UPTO,BACK,hj]
 ·rw [List.getElem?_eq_none (by simp [HTS,UPTO];omega),List.getElem?_eq_none (by rw [List.length_reverse,z0L];omega)]
theorem z0W {w:World} {base base':Nat} {t:TypeId} {s:Nat} {v:Value} {n:Nat} {xs:List Value} (h:w.ownsRow base t s v n xs) (hb:base'<=base):w.ownsRow base' t s v n xs:=
 ⟨h.1,h.2.imp id fun ⟨g,c,cur,a,b,r⟩=>⟨g,c,cur,a,Nat.le_trans hb b,r⟩⟩
set_option maxRecDepth 100000 in
theorem z5A (X:Nat) (hX:X<=4611686018427387904) (w:World) (hT:Tabled w) (h0:0<w.heap.size):Calls Tryz.prog 82 #[.int .u64 (X:Int)] w fun e w'=>
  ∃ g cap,e=.returned (.slice (some ⟨g,0,none⟩) (PC X) cap)/\w'.ownsRow w.heap.size 24 1 (.slice (some ⟨g,0,none⟩) (PC X) cap) (PC X) (UCELLS (z1G X))/\Below w.heap.size w w':=by
 obtain ⟨i0,hi,hz0,hz1,hz2⟩:=info_parts z2G;have cb:=zg0 X (by omega) w hT h0;have hle:=z5V X;obtain ⟨f,hf⟩:∃ f:Nat->Fin 64,∀ j,j<POP X->(f j).val=z43 X j:=⟨fun j=>if h:j<POP X then ⟨z43 X j,by have:=zev h;omega⟩ else 0,fun j hj=>by simp [hj]⟩
 have hba:=zeB X f hf;have hplc:=fun (w':World) (base g n cap:Nat) (h:w'.ownsRow base 3 1 (.slice (some ⟨g,0,none⟩) n cap) n (z1g (z0w X)))=>zcG h;have hpc:POP X=PC X:=z4G (by omega);generalize POP X=p at *
 obtain ⟨L,hL⟩:∃ L,z1g (z0w X)=L:=⟨_,rfl⟩
 simp only [hL] at hplc cb;have HA:Aside (HTS (UPTO (BACK p f) p)=(z0w X).reverse/\p=PC X/\X<=4611686018427387904):=⟨hba,hpc,hX⟩
 clear hba hpc hX hL hT h0;have hd:¬ (4611686018427387904:Int)<(X:Int):=by have:=HA.out.2.2;omega
 refine (callsIn_wide (n:=5)).1 ?_;refine callsIn_of_wp_marks Tryz.func82 rfl trivial ?_ rfl;simp only [Tryz.ntmps82,List.size_toArray,List.length_cons,List.length_nil,Nat.reduceAdd,Nat.reduceSub,Array.replicate_succ,Array.replicate_zero,List.push_toArray,List.append_toArray,List.nil_append,List.cons_append];gi_wp2_with fail
 refine ⟨trivial,(callsIn_wide.2 cb).mono ?_⟩;rintro e w1 ⟨g,cap,rfl,hrow,hg,hb⟩;clear cb;obtain ⟨cur,hcs,hmk⟩:=z8i p hle w1;gi_wp2_with fail
 refine ⟨trivial,(z9s Fence.wide 4 trivial rfl _ _ _ _).mono ?_⟩;rintro e w2 ⟨rfl,rfl⟩;obtain ⟨s1,hs1⟩:∃ s1,w1.heap.size=s1:=⟨_,rfl⟩
 have bO:=Boxed.new (w1.alloc (.cells cur 24)) 95 (.slice (some ⟨w1.heap.size,0,none⟩) 0 p);have bM:=Boxed.new ((w1.alloc (.cells cur 24)).alloc (.cells #[.slice (some ⟨w1.heap.size,0,none⟩) 0 p] 95)) 24 (.int .u64 0);have bN:=Boxed.new (((w1.alloc (.cells cur 24)).alloc (.cells #[.slice (some ⟨w1.heap.size,0,none⟩) 0 p] 95)).alloc (.cells #[.int .u64 0] 24)) 176 (.slice (some ⟨g,0,none⟩) p cap)
 have hr0:(w1.alloc (.cells cur 24)).ownsRow s1 24 1 (.slice (some ⟨s1,0,none⟩) 0 p) 0 []:=by
  rw [<-hs1];exact World.ownsRow_made w1 cur p (Nat.le_refl _) (by simp only [maxLen];omega) (by rw [hcs];omega)
 simp only [World.size_alloc,hs1] at bO bM bN ⊢;have bO:=(bO.alloc (.cells #[.int .u64 0] 24)).alloc (.cells #[.slice (some ⟨g,0,none⟩) p cap] 176);have bM:=bM.alloc (.cells #[.slice (some ⟨g,0,none⟩) p cap] 176);have hr0:=((hr0.alloc (.cells #[.slice (some ⟨s1,0,none⟩) 0 p] 95)).alloc (.cells #[.int .u64 0] 24)).alloc (.cells #[.slice (some ⟨g,0,none⟩) p cap] 176)
 have hB1:Below s1 w1 ((((w1.alloc (.cells cur 24)).alloc (.cells #[.slice (some ⟨s1,0,none⟩) 0 p] 95)).alloc (.cells #[.int .u64 0] 24)).alloc (.cells #[.slice (some ⟨g,0,none⟩) p cap] 176)):=
  ((((Below.refl _ w1).alloc (by omega) _).alloc (by simp;omega) _).alloc (by simp;omega) _).alloc (by simp;omega) _
 have hgs:g<s1:=by omega
 have hcg:∀ j,j<p->w1.cell? ⟨g,j,none⟩=some (.int .i64 ((f j).val:Int)):=fun j hj=>by rw [hf j hj];exact hplc _ _ _ _ _ hrow j hj
 have hsz:((((w1.alloc (.cells cur 24)).alloc (.cells #[.slice (some ⟨s1,0,none⟩) 0 p] 95)).alloc (.cells #[.int .u64 0] 24)).alloc (.cells #[.slice (some ⟨g,0,none⟩) p cap] 176)).heap.size=s1+4:=by simp;omega
 obtain ⟨W0,hW0⟩:∃ W0,((((w1.alloc (.cells cur 24)).alloc (.cells #[.slice (some ⟨s1,0,none⟩) 0 p] 95)).alloc (.cells #[.int .u64 0] 24)).alloc (.cells #[.slice (some ⟨g,0,none⟩) p cap] 176))=W0:=⟨_,rfl⟩
 rw [hW0] at bO bM bN hr0 hB1 hsz ⊢;have hbw:Below w.heap.size w W0:=hb.trans (hB1.mono (by have:=hb.size;omega));clear hW0;gi_wp2_with fail
 refine wpIn_rangeFunc_ownG rfl (by omega) (gf:=159) (lb:=#[.pointer (some ⟨s1+1+1+1,0,none⟩)]) rfl trivial (enters_of Tryz.func159 (by kernel_rfl) rfl)
  (z6I Fence.wide (5 - 1) trivial rfl (by omega) (s1+1+1+1) s1 g p cap f hle hgs W0 (by omega) (by omega) bN.cell (fun j hj=>(hB1.cell (p:=⟨g,j,none⟩) hgs).trans (hcg j hj)))
  KB.t (KB.b (by omega) (by omega)) (Below.refl _ _) (fun _=>rfl)
  (fun pre W=>((∃ v,Boxed W (s1+1) 95 v/\W.ownsRow s1 24 1 v pre.length (UCELLS (ST (HTS pre)).2)/\v=.slice (some ⟨s1,0,none⟩) pre.length p)/\Boxed W (s1+1+1) 24 (.int .u64 ((ST (HTS pre)).1:Int))/\Boxed W (s1+1+1+1) 176 (.slice (some ⟨g,0,none⟩) p cap))/\Below w.heap.size w W)
  (fun _ _ _=>False)
  (OwnFrom.and (OwnFrom.and (Own.from (holdsRow_own s1 (s1+1) 95 24 1 (fun pre=>pre.length) (fun pre=>UCELLS (ST (HTS pre)).2) (fun pre v=>v=.slice (some ⟨s1,0,none⟩) pre.length p)) _) (OwnFrom.and (Own.from (boxed_own _ _ _) _) (Own.from (boxed_own _ _ _) _))) (ownFrom_below (Nat.le_refl _) (by have:=hb.size;omega)))
  (fun _ _ _ _ _ hs _ _=>hs)
  ⟨⟨⟨_,bO,hr0,rfl⟩,bM,bN⟩,hbw⟩
  (fun x=>{tmps:=#[.int .u64 (X:Int),undef,.slice none 0 0,.slice (some ⟨g,0,none⟩) p cap,.pointer (some ⟨s1+1,0,none⟩),.pointer (some ⟨s1+1+1,0,none⟩),undef,.int .i64 (x.2.val:Int),.int .u64 (X:Int),.bool false,.int .u64 (X:Int),.slice (some ⟨g,0,none⟩) p cap,.slice (some ⟨g,0,none⟩) p cap,.int .i64 (p:Int),.slice (some ⟨s1,0,none⟩) 0 p,.slice (some ⟨g,0,none⟩) p cap,.func (.func 159) #[] #[.pointer (some ⟨s1+1+1+1,0,none⟩)],.int .i64 (x.1:Int),.int .i64 (x.2.val:Int),undef,undef,undef,undef,undef,undef,undef,undef,undef,undef],defers:=[]}) ?assign ?body ?done ?stop
 case assign=>
  intro l x W K hK;gi_wp2
  exact hK
 case body=>
  rintro l pre x W ⟨⟨⟨v,bO,hrow,rfl⟩,bM,bN⟩,hB⟩ hlt;have hsn:=z6G (HTS pre) x.2.val;have hml:=zhv (HTS pre);have hsl:=zcK (HTS pre);rw [show (HTS pre).length=pre.length by simp [HTS]] at hsl;obtain ⟨m,hm⟩:∃ m,(ST (HTS pre)).1=m:=⟨_,rfl⟩
  obtain ⟨ls,hls⟩:∃ ls,(ST (HTS pre)).2=ls:=⟨_,rfl⟩
  have ct:=fun w=>z35 x.2.val (by omega) w;obtain ⟨t,ht⟩:∃ t,TREE x.2.val=t:=⟨_,rfl⟩
  rw [hm,hls,ht] at hsn;rw [hm] at hml bM;rw [hls] at hsl hrow;rw [ht] at ct;obtain ⟨m2,hm2⟩:∃ m2,(m+t) % 2 ^ 64=m2:=⟨_,rfl⟩
  obtain ⟨q,hq⟩:∃ q,(m2+(2 ^ 64 - 1)) % 2 ^ 64=q:=⟨_,rfl⟩
  rw [hm2,hq] at hsn;have e1:IntKind.u64.wrap ((m:Int)+(t:Int))=(m2:Int):=by rw [z0k];omega
  have e2:IntKind.u64.wrap ((m2:Int) - 1)=(q:Int):=by rw [z0k];omega
  have R:Aside (ST (HTS (pre ++ [x]))=(m2,ls ++ [q])/\ls.length=pre.length/\pre.length<p):=⟨by rw [zeA];exact hsn,hsl,hlt⟩
  clear hsn hml hsl hlt hm hls ht hm2 hq;have hc4:=bO.cell;have hc5:=bM.cell;have hf5:=bM.frozen;have hmx:Tryz.prog.follows .mixedOrders=true:=by kernel_rfl
  clear hplc hf hcg hz0 hz2;have hsW:s1+4<=W.heap.size:=by have:=bN.lt;omega
  obtain ⟨W5,hW5⟩:∃ W5,(W.setCell ⟨s1+1+1,0,none⟩ (.int .u64 (m2:Int))).drew=W5:=⟨_,rfl⟩
  have bO5:Boxed W5 (s1+1) 95 (.slice (some ⟨s1,0,none⟩) pre.length p):=by rw [<-hW5];exact bO.other (by omega) _
  have bM5:Boxed W5 (s1+1+1) 24 (.int .u64 (m2:Int)):=by rw [<-hW5];exact bM.set _
  have bN5:Boxed W5 (s1+1+1+1) 176 (.slice (some ⟨g,0,none⟩) p cap):=by rw [<-hW5];exact bN.other (by omega) _
  have hrow5:W5.ownsRow s1 24 1 (.slice (some ⟨s1,0,none⟩) pre.length p) pre.length (UCELLS ls):=by rw [<-hW5];exact (hrow.kept (grownBy_setCell' W (s1+1+1) (.int .u64 (m2:Int))) (.inr (by simp [Value.ownBlock];omega))).drew
  have hk5:KeepsOthers W W5:=by rw [<-hW5];exact (KeepsOthers.setCell _ _ _).trans (KeepsOthers.drew _)
  have hb5:Below s1 W W5:=by rw [<-hW5];exact ((Below.refl s1 W).setCell (p:=⟨s1+1+1,0,none⟩) (by show s1<=s1+1+1;omega) _).drew
  have hs5:s1+4<=W5.heap.size:=by have:=bN5.lt;omega
  have hcN:W.cell? ⟨s1+1+1+1,0,none⟩=some (.slice (some ⟨g,0,none⟩) p cap):=bN.cell;gi_wp2
  gi_region_with_o (refine ⟨trivial,?_⟩;gi_at_call 123;refine (CallsIn.inRound l (callsIn_wide.2 (ct _))).mono ?_;rintro e w' ⟨rfl,rfl⟩)
  all_goals clear hc4 hc5 hf5 bO bM bN hrow ct
  all_goals have hc4:=bO5.cell
  all_goals have hc5:=bM5.cell
  all_goals gi_wp2_with (gi_at_builtin;refine wpListIn_append_fits _ rfl _ _ 95 rfl s1 24 i0 1 Tryz.underlying95 hi hz1 s1 pre.length p (UCELLS ls) rfl (hrow5.alloc _) ⟨W5.heap.size,0,none⟩ 1 1 [.int .u64 (q:Int)] rfl rfl (cell_one_new _ _ _) (by simp [Value.oneCell']) (by have:=R.out.2.2;omega) ?_;intro w1' hown' hgrow;obtain ⟨hv1,hv2,hr2,hk2,hb2⟩:=bO5.appended (by decide) hrow5 (by omega) (by omega) hown' hgrow;have hc1:=hv1.cell;have hf1:=hv1.frozen)
  all_goals have bN6:=((bN5.alloc (.cells #[.int .u64 (q:Int)] 24)).kept hgrow (by simp;omega)).other (B':=s1+1) (by omega) (.slice (some ⟨s1,0,none⟩) (pre.length+1) p)
  all_goals have bM6:=((bM5.alloc (.cells #[.int .u64 (q:Int)] 24)).kept hgrow (by simp;omega)).other (B':=s1+1) (by omega) (.slice (some ⟨s1,0,none⟩) (pre.length+1) p)
  all_goals obtain ⟨r1,r2,r3⟩:=R.out
  all_goals refine ⟨(hk5.trans hk2).from _,⟨hb5.trans hb2,bN6.cell.trans hcN.symm⟩,⟨⟨_,hv2,?_,by simp⟩,?_,bN6⟩,hB.trans ((hb5.trans hb2).mono (by have:=hb.size;omega))⟩
  all_goals rw [r1]
  all_goals first | exact bM6 | (rw [z3H,List.length_append];exact hr2)
 case done=>
  rintro D ys W hD hys ⟨⟨⟨v,bO,hrow,rfl⟩,bM,bN⟩,hB⟩ hK;have hc:=bO.cell;gi_wp2
  refine ⟨by simp,.inl ⟨_,_,rfl,run_takeDeferred hK,?_⟩⟩;have hys':ys=UPTO (BACK p f) p:=hys;subst hys';obtain ⟨a1,a2,a3⟩:=HA.out;have hl:(UPTO (BACK p f) p).length=p:=z3G _ _;rw [hl,a1,<-zg2,zgW a3] at hrow;refine ⟨_,results_tmp rfl _ _ _,s1,p,?_,?_,hB.trans (belowK_b (w:=w) (Nat.le_refl _) W D _ _ (by have:=hb.size;omega) hK rfl rfl)⟩
  ·rw [<-a2,hl]
   rfl
  ·rw [<-a2]
   exact ownsRow_putObj (z0W hrow (by have:=hb.size;omega)) _ hK rfl
 case stop=>
  rintro D c pre W _ _ h _;exact h.elim
end Go.Proofs.YtnimaaflmdoaaaaGreatDoor

namespace Go.Proofs.YtnimaaflmdoaaaaGreatDoor
open Go.RowKit
theorem zag {ops:Array Oper} {rest:List Oper} {o:Oper} {a:Act} {Q:Exit->Act->World->Prop} (w:World) (hgd:o.guard=none) (s x:Operand)
  (ho:o.op=.call {callee:=.builtin .append,args:=#[s,x],argTypes:=#[95,95]})
  (base:Nat) (v:Value) (n:Nat) (xs:List Nat) (hs:a.eval s=v) (hown:w.ownsRow base 24 1 v n (UCELLS xs))
  (b c:Nat) (y:Nat) (hx:a.eval x=.slice (some ⟨b,0,none⟩) 1 c) (hc:w.cell? ⟨b,0,none⟩=some (.int .u64 (y:Int)))
  (hb:n<=1000) (hbase:base<=w.heap.size)
  (h:∀ g cap w',w'.ownsRow base 24 1 (.slice (some ⟨g,0,none⟩) (n+1) cap) (n+1) (UCELLS (xs ++ [y]))->w.grownBy w' v.ownBlock->g<w'.heap.size->wpList Tryz.prog ops Q rest (a.put o.dst (.slice (some ⟨g,0,none⟩) (n+1) cap)) w'):wpList Tryz.prog ops Q (o :: rest) a w:=by
 obtain ⟨i,hi,hz,hs1,hby⟩:=info_parts z2G;refine wpList_append_lies w hgd s x 95 ho base 24 i (.int .u64 0) 1 8 Tryz.underlying95 hi hz hs1 hby rfl (by decide) v n (UCELLS xs) hs hown ⟨b,0,none⟩ 1 c [.int .u64 (y:Int)] hx rfl ?_ (fun u hu=>by simp at hu;subst hu;rfl) (by decide) (by simp only [maxLen];omega) (by omega) hbase w.heap.size rfl ?_
 ·intro j u hj
  cases j with
  | zero=>
    simp only [List.getElem?_cons_zero,Option.some.injEq] at hj;subst hj;exact hc
  | succ j=>simp at hj
 ·intro g cap w' h1 h2 _ h4
  rw [<-z3H] at h1;exact h g cap w' h1 h2 h4
theorem zeC (i n x r:Int) (w:World) (hd:decide (4611686018427387904<n)=false) (hi:decide (n<=i)=false) (hx:bits .xor .u64 i n=x) (c:∀ w,Calls Tryz.prog 122 #[.int .u64 x] w fun e w'=>e=.returned (.int .i64 r)/\w=w'):
  Calls Tryz.prog 99 #[.int .u64 i,.int .u64 n] w fun e w'=>e=.returned (.tuple #[.int .i64 r,.bool true])/\w=w':=by
 go_enter Tryz.func99,Tryz.ntmps99;have hd':¬ 4611686018427387904<n:=by simpa using hd
 have hi':¬ n<=i:=by simpa using hi
 go_wp2_with fail
 refine (c _).mono ?_;rintro e w' ⟨rfl,rfl⟩;go_wp2;go_ret2;exact ⟨rfl,rfl⟩
theorem zah (i n:Nat) (hi:i<n) (hn:n<=4611686018427387904) (w:World):Calls Tryz.prog 99 #[.int .u64 (i:Int),.int .u64 (n:Int)] w fun e w'=>e=.returned (.tuple #[.int .i64 ((RISE i n:Nat):Int),.bool true])/\w=w':=by
 have hX:i ^^^ n<2 ^ 63:=Nat.xor_lt_two_pow (by omega) (by omega);have h1:=(z0U hi hn).1;refine zeC i n ((i ^^^ n:Nat):Int) _ w (by simp;omega) (by simp;omega) (bits_xor_u64_nat i n (by omega) (by omega)) (fun w=>?_);have:=zaf (i ^^^ n) (by omega) w;rw [show ((LEN (i ^^^ n):Nat):Int) - 1=((RISE i n:Nat):Int) by unfold RISE;omega] at this;exact this
theorem zeD (i n:Int) (h:¬ (i<n/\n<=4611686018427387904)) (w:World):Calls Tryz.prog 99 #[.int .u64 i,.int .u64 n] w fun e w'=>e=.returned (.tuple #[.int .i64 0,.bool false])/\w=w':=by
 by_cases hd:4611686018427387904<n
 ·clear h
  go_enter Tryz.func99,Tryz.ntmps99;go_wp2;go_ret2;exact ⟨rfl,rfl⟩
 ·have hi:n<=i:=by omega
  clear h;go_enter Tryz.func99,Tryz.ntmps99;go_wp2;go_ret2;exact ⟨rfl,rfl⟩
theorem zeE (i n r x y k:Int) (w:World) (h:Nat) (hr:r=(h:Int)) (e1:n / 2 ^ min h 64=x) (e2:x / 2=y) (c:∀ w,Calls Tryz.prog 99 #[.int .u64 i,.int .u64 n] w fun e w'=>e=.returned (.tuple #[.int .i64 r,.bool true])/\w=w') (co:∀ w,Calls Tryz.prog 119 #[.int .u64 y] w fun e w'=>e=.returned (.int .i64 k)/\w=w'):
  Calls Tryz.prog 81 #[.int .u64 i,.int .u64 n] w fun e w'=>e=.returned (.tuple #[.int .i64 k,.bool true])/\w=w':=by
 subst hr;go_enter Tryz.func81,Tryz.ntmps81;go_wp2_with fail
 refine (c _).mono ?_;rintro e w' ⟨rfl,rfl⟩;clear c;go_wp2_with fail
 refine (co _).mono ?_;rintro e w' ⟨rfl,rfl⟩;go_wp2;go_ret2;exact ⟨rfl,rfl⟩
theorem zg5 (i n:Nat) (hi:i<n) (hn:n<=4611686018427387904) (w:World):Calls Tryz.prog 81 #[.int .u64 (i:Int),.int .u64 (n:Int)] w fun e w'=>e=.returned (.tuple #[.int .i64 ((KTH i n:Nat):Int),.bool true])/\w=w':=by
 have h2:=(z0U hi hn).2.1;refine zeE i n _ ((n / 2 ^ RISE i n:Nat):Int) ((n / 2 ^ (RISE i n+1):Nat):Int) _ w (RISE i n) rfl ?_ ?_ (fun w=>zah i n hi hn w) (fun w=>?_)
 ·rw [show min (RISE i n) 64=RISE i n by omega,z2h]
 ·rw [z0B]
  omega
 ·have hl:n / 2 ^ (RISE i n+1)<2 ^ 64:=Nat.lt_of_le_of_lt (Nat.div_le_self _ _) (by omega)
  have:=z6E (n / 2 ^ (RISE i n+1)) hl w;rw [z4G hl] at this;exact this
theorem zeF (i n:Int) (h:¬ (i<n/\n<=4611686018427387904)) (w:World):Calls Tryz.prog 58 #[.int .u64 i,.int .u64 n] w fun e w'=>e=.returned (.tuple #[.slice none 0 0,.bool false])/\w=w':=by
 have c:=zeD i n h;clear h;go_enter Tryz.func58,Tryz.ntmps58;go_wp2_with fail
 refine (c _).mono ?_;rintro e w' ⟨rfl,rfl⟩;clear c;go_wp2;go_ret2;exact ⟨rfl,rfl⟩
theorem z6J (i n:Nat) (hi:i<n) (hn:n<=4611686018427387904) (w:World):Calls Tryz.prog 58 #[.int .u64 (i:Int),.int .u64 (n:Int)] w fun e w'=>
  ∃ g cap,e=.returned (.tuple #[.slice (some ⟨g,0,none⟩) (RISE i n) cap,.bool true])/\w'.ownsRow w.heap.size 24 1 (.slice (some ⟨g,0,none⟩) (RISE i n) cap) (RISE i n) (UCELLS (WAY i (RISE i n)))/\g<w'.heap.size/\Below w.heap.size w w':=by
 have c1:=zah i n hi hn;have h62:=(z0U hi hn).2.1;have c2:=z8a i (by omega);generalize RISE i n=H at *
 obtain ⟨cur,hcs,hmk⟩:=z8i H (by omega) w;have HA:Aside (i<4611686018427387904/\H<=62/\cur.size=H):=⟨by omega,h62,hcs⟩
 have hp:(z05 i:Nat)=PLC 0 (i / 2 ^ 0):=by rw [z85,Nat.pow_zero,Nat.div_one]
 rw [hp] at c2;clear hi hn h62 hcs hp;go_enter Tryz.func58,Tryz.ntmps58;go_wp2_with fail
 refine (c1 _).mono ?_;rintro e w' ⟨rfl,rfl⟩;clear c1;go_wp2_with fail
 refine (c2 _).mono ?_;rintro e w' ⟨rfl,rfl⟩;clear c2;go_wp2;go_loopg [8,9,25] H (fun g s8 s9 s25 wx=>∃ j:Nat,s25=.int .i64 (j:Int)/\s9=.int .u64 ((PLC j (i / 2 ^ j):Nat):Int)/\Aside (j+g=H/\wx.ownsRow w.heap.size 24 1 s8 j (UCELLS (WAY i j))/\(∃ b cap,s8=.slice (some ⟨b,0,none⟩) j cap/\b<wx.heap.size)/\Below w.heap.size w wx))
 case atStart=>exact ⟨0,rfl,by rw [Nat.pow_zero,Nat.div_one],by omega,World.ownsRow_made w cur H (Nat.le_refl _) (by have:=HA.out.2.1;simp only [maxLen];omega) (by rw [HA.out.2.2];omega),⟨_,_,rfl,by simp⟩,(Below.refl _ _).alloc (Nat.le_refl _) _⟩
 case round=>
  obtain ⟨j,rfl,rfl,A⟩:=hrel;clear hmk;cases gk with
  | zero=>
    obtain ⟨hj,hown,⟨b,cap,hs,hb⟩,hbel⟩:=A.out;obtain rfl:j=H:=by omega
    subst hs;have hlt:¬ (j:Int)<(j:Int):=by omega
    clear hj hown hb hbel HA;go_wp2;go_ret2;obtain ⟨hj,hown,⟨b',cap',hs,hb⟩,hbel⟩:=A.out;cases hs;exact ⟨b,cap,rfl,hown,hb,hbel⟩
  | succ g=>
    obtain ⟨hj,hown,⟨b,cap,hs,hb⟩,hbel⟩:=A.out;have hlt:(j:Int)<(H:Int):=by omega
    have h62:=HA.out.2.1;have hN:=Node.over HA.out.1 j (by omega);have cb:=z7d j (i / 2 ^ j) hN (by omega);have co:=zg4 j (i / 2 ^ j) hN (by omega)
    have hR:(bits .and .u64 ((i:Int) / 2 ^ min j 64) 1 == 1)=decide (i / 2 ^ j % 2=1):=by
     rw [show min j 64=j by omega,z2h];exact z8g _ (Nat.lt_of_le_of_lt (Nat.div_le_self _ _) (by have:=HA.out.1;omega))
    have e1:wrap64 ((j:Int)+1)=((j+1:Nat):Int):=by unfold wrap64;omega
    have hj0:¬ (j:Int)<0:=by omega
    rw [<-z0B] at co;have hw:=zey i j;generalize hz:decide (i / 2 ^ j % 2=1)=z at *
    clear hz;generalize PLC j (i / 2 ^ j)=x at *
    generalize PLC j (SIB (i / 2 ^ j))=y at *
    generalize hv:PLC (j+1) (i / 2 ^ (j+1))=v at *
    have R:Aside (j+1+g=H/\wr.ownsRow w.heap.size 24 1 u8 j (UCELLS (WAY i j))/\Below w.heap.size w wr/\j<=1000/\WAY i (j+1)=WAY i j ++ [y]/\PLC (j+1) (i / 2 ^ (j+1))=v):=⟨by omega,hown,hbel,by omega,hw,hv⟩
    clear A hj hown hs hb hbel h62 hN hw hv HA;go_wp2_with fail
    refine (cb _).mono ?_;rintro e w' ⟨rfl,rfl⟩;clear cb;go_wp2_with (at_builtin;refine zag _ rfl (.tmp 33) (.tmp 38) rfl w.heap.size u8 j (WAY i j) rfl (R.out.2.1.alloc _) wr.heap.size 1 y rfl (by rw [World.cell?_alloc_at _ _ _ _ rfl];rfl) R.out.2.2.2.1 (by have:=R.out.2.2.1.size;simp;omega) ?_;intro g' cap w1 hown hgrow hg)
    obtain ⟨r1,r2,r3,r4,r5,r6⟩:=R.out;have R2:Aside (j+1+g=H/\w1.ownsRow w.heap.size 24 1 (.slice (some ⟨g',0,none⟩) (j+1) cap) (j+1) (UCELLS (WAY i (j+1)))/\g'<w1.heap.size/\Below w.heap.size w w1/\PLC (j+1) (i / 2 ^ (j+1))=v):=⟨r1,by rw [r5];exact hown,hg,(r3.alloc r3.size _).grown hgrow (by have:=r3.size;simp;omega) (fun k e=>(r2.lt k e).1),r6⟩
    clear hown hgrow hg R r1 r2 r3 r4 r5 r6;refine (co _).mono ?_;rintro e w' ⟨rfl,rfl⟩;clear co;go_wp2;go_roundg g
    case measure=>omega
    case rel=>
     obtain ⟨r1,r2,r3,r4,r6⟩:=R2.out;exact ⟨j+1,by first | rfl | (rw [e1]),by rw [r6],r1,r2,⟨_,_,rfl,r3⟩,r4⟩
def zgY (l:List (Nat × Nat)):List Value:=l.flatMap fun x=>[Value.int .u8 (x.1:Int),Value.int .u64 (x.2:Int)]
def Spots (w:World) (a:Option Addr) (l:List (Nat × Nat)):Prop:=0<l.length->∃ g,a=some ⟨g,0,none⟩/\g<w.heap.size/\∀ (j h k:Nat),l[j]?=some (h,k)->w.cell? ⟨g,j*2,none⟩=some (.int .u8 (h:Int))/\w.cell? ⟨g,j*2+1,none⟩=some (.int .u64 (k:Int))
theorem Spots.below {w w':World} {a:Option Addr} {l:List (Nat × Nat)} (h:Spots w a l) (hb:Below w.heap.size w w'):Spots w' a l:=fun h0=>by
 obtain ⟨g,e,hg,hc⟩:=h h0;exact ⟨g,e,Nat.lt_of_lt_of_le hg hb.size,fun j x y he=>⟨(hb.cell (p:=⟨g,j*2,none⟩) hg).trans (hc j x y he).1,(hb.cell (p:=⟨g,j*2+1,none⟩) hg).trans (hc j x y he).2⟩⟩
theorem z1Q {w w':World} {base:Nat} {t:TypeId} {s:Nat} {v:Value} {n:Nat} {xs:List Value} (h:w.ownsRow base t s v n xs) (hb:Below w.heap.size w w'):w'.ownsRow base t s v n xs:=by
 refine ⟨h.1,h.2.imp id ?_⟩;rintro ⟨g,c,cur,a,b,r,rest⟩;exact ⟨g,c,cur,a,b,(hb.block g (Array.getElem?_eq_some_iff.1 r).1).trans r,rest⟩
def Has (w:World) (g:Nat) (c:Array Value) (t:TypeId):Prop:=w.heap[g]?=some (.cells c t)
theorem Has.cell {w:World} {g:Nat} {c:Array Value} {t:TypeId} (h:Has w g c t) (i:Nat):w.cell? ⟨g,i,none⟩=c[i]?:=cell_of_row w g i c t _ h
theorem Has.lt {w:World} {g:Nat} {c:Array Value} {t:TypeId} (h:Has w g c t):g<w.heap.size:=(Array.getElem?_eq_some_iff.1 h).1
theorem Has.frozen {w:World} {g:Nat} {c:Array Value} {t:TypeId} (h:Has w g c t) (i:Nat):w.frozen? ⟨g,i,none⟩=false:=by
 have e:w.heap[g]?=some (.cells c t):=h;simp [World.frozen?,e]
theorem Has.set {w:World} {g:Nat} {c:Array Value} {t:TypeId} (h:Has w g c t) (i:Nat) (v:Value):Has (w.setCell ⟨g,i,none⟩ v) g (c.setIfInBounds i v) t:=by
 have e:w.heap[g]?=some (.cells c t):=h;unfold Has;rw [setCell_eq_setRow w g i c t _ v e,setRow_heap w g c _ t _ e]
theorem Has.other {w:World} {g:Nat} {c:Array Value} {t:TypeId} (h:Has w g c t) {a:Addr} (ha:g≠a.block) (v:Value):Has (w.setCell a v) g c t:=by
 have e:w.heap[g]?=some (.cells c t):=h;unfold Has;rw [Below.heap_setCell w a v g ha,e]
theorem Has.below {B:Nat} {w w':World} {g:Nat} {c:Array Value} {t:TypeId} (h:Has w g c t) (hb:Below B w w') (hg:g<B):Has w' g c t:=(hb.block g hg).trans h
theorem Has.keep {w w':World} {g:Nat} {c:Array Value} {t:TypeId} (h:Has w g c t) (hb:Below w.heap.size w w'):Has w' g c t:=h.below hb h.lt
theorem Has.alloc {w:World} {g:Nat} {c:Array Value} {t:TypeId} (h:Has w g c t) (o:Obj):Has (w.alloc o) g c t:=by
 have e:w.heap[g]?=some (.cells c t):=h;unfold Has;rw [Below.heap_alloc w o g h.lt,e]
theorem Has.new (w:World) (c:Array Value) (t:TypeId):Has (w.alloc (.cells c t)) w.heap.size c t:=heap_alloc_new w _
theorem Has.at (w:World) (c:Array Value) (t:TypeId) {g:Nat} (hg:g=w.heap.size):Has (w.alloc (.cells c t)) g c t:=by subst hg;exact Has.new w c t
theorem Has.row {w:World} {g:Nat} {c:Array Value} {t:TypeId} (h:Has w g c t) (c':Array Value):Has (w.setRow g c') g c' t:=setRow_heap w g c c' t _ h
theorem Has.row_other {w:World} {g k:Nat} {c:Array Value} {t:TypeId} (h:Has w g c t) (hk:g≠k) (c':Array Value):Has (w.setRow k c') g c t:=by
 have e:w.heap[g]?=some (.cells c t):=h;unfold Has;rw [setRow_other w k g c' hk,e]
theorem Has.drewN {w:World} {g:Nat} {c:Array Value} {t:TypeId} (h:Has w g c t) (n:Nat):Has (w.drewN n) g c t:=h
theorem z1W {w:World} {b i j:Nat} (h:i≠j) (v:Value):(w.setCell ⟨b,i,none⟩ v).cell? ⟨b,j,none⟩=w.cell? ⟨b,j,none⟩:=World.cell?_setCell_other w _ _ v (fun e=>h (congrArg Addr.off e))
theorem z0b {B g:Nat} {w0 w:World} (hb:Below B w0 w) (hBg:B<=g) (cs:Array Value):Below B w0 (w.setRow g cs):=
 ⟨hb.os,hb.tape,hb.output,by have:=hb.size;simpa [World.setRow] using this,fun k hk=>by rw [setRow_other w g k cs (by omega)];exact hb.block k hk⟩
end Go.Proofs.YtnimaaflmdoaaaaGreatDoor
namespace Go.Proofs.YtnimaaflmdoaaaaGreatDoor
open Go.RowKit Go.Maps
set_option maxRecDepth 100000
theorem z46:laidOutB Tryz.prog=true:=by kernel_rfl
theorem zai:(110:TypeId)<Tryz.prog.types.size:=of_decide_eq_true (by kernel_rfl)
theorem zeG:(match Tryz.prog.underlying 110 with | some (.array _ _) | some (.struct _)=>true | _=>false)=true:=by rw [Tryz.underlying110]
theorem law:Keyed Tryz.prog 110:=Keyed.of_law (deep_law_laid z46 (m:=2) (by omega) zai (by kernel_rfl) zeG)
def KL (h k:Nat):Lit:=.string (keyBytes [.int .u8 (h:Int),.int .u64 (k:Int)])
theorem z3P {h k:Nat} (hh:h<256) (hk:k<2 ^ 64):keyOf Tryz.prog 110 (SPOT h k)=some (KL h k):=by
 have w0:(Lit.int .u8 (h:Int)).wf=true:=WalkArith.wf_u8 (by omega);have w1:(Lit.int .u64 (k:Int)).wf=true:=WalkArith.wf_u64 (by omega);have c3:Tryz.prog.cellsOf 110=2:=by kernel_rfl
 have c1:Tryz.prog.cellsOf 5=1:=by kernel_rfl
 have c2:Tryz.prog.cellsOf 24=1:=by kernel_rfl
 have ht:Tryz.prog.keyType 110=true:=by kernel_rfl
 have hf:(SPOT h k).formed Tryz.prog 110=true:=by simp [Value.formed,Tryz.underlying110,c3]
 obtain ⟨m,hm⟩:∃ m,Tryz.prog.types.size=m+1:=⟨Tryz.prog.types.size - 1,(Nat.succ_pred_eq_of_pos (Nat.lt_of_le_of_lt (Nat.zero_le _) zai)).symm⟩
 unfold keyOf;simp only [Tryz.underlying110,ht,hf,hm];simp [Program.keyLits,Tryz.underlying110,Tryz.underlying5,Tryz.underlying24,c1,c2,c3,Value.cells,w0,w1,KL]
theorem zcL {h k h' k':Nat} (hh:h<256) (hk:k<2 ^ 64) (hh':h'<256) (hk':k'<2 ^ 64) (e:KL h k=KL h' k'):h=h'/\k=k':=by
 have h1:=z3P hh hk;have h2:=z3P hh' hk';rw [<-e] at h2;have:=law.inj h1 h2;simp at this;omega
abbrev U64 (n:Nat):DataW Unit:=.lit (.int .u64 (n:Int))
def MapOk (D:DataW Unit) (m:Nat):Prop:=∀ h k,h<256->k<2 ^ 64->(Maps.has D (KL h k)=true↔Node h k/\PLC h k<m)/\(Node h k->PLC h k<m->D.atKey (KL h k) (U64 0)=U64 (PLC h k))
theorem MapOk.none:MapOk (.map []) 0:=fun h k _ _=>⟨⟨fun e=>by simp [Maps.has] at e,fun e=>by omega⟩,fun _ e=>by omega⟩
theorem Node.small {h k:Nat} (a:Node h k):h<256/\k<2 ^ 64:=⟨by have:=a.1;omega,by have:=a.index_lt;omega⟩
theorem MapOk.put {D:DataW Unit} {m h k:Nat} (hD:Maps.IsMap D) (hM:MapOk D m) (hN:Node h k) (hp:PLC h k=m):MapOk (D.put (KL h k) (U64 m)) (m+1):=by
 intro h' k' hh' hk';obtain ⟨hh,hk⟩:=hN.small;have hkey:WideAt.IsKeyLit (KL h k):=law.key (z3P hh hk);by_cases e:KL h' k'=KL h k
 ·obtain ⟨rfl,rfl⟩:=zcL hh' hk' hh hk e
  exact ⟨⟨fun _=>⟨hN,by omega⟩,fun _=>Maps.has_put_same hD hkey _⟩,fun _ _=>by rw [Maps.atKey_put_same hD hkey,hp]⟩
 ·have hne:∀ _:Node h' k',PLC h' k'≠m:=fun hN' e2=>e (by obtain ⟨rfl,rfl⟩:=hN'.one hN (by omega);rfl)
  rw [Maps.has_put_other e,Maps.atKey_put_other e];obtain ⟨a,b⟩:=hM h' k' hh' hk';refine ⟨⟨fun h=>?_,fun h=>?_⟩,fun h1 h2=>b h1 (by have:=hne h1;omega)⟩
  ·have:=a.1 h
   exact ⟨this.1,by omega⟩
  ·exact a.2 ⟨h.1,by have:=hne h.1;omega⟩
def Placed (w:World) (b m:Nat):Prop:=∃ D:DataW Unit,w.ownsMap Tryz.prog 110 (plainElem Tryz.prog 24) b m D/\MapOk D m
theorem Placed.made (w:World):Placed (w.alloc (.map #[] 0)) w.heap.size 0:=⟨_,World.ownsMap_made w _ _ _,MapOk.none⟩
theorem Placed.kept {w w':World} {b m:Nat} {row:Option Nat} (h:Placed w b m) (hg:w.grownBy w' row) (hne:some b≠row):Placed w' b m:=let ⟨D,h1,h2⟩:=h; ⟨D,h1.kept hg hne,h2⟩
theorem Placed.lt {w:World} {b m:Nat} (h:Placed w b m):b<w.heap.size:=let ⟨_,h1,_⟩:=h;h1.lt
theorem Placed.below {w w':World} {b m:Nat} (h:Placed w b m) (hb:Below w.heap.size w w'):Placed w' b m:=by
 have hlt:=h.lt;obtain ⟨D,⟨es,clock,h1,r⟩,h2⟩:=h;exact ⟨D,⟨es,clock,(hb.block b hlt).trans h1,r⟩,h2⟩
theorem Placed.alloc {w:World} {b m:Nat} (h:Placed w b m) (o:Obj):Placed (w.alloc o) b m:=h.below ((Below.refl _ _).alloc (Nat.le_refl _) _)
theorem Placed.setCell {w:World} {b m:Nat} (h:Placed w b m) {a:Addr} (ha:b≠a.block) (u:Value):Placed (w.setCell a u) b m:=let ⟨D,h1,h2⟩:=h; ⟨D,h1.setCell ha u,h2⟩
end Go.Proofs.YtnimaaflmdoaaaaGreatDoor
