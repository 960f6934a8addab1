/- ManyClashes: part 2. -/
import Derived.Deep.OwnRows
import Derived.Deep.AppendLies
import Derived.RangeFuncBox
import Derived.RangeFuncLeaves
import Derived.RangeFuncCalls
import Derived.Shelf.Abstract
import Derived.Shelf.RegionOpen
import Derived.OwnWalkIn
import Derived.TacticsInMore
import Derived.LoopNIn
import Derived.LoopIn
import Derived.Maps.AppendAt
import Derived.RangeFuncNested
import Derived.Deep.QuietTactic
import Derived.BigQuiet
import Derived.Test.YtobaogpomcocpaaGreatDoorManyClashesP1
set_option maxRecDepth 100000
set_option maxHeartbeats 2000000
open Go.RowKit
namespace Go.Proofs.YtobaogpomcocpaaGreatDoor
def PL:Nat->Nat->Nat->List Nat
 | 0,_,_=>[]
 | k+1,o,X=>if X % 2=1 then o :: PL k (o+1) (X / 2) else PL k (o+1) (X / 2)
def zI(X:Nat):List Nat:=PL 64 0 X
theorem XB:∀ k o,PL k o 0=[]
 | 0,_=>rfl
 | k+1,o=>by
   have:=XB k (o+1);simpa[PL] using this
theorem vF:∀ k o X,(PL k o X).length=DSUM 1 k X
 | 0,_,_=>rfl
 | k+1,o,X=>by
   have ih:=vF k (o+1) (X / 2);unfold PL DSUM;rw[Nat.pow_one];split
   ·rw[List.length_cons,ih];omega
   ·rw[ih];omega
theorem yY(X:Nat):(zI X).length=POP X:=vF 64 0 X
theorem un:∀ (t k o q:Nat),t<k->PL k o (2 ^ t*(2*q+1))=(o+t) :: PL k o (2 ^ (t+1)*q)
 | 0,0,_,_,h=>by omega
 | 0,k+1,o,q,_=>by
   have h1:(2 ^ 0*(2*q+1))=2*q+1:=by simp
   have h2:2 ^ (0+1)*q=2*q:=by simp
   rw[h1,h2];unfold PL;rw[if_pos (by omega),if_neg (by omega),show (2*q+1) / 2=q by omega,show 2*q / 2=q by omega];rfl
 | t+1,0,_,_,h=>by omega
 | t+1,k+1,o,q,h=>by
   have ih:=un t k (o+1) q (by omega);have h1:2 ^ (t+1)*(2*q+1)=2*(2 ^ t*(2*q+1)):=by rw[Nat.pow_succ,Nat.mul_comm (2 ^ t) 2,Nat.mul_assoc]
   have h2:2 ^ (t+1+1)*q=2*(2 ^ (t+1)*q):=by rw[Nat.pow_succ,Nat.mul_comm (2 ^ (t+1)) 2,Nat.mul_assoc]
   rw[h1,h2];generalize 2 ^ t*(2*q+1)=a at ih ⊢;generalize 2 ^ (t+1)*q=b at ih ⊢;unfold PL;rw[if_neg (by omega),if_neg (by omega),show 2*a / 2=a by omega,show 2*b / 2=b by omega,ih,show o+(t+1)=o+1+t by omega]
theorem Z8(X:Nat):POP X<=64:=by
 have:∀ k X,DSUM 1 k X<=k:=fun k=>by
  induction k with
  | zero=>intro X;exact Nat.le_refl _
  | succ k ih=>
    intro X;have:=ih (X / 2);unfold DSUM;rw[Nat.pow_one];omega
 exact this 64 X
theorem Mw(q:Nat):(2*q+1) &&& (2*q)=2*q:=by
 apply Nat.eq_of_testBit_eq;intro i;rw[Nat.testBit_and];cases i with
 | zero=>simp[Nat.testBit_zero]
 | succ i=>
   rw[Nat.testBit_succ,Nat.testBit_succ,show (2*q+1) / 2=q by omega,show 2*q / 2=q by omega];simp
theorem Vp:∀ (t q:Nat),2 ^ t*(2*q+1) &&& (2 ^ t*(2*q+1) - 1)=2 ^ (t+1)*q
 | 0,q=>by
   have h1:(2 ^ 0*(2*q+1))=2*q+1:=by simp
   have h2:2 ^ (0+1)*q=2*q:=by simp
   rw[h1,h2];exact Mw q
 | t + 1,q=>by
   have ih:=Vp t q;have h1:2 ^ (t+1)*(2*q+1)=2*(2 ^ t*(2*q+1)):=by rw[Nat.pow_succ,Nat.mul_comm (2 ^ t) 2,Nat.mul_assoc]
   have h2:2 ^ (t+1+1)*q=2*(2 ^ (t+1)*q):=by rw[Nat.pow_succ,Nat.mul_comm (2 ^ (t+1)) 2,Nat.mul_assoc]
   have hp:0<2 ^ t*(2*q+1):=Nat.mul_pos (Nat.two_pow_pos t) (by omega);rw[h1,h2,<-ih];generalize 2 ^ t*(2*q+1)=a at hp ⊢;apply Nat.eq_of_testBit_eq;intro i;rw[Nat.testBit_and];cases i with
   | zero=>simp[Nat.testBit_zero]
   | succ i=>
     rw[Nat.testBit_succ,Nat.testBit_succ,Nat.testBit_succ,show 2*a / 2=a by omega,show (2*a - 1) / 2=a - 1 by omega,<-Nat.testBit_and,show 2*(a &&& (a - 1)) / 2=a &&& (a - 1) by omega]
def yk(l:List Nat):List Value:=l.map fun(x:Nat)=>Value.int .i64 (x:Int)
theorem kt(l:List Nat)(x:Nat):yk (l ++ [x])=yk l ++ [.int .i64 (x:Int)]:=by simp[yk]
theorem Jk:∃ i,Tryz.prog.info? 3=some i/\i.zero=some (.int .i64 0)/\i.size=1/\i.bytes=8:=by
 have h:(Tryz.prog.info? 3).map (fun i=>(i.zero,i.size,i.bytes))=some (some (.int .i64 0),1,8):=by kernel_rfl
 obtain⟨i,hi,h⟩:=Option.map_eq_some_iff.1 h;simp only[Prod.mk.injEq] at h;exact⟨i,hi,h.1,h.2.1,h.2.2⟩
theorem z1b{ops:Array Oper}{rest:List Oper}{o:Oper}{a:Act}{Q:Exit->Act->World->Prop}(w:World)(hgd:o.guard=none)(s x:Operand)
  (ho:o.op=.call {callee:=.builtin .append,args:=#[s,x],argTypes:=#[139,139]})
  (base:Nat) (v:Value) (n:Nat) (xs:List Nat) (hs:a.eval s=v) (hown:w.ownsRow base 3 1 v n (yk xs))
  (b c:Nat) (y:Nat) (hx:a.eval x=.slice (some ⟨b,0,none⟩) 1 c) (hc:w.cell? ⟨b,0,none⟩=some (.int .i64 (y:Int)))
  (hb:n<=1000) (hbase:base<=w.heap.size)
  (h:∀ g cap w',w'.ownsRow base 3 1 (.slice (some ⟨g,0,none⟩) (n+1) cap) (n+1) (yk (xs ++ [y]))->w.grownBy w' v.ownBlock->g<w'.heap.size->wpList Tryz.prog ops Q rest (a.put o.dst (.slice (some ⟨g,0,none⟩) (n+1) cap)) w'):wpList Tryz.prog ops Q (o :: rest) a w:=by
 obtain⟨i,hi,hz,hs1,hby⟩:=Jk;refine wpList_append_lies w hgd s x 139 ho base 3 i (.int .i64 0) 1 8 Tryz.underlying139 hi hz hs1 hby rfl (by decide) v n (yk xs) hs hown ⟨b,0,none⟩ 1 c [.int .i64 (y:Int)] hx rfl ?_ (fun u hu=>by simp at hu;subst hu;rfl) (by decide) (by simp only[maxLen];omega) (by omega) hbase w.heap.size rfl ?_
 ·intro j u hj
  cases j with
  | zero=>
    simp only[List.getElem?_cons_zero,Option.some.injEq] at hj;subst hj;exact hc
  | succ j=>simp at hj
 ·intro g cap w' h1 h2 _ h4
  rw[<-kt] at h1;exact h g cap w' h1 h2 h4
theorem GL(n:Nat)(hn:n<=64)(w:World):∃ cur:Array Value,cur.size=n/\(Instr.makeSlice 139 (.int .i64 0) (.int .i64 (n:Int))).run Tryz.prog w=.ok (.slice (some ⟨w.heap.size,0,none⟩) 0 n) (w.alloc (.cells cur 3)):=by
 obtain⟨i,hi,hz,hs1,hby⟩:=Jk;have h:=run_make (P:=Tryz.prog) w 139 3 i (.int .i64 0) Tryz.underlying139 hi hz .i64 .i64 0 n (by omega) (by omega) (by rw[hby];omega) (by omega);refine⟨_,?_,h⟩;rw[size_madeCells,hs1];omega
theorem Tabled.below{w w':World}(h:Tabled w)(_:0<w.heap.size)(hb:Below w.heap.size w w'):Tabled w':=fun i hi=>(hb.cell (by exact World.block_lt_of_cell? _ _ (h i hi))).trans (h i hi)
theorem z1c(X:Nat)(hX:X<2 ^ 64)(w:World)(hT:Tabled w)(h0:0<w.heap.size):Calls Tryz.prog 109 #[.int .u64 (X:Int)] w fun e w'=>
  ∃ g cap,e=.returned (.slice (some ⟨g,0,none⟩) (POP X) cap)/\w'.ownsRow w.heap.size 3 1 (.slice (some ⟨g,0,none⟩) (POP X) cap) (POP X) (yk (zI X))/\g<w'.heap.size/\Below w.heap.size w w':=by
 obtain⟨cur,hcs,hmk⟩:=GL (POP X) (Z8 X) w;have HX:Aside (X<2 ^ 64):=hX;have HT:Aside (Tabled w/\0<w.heap.size/\cur.size=POP X):=⟨hT,h0,hcs⟩
 have c1:=z17 X hX;clear hX hT h0 hcs;generalize hp:POP X=p at *
 have HP:Aside (POP X=p):=hp;clear hp;go_enter Tryz.func109,Tryz.ntmps109;go_wp2_with fail
 refine(c1 _).mono ?_;rintro e w' ⟨rfl,rfl⟩;clear c1;go_wp2;go_loopg [0,3] p (fun g s0 s2 wx=>∃ (x:Nat),Aside (∃ l:List Nat,l ++ zI x=zI X/\x<2 ^ 64/\g=POP x/\wx.ownsRow w.heap.size 3 1 s2 l.length (yk l)/\(∃ b cap,s2=.slice (some ⟨b,0,none⟩) l.length cap/\b<wx.heap.size)/\Below w.heap.size w wx)/\s0=.int .u64 (x:Int))
 case atStart=>exact⟨X,⟨[],rfl,HX.out,HP.out.symm,World.ownsRow_made w cur p (Nat.le_refl _) (by have:=Z8 X;rw[HP.out] at this;simp only[maxLen];omega) (by rw[HT.out.2.2];omega),⟨_,_,rfl,by simp⟩,(Below.refl _ _).alloc (Nat.le_refl _) _⟩,rfl⟩
 case round=>
  obtain⟨x,A,rfl⟩:=hrel;clear hmk;cases hx:((x:Int) == 0) with
  | true=>
    obtain⟨l,hl,hxl,hg,hown,⟨b,cap,hs,hb⟩,hbel⟩:=A.out;have hx0:x=0:=by simpa using hx
    have hl2:l=zI X:=by
     rw[hx0,show zI 0=[] from XB 64 0,List.append_nil] at hl;exact hl
    have hlen:l.length=p:=by rw[hl2,yY,HP.out]
    subst hs;rw[hlen,hl2] at hown;have R:Aside (wr.ownsRow w.heap.size 3 1 (.slice (some ⟨b,0,none⟩) p cap) p (yk (zI X))/\b<wr.heap.size/\Below w.heap.size w wr/\l.length=p):=⟨hown,hb,hbel,hlen⟩
    clear A hl hxl hg hown hb hbel hx0 hl2 hlen HX HT HP;go_wp2;go_ret;obtain⟨h1,h2,h3,h4⟩:=R.out;refine⟨b,cap,?_,h1,h2,h3⟩;rw[<-h4];rfl
  | false=>
    obtain⟨l,hl,hxl,hg,hown,⟨b,cap,hs,hb⟩,hbel⟩:=A.out;have hx0:x≠0:=by simpa using hx
    obtain⟨t,q,e⟩:=GB x hx0;have ht:t<64:=(ul hxl e).2;have cl:=z1a x t wr (z2H x t q hxl e wr (HT.out.1.below HT.out.2.1 hbel));obtain⟨y,hy⟩:∃ y,y=2 ^ (t+1)*q:=⟨_,rfl⟩
    have hya:x &&& (x - 1)=y:=by rw[e,hy];exact Vp t q
    have hstep:zI x=t :: zI y:=by
     rw[e,hy];have:=un t 64 0 q ht;rw[Nat.zero_add] at this;exact this
    have hand:bits .and .u64 (x:Int) (IntKind.u64.wrap ((x:Int) - 1))=(y:Int):=by
     have hm:IntKind.u64.wrap ((x:Int) - 1)=((x - 1:Nat):Int):=by rw[zh];omega
     rw[hm,Z4 hxl (by omega),hya]
    have hyx:y<2 ^ 64:=Nat.lt_of_le_of_lt (by rw[<-hya];exact Nat.and_le_left) hxl
    have hlen:l.length<=1000:=by
     have h1:=congrArg List.length hl;have h2:=Z8 X;rw[List.length_append,yY X] at h1;omega
    have hPy:POP x=POP y+1:=by
     rw[<-yY,<-yY,hstep,List.length_cons]
    have R:Aside ((l ++ [t]) ++ zI y=zI X/\y<2 ^ 64/\gk=POP y+1/\wr.ownsRow w.heap.size 3 1 u3 l.length (yk l)/\Below w.heap.size w wr/\l.length<=1000):=⟨by rw[List.append_assoc,List.singleton_append,<-hstep];exact hl,hyx,by rw[hg,hPy],hown,hbel,hlen⟩
    clear A hl hxl hg hown hs hb hbel hx0 e ht hy hya hstep hyx hlen hPy HX HT HP;go_wp2_with fail
    refine cl.mono ?_;rintro e w' ⟨rfl,rfl⟩;clear cl;go_wp2_with (at_builtin;refine z1b _ rfl (.tmp 13) (.tmp 16) rfl w.heap.size u3 l.length l rfl (R.out.2.2.2.1.alloc _) wr.heap.size 1 t rfl (by rw[World.cell?_alloc_at _ _ _ _ rfl];rfl) R.out.2.2.2.2.2 (by have:=R.out.2.2.2.2.1.size;simp;omega) ?_;intro g cap w1 hown hgrow hg)
    obtain⟨r1,r2,r3,r4,r5,r6⟩:=R.out;have R2:Aside ((l ++ [t]) ++ zI y=zI X/\y<2 ^ 64/\gk=POP y+1/\w1.ownsRow w.heap.size 3 1 (.slice (some ⟨g,0,none⟩) (l.length+1) cap) (l.length+1) (yk (l ++ [t]))/\g<w1.heap.size/\Below w.heap.size w w1):=⟨r1,r2,r3,hown,hg,(r5.alloc r5.size _).grown hgrow (by have:=r5.size;simp;omega) (fun k e=>(r4.lt k e).1)⟩
    clear hown hgrow hg R r1 r2 r3 r4 r5 r6;go_wp2;go_roundg (gk - 1)
    case measure=>have:=R2.out.2.2.1;omega
    case rel=>
     obtain⟨r1,r2,r3,r4,r5,r6⟩:=R2.out;have e:(l ++ [t]).length=l.length+1:=by simp
     exact⟨y,⟨l ++ [t],r1,r2,by omega,by rw[e];exact r4,⟨g,cap,by rw[e],r5⟩,r6⟩,by first | rfl | (rw[hand])⟩
def SUMP(l:List Nat):Nat:=(l.map fun i=>2 ^ i).sum
theorem Vq:∀ k o X,∀ i∈PL k o X,o<=i/\i<o+k
 | 0,_,_,i,h=>by simp[PL] at h
 | k + 1,o,X,i,h=>by
   have ih:=Vq k (o+1) (X / 2) i;unfold PL at h;split at h
   ·rcases List.mem_cons.1 h with rfl | h
    ·omega
    ·have:=ih h
     omega
   ·have:=ih h
    omega
def qg(X i:Nat):Nat:=(zI X).getD i 0
theorem Y9{X i:Nat}(h:i<POP X):(zI X)[i]?=some (qg X i):=by
 rw[<-yY] at h;unfold qg;rw[List.getD_eq_getElem?_getD,List.getElem?_eq_getElem h];rfl
theorem Mx{X i:Nat}(h:i<POP X):qg X i<=63:=by
 have:=Vq 64 0 X _ (List.mem_of_getElem? (Y9 h));omega
def PART(X i:Nat):Nat:=SUMP ((zI X).take i)
theorem GM{w:World}{base g n cap:Nat}{X:Nat}(h:w.ownsRow base 3 1 (.slice (some ⟨g,0,none⟩) n cap) n (yk (zI X)))(i:Nat)(hi:i<POP X):w.cell? ⟨g,i,none⟩=some (.int .i64 (qg X i:Nat)):=by
 have hlen:(zI X).length=n:=by have:=h.1;simpa[yk] using this
 rw[yY] at hlen;rw[h.cellAt i (by omega)];unfold yk;rw[List.getElem?_map,Y9 hi];rfl
def UP(h n:Nat):List Nat:=PL (64 - h) h (n / 2 ^ h)
theorem uo{h n:Nat}(hh:h<64):UP h n=if n / 2 ^ h % 2=1 then h :: UP (h+1) n else UP (h+1) n:=by
 unfold UP;rw[show 64 - h=(64 - (h+1))+1 by omega,PL,Nat.div_div_eq_div_mul,<-Nat.pow_succ]
theorem z1d(n:Nat):UP 0 n=zI n:=by
 unfold UP zI;simp
theorem z28{h n:Nat}(hn:n<2 ^ h):UP h n=[]:=by
 unfold UP;rw[Nat.div_eq_of_lt hn,XB]
def HS(h n:Nat):List Nat:=(UP h n).reverse
theorem qX{h n:Nat}(hh:h<64)(hb:n / 2 ^ h % 2=1):HS h n=HS (h+1) n ++ [h]:=by
 unfold HS;rw[uo hh,if_pos hb,List.reverse_cons]
theorem ju{h n:Nat}(hh:h<64)(hb:¬ n / 2 ^ h % 2=1):HS h n=HS (h+1) n:=by
 unfold HS;rw[uo hh,if_neg hb]
theorem XW{h n:Nat}(hn:n<2 ^ h):HS h n=[]:=by
 unfold HS;rw[z28 hn];rfl
theorem z1e(n:Nat):HS 0 n=(zI n).reverse:=by
 unfold HS;rw[z1d]
theorem YM{n:Nat}(hn:n<2 ^ 64):∀ h,h<=64->(HS h n).length=PC (n / 2 ^ h):=by
 have key:∀ d h,h+d=64->(HS h n).length=PC (n / 2 ^ h):=by
  intro d;induction d with
  | zero=>
    intro h e;obtain rfl:h=64:=by omega
    rw[XW hn,Nat.div_eq_of_lt hn,yG];rfl
  | succ d ih=>
    intro h e;have ih:=ih (h+1) (by omega);rw[zT,Nat.div_div_eq_div_mul,<-Nat.pow_succ,<-ih];by_cases hb:n / 2 ^ h % 2=1
    ·rw[qX (by omega) hb,List.length_append,List.length_singleton]
     omega
    ·rw[ju (by omega) hb]
     omega
 intro h hh;exact key (64 - h) h (by omega)
theorem GN{n:Nat}:∀ h x,h<=64->x∈HS h n->h<=x/\x<64/\n / 2 ^ x % 2=1:=by
 have key:∀ d h,h+d=64->∀ x,x∈HS h n->h<=x/\x<64/\n / 2 ^ x % 2=1:=by
  intro d;induction d with
  | zero=>
    intro h e x hx;obtain rfl:h=64:=by omega
    simp[HS,UP,PL] at hx
  | succ d ih=>
    intro h e x hx;by_cases hb:n / 2 ^ h % 2=1
    ·rw[qX (by omega) hb,List.mem_append,List.mem_singleton] at hx
     rcases hx with hx | rfl
     ·have:=ih (h+1) (by omega) x hx
      exact⟨by omega,this.2⟩
     ·exact⟨Nat.le_refl _,by omega,hb⟩
    ·rw[ju (by omega) hb] at hx
     have:=ih (h+1) (by omega) x hx;exact⟨by omega,this.2⟩
 intro h x hh;exact key (64 - h) h (by omega) x
def PKP(n h:Nat):Nat:=PLC h (2*(n / 2 ^ (h+1)))
def yW(n:Nat):List Nat:=(HS 0 n).map (PKP n)
theorem qI(n h:Nat):n / 2 ^ (h+1)=n / 2 ^ h / 2:=by rw[Nat.div_div_eq_div_mul,<-Nat.pow_succ]
theorem J5(m h:Nat):zz ((2*m+1)*2 ^ h)=zz (2*m*2 ^ h)+TREE h:=by
 have h1:=xd ((2*m+1)*2 ^ h);have h2:=xd (2*m*2 ^ h);rw[Zz,jK,Nat.add_mul,Nat.one_mul] at h1;rw[Zz,Xz] at h2;have h3:=xj h;rw[Nat.pow_succ] at h3;rw[Nat.add_mul,Nat.one_mul];unfold TREE;rw[Nat.pow_succ];omega
theorem Z9{n h:Nat}(hb:n / 2 ^ h % 2=1):n / 2 ^ h=2*(n / 2 ^ (h+1))+1:=by
 rw[qI];omega
theorem Vr{n h:Nat}(hb:¬ n / 2 ^ h % 2=1):n / 2 ^ h=2*(n / 2 ^ (h+1)):=by
 rw[qI];omega
theorem xP(m h:Nat):2*m*2 ^ h=m*2 ^ (h+1):=by
 rw[Nat.pow_succ,Nat.mul_comm 2 m,Nat.mul_assoc,Nat.mul_comm 2]
def ST(l:List Nat):Nat × List Nat:=l.foldl (fun s h=>((s.1+TREE h) % 2 ^ 64,s.2 ++ [((s.1+TREE h) % 2 ^ 64+(2 ^ 64 - 1)) % 2 ^ 64])) (0,[])
theorem XD(l:List Nat)(h:Nat):ST (l ++ [h])=(((ST l).1+TREE h) % 2 ^ 64,(ST l).2 ++ [(((ST l).1+TREE h) % 2 ^ 64+(2 ^ 64 - 1)) % 2 ^ 64]):=by
 unfold ST;rw[List.foldl_append];rfl
theorem YN{n:Nat}(hn:n<=4611686018427387904):zz n<=9223372036854775807:=by
 rw[<-KL];exact Ml hn
theorem z2I{n:Nat}(hn:n<=4611686018427387904):∀ h,h<=64->ST (HS h n)=(zz (n / 2 ^ h*2 ^ h),(HS h n).map (PKP n)):=by
 have key:∀ d h,h+d=64->ST (HS h n)=(zz (n / 2 ^ h*2 ^ h),(HS h n).map (PKP n)):=by
  intro d;induction d with
  | zero=>
    intro h e;obtain rfl:h=64:=by omega
    rw[XW (by omega),Nat.div_eq_of_lt (by omega),Nat.zero_mul,YB];rfl
  | succ d ih=>
    intro h e;have ih:=ih (h+1) (by omega);by_cases hb:n / 2 ^ h % 2=1
    ·have e1:=Z9 hb
     have h2:zz (n / 2 ^ h*2 ^ h)=zz (n / 2 ^ (h+1)*2 ^ (h+1))+TREE h:=by
      rw[e1,J5,xP]
     have h3:zz (n / 2 ^ h*2 ^ h)<=9223372036854775807:=YN (Nat.le_trans (Nat.div_mul_le_self _ _) hn);have h4:=xj h
     have hs:(zz (n / 2 ^ (h+1)*2 ^ (h+1))+TREE h) % 2 ^ 64=zz (n / 2 ^ h*2 ^ h):=by
      rw[<-h2];omega
     have hp:(zz (n / 2 ^ h*2 ^ h)+(2 ^ 64 - 1)) % 2 ^ 64=PKP n h:=by
      unfold PKP PLC;rw[xP];unfold TREE at h2;omega
     rw[qX (by omega) hb,XD,ih];dsimp only;rw[hs,hp,List.map_append];rfl
    ·rw[ju (by omega) hb,ih,Vr hb,xP]
 intro h hh;exact key (64 - h) h (by omega)
theorem z29{n:Nat}(hn:n<=4611686018427387904):ST (HS 0 n)=(zz n,yW n):=by
 have:=z2I hn 0 (by omega);unfold yW;simpa using this
theorem Node.peak{n h:Nat}(hn:n<=4611686018427387904)(hb:n / 2 ^ h % 2=1):Node h (2*(n / 2 ^ (h+1))):=by
 have h62:h<=62:=by
  rcases Nat.lt_or_ge 62 h with h1 | h1
  ·have:2 ^ 63<=2 ^ h:=Nat.pow_le_pow_right (by decide) h1
   rw[Nat.div_eq_of_lt (by omega)] at hb;omega
  ·exact h1
 refine⟨h62,?_⟩
 have h1:n / 2 ^ h<=2 ^ (62 - h):=by
  have:n / 2 ^ h<=2 ^ 62 / 2 ^ h:=Nat.div_le_div_right (by simpa using hn);rw[Nat.pow_div h62 (by decide)] at this;exact this
 rw[Z9 hb] at h1;omega
abbrev SPOT(h k:Nat):Value:=.agg #[.int .u8 (h:Int),.int .u64 (k:Int)]
theorem z1f(X:Nat)(hX:X<2 ^ 64)(w:World):Calls Tryz.prog 143 #[.int .u64 (X:Int)] w fun e w'=>e=.returned (.int .i64 ((LEN X:Nat) - 1:Int))/\w=w':=by
 have hl:LEN X<=64:=by
  unfold LEN;have:=yV (X / 72057594037927936);have:=yV (X / 281474976710656);have:=yV (X / 1099511627776);have:=yV (X / 4294967296);have:=yV (X / 16777216);have:=yV (X / 65536);have:=yV (X / 256);have:=yV X;repeat' split
  all_goals omega
 exact Mu X _ w (fun w=>z27 X hX w) (by omega) (by omega)
theorem z2a{m H:Nat}(hH:1<=H):m*2 ^ H ||| 2 ^ (H - 1)=(2*m+1)*2 ^ (H - 1):=by
 have h1:2 ^ (H - 1)<2 ^ H:=Nat.pow_lt_pow_right (by decide) (by omega);have h2:=Nat.shiftLeft_add_eq_or_of_lt h1 m;rw[Nat.shiftLeft_eq] at h2;rw[<-h2,Nat.add_mul,Nat.one_mul];congr 1
 obtain⟨j,rfl⟩:∃ j,H=j+1:=⟨H - 1,by omega⟩
 rw[Nat.add_sub_cancel,Nat.pow_succ,Nat.mul_comm 2 m,Nat.mul_assoc,Nat.mul_comm 2]
theorem z1g(h k:Nat)(hN:Node h k)(w:World):Calls Tryz.prog 133 #[.int .u64 ((PLC h k:Nat):Int)] w fun e w'=>e=.returned (.tuple #[SPOT h k,.bool true])/\Below w.heap.size w w':=by
 have hp:=hN.lt;obtain⟨p,hpe⟩:∃ p,p=PLC h k:=⟨_,rfl⟩
 rw[<-hpe] at hp ⊢;have HN:Aside (Node h k/\p=PLC h k/\p<9223372036854775807):=⟨hN,hpe,hp⟩
 have hd:decide ((9223372036854775807:Int)<=(p:Int))=false:=by simp;omega
 have e1:IntKind.u64.wrap ((p:Int)+1)=(p:Int)+1:=by rw[zh];omega
 have c1:=z1f (p+1) (by omega);obtain⟨h1,h2,h3⟩:=Mt (p+1) (by omega) (by omega);obtain⟨H,hH⟩:∃ H,LEN (p+1)=H+1:=⟨LEN (p+1) - 1,by omega⟩
 rw[hH] at h2 h3 c1;rw[show (((H+1:Nat):Int) - 1)=(H:Int) by omega,show ((p+1:Nat):Int)=(p:Int)+1 by omega] at c1
 have HH:Aside (H<=62/\p+2<=2 ^ (H+1)):=by
  refine⟨?_,by omega⟩;rcases Nat.lt_or_ge 62 H with h | h
  ·have:2 ^ 63<=2 ^ H:=Nat.pow_le_pow_right (by decide) h
   simp at h2;omega
  ·exact h
 clear hN hpe hp h1 h2 h3 hH;go_enter Tryz.func133,Tryz.ntmps133;go_wp2_with fail
 refine(c1 _).mono ?_;rintro e w' ⟨rfl,rfl⟩;clear c1;go_wp2;go_loopg [0,4,5] H (fun g s0 s4 s5 wx=>∃ q L:Nat,s0=.int .u64 (q:Int)/\s4=.int .i64 (g:Int)/\s5=.int .u64 (L:Int)/\Aside (wx=w.alloc (.cells #[.int .u8 0,.int .u64 0] 77)/\g<=62/\q+2<=2 ^ (g+1)/\∃ m,L=m*2 ^ g/\Node g m/\p=zz L+q))
 case atStart=>exact⟨p,0,rfl,rfl,rfl,rfl,HH.out.1,HH.out.2,0,by simp,⟨HH.out.1,Nat.two_pow_pos _⟩,by rw[YB];omega⟩
 case round=>
  obtain⟨q,L,rfl,rfl,rfl,A⟩:=hrel;obtain⟨hw,hg,hq,m,hL,hNm,hpL⟩:=A.out;clear A
  have e2:IntKind.u64.wrap ((q:Int)+1)=(q:Int)+1:=by
   have:2 ^ (gk+1)<=2 ^ 63:=Nat.pow_le_pow_right (by decide) (by omega);rw[zh];omega
  have c1:=ZO gk (by omega);by_cases hT:q+1=TREE gk
  ·have hmk:h=gk/\k=m:=by
    refine HN.out.1.one hNm ?_;rw[<-HN.out.2.1,hpL,hL];unfold PLC;unfold TREE at hT;have:=xj gk;omega
   obtain⟨rfl,rfl⟩:=hmk
   have hLk:(L:Int) / 2 ^ h=(k:Int):=by
    rw[hL,js,Nat.mul_div_cancel _ (Nat.two_pow_pos h)]
   rw[<-hT,show ((q+1:Nat):Int)=(q:Int)+1 by omega] at c1;have R:Aside (L=k*2 ^ h/\h<=62/\(L:Int) / 2 ^ h=(k:Int)):=⟨hL,hg,hLk⟩
   clear hg hq hL hNm hpL HN HH hT hLk;subst hw;go_wp2_with fail
   refine(c1 _).mono ?_;rintro e w' ⟨rfl,rfl⟩;clear c1;go_wp2;obtain⟨hL,hg,hLk⟩:=R.out;rw[show (h:Int) % 256=(h:Int) by omega,show min h 64=h by omega,hLk];refine bodyPost_ret (v:=.tuple #[SPOT h k,.bool true]) ?_ rfl ⟨rfl,(Below.refl _ _).alloc (Nat.le_refl _) _⟩;simp[results,Tryz.f133,go_sem]
  ·have h1 : 1<=gk:=by
    rcases Nat.eq_zero_or_pos gk with h0 | h0
    ·subst h0
     simp at hq;unfold TREE at hT;simp at hT;omega
    ·exact h0
   obtain⟨g,rfl⟩:∃ g,gk=g+1:=⟨gk - 1,by omega⟩
   have c2:=ZO g (by omega);have hb:((q:Int)+1 == ((TREE (g+1):Nat):Int))=false:=by simp;omega
   generalize hT1:TREE (g+1)=t1 at *
   have e3:wrap64 (g:Int)=(g:Int):=by unfold wrap64;omega
   rw[show (((g+1:Nat):Int))=(g:Int)+1 by omega] at c1 ⊢;have R:Aside (wr=w.alloc (.cells #[.int .u8 0,.int .u64 0] 77)/\g+1<=62/\q+2<=2 ^ (g+1+1)/\L=m*2 ^ (g+1)/\Node (g+1) m/\p=zz L+q/\q+1≠t1/\TREE (g+1)=t1):=⟨hw,hg,hq,hL,hNm,hpL,hT,hT1⟩
   clear hw hg hq hL hNm hpL hT hT1 h1 HN HH;by_cases hlt:TREE g<=q
   ·have hd2:decide (((TREE g:Nat):Int)<=(q:Int))=true:=by simp;omega
    obtain⟨t2,ht2⟩:∃ t2,TREE g=t2:=⟨_,rfl⟩
    rw[ht2] at c2 hd2;have hd3:(t2:Int)<=(q:Int):=by simpa using hd2
    have R2:Aside (TREE g=t2/\t2<=q):=⟨ht2,by omega⟩
    clear hlt ht2 hd2;go_wp2_with fail
    refine(c1 _).mono ?_;rintro e w' ⟨rfl,rfl⟩;clear c1;go_wp2_with fail
    refine(c2 _).mono ?_;rintro e w' ⟨rfl,rfl⟩;clear c2;go_wp2;go_roundg g
    case measure=>omega
    case rel=>
     obtain⟨r1,r2,r3,r4,r5,r6,r7,r8⟩:=R.out;obtain⟨s1,s2⟩:=R2.out;have hpw:=xj g;have hpp:2 ^ (g+1+1)=2*2 ^ (g+1):=by rw[Nat.pow_succ 2 (g+1),Nat.mul_comm]
     have hp63:2 ^ (g+1+1)<=2 ^ 63:=Nat.pow_le_pow_right (by decide) (by omega);have hg64:2 ^ g<2 ^ 64:=Nat.pow_lt_pow_right (by decide) (by omega)
     have hL64:L<2 ^ 64:=by
      have:=r5.span;rw[Nat.add_mul,<-r4] at this;omega
     have ea:IntKind.u64.wrap ((q:Int) - t2)=((q - t2:Nat):Int):=by rw[zh];omega
     have eb:bits .or .u64 (L:Int) (IntKind.u64.wrap (2 ^ min g 64))=(((2*m+1)*2 ^ g:Nat):Int):=by
      have e5:IntKind.u64.wrap (2 ^ min g 64)=((2 ^ g:Nat):Int):=by
       rw[zh,show min g 64=g by omega,Int.natCast_pow];have:((2 ^ g:Nat):Int)=(2:Int) ^ g:=by simp
       have h7:((2:Nat):Int)=2:=rfl;rw[h7,<-this];omega
      rw[e5,X9 hL64 hg64,r4];exact congrArg (fun x:Nat=>(x:Int)) (z2a (m:=m) (H:=g+1) (by omega))
     unfold TREE at s1 r8;rw[ea,eb,e3];refine⟨q - t2,(2*m+1)*2 ^ g,rfl,rfl,rfl,r1,by omega,by omega,2*m+1,rfl,⟨by omega,?_⟩,?_⟩
     ·have:=r5.2
      rw[show 62 - g=62 - (g+1)+1 by omega,Nat.pow_succ];omega
     ·have e6:=J5 m g
      rw[xP,<-r4] at e6;rw[e6,r6];unfold TREE;omega
   ·have hd3:¬ ((TREE g:Nat):Int)<=(q:Int):=by omega
    obtain⟨t2,ht2⟩:∃ t2,TREE g=t2:=⟨_,rfl⟩
    rw[ht2] at c2 hd3;have R2:Aside (TREE g=t2/\q<t2):=⟨ht2,by omega⟩
    clear hlt ht2;go_wp2_with fail
    refine(c1 _).mono ?_;rintro e w' ⟨rfl,rfl⟩;clear c1;go_wp2_with fail
    refine(c2 _).mono ?_;rintro e w' ⟨rfl,rfl⟩;clear c2;go_wp2;go_roundg g
    case measure=>omega
    case rel=>
     obtain⟨r1,r2,r3,r4,r5,r6,r7,r8⟩:=R.out;obtain⟨s1,s2⟩:=R2.out;have hpw:=xj g;unfold TREE at s1;rw[e3];refine⟨q,L,rfl,rfl,rfl,r1,by omega,by omega,2*m,by rw[xP,<-r4],⟨by omega,?_⟩,r6⟩;have:=r5.2;rw[show 62 - g=62 - (g+1)+1 by omega,Nat.pow_succ];omega
end Go.Proofs.YtobaogpomcocpaaGreatDoor
namespace Go.Proofs.YtobaogpomcocpaaGreatDoor
open Go.Shelf
attribute [local go_sem] Oper.semAt_some
def UPTO{α:Type}(f:Nat->α)(k:Nat):List α:=(List.range k).map f
theorem qC{α:Type}(f:Nat->α)(k:Nat):UPTO f (k+1)=UPTO f k ++ [f k]:=by simp[UPTO,List.range_succ]
theorem Yt{α:Type}(f:Nat->α)(k:Nat):(UPTO f k).length=k:=by simp[UPTO]
def KB(n₀ Bs:Nat)(A B:World):Prop:=Below n₀ A B/\B.cell? ⟨Bs,0,none⟩=A.cell? ⟨Bs,0,none⟩
theorem KB.t{n₀ Bs:Nat}{A B C:World}(h:KB n₀ Bs A B)(k:KB n₀ Bs B C):KB n₀ Bs A C:=⟨h.1.trans k.1,k.2.trans h.2⟩
theorem KB.b{n₀ Bs:Nat}{w:World}(hn:n₀<=w.heap.size)(hB:Bs<w.heap.size)(W:World)(l:Nat)(o o':Obj)(hl:w.heap.size<=l)(h:W.heap[l]?=some o)(h1:o.isCells=false)(h2:o.isWalk=false):KB n₀ Bs W (W.putObj l o'):=
 ⟨belowK_b hn W l o o' hl h h1 h2,(belowK_b (Nat.le_refl w.heap.size) W l o o' hl h h1 h2).cell (p:=⟨Bs,0,none⟩) hB⟩
def BACK(len:Nat)(f:Nat->Fin 64)(j:Nat):Nat × Fin 64:=(len - 1 - j,f (len - 1 - j))
theorem UR(F:Fence)(n:Nat)(hF:F.fn 131)(hro:F.round=none)(hn:1<=n)(l Bs n₀ b len cap:Nat)(f:Nat->Fin 64)(hreach:len<=64)(hb:b<n₀)(J Jx:List (Nat × Fin 64)->World->Prop)
    (hY:∀ pre x W,J pre W->pre.length<len->YieldAt F (n - 1) Tryz.prog l #[.int .i64 (x.1:Int),.int .i64 (x.2.val:Int)] W fun e W'=>
      (e=.returned (.bool true)/\J (pre ++ [x]) W'/\KB n₀ Bs W W')\/(e=.returned (.bool false)/\Jx (pre ++ [x]) W'))
    (W:World)(hBs:W.cell? ⟨Bs,0,none⟩=some (.slice (some ⟨b,0,none⟩) len cap))(hc:∀ j,j<len->W.cell? ⟨b,j,none⟩=some (.int .i64 ((f j).val:Int)))(h0:J [] W):
    CallsIn F n Tryz.prog 131 #[.func (.yield l) #[] #[],.pointer (some ⟨Bs,0,none⟩)] W fun e W'=>(∃ v,e=.returned v)/\
      ((∃ ys,ys=UPTO (BACK len f) len/\J ys W')\/(∃ pre,(∃ k,k<=len/\pre=UPTO (BACK len f) k)/\Jx pre W')):=by
  refine callsIn_of_wp Tryz.func131 rfl hF ?_ hro;simp only[Tryz.ntmps131,List.size_toArray,List.length_cons,List.length_nil,Nat.reduceAdd,Nat.reduceSub,Array.replicate_succ,Array.replicate_zero,List.push_toArray,List.append_toArray,List.nil_append,List.cons_append];have e1:wrap64 ((len:Int) - 1)=(len:Int) - 1:=by unfold wrap64;omega
  gi_wp2
  gi_loopw [3] (fun i wr=>∃ k:Nat,k<=len/\i=.int .i64 ((len:Int) - 1 - (k:Int))/\J (UPTO (BACK len f) k) wr/\KB n₀ Bs W wr)
    (fun i _=>(intOf i+1).toNat)
  case atStart=>exact⟨0,Nat.zero_le _,by simp,h0,Below.refl _ _,rfl⟩
  case round=>
    obtain⟨k,hk,rfl,hJs,hnx⟩:=hrel;by_cases hlt:k<len
    · obtain⟨j,hj⟩:∃ j:Nat,(len:Int) - 1 - (k:Int)=(j:Int):=⟨len - 1 - k,by omega⟩
      have hjl:j<len:=by omega
      have hbk:BACK len f k=(j,f j):=by
        unfold BACK;rw[show len - 1 - k=j by omega]
      have hcx:wr.cell? ⟨b,j,none⟩=some (.int .i64 ((f j).val:Int)):=(hnx.1.cell (p:=⟨b,j,none⟩) hb).trans (hc j hjl);have hcs:wr.cell? ⟨Bs,0,none⟩=some (.slice (some ⟨b,0,none⟩) len cap):=hnx.2.trans hBs;obtain⟨fn,tmps,assign,body,hy,hR⟩:=hY _ (j,f j) wr hJs (by rw[Yt];exact hlt);dsimp only at hy;rw[hj];have e2:wrap64 ((j:Int) - 1)=(j:Int) - 1:=by unfold wrap64;omega
      have hJ':Aside ((len:Int) - 1 - (k:Int)=(j:Int)):=hj;have hjl':(j:Int)<(len:Int):=by omega
      clear hj;gi_wp2
      refine hR.mono ?_;rintro e W3 (⟨rfl,hJ3,hk3⟩ | ⟨rfl,hJx3⟩)
      · gi_wp2
        go_roundw
        case rel=>exact⟨k+1,by omega,by have:=hJ'.out;congr 1;omega,by rw[qC,hbk];exact hJ3,hnx.t hk3⟩
        case measure=>simp[intOf]
      · gi_wp2
        refine bodyPost_ret (results_none rfl _ _ _) rfl ?_;exact⟨⟨_,rfl⟩,.inr ⟨_,⟨k+1,by omega,by rw[qC,hbk]⟩,hJx3⟩⟩
    · obtain rfl:k=len:=by omega
      rw[show (k:Int) - 1 - (k:Int) = -1 by omega];gi_wp2
      go_end0
      exact⟨⟨_,rfl⟩,.inl ⟨_,rfl,hJs⟩⟩
theorem ku(F:Fence)(n:Nat)(hF:F.fn 110)(hro:F.round=none)(a:Option Addr)(len cap:Nat)(w:World):
  CallsIn F n Tryz.prog 110 #[.slice a len cap] w fun e w'=>e=.returned (.func (.func 131) #[] #[.pointer (some ⟨w.heap.size,0,none⟩)])/\w'=w.alloc (.cells #[.slice a len cap] 139):=by
 refine callsIn_of_wp Tryz.func110 rfl hF ?_ hro;simp only[Tryz.ntmps110,List.size_toArray,List.length_cons,List.length_nil,Nat.reduceAdd,Nat.reduceSub,Array.replicate_succ,Array.replicate_zero,List.push_toArray,List.append_toArray,List.nil_append,List.cons_append];gi_wp2
 go_ret;exact⟨rfl,rfl⟩
theorem Uv(F:Fence)(n:Nat)(hF:F.fn 131)(hro:F.round=none)(hn:1<=n)(Bs n₀ b len cap:Nat)(f:Nat->Fin 64)(hreach:len<=64)(hb:b<n₀)(w:World)(hBs:Bs<w.heap.size)(hn₀:n₀<=w.heap.size)
  (hc:w.cell? ⟨Bs,0,none⟩=some (.slice (some ⟨b,0,none⟩) len cap))(hI:∀ j,j<len->w.cell? ⟨b,j,none⟩=some (.int .i64 ((f j).val:Int))):
  SeqStopsK F n Tryz.prog 131 #[.pointer (some ⟨Bs,0,none⟩)] (fun x:Nat × Fin 64=>#[Value.int .i64 (x.1:Int),Value.int .i64 (x.2.val:Int)]) (KB n₀ Bs) (fun ys=>ys=UPTO (BACK len f) len)
   (fun pre=>∃ k,k<=len/\pre=UPTO (BACK len f) k) len w:=fun l J Jx W hW _ _ hY h0=>
 UR F n hF hro hn l Bs n₀ b len cap f hreach hb J Jx hY W ((hW.cell (p:=⟨Bs,0,none⟩) hBs).trans hc) (fun j hj=>(hW.cell (p:=⟨b,j,none⟩) (by show b<_;omega)).trans (hI j hj)) h0
attribute [local go_sem] Oper.semAt_some
def ze(l:List Nat):List Value:=l.map fun(x:Nat)=>Value.int .u64 (x:Int)
theorem jc(l:List Nat)(x:Nat):ze (l ++ [x])=ze l ++ [.int .u64 (x:Int)]:=by simp[ze]
theorem qj(l:List Nat):(ze l).length=l.length:=by simp[ze]
theorem xA:(Tryz.prog.info? 24).map (fun i=>(i.zero,i.size,i.bytes))=some (some (.int .u64 0),1,8):=by kernel_rfl
theorem My(n:Nat)(hn:n<=64)(w:World):∃ cur:Array Value,cur.size=n/\(Instr.makeSlice 25 (.int .i64 0) (.int .i64 (n:Int))).run Tryz.prog w=.ok (.slice (some ⟨w.heap.size,0,none⟩) 0 n) (w.alloc (.cells cur 24)):=by
 obtain⟨i,hi,hz,hs1,hby⟩:=info_parts xA;have h:=run_make (P:=Tryz.prog) w 25 24 i (.int .u64 0) Tryz.underlying25 hi hz .i64 .i64 0 n (by omega) (by omega) (by rw[hby];omega) (by omega);refine⟨_,?_,h⟩;rw[size_madeCells,hs1];omega
def HTS(pre:List (Nat × Fin 64)):List Nat:=pre.map fun x=>x.2.val
theorem Mz(pre:List (Nat × Fin 64))(x:Nat × Fin 64):HTS (pre ++ [x])=HTS pre ++ [x.2.val]:=by simp[HTS]
theorem GO(l:List Nat):(ST l).2.length=l.length:=by
 have key:∀ (l:List Nat) (s:Nat × List Nat),(l.foldl (fun s h=>((s.1+TREE h) % 2 ^ 64,s.2 ++ [((s.1+TREE h) % 2 ^ 64+(2 ^ 64 - 1)) % 2 ^ 64])) s).2.length=s.2.length+l.length:=by
  intro l;induction l with
  | nil=>intro s;simp
  | cons h l ih=>
    intro s;rw[List.foldl_cons,ih];simp;omega
 have:=key l (0,[]);simpa[ST] using this
theorem z2J(l:List Nat):(ST l).1<2 ^ 64:=by
 rcases List.eq_nil_or_concat l with rfl | ⟨i,x,rfl⟩
 ·simp[ST]
 ·rw[List.concat_eq_append,XD]
  exact Nat.mod_lt _ (by decide)
theorem MA(X:Nat)(f:Nat->Fin 64)(hf:∀ j,j<POP X->(f j).val=qg X j):HTS (UPTO (BACK (POP X) f) (POP X))=(zI X).reverse:=by
 apply List.ext_getElem?;intro j;by_cases hj:j<POP X
 ·rw[List.getElem?_reverse (by rw[yY];exact hj),yY,Y9 (by omega),<-hf _ (by omega)]
  simp[HTS,UPTO,BACK,hj]
 ·rw[List.getElem?_eq_none (by simp[HTS,UPTO];omega),List.getElem?_eq_none (by rw[List.length_reverse,yY];omega)]
theorem zq{w:World}{base base':Nat}{t:TypeId}{s:Nat}{v:Value}{n:Nat}{xs:List Value}(h:w.ownsRow base t s v n xs)(hb:base'<=base):w.ownsRow base' t s v n xs:=
 ⟨h.1,h.2.imp id fun⟨g,c,cur,a,b,r⟩=>⟨g,c,cur,a,Nat.le_trans hb b,r⟩⟩
theorem jv(X:Nat)(hX:X<=4611686018427387904)(w:World)(hT:Tabled w)(h0:0<w.heap.size):Calls Tryz.prog 78 #[.int .u64 (X:Int)] w fun e w'=>
  ∃ g cap,e=.returned (.slice (some ⟨g,0,none⟩) (PC X) cap)/\w'.ownsRow w.heap.size 24 1 (.slice (some ⟨g,0,none⟩) (PC X) cap) (PC X) (ze (yW X))/\Below w.heap.size w w':=by
 obtain⟨i0,hi,hz0,hz1,hz2⟩:=info_parts xA;have cb:=z1c X (by omega) w hT h0;have hle:=Z8 X;obtain⟨f,hf⟩:∃ f:Nat->Fin 64,∀ j,j<POP X->(f j).val=qg X j:=⟨fun j=>if h:j<POP X then ⟨qg X j,by have:=Mx h;omega⟩ else 0,fun j hj=>by simp[hj]⟩
 have hba:=MA X f hf;have hplc:=fun(w':World) (base g n cap:Nat) (h:w'.ownsRow base 3 1 (.slice (some ⟨g,0,none⟩) n cap) n (yk (zI X)))=>GM h;have hpc:POP X=PC X:=Uc (by omega);generalize POP X=p at *
 obtain⟨L,hL⟩:∃ L,yk (zI X)=L:=⟨_,rfl⟩
 simp only[hL] at hplc cb;have HA:Aside (HTS (UPTO (BACK p f) p)=(zI X).reverse/\p=PC X/\X<=4611686018427387904):=⟨hba,hpc,hX⟩
 clear hba hpc hX hL hT h0;have hd:¬ (4611686018427387904:Int)<(X:Int):=by have:=HA.out.2.2;omega
 refine(callsIn_wide (n:=5)).1 ?_;refine callsIn_of_wp_marks Tryz.func78 rfl trivial ?_ rfl;simp only[Tryz.ntmps78,List.size_toArray,List.length_cons,List.length_nil,Nat.reduceAdd,Nat.reduceSub,Array.replicate_succ,Array.replicate_zero,List.push_toArray,List.append_toArray,List.nil_append,List.cons_append];gi_wp2_with fail
 refine⟨trivial,(callsIn_wide.2 cb).mono ?_⟩;rintro e w1 ⟨g,cap,rfl,hrow,hg,hb⟩;clear cb;obtain⟨cur,hcs,hmk⟩:=My p hle w1;gi_wp2_with fail
 refine⟨trivial,(ku Fence.wide 4 trivial rfl _ _ _ _).mono ?_⟩;rintro e w2 ⟨rfl,rfl⟩;obtain⟨s1,hs1⟩:∃ s1,w1.heap.size=s1:=⟨_,rfl⟩
 have bO:=Boxed.new (w1.alloc (.cells cur 24)) 25 (.slice (some ⟨w1.heap.size,0,none⟩) 0 p);have bM:=Boxed.new ((w1.alloc (.cells cur 24)).alloc (.cells #[.slice (some ⟨w1.heap.size,0,none⟩) 0 p] 25)) 24 (.int .u64 0);have bN:=Boxed.new (((w1.alloc (.cells cur 24)).alloc (.cells #[.slice (some ⟨w1.heap.size,0,none⟩) 0 p] 25)).alloc (.cells #[.int .u64 0] 24)) 139 (.slice (some ⟨g,0,none⟩) p cap)
 have hr0:(w1.alloc (.cells cur 24)).ownsRow s1 24 1 (.slice (some ⟨s1,0,none⟩) 0 p) 0 []:=by
  rw[<-hs1];exact World.ownsRow_made w1 cur p (Nat.le_refl _) (by simp only[maxLen];omega) (by rw[hcs];omega)
 simp only[World.size_alloc,hs1] at bO bM bN ⊢;have bO:=(bO.alloc (.cells #[.int .u64 0] 24)).alloc (.cells #[.slice (some ⟨g,0,none⟩) p cap] 139);have bM:=bM.alloc (.cells #[.slice (some ⟨g,0,none⟩) p cap] 139);have hr0:=((hr0.alloc (.cells #[.slice (some ⟨s1,0,none⟩) 0 p] 25)).alloc (.cells #[.int .u64 0] 24)).alloc (.cells #[.slice (some ⟨g,0,none⟩) p cap] 139)
 have hB1:Below s1 w1 ((((w1.alloc (.cells cur 24)).alloc (.cells #[.slice (some ⟨s1,0,none⟩) 0 p] 25)).alloc (.cells #[.int .u64 0] 24)).alloc (.cells #[.slice (some ⟨g,0,none⟩) p cap] 139)):=
  ((((Below.refl _ w1).alloc (by omega) _).alloc (by simp;omega) _).alloc (by simp;omega) _).alloc (by simp;omega) _
 have hgs:g<s1:=by omega
 have hcg:∀ j,j<p->w1.cell? ⟨g,j,none⟩=some (.int .i64 ((f j).val:Int)):=fun j hj=>by rw[hf j hj];exact hplc _ _ _ _ _ hrow j hj
 have hsz:((((w1.alloc (.cells cur 24)).alloc (.cells #[.slice (some ⟨s1,0,none⟩) 0 p] 25)).alloc (.cells #[.int .u64 0] 24)).alloc (.cells #[.slice (some ⟨g,0,none⟩) p cap] 139)).heap.size=s1+4:=by simp;omega
 obtain⟨W0,hW0⟩:∃ W0,((((w1.alloc (.cells cur 24)).alloc (.cells #[.slice (some ⟨s1,0,none⟩) 0 p] 25)).alloc (.cells #[.int .u64 0] 24)).alloc (.cells #[.slice (some ⟨g,0,none⟩) p cap] 139))=W0:=⟨_,rfl⟩
 rw[hW0] at bO bM bN hr0 hB1 hsz ⊢;have hbw:Below w.heap.size w W0:=hb.trans (hB1.mono (by have:=hb.size;omega));clear hW0;gi_wp2_with fail
 refine wpIn_rangeFunc_ownG rfl (by omega) (gf:=131) (lb:=#[.pointer (some ⟨s1+1+1+1,0,none⟩)]) rfl trivial (enters_of Tryz.func131 (by kernel_rfl) rfl)
  (Uv Fence.wide (5 - 1) trivial rfl (by omega) (s1+1+1+1) s1 g p cap f hle hgs W0 (by omega) (by omega) bN.cell (fun j hj=>(hB1.cell (p:=⟨g,j,none⟩) hgs).trans (hcg j hj)))
  KB.t (KB.b (by omega) (by omega)) (Below.refl _ _) (fun _=>rfl)
  (fun pre W=>((∃ v,Boxed W (s1+1) 25 v/\W.ownsRow s1 24 1 v pre.length (ze (ST (HTS pre)).2)/\v=.slice (some ⟨s1,0,none⟩) pre.length p)/\Boxed W (s1+1+1) 24 (.int .u64 ((ST (HTS pre)).1:Int))/\Boxed W (s1+1+1+1) 139 (.slice (some ⟨g,0,none⟩) p cap))/\Below w.heap.size w W)
  (fun _ _ _=>False)
  (OwnFrom.and (OwnFrom.and (Own.from (holdsRow_own s1 (s1+1) 25 24 1 (fun pre=>pre.length) (fun pre=>ze (ST (HTS pre)).2) (fun pre v=>v=.slice (some ⟨s1,0,none⟩) pre.length p)) _) (OwnFrom.and (Own.from (boxed_own _ _ _) _) (Own.from (boxed_own _ _ _) _))) (ownFrom_below (Nat.le_refl _) (by have:=hb.size;omega)))
  (fun _ _ _ _ _ hs _ _=>hs)
  ⟨⟨⟨_,bO,hr0,rfl⟩,bM,bN⟩,hbw⟩
  (fun x=>⟨#[.int .u64 (X:Int),undef,.slice none 0 0,.slice (some ⟨g,0,none⟩) p cap,.pointer (some ⟨s1+1,0,none⟩),.pointer (some ⟨s1+1+1,0,none⟩),undef,.int .i64 (x.2.val:Int),.int .u64 (X:Int),.bool false,.int .u64 (X:Int),.slice (some ⟨g,0,none⟩) p cap,.slice (some ⟨g,0,none⟩) p cap,.int .i64 (p:Int),.slice (some ⟨s1,0,none⟩) 0 p,.slice (some ⟨g,0,none⟩) p cap,.func (.func 131) #[] #[.pointer (some ⟨s1+1+1+1,0,none⟩)],.int .i64 (x.1:Int),.int .i64 (x.2.val:Int),undef,undef,undef,undef,undef,undef,undef,undef,undef,undef],[]⟩) ?assign ?body ?done ?stop
 case assign=>
  intro l x W K hK;gi_wp2
  exact hK
 case body=>
  rintro l pre x W ⟨⟨⟨v,bO,hrow,rfl⟩,bM,bN⟩,hB⟩ hlt;have hsn:=XD (HTS pre) x.2.val;have hml:=z2J (HTS pre);have hsl:=GO (HTS pre);rw[show (HTS pre).length=pre.length by simp[HTS]] at hsl;obtain⟨m,hm⟩:∃ m,(ST (HTS pre)).1=m:=⟨_,rfl⟩
  obtain⟨ls,hls⟩:∃ ls,(ST (HTS pre)).2=ls:=⟨_,rfl⟩
  have ct:=fun w=>ZO x.2.val (by omega) w;obtain⟨t,ht⟩:∃ t,TREE x.2.val=t:=⟨_,rfl⟩
  rw[hm,hls,ht] at hsn;rw[hm] at hml bM;rw[hls] at hsl hrow;rw[ht] at ct;obtain⟨m2,hm2⟩:∃ m2,(m+t) % 2 ^ 64=m2:=⟨_,rfl⟩
  obtain⟨q,hq⟩:∃ q,(m2+(2 ^ 64 - 1)) % 2 ^ 64=q:=⟨_,rfl⟩
  rw[hm2,hq] at hsn;have e1:IntKind.u64.wrap ((m:Int)+(t:Int))=(m2:Int):=by rw[zh];omega
  have e2:IntKind.u64.wrap ((m2:Int) - 1)=(q:Int):=by rw[zh];omega
  have R:Aside (ST (HTS (pre ++ [x]))=(m2,ls ++ [q])/\ls.length=pre.length/\pre.length<p):=⟨by rw[Mz];exact hsn,hsl,hlt⟩
  clear hsn hml hsl hlt hm hls ht hm2 hq;have hc4:=bO.cell;have hc5:=bM.cell;have hf5:=bM.frozen;have hmx:Tryz.prog.follows .mixedOrders=true:=by kernel_rfl
  clear hplc hf hcg hz0 hz2;have hsW:s1+4<=W.heap.size:=by have:=bN.lt;omega
  obtain⟨W5,hW5⟩:∃ W5,(W.setCell ⟨s1+1+1,0,none⟩ (.int .u64 (m2:Int))).drew=W5:=⟨_,rfl⟩
  have bO5:Boxed W5 (s1+1) 25 (.slice (some ⟨s1,0,none⟩) pre.length p):=by rw[<-hW5];exact bO.other (by omega) _
  have bM5:Boxed W5 (s1+1+1) 24 (.int .u64 (m2:Int)):=by rw[<-hW5];exact bM.set _
  have bN5:Boxed W5 (s1+1+1+1) 139 (.slice (some ⟨g,0,none⟩) p cap):=by rw[<-hW5];exact bN.other (by omega) _
  have hrow5:W5.ownsRow s1 24 1 (.slice (some ⟨s1,0,none⟩) pre.length p) pre.length (ze ls):=by rw[<-hW5];exact(hrow.kept (grownBy_setCell' W (s1+1+1) (.int .u64 (m2:Int))) (.inr (by simp[Value.ownBlock];omega))).drew
  have hk5:KeepsOthers W W5:=by rw[<-hW5];exact(KeepsOthers.setCell _ _ _).trans (KeepsOthers.drew _)
  have hb5:Below s1 W W5:=by rw[<-hW5];exact((Below.refl s1 W).setCell (p:=⟨s1+1+1,0,none⟩) (by show s1<=s1+1+1;omega) _).drew
  have hs5:s1+4<=W5.heap.size:=by have:=bN5.lt;omega
  have hcN:W.cell? ⟨s1+1+1+1,0,none⟩=some (.slice (some ⟨g,0,none⟩) p cap):=bN.cell;gi_wp2
  gi_region_with_o (refine⟨trivial,?_⟩;gi_at_call 111;refine(CallsIn.inRound l (callsIn_wide.2 (ct _))).mono ?_;rintro e w' ⟨rfl,rfl⟩)
  all_goals clear hc4 hc5 hf5 bO bM bN hrow ct
  all_goals have hc4:=bO5.cell
  all_goals have hc5:=bM5.cell
  all_goals gi_wp2_with (gi_at_builtin;refine wpListIn_append_fits _ rfl _ _ 25 rfl s1 24 i0 1 Tryz.underlying25 hi hz1 s1 pre.length p (ze ls) rfl (hrow5.alloc _) ⟨W5.heap.size,0,none⟩ 1 1 [.int .u64 (q:Int)] rfl rfl (cell_one_new _ _ _) (by simp[Value.oneCell']) (by have:=R.out.2.2;omega) ?_;intro w1' hown' hgrow;obtain⟨hv1,hv2,hr2,hk2,hb2⟩:=bO5.appended (by decide) hrow5 (by omega) (by omega) hown' hgrow;have hc1:=hv1.cell;have hf1:=hv1.frozen)
  all_goals have bN6:=((bN5.alloc (.cells #[.int .u64 (q:Int)] 24)).kept hgrow (by simp;omega)).other (B':=s1+1) (by omega) (.slice (some ⟨s1,0,none⟩) (pre.length+1) p)
  all_goals have bM6:=((bM5.alloc (.cells #[.int .u64 (q:Int)] 24)).kept hgrow (by simp;omega)).other (B':=s1+1) (by omega) (.slice (some ⟨s1,0,none⟩) (pre.length+1) p)
  all_goals obtain⟨r1,r2,r3⟩:=R.out
  all_goals refine⟨(hk5.trans hk2).from _,⟨hb5.trans hb2,bN6.cell.trans hcN.symm⟩,⟨⟨_,hv2,?_,by simp⟩,?_,bN6⟩,hB.trans ((hb5.trans hb2).mono (by have:=hb.size;omega))⟩
  all_goals rw[r1]
  all_goals first | exact bM6 | (rw[jc,List.length_append];exact hr2)
 case done=>
  rintro D ys W hD hys ⟨⟨⟨v,bO,hrow,rfl⟩,bM,bN⟩,hB⟩ hK;have hc:=bO.cell;gi_wp2
  refine⟨by simp,.inl ⟨_,_,rfl,run_takeDeferred hK,?_⟩⟩;have hys':ys=UPTO (BACK p f) p:=hys;subst hys';obtain⟨a1,a2,a3⟩:=HA.out;have hl:(UPTO (BACK p f) p).length=p:=Yt _ _;rw[hl,a1,<-z1e,z29 a3] at hrow;refine⟨_,results_tmp rfl _ _ _,s1,p,?_,?_,hB.trans (belowK_b (w:=w) (Nat.le_refl _) W D _ _ (by have:=hb.size;omega) hK rfl rfl)⟩
  ·rw[<-a2,hl]
   rfl
  ·rw[<-a2]
   exact ownsRow_putObj (zq hrow (by have:=hb.size;omega)) _ hK rfl
 case stop=>
  rintro D c pre W _ _ h _;exact h.elim
end Go.Proofs.YtobaogpomcocpaaGreatDoor
namespace Go.Proofs.YtobaogpomcocpaaGreatDoor
def SpotAt(p:Int)(h k:Nat)(ok:Bool):Prop:=∀ w,Calls Tryz.prog 133 #[.int .u64 p] w fun e w'=>e=.returned (.tuple #[SPOT h k,.bool ok])/\Below w.heap.size w w'
theorem SpotAt.node{h k:Nat}(hN:Node h k):SpotAt ((PLC h k:Nat):Int) h k true:=fun w=>z1g h k hN w
theorem GQ(p:Int)(h k:Nat)(r s:Int)(w:World)(e0:IntKind.u64.wrap ((k:Int)+1)=(k:Int)+1)(e1:IntKind.u64.wrap ((k:Int)*2 ^ min h 64)=r)(e2:IntKind.u64.wrap (((k:Int)+1)*2 ^ min h 64)=s)(cs:SpotAt p h k true):
  Calls Tryz.prog 112 #[.int .u64 p] w fun e w'=>e=.returned (.tuple #[.int .u64 r,.int .u64 s,.bool true])/\Below w.heap.size w w':=by
 have cs:=cs w;go_enter Tryz.func112,Tryz.ntmps112;go_wp2_with fail
 refine cs.mono ?_;rintro e w1 ⟨rfl,hb⟩;clear cs;have R:Aside (Below w.heap.size w w1):=hb;clear hb;go_wp2;have hc0:(w1.alloc (.cells #[.int .u8 (h:Int),.int .u64 (k:Int)] 77)).cell? ⟨w1.heap.size,0,none⟩=some (.int .u8 (h:Int)):=by simp
 have hc1:(w1.alloc (.cells #[.int .u8 (h:Int),.int .u64 (k:Int)] 77)).cell? ⟨w1.heap.size,1,none⟩=some (.int .u64 (k:Int)):=by simp
 have R2:Aside (Below w.heap.size w (w1.alloc (.cells #[.int .u8 (h:Int),.int .u64 (k:Int)] 77))):=R.out.alloc R.out.size _;clear R;generalize w1.alloc (.cells #[.int .u8 (h:Int),.int .u64 (k:Int)] 77)=W at *
 generalize w1.heap.size=b at *
 go_quiet (fail)
 go_wp2;go_ret3
 exact⟨rfl,below_drewN R2.out nq⟩
theorem MB(p q:Int)(h g k:Nat)(r:Int)(w:World)(hh:((h:Int) == 0)=false)(hm:wrap64 (h:Int)=(h:Int))(hg:wrap64 ((h:Int) - 1)=(g:Int))(hq:IntKind.u64.wrap (p - 1)=q)(cs:SpotAt p h k true)
  (co:∀ w,Calls Tryz.prog 136 #[.int .u64 q,.int .i64 (g:Int),.bool true] w fun e w'=>e=.returned (.int .u64 r)/\w=w'):
  Calls Tryz.prog 115 #[.int .u64 p] w fun e w'=>e=.returned (.tuple #[.int .u64 r,.int .u64 q,.bool true])/\Below w.heap.size w w':=by
 have cs:=cs w;go_enter Tryz.func115,Tryz.ntmps115;go_wp2_with fail
 refine cs.mono ?_;rintro e w1 ⟨rfl,hb⟩;clear cs;have R:Aside (Below w.heap.size w w1):=hb;clear hb;go_wp2_with fail
 refine(co _).mono ?_;rintro e w2 ⟨rfl,rfl⟩;clear co;go_wp2;go_ret3
 exact⟨rfl,R.out.alloc R.out.size _⟩
theorem jl(p:Int)(k:Nat)(w:World)(cs:SpotAt p 0 k true):Calls Tryz.prog 115 #[.int .u64 p] w fun e w'=>e=.returned (.tuple #[.int .u64 0,.int .u64 0,.bool false])/\Below w.heap.size w w':=by
 have cs:=cs w;go_enter Tryz.func115,Tryz.ntmps115;go_wp2_with fail
 refine cs.mono ?_;rintro e w1 ⟨rfl,hb⟩;clear cs;have R:Aside (Below w.heap.size w w1):=hb;clear hb;go_wp2;go_ret3
 exact⟨rfl,R.out.alloc R.out.size _⟩
theorem yg{P:Program}{f:FuncId}{args:Array Value}{w:World}{n:Nat}{v:Value}
  (h:Calls P f args (w.drewN n) fun e w'=>e=.returned v/\w.drewN n=w'):Calls P f args (w.drewN n) fun e w''=>e=.returned v/\∃ m,w''=w.drewN m:=
 h.mono fun _ _ ⟨he,hm⟩=>⟨he,n,hm.symm⟩
theorem Vs(a h:Nat)(hh:h<=62)(hl:a*2 ^ h<2 ^ 64):IntKind.u64.wrap ((a:Int)*2 ^ min h 64)=((a*2 ^ h:Nat):Int):=by
 rw[show min h 64=h by omega,Y7,Nat.mod_eq_of_lt hl]
theorem Node.kid{h k:Nat}(a:Node (h+1) k):Node h (2*k)/\Node h (2*k+1):=by
 have h1:=a.1;have h2:=a.2;have e:2 ^ (62 - h)=2 ^ (62 - (h+1))*2:=by rw[<-Nat.pow_succ];congr 1;omega
 exact⟨⟨by omega,by rw[e];omega⟩,⟨by omega,by rw[e];omega⟩⟩
theorem jE(h k:Nat)(hN:Node (h+1) k)(w:World):Calls Tryz.prog 115 #[.int .u64 ((PLC (h+1) k:Nat):Int)] w fun e w'=>e=.returned (.tuple #[.int .u64 ((PLC h (2*k):Nat):Int),.int .u64 ((PLC h (2*k+1):Nat):Int),.bool true])/\Below w.heap.size w w':=by
 have h1:=hN.1;have h2:=Jr h k;have h3:=z0Y h k;have h4:=hN.lt;refine MB _ ((PLC h (2*k+1):Nat):Int) (h+1) h k _ w (by simp;omega) (by unfold wrap64;omega) (by unfold wrap64;omega) (by rw[zh];omega) (.node hN) (fun w=>?_);have:=UQ (PLC h (2*k+1):Nat) (h:Int) (TREE h:Nat) w (fun w=>ZO h (by omega) w);rw[show IntKind.u64.wrap (((PLC h (2*k+1):Nat):Int) - ((TREE h:Nat):Int))=((PLC h (2*k):Nat):Int) by rw[zh];omega] at this;exact this
theorem MC(h k:Nat)(hN:Node h k)(w:World):Calls Tryz.prog 112 #[.int .u64 ((PLC h k:Nat):Int)] w fun e w'=>e=.returned (.tuple #[.int .u64 ((k*2 ^ h:Nat):Int),.int .u64 (((k+1)*2 ^ h:Nat):Int),.bool true])/\Below w.heap.size w w':=by
 have h1:=hN.1;have h3:=hN.span;have h4:=hN.index_lt;have h5:k*2 ^ h<=(k+1)*2 ^ h:=Nat.mul_le_mul_right _ (by omega);refine GQ _ h k _ _ w (by rw[zh];omega) (Vs k h h1 (by omega)) ?_ (.node hN);have:=Vs (k+1) h h1 (by omega);rw[show (((k+1:Nat)):Int)=(k:Int)+1 by omega] at this;exact this
end Go.Proofs.YtobaogpomcocpaaGreatDoor
