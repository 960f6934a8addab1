/- FindProves: part 8. -/
import Derived.Test.YtlbcnaenhghieaaGreatDoorFindProvesP7
set_option maxHeartbeats 2000000
namespace Go.Proofs.YtlbcnaenhghieaaGreatDoor
open Go.RowKit
set_option maxRecDepth 100000
theorem zgn {l k:List Int} {n:Nat} (hl:l.length=32*n) (hk:k.length=32*n) (h:∀ i,i<n->HSH l i=HSH k i):l=k:=by
 have e:∀ i,i<=n->l.take (32*i)=k.take (32*i):=by
  intro i;induction i with
  | zero=>intro _;simp
  | succ i ih=>intro hi;rw [z8g,z8g,ih (by omega),h i (by omega)]
 have:=e n (Nat.le_refl _);rwa [List.take_of_length_le (by omega),List.take_of_length_le (by omega)] at this
@[go_sem] def SHOPSq0:Oper:=⟨some 17,.move (.tmp 0),22,"ref.go:176",#[],none⟩
@[go_sem] def SHOPSq1:Oper:=⟨some 18,.move (.tmp 5),3,"ref.go:176",#[],none⟩
@[go_sem] def SHOPSq2:Oper:=⟨some 19,.indexAddr 22 (.tmp 17) (.tmp 18),0,"ref.go:176",#[⟨0,.data⟩,⟨1,.data⟩],none⟩
@[go_sem] def SHOPSq3:Oper:=⟨some 20,.load 25 (.tmp 19),25,"ref.go:176",#[⟨2,.data⟩],none⟩
@[go_sem] def SHOPSq4:Oper:=⟨some 21,.move (.tmp 1),22,"ref.go:176",#[],none⟩
@[go_sem] def SHOPSq5:Oper:=⟨some 22,.move (.tmp 5),3,"ref.go:176",#[],none⟩
@[go_sem] def SHOPSq6:Oper:=⟨some 23,.indexAddr 22 (.tmp 21) (.tmp 22),0,"ref.go:176",#[⟨4,.data⟩,⟨5,.data⟩],none⟩
@[go_sem] def SHOPSq7:Oper:=⟨some 24,.load 25 (.tmp 23),25,"ref.go:176",#[⟨6,.data⟩],none⟩
@[go_sem] def SHOPSq8:Oper:=⟨some 25,.binOp .neq 25 (.tmp 20) (.tmp 24) 25,4,"ref.go:176",#[⟨3,.data⟩,⟨7,.data⟩],none⟩
def zbv:Array Oper:=#[SHOPSq0,SHOPSq1,SHOPSq2,SHOPSq3,SHOPSq4,SHOPSq5,SHOPSq6,SHOPSq7,SHOPSq8]
theorem z57 {Q:Exit->Act->World->Prop} (b d e f g j k l o p q r s u x y z A B C D E F:Value) (W:World) (w0:World) (ba oa n ca bb ob m cb i:Nat) (H K:List Int) (hH:H.length=32) (hK:K.length=32) (b1:(i:Int)<(n:Int)) (b2:(i:Int)<(m:Int)) (hS:(fun W:World=>W.rangeAt ba (oa+i*32) (z00 H)/\W.rangeAt bb (ob+i*32) (z00 K)/\Below w0.heap.size w0 W) W) (hQ:∀ c (a:Act) (t:Tmp) (v:Value) w,Q (.panic c) (a.put (some t) v) w->Q (.panic c) a w)
  (h:∀ w,(fun W:World=>W.rangeAt ba (oa+i*32) (z00 H)/\W.rangeAt bb (ob+i*32) (z00 K)/\Below w0.heap.size w0 W) w->Q .normal {tmps:=#[.slice (some ⟨ba,oa,none⟩) n ca,.slice (some ⟨bb,ob,none⟩) m cb,b,d,e,.int .i64 (i:Int),f,g,j,k,l,o,p,q,r,s,u,.slice (some ⟨ba,oa,none⟩) n ca,.int .i64 (i:Int),.pointer (some ⟨ba,oa+i*32,none⟩),.agg (z00 H).toArray,.slice (some ⟨bb,ob,none⟩) m cb,.int .i64 (i:Int),.pointer (some ⟨bb,ob+i*32,none⟩),.agg (z00 K).toArray,.bool (!decide (H=K))],defers:=[]} w):(Code.region 6 zbv true).wp Tryz.prog Q {tmps:=#[.slice (some ⟨ba,oa,none⟩) n ca,.slice (some ⟨bb,ob,none⟩) m cb,b,d,e,.int .i64 (i:Int),f,g,j,k,l,o,p,q,r,s,u,x,y,z,A,B,C,D,E,F],defers:=[]} W:=by
 have hs0:(fun W:World=>W.rangeAt ba (oa+i*32) (z00 H)/\W.rangeAt bb (ob+i*32) (z00 K)/\Below w0.heap.size w0 W) W.drew:=⟨hS.1,hS.2.1,hS.2.2.drew⟩
 have k0:∀ w,(fun W:World=>W.rangeAt ba (oa+i*32) (z00 H)/\W.rangeAt bb (ob+i*32) (z00 K)/\Below w0.heap.size w0 W) w->wpAnyH Tryz.prog .any zbv Q (fun W:World=>W.rangeAt ba (oa+i*32) (z00 H)/\W.rangeAt bb (ob+i*32) (z00 K)/\Below w0.heap.size w0 W) 9 #[ff,ff,ff,ff,ff,ff,ff,ff,ff] {tmps:=#[.slice (some ⟨ba,oa,none⟩) n ca,.slice (some ⟨bb,ob,none⟩) m cb,b,d,e,.int .i64 (i:Int),f,g,j,k,l,o,p,q,r,s,u,x,y,z,A,B,C,D,E,F],defers:=[]} w:=fun w hw=>by
  have hww:(fun W:World=>W.rangeAt ba (oa+i*32) (z00 H)/\W.rangeAt bb (ob+i*32) (z00 K)/\Below w0.heap.size w0 W) w:=hw;have last:wpAnyH Tryz.prog .any zbv Q (fun W:World=>W.rangeAt ba (oa+i*32) (z00 H)/\W.rangeAt bb (ob+i*32) (z00 K)/\Below w0.heap.size w0 W) 0 #[tt,tt,tt,tt,tt,tt,tt,tt,tt] {tmps:=#[.slice (some ⟨ba,oa,none⟩) n ca,.slice (some ⟨bb,ob,none⟩) m cb,b,d,e,.int .i64 (i:Int),f,g,j,k,l,o,p,q,r,s,u,.slice (some ⟨ba,oa,none⟩) n ca,.int .i64 (i:Int),.pointer (some ⟨ba,oa+i*32,none⟩),.agg (z00 H).toArray,.slice (some ⟨bb,ob,none⟩) m cb,.int .i64 (i:Int),.pointer (some ⟨bb,ob+i*32,none⟩),.agg (z00 K).toArray,.bool (!decide (H=K))],defers:=[]} w:=wpAnyH_done (by kernel_rfl) (h w hw) _;refine tkP SHOPSq0 (.slice (some ⟨ba,oa,none⟩) n ca) 0 hQ hww ?_;simp only [List.set];refine tkP SHOPSq1 (.int .i64 (i:Int)) 1 hQ hww ?_;simp only [List.set];refine tkP SHOPSq2 (.pointer (some ⟨ba,oa+i*32,none⟩)) 2 hQ hww ?_;simp only [List.set];refine tkH SHOPSq3 (.agg (z00 H).toArray) 3 hQ (yieldsIf_load_mid (by rfl) 25 (.tmp 19) rfl ba (oa+i*32) rfl (z00 H) _ (fun w h=>h.1) Tryz.underlying25 rfl (z0g hH)) hww ?_;simp only [List.set];refine tkP SHOPSq4 (.slice (some ⟨bb,ob,none⟩) m cb) 4 hQ hww ?_;simp only [List.set];refine tkP SHOPSq5 (.int .i64 (i:Int)) 5 hQ hww ?_;simp only [List.set];refine tkP SHOPSq6 (.pointer (some ⟨bb,ob+i*32,none⟩)) 6 hQ hww ?_;simp only [List.set]
  refine tkH SHOPSq7 (.agg (z00 K).toArray) 7 hQ (yieldsIf_load_mid (by rfl) 25 (.tmp 23) rfl bb (ob+i*32) rfl (z00 K) _ (fun w h=>h.2.1) Tryz.underlying25 rfl (z0g hK)) hww ?_;simp only [List.set];refine tkH SHOPSq8 (.bool (!decide (H=K))) 8 hQ (Yields.yieldsIf (Or.inl ⟨by rfl,fun W=>z08 (zbr hH hK _ _ W)⟩)) hww ?_;simp only [List.set];exact last
 exact wp_region_held_drew (S:=(fun W:World=>W.rangeAt ba (oa+i*32) (z00 H)/\W.rangeAt bb (ob+i*32) (z00 K)/\Below w0.heap.size w0 W)) (by kernel_rfl) hs0 (fun _=>k0 _ hs0)
theorem z7D (a b:Option Addr) (n m ca cb:Nat) (l k:List Int) (w:World) (hA:Flat w a n l) (hB:Flat w b m k) (hn:n<=1000000):
  Calls Tryz.prog 36 #[.slice a n ca,.slice b m cb] w fun e w'=>e=.returned (.bool (decide (l=k)))/\Below w.heap.size w w':=by
 by_cases hnm:n=m
 ·subst hnm
  rcases Nat.eq_zero_or_pos n with h | h
  ·subst h
   have hd:decide (l=k)=true:=by
    rw [List.eq_nil_of_length_eq_zero hA.1,List.eq_nil_of_length_eq_zero hB.1];rfl
   rw [hd];clear hA hB hd;go_enter Tryz.func36,Tryz.ntmps36;go_wp2;refine wp_loop_rounds 1 ?_;rw [rounds_succ];go_wp2;go_ret;exact ⟨rfl,Below.refl _ _⟩
  ·obtain ⟨ba,oa,rfl,la,hca⟩:=hA.2.1 h
   obtain ⟨bb,ob,rfl,lb,hcb⟩:=hB.2.1 h;have HC:Aside (Flat w (some ⟨ba,oa,none⟩) n l/\Flat w (some ⟨bb,ob,none⟩) n k/\n<=1000000):=⟨hA,hB,hn⟩
   clear hA hB hca hcb la lb hn;obtain ⟨D,hD⟩:∃ D,D=decide (l=k):=⟨_,rfl⟩
   rw [<-hD];have HD:Aside (D=decide (l=k)):=hD;clear hD;go_enter Tryz.func36,Tryz.ntmps36;go_wp2;go_loopg [5] n (fun g s5 wx=>∃ i:Nat,s5=.int .i64 i/\Aside (i+g=n/\Below w.heap.size w wx/\∀ j,j<i->HSH l j=HSH k j))
   case atStart=>exact ⟨0,rfl,by omega,Below.refl _ _,fun j hj=>by omega⟩
   case round=>
    obtain ⟨i,rfl,A⟩:=hrel;cases gk with
    | zero=>
      obtain rfl:i=n:=by have:=A.out.1;omega
      have hlt:¬ (i:Int)<(i:Int):=by omega
      have hd:Aside (D=true):=by
       show D=true;rw [HD.out,decide_eq_true_iff];exact zgn HC.out.1.1 HC.out.2.1.1 A.out.2.2
      clear HD HC;go_wp2;go_ret;exact ⟨by rw [hd.out];rfl,A.out.2.1⟩
    | succ g=>
      obtain ⟨hig,hbel,hbef⟩:=A.out;have hlt:(i:Int)<(n:Int):=by omega
      have r1:=(HC.out.1.below hbel).at (show i<n by omega)
      have r2:=(HC.out.2.1.below hbel).at (show i<n by omega)
      have l1:=z1O HC.out.1.1 (show i<n by omega);have l2:=z1O HC.out.2.1.1 (show i<n by omega);have E1:Aside (wrap64 ((i:Int)+1)=((i+1:Nat):Int)):=by have:=HC.out.2.2;show wrap64 ((i:Int)+1)=((i+1:Nat):Int);unfold wrap64;omega
      by_cases he:HSH l i=HSH k i
      ·have B:Aside (i+1+g=n/\∀ j,j<i+1->HSH l j=HSH k j):=⟨by omega,fun j hj=>by
        by_cases e:j=i
        ·rw [e];exact he
        ·exact hbef j (by omega)⟩
       have hdf:(!decide (HSH l i=HSH k i))=false:=by rw [he];simp
       have Z:Aside (Below w.heap.size w wr):=hbel;clear he hig hbel hbef A HD HC;generalize HSH l i=H at *
       generalize HSH k i=K at *
       go_upto_region 6 with fail
       refine z57 _ _ _ _ _ _ _ _ _ _ _ _ _ _ _ _ _ _ _ _ _ _ _ _ w ba oa n ca bb ob n cb i H K l1 l2 hlt hlt ⟨r1,r2,Z.out⟩ (fun _ _ _ _ _ h=>h) ?_;rintro w1 ⟨_,_,q3⟩;rw [hdf];clear r1 r2 l1 l2 hdf;have Z2:Aside (Below w.heap.size w w1):=q3;clear q3 Z;have e1:=E1.out;go_wp2;go_roundg g
       case measure=>exact Nat.lt_succ_self _
       case rel=>exact ⟨i+1,by first | rfl | (rw [E1.out]),B.out.1,Z2.out,B.out.2⟩
      ·have hd:Aside (D=false):=by
        show D=false;rw [HD.out,decide_eq_false_iff_not];intro e;rw [e] at he;exact he rfl
       have hdf:(!decide (HSH l i=HSH k i))=true:=by simp [he]
       have Z:Aside (Below w.heap.size w wr):=hbel;clear he hig hbel hbef A HD HC E1;generalize HSH l i=H at *
       generalize HSH k i=K at *
       go_upto_region 6 with fail
       refine z57 _ _ _ _ _ _ _ _ _ _ _ _ _ _ _ _ _ _ _ _ _ _ _ _ w ba oa n ca bb ob n cb i H K l1 l2 hlt hlt ⟨r1,r2,Z.out⟩ (fun _ _ _ _ _ h=>h) ?_;rintro w1 ⟨_,_,q3⟩;rw [hdf];clear r1 r2 l1 l2 hdf;have Z2:Aside (Below w.heap.size w w1):=q3;clear q3 Z;go_wp2;go_ret;exact ⟨by rw [hd.out];rfl,Z2.out⟩
 ·have hne:¬ (n:Int)=(m:Int):=by omega
  have hd:decide (l=k)=false:=by
   rw [decide_eq_false_iff_not];intro e;rw [e] at hA;have:=hA.1.symm.trans hB.1;omega
  rw [hd];clear hA hB hd;go_enter Tryz.func36,Tryz.ntmps36;go_wp2;go_ret;exact ⟨rfl,Below.refl _ _⟩
theorem z7E (X Y:Int) (a b:Option Addr) (n m ca cb:Nat) (l:List Int) (w:World) (hA:Flat w a n l) (hB:Flat w b m l) (hn:n<=1000000):
  Calls Tryz.prog 15 #[.agg #[.int .u64 X,.int .u64 Y,.slice a n ca],.agg #[.int .u64 X,.int .u64 Y,.slice b m cb]] w fun e w'=>e=.returned (.bool true)/\Below w.heap.size w w':=by
 have C:Aside (∀ W,Below w.heap.size w W->Calls Tryz.prog 36 #[.slice a n ca,.slice b m cb] W fun e w'=>e=.returned (.bool true)/\Below w.heap.size w w'):=fun W h=>by
  refine (z7D a b n m ca cb l l W (hA.below h) (hB.below h) hn).mono ?_;rintro e w' ⟨rfl,hb⟩;exact ⟨by simp,h.trans (hb.mono h.size)⟩
 have Z:Aside (Below w.heap.size w ((w.alloc (.cells #[.int .u64 X,.int .u64 Y,.slice a n ca] 48)).alloc (.cells #[.int .u64 X,.int .u64 Y,.slice b m cb] 48))):=((Below.refl _ _).alloc (Nat.le_refl _) _).alloc (by simp) _;clear hA hB hn;go_enter Tryz.func15,Tryz.ntmps15;go_wp2_with fail
 refine (C.out _ Z.out).mono ?_;rintro e w5 ⟨rfl,hb5⟩;clear C Z;go_wp2;go_ret;exact ⟨rfl,hb5⟩
theorem zbw {w:World} {B n:Nat} {v:Value} {xs:List Value} (h:w.ownsRow B 25 32 v n xs):∃ a c,v=.slice a n c/\n<=c/\(0<n->∃ g,a=some ⟨g,0,none⟩):=by
 rcases h.2 with ⟨rfl,h0⟩ | ⟨g,cap,cur,rfl,_,_,h1,_⟩
 ·subst h0
  exact ⟨none,0,rfl,Nat.le_refl _,fun h=>by omega⟩
 ·exact ⟨_,_,rfl,h1,fun _=>⟨g,rfl⟩⟩
end Go.Proofs.YtlbcnaenhghieaaGreatDoor
namespace Go.Proofs.YtlbcnaenhghieaaGreatDoor
open Go.RowKit Go.Maps
set_option maxRecDepth 100000
theorem u64f {n:Nat} (h:n<2 ^ 62):IntKind.u64.wrap (n:Int)=(n:Int):=by
 simp [IntKind.wrap,IntKind.signed,IntKind.bits];omega
def ENT (f:Nat->List Int) (i:Nat):List Value:=z00 (f i) ++ [.int .i64 (LSTI f i (f i))]
def ECS (f:Nat->List Int):Nat->List Value
 | 0=>[]
 | n+1=>ECS f n ++ ENT f n
theorem z2F {f:Nat->List Int} {i:Nat} (h:FISH (f i)):(ENT f i).length=33:=by simp [ENT,z00,h.1]
theorem zgo (f:Nat->List Int) (i:Nat):∀ v∈ENT f i,v.oneCell'=true:=fun v hv=>by
 rcases List.mem_append.1 hv with h | h
 ·exact z0Y _ v h
 ·simp only [List.mem_singleton] at h
  subst h;rfl
theorem z5V {f:Nat->List Int}:∀ {n:Nat},(∀ i,i<n->FISH (f i))->(ECS f n).length=n*33
 | 0,_=>rfl
 | n+1,h=>by rw [ECS,List.length_append,z5V fun i hi=>h i (by omega),z2F (h n (by omega))];omega
theorem z7d {f g:Nat->List Int}:∀ {n:Nat},(∀ i,i<n->f i=g i)->ECS f n=ECS g n
 | 0,_=>rfl
 | n+1,e=>by rw [ECS,ECS,z7d fun i hi=>e i (by omega),ENT,ENT,e n (by omega),z25 _ fun i hi=>e i (by omega)]
theorem zcW {f:Nat->List Int}:∀ {n i:Nat},(∀ j,j<n->FISH (f j))->i<n->∀ j,j<33->(ECS f n)[i*33+j]?=(ENT f i)[j]?
 | 0,i,_,hi,_,_=>by omega
 | n + 1,i,h,hi,j,hj=>by
   have hl:=z5V (f:=f) (n:=n) fun k hk=>h k (by omega);rw [ECS];by_cases e:i=n
   ·subst e
    rw [List.getElem?_append_right (by omega)];congr 1
    omega
   ·rw [List.getElem?_append_left (by omega)]
    exact zcW (fun k hk=>h k (by omega)) (by omega) j hj
theorem z3Q:(Tryz.prog.info? 75).map (fun i=>(i.zero,i.size,i.bytes))=some (some (.agg (ZARR ++ #[.int .i64 0])),33,40):=by kernel_rfl
theorem zcX {f:Nat->List Int} {i:Nat} (h:FISH (f i)):(Tryz.prog.info? 75).map (·.size)=some (ENT f i).toArray.size:=by
 rw [List.size_toArray,z2F h];kernel_rfl
theorem zcY {ops:Array Oper} {rest:List Oper} {o:Oper} {a:Act} {Q:Exit->Act->World->Prop} (w:World) (hgd:o.guard=none) (s x:Operand)
  (ho:o.op=.call {callee:=.builtin .append,args:=#[s,x],argTypes:=#[54,54]})
  (base:Nat) (v:Value) (n:Nat) (xs:List Value) (hs:a.eval s=v) (hown:w.ownsRow base 75 33 v n xs)
  (b m c:Nat) (ys:List Value) (hl:ys.length=m*33) (h1:∀ u∈ys,u.oneCell'=true) (hx:a.eval x=.slice (some ⟨b,0,none⟩) m c) (hc:w.rangeAt b 0 ys) (hm:0<m)
  (hb:n+m<=1000000) (hbase:base<=w.heap.size)
  (h:∀ g cap w',w'.ownsRow base 75 33 (.slice (some ⟨g,0,none⟩) (n+m) cap) (n+m) (xs ++ ys)->w.grownBy w' v.ownBlock->(v.ownBlock=some g\/g=w.heap.size)->g<w'.heap.size->wpList Tryz.prog ops Q rest (a.put o.dst (.slice (some ⟨g,0,none⟩) (n+m) cap)) w'):wpList Tryz.prog ops Q (o :: rest) a w:=by
 obtain ⟨i,hi,hz,hs1,hby⟩:=info_parts z3Q;refine wpList_append_lies w hgd s x 54 ho base 75 i _ 33 40 Tryz.underlying54 hi hz hs1 hby rfl (by decide) v n xs hs hown ⟨b,0,none⟩ m c ys hx hl ?_ h1 hm (by simp only [maxLen];omega) (by omega) hbase w.heap.size rfl h;intro j u hj;rw [z0y];exact hc j u hj
structure FIND (w:World) (B p:Nat) (v:Value) (m:Option Nat) (f:Nat->List Int) (n:Nat):Prop where
 box:Has w p #[v,.map m] 57
 own:w.ownsRow B 75 33 v n (ECS f n)
 map:(m=none/\v=.slice none 0 0/\n=0)\/∃ b,m=some b/\B<=b/\FMAP w b f n
 is:∀ i,i<n->FISH (f i)
 base:B<=p
def FFT (p:Nat) (v:Value) (m:Option Nat) (k:Nat):Prop:=k=p\/v.ownBlock=some k\/m=some k
structure FSTP (w w':World) (p:Nat) (v:Value) (m:Option Nat) (v':Value) (m':Option Nat):Prop where
 os:w'.os=w.os
 tape:w'.tape=w.tape
 output:w'.output=w.output
 size:w.heap.size<=w'.heap.size
 block:∀ k,k<w.heap.size->¬ FFT p v m k->w'.heap[k]?=w.heap[k]?
 foot:∀ k,FFT p v' m' k->FFT p v m k\/w.heap.size<=k
theorem FSTP.trans {w w' w'':World} {p:Nat} {v v' v'':Value} {m m' m'':Option Nat} (h:FSTP w w' p v m v' m') (k:FSTP w' w'' p v' m' v'' m''):FSTP w w'' p v m v'' m'':=by
 refine ⟨k.os.trans h.os,k.tape.trans h.tape,k.output.trans h.output,Nat.le_trans h.size k.size,fun i h1 h2=>(k.block i (Nat.lt_of_lt_of_le h1 h.size) (fun e=>?_)).trans (h.block i h1 h2),fun i e=>?_⟩
 ·rcases h.foot i e with c | c
  ·exact h2 c
  ·omega
 ·rcases k.foot i e with c | c
  ·exact h.foot i c
  ·exact .inr (Nat.le_trans h.size c)
theorem FSTP.of_below {w w':World} {p:Nat} {v:Value} {m:Option Nat} (h:Below w.heap.size w w'):FSTP w w' p v m v m:=⟨h.os,h.tape,h.output,h.size,fun k h1 _=>h.block k h1,fun _ e=>.inl e⟩
theorem FIND.lt {w:World} {B p n:Nat} {v:Value} {m:Option Nat} {f:Nat->List Int} (H:FIND w B p v m f n):∀ k,FFT p v m k->B<=k/\k<w.heap.size:=by
 rintro k (rfl | h | h)
 ·exact ⟨H.base,H.box.lt⟩
 ·exact H.own.lt k h
 ·rcases H.map with ⟨e,_⟩ | ⟨b,e,h1,h2⟩
  ·rw [e] at h;cases h
  ·rw [e] at h
   cases h;exact ⟨h1,h2.lt⟩
theorem FIND.at {w w':World} {B p n:Nat} {v:Value} {m:Option Nat} {f:Nat->List Int} (H:FIND w B p v m f n) (hk:∀ k,FFT p v m k->w'.heap[k]?=w.heap[k]?):FIND w' B p v m f n:=by
 refine ⟨(hk p (.inl rfl)).trans H.box,z0J H.own fun k e=>hk k (.inr (.inl e)),?_,H.is,H.base⟩;rcases H.map with h | ⟨b,e,h1,h2⟩
 ·exact .inl h
 ·exact .inr ⟨b,e,h1,h2.at (hk b (.inr (.inr e)))⟩
theorem FIND.keep {w w':World} {B p n:Nat} {v:Value} {m:Option Nat} {f:Nat->List Int} (H:FIND w B p v m f n) (hb:Below w.heap.size w w'):FIND w' B p v m f n:=H.at fun k e=>hb.block k (H.lt k e).2
theorem FIND.congr {w:World} {B p n:Nat} {v:Value} {m:Option Nat} {f g:Nat->List Int} (H:FIND w B p v m f n) (e:∀ i,i<n->f i=g i):FIND w B p v m g n:=by
 refine ⟨H.box,by rw [<-z7d e];exact H.own,?_,fun i hi=>by rw [<-e i hi];exact H.is i hi,H.base⟩;rcases H.map with h | ⟨b,e1,h1,h2⟩
 ·exact .inl h
 ·exact .inr ⟨b,e1,h1,h2.congr e⟩
theorem FIND.apart {w:World} {B p n:Nat} {v:Value} {m:Option Nat} {f:Nat->List Int} (H:FIND w B p v m f n):v.ownBlock≠some p/\m≠some p/\∀ k,v.ownBlock=some k->m≠some k:=by
 have hb:=H.box;refine ⟨fun e=>?_,fun e=>?_,fun k e1 e2=>?_⟩
 ·rcases H.own.2 with ⟨rfl,_⟩ | ⟨g,cap,cur,rfl,_,h,_⟩
  ·cases e
  ·simp only [Value.ownBlock,Option.some.injEq] at e
   subst e;unfold Has at hb;rw [h] at hb;simp at hb
 ·rcases H.map with ⟨rfl,_⟩ | ⟨b,rfl,_,_,⟨es,clock,h,_⟩,_⟩
  ·cases e
  ·cases e
   unfold Has at hb;rw [h] at hb;simp at hb
 ·rcases H.map with ⟨rfl,_⟩ | ⟨b,rfl,_,_,⟨es,clock,h,_⟩,_⟩
  ·cases e2
  ·cases e2
   rcases H.own.2 with ⟨rfl,_⟩ | ⟨g,cap,cur,rfl,_,h',_⟩
   ·cases e1
   ·simp only [Value.ownBlock,Option.some.injEq] at e1
    subst e1;rw [h] at h';cases h'
theorem FIND.slice {w:World} {B p n:Nat} {v:Value} {m:Option Nat} {f:Nat->List Int} (H:FIND w B p v m f n):∃ a c,v=.slice a n c/\n<=c/\(0<n->∃ g,a=some ⟨g,0,none⟩/\B<=g/\g<w.heap.size):=by
 rcases H.own.2 with ⟨rfl,rfl⟩ | ⟨g,cap,cur,rfl,hB,h,hc,_⟩
 ·exact ⟨none,0,rfl,Nat.le_refl _,fun h=>by omega⟩
 ·exact ⟨_,cap,rfl,hc,fun _=>⟨g,rfl,hB,(Array.getElem?_eq_some_iff.1 h).1⟩⟩
theorem FIND.entry {w:World} {B p n g c:Nat} {m:Option Nat} {f:Nat->List Int} (H:FIND w B p (.slice (some ⟨g,0,none⟩) n c) m f n) {i:Nat} (hi:i<n):w.rangeAt g (i*33) (ENT f i):=by
 intro j u hj
 have hj2:j<33:=by
  have:=(List.getElem?_eq_some_iff.1 hj).1;rwa [z2F (H.is i hi)] at this
 rw [H.own.cellAt _ (by have:i*33+33<=n*33:=by omega
                        omega),zcW H.is hi j hj2]
 exact hj
theorem FIND.hash {w:World} {B p n g c:Nat} {m:Option Nat} {f:Nat->List Int} (H:FIND w B p (.slice (some ⟨g,0,none⟩) n c) m f n) {i:Nat} (hi:i<n):w.rangeAt g (i*33) (z00 (f i)):=by
 intro j u hj;refine H.entry hi j u ?_;have:=(List.getElem?_eq_some_iff.1 hj).1;rw [ENT,List.getElem?_append_left this];exact hj
theorem FIND.before {w:World} {B p n g c:Nat} {m:Option Nat} {f:Nat->List Int} (H:FIND w B p (.slice (some ⟨g,0,none⟩) n c) m f n) {i:Nat} (hi:i<n):w.cell? ⟨g,i*33+32,none⟩=some (.int .i64 (LSTI f i (f i))):=by
 refine H.entry hi 32 _ ?_;have hl:(z00 (f i)).length=32:=by simp [z00,(H.is i hi).1]
 rw [ENT,List.getElem?_append_right (by omega),hl];rfl
theorem z8k (f:Nat->List Int) (w:World):Calls Tryz.prog 4 #[] w fun e w'=>e=.returned (.pointer (some ⟨w.heap.size,0,none⟩))/\FIND w' w.heap.size w.heap.size (.slice none 0 0) none f 0/\Below w.heap.size w w':=by
 go_enter Tryz.func4,Tryz.ntmps4;go_wp2;go_ret;exact ⟨rfl,⟨Has.new _ _ _,World.ownsRow_nil _ _ _ _,.inl ⟨rfl,rfl,rfl⟩,fun i hi=>by omega,Nat.le_refl _⟩,(Below.refl _ _).alloc (Nat.le_refl _) _⟩
theorem z7e {w:World} {B p n:Nat} {v:Value} {m:Option Nat} {f:Nat->List Int} (H:FIND w B p v m f n) (hn:n<=1000000):Calls Tryz.prog 34 #[.pointer (some ⟨p,0,none⟩)] w fun e w'=>e=.returned (.int .u64 (n:Int))/\w=w':=by
 obtain ⟨a,c,rfl,_⟩:=H.slice;have x0:=H.box.cell 0;have hw:IntKind.u64.wrap (n:Int)=(n:Int):=u64f (by omega);clear H;go_enter Tryz.func34,Tryz.ntmps34;go_wp2;go_ret;simp
theorem z9z {w:World} {B p n:Nat} {v:Value} {m:Option Nat} {f:Nat->List Int} (H:FIND w B p v m f n):Calls Tryz.prog 38 #[.pointer (some ⟨p,0,none⟩)] w fun e w'=>e=.returned (.int .i64 (UNL f n:Nat))/\w=w':=by
 have x1:=H.box.cell 1
 have hl:∀ ty,(Builtin.len_ #[55] ty #[.map m]).run Tryz.prog w=.ok (.int .i64 (UNL f n:Nat)) w:=fun ty=>by
  rcases H.map with ⟨rfl,_,rfl⟩ | ⟨b,rfl,_,hm⟩
  ·simp [Builtin.len_,run_underlying Tryz.underlying55,UNL,goInt]
  ·exact hm.count ty
 clear H;go_enter Tryz.func38,Tryz.ntmps38;go_wp2;go_ret;simp
end Go.Proofs.YtlbcnaenhghieaaGreatDoor
namespace Go.Proofs.YtlbcnaenhghieaaGreatDoor
theorem zaz (l:List Int) (h:l.length=32):∃ f:Nat->Int,l=(List.range 32).map f:=by
 refine ⟨fun i=>l.getD i 0,List.ext_getElem? fun i=>?_⟩;by_cases hi:i<32
 ·simp [hi,h]
 ·rw [List.getElem?_eq_none (by omega),List.getElem?_eq_none (by simp;omega)]
end Go.Proofs.YtlbcnaenhghieaaGreatDoor
