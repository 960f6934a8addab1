/- ProofMakes: part 26. -/
import Derived.Test.YthmnailmbgondaaGreatDoorProofMakesP25
set_option maxHeartbeats 2000000
namespace Go.Proofs.YthmnailmbgondaaGreatDoor
open Go.RowKit
set_option maxRecDepth 100000
theorem zgv {l k:List Int} {n:Nat} (hl:l.length=32*n) (hk:k.length=32*n) (h:∀ i,i<n->HSH l i=HSH k i):l=k:=by
 have e:∀ i,i<=n->l.take (32*i)=k.take (32*i):=by
  intro i;induction i with
  | zero=>intro _;simp
  | succ i ih=>intro hi;rw [z5M,z5M,ih (by omega),h i (by omega)]
 have:=e n (Nat.le_refl _);rwa [List.take_of_length_le (by omega),List.take_of_length_le (by omega)] at this
@[go_sem] def SHOPSq0:Oper:=⟨some 17,.move (.tmp 0),22,"ref.go:176",#[],none⟩
@[go_sem] def SHOPSq1:Oper:=⟨some 18,.move (.tmp 5),3,"ref.go:176",#[],none⟩
@[go_sem] def SHOPSq2:Oper:=⟨some 19,.indexAddr 22 (.tmp 17) (.tmp 18),0,"ref.go:176",#[⟨0,.data⟩,⟨1,.data⟩],none⟩
@[go_sem] def SHOPSq3:Oper:=⟨some 20,.load 35 (.tmp 19),35,"ref.go:176",#[⟨2,.data⟩],none⟩
@[go_sem] def SHOPSq4:Oper:=⟨some 21,.move (.tmp 1),22,"ref.go:176",#[],none⟩
@[go_sem] def SHOPSq5:Oper:=⟨some 22,.move (.tmp 5),3,"ref.go:176",#[],none⟩
@[go_sem] def SHOPSq6:Oper:=⟨some 23,.indexAddr 22 (.tmp 21) (.tmp 22),0,"ref.go:176",#[⟨4,.data⟩,⟨5,.data⟩],none⟩
@[go_sem] def SHOPSq7:Oper:=⟨some 24,.load 35 (.tmp 23),35,"ref.go:176",#[⟨6,.data⟩],none⟩
@[go_sem] def SHOPSq8:Oper:=⟨some 25,.binOp .neq 35 (.tmp 20) (.tmp 24) 35,4,"ref.go:176",#[⟨3,.data⟩,⟨7,.data⟩],none⟩
def zbX:Array Oper:=#[SHOPSq0,SHOPSq1,SHOPSq2,SHOPSq3,SHOPSq4,SHOPSq5,SHOPSq6,SHOPSq7,SHOPSq8]
theorem z5t {Q:Exit->Act->World->Prop} (b d e f g j k l o p q r s u x y z A B C D E F:Value) (W:World) (w0:World) (ba oa n ca bb ob m cb i:Nat) (H K:List Int) (hH:H.length=32) (hK:K.length=32) (b1:(i:Int)<(n:Int)) (b2:(i:Int)<(m:Int)) (hS:(fun W:World=>W.rangeAt ba (oa+i*32) (z00 H)/\W.rangeAt bb (ob+i*32) (z00 K)/\Below w0.heap.size w0 W) W) (hQ:∀ c (a:Act) (t:Tmp) (v:Value) w,Q (.panic c) (a.put (some t) v) w->Q (.panic c) a w)
  (h:∀ w,(fun W:World=>W.rangeAt ba (oa+i*32) (z00 H)/\W.rangeAt bb (ob+i*32) (z00 K)/\Below w0.heap.size w0 W) w->Q .normal {tmps:=#[.slice (some ⟨ba,oa,none⟩) n ca,.slice (some ⟨bb,ob,none⟩) m cb,b,d,e,.int .i64 (i:Int),f,g,j,k,l,o,p,q,r,s,u,.slice (some ⟨ba,oa,none⟩) n ca,.int .i64 (i:Int),.pointer (some ⟨ba,oa+i*32,none⟩),.agg (z00 H).toArray,.slice (some ⟨bb,ob,none⟩) m cb,.int .i64 (i:Int),.pointer (some ⟨bb,ob+i*32,none⟩),.agg (z00 K).toArray,.bool (!decide (H=K))],defers:=[]} w):(Code.region 6 zbX true).wp Tryz.prog Q {tmps:=#[.slice (some ⟨ba,oa,none⟩) n ca,.slice (some ⟨bb,ob,none⟩) m cb,b,d,e,.int .i64 (i:Int),f,g,j,k,l,o,p,q,r,s,u,x,y,z,A,B,C,D,E,F],defers:=[]} W:=by
 have hs0:(fun W:World=>W.rangeAt ba (oa+i*32) (z00 H)/\W.rangeAt bb (ob+i*32) (z00 K)/\Below w0.heap.size w0 W) W.drew:=⟨hS.1,hS.2.1,hS.2.2.drew⟩
 have k0:∀ w,(fun W:World=>W.rangeAt ba (oa+i*32) (z00 H)/\W.rangeAt bb (ob+i*32) (z00 K)/\Below w0.heap.size w0 W) w->wpAnyH Tryz.prog .any zbX Q (fun W:World=>W.rangeAt ba (oa+i*32) (z00 H)/\W.rangeAt bb (ob+i*32) (z00 K)/\Below w0.heap.size w0 W) 9 #[ff,ff,ff,ff,ff,ff,ff,ff,ff] {tmps:=#[.slice (some ⟨ba,oa,none⟩) n ca,.slice (some ⟨bb,ob,none⟩) m cb,b,d,e,.int .i64 (i:Int),f,g,j,k,l,o,p,q,r,s,u,x,y,z,A,B,C,D,E,F],defers:=[]} w:=fun w hw=>by
  have hww:(fun W:World=>W.rangeAt ba (oa+i*32) (z00 H)/\W.rangeAt bb (ob+i*32) (z00 K)/\Below w0.heap.size w0 W) w:=hw;have last:wpAnyH Tryz.prog .any zbX Q (fun W:World=>W.rangeAt ba (oa+i*32) (z00 H)/\W.rangeAt bb (ob+i*32) (z00 K)/\Below w0.heap.size w0 W) 0 #[tt,tt,tt,tt,tt,tt,tt,tt,tt] {tmps:=#[.slice (some ⟨ba,oa,none⟩) n ca,.slice (some ⟨bb,ob,none⟩) m cb,b,d,e,.int .i64 (i:Int),f,g,j,k,l,o,p,q,r,s,u,.slice (some ⟨ba,oa,none⟩) n ca,.int .i64 (i:Int),.pointer (some ⟨ba,oa+i*32,none⟩),.agg (z00 H).toArray,.slice (some ⟨bb,ob,none⟩) m cb,.int .i64 (i:Int),.pointer (some ⟨bb,ob+i*32,none⟩),.agg (z00 K).toArray,.bool (!decide (H=K))],defers:=[]} w:=wpAnyH_done (by kernel_rfl) (h w hw) _;refine tkP SHOPSq0 (.slice (some ⟨ba,oa,none⟩) n ca) 0 hQ hww ?_;simp only [List.set];refine tkP SHOPSq1 (.int .i64 (i:Int)) 1 hQ hww ?_;simp only [List.set];refine tkP SHOPSq2 (.pointer (some ⟨ba,oa+i*32,none⟩)) 2 hQ hww ?_;simp only [List.set];refine tkH SHOPSq3 (.agg (z00 H).toArray) 3 hQ (yieldsIf_load_mid (by rfl) 35 (.tmp 19) rfl ba (oa+i*32) rfl (z00 H) _ (fun w h=>h.1) Tryz.underlying35 rfl (z0v hH)) hww ?_;simp only [List.set];refine tkP SHOPSq4 (.slice (some ⟨bb,ob,none⟩) m cb) 4 hQ hww ?_;simp only [List.set];refine tkP SHOPSq5 (.int .i64 (i:Int)) 5 hQ hww ?_;simp only [List.set];refine tkP SHOPSq6 (.pointer (some ⟨bb,ob+i*32,none⟩)) 6 hQ hww ?_;simp only [List.set]
  refine tkH SHOPSq7 (.agg (z00 K).toArray) 7 hQ (yieldsIf_load_mid (by rfl) 35 (.tmp 23) rfl bb (ob+i*32) rfl (z00 K) _ (fun w h=>h.2.1) Tryz.underlying35 rfl (z0v hK)) hww ?_;simp only [List.set];refine tkH SHOPSq8 (.bool (!decide (H=K))) 8 hQ (Yields.yieldsIf (Or.inl ⟨by rfl,fun W=>z08 (zbV hH hK _ _ W)⟩)) hww ?_;simp only [List.set];exact last
 exact wp_region_held_drew (S:=(fun W:World=>W.rangeAt ba (oa+i*32) (z00 H)/\W.rangeAt bb (ob+i*32) (z00 K)/\Below w0.heap.size w0 W)) (by kernel_rfl) hs0 (fun _=>k0 _ hs0)
theorem z1A (a b:Option Addr) (n m ca cb:Nat) (l k:List Int) (w:World) (hA:Flat w a n l) (hB:Flat w b m k) (hn:n<=1000000):
  Calls Tryz.prog 14 #[.slice a n ca,.slice b m cb] w fun e w'=>e=.returned (.bool (decide (l=k)))/\Below w.heap.size w w':=by
 by_cases hnm:n=m
 ·subst hnm
  rcases Nat.eq_zero_or_pos n with h | h
  ·subst h
   have hd:decide (l=k)=true:=by
    rw [List.eq_nil_of_length_eq_zero hA.1,List.eq_nil_of_length_eq_zero hB.1];rfl
   rw [hd];clear hA hB hd;go_enter Tryz.func14,Tryz.ntmps14;go_wp2;refine wp_loop_rounds 1 ?_;rw [rounds_succ];go_wp2;go_ret;exact ⟨rfl,Below.refl _ _⟩
  ·obtain ⟨ba,oa,rfl,la,hca⟩:=hA.2.1 h
   obtain ⟨bb,ob,rfl,lb,hcb⟩:=hB.2.1 h;have HC:Aside (Flat w (some ⟨ba,oa,none⟩) n l/\Flat w (some ⟨bb,ob,none⟩) n k/\n<=1000000):=⟨hA,hB,hn⟩
   clear hA hB hca hcb la lb hn;obtain ⟨D,hD⟩:∃ D,D=decide (l=k):=⟨_,rfl⟩
   rw [<-hD];have HD:Aside (D=decide (l=k)):=hD;clear hD;go_enter Tryz.func14,Tryz.ntmps14;go_wp2;go_loopg [5] n (fun g s5 wx=>∃ i:Nat,s5=.int .i64 i/\Aside (i+g=n/\Below w.heap.size w wx/\∀ j,j<i->HSH l j=HSH k j))
   case atStart=>exact ⟨0,rfl,by omega,Below.refl _ _,fun j hj=>by omega⟩
   case round=>
    obtain ⟨i,rfl,A⟩:=hrel;cases gk with
    | zero=>
      obtain rfl:i=n:=by have:=A.out.1;omega
      have hlt:¬ (i:Int)<(i:Int):=by omega
      have hd:Aside (D=true):=by
       show D=true;rw [HD.out,decide_eq_true_iff];exact zgv HC.out.1.1 HC.out.2.1.1 A.out.2.2
      clear HD HC;go_wp2;go_ret;exact ⟨by rw [hd.out];rfl,A.out.2.1⟩
    | succ g=>
      obtain ⟨hig,hbel,hbef⟩:=A.out;have hlt:(i:Int)<(n:Int):=by omega
      have r1:=(HC.out.1.below hbel).at (show i<n by omega)
      have r2:=(HC.out.2.1.below hbel).at (show i<n by omega)
      have l1:=z1x HC.out.1.1 (show i<n by omega);have l2:=z1x HC.out.2.1.1 (show i<n by omega);have E1:Aside (wrap64 ((i:Int)+1)=((i+1:Nat):Int)):=by have:=HC.out.2.2;show wrap64 ((i:Int)+1)=((i+1:Nat):Int);unfold wrap64;omega
      by_cases he:HSH l i=HSH k i
      ·have B:Aside (i+1+g=n/\∀ j,j<i+1->HSH l j=HSH k j):=⟨by omega,fun j hj=>by
              by_cases e:j=i
              ·rw [e];exact he
              ·exact hbef j (by omega)⟩
       have hdf:(!decide (HSH l i=HSH k i))=false:=by rw [he];simp
       have Z:Aside (Below w.heap.size w wr):=hbel;clear he hig hbel hbef A HD HC;generalize HSH l i=H at *
       generalize HSH k i=K at *
       go_upto_region 6 with fail
       refine z5t _ _ _ _ _ _ _ _ _ _ _ _ _ _ _ _ _ _ _ _ _ _ _ _ w ba oa n ca bb ob n cb i H K l1 l2 hlt hlt ⟨r1,r2,Z.out⟩ (fun _ _ _ _ _ h=>h) ?_;rintro w1 ⟨_,_,q3⟩;rw [hdf];clear r1 r2 l1 l2 hdf;have Z2:Aside (Below w.heap.size w w1):=q3;clear q3 Z;have e1:=E1.out;go_wp2;go_roundg g
       case measure=>exact Nat.lt_succ_self _
       case rel=>exact ⟨i+1,by first | rfl | (rw [E1.out]),B.out.1,Z2.out,B.out.2⟩
      ·have hd:Aside (D=false):=by
              show D=false;rw [HD.out,decide_eq_false_iff_not];intro e;rw [e] at he;exact he rfl
       have hdf:(!decide (HSH l i=HSH k i))=true:=by simp [he]
       have Z:Aside (Below w.heap.size w wr):=hbel;clear he hig hbel hbef A HD HC E1;generalize HSH l i=H at *
       generalize HSH k i=K at *
       go_upto_region 6 with fail
       refine z5t _ _ _ _ _ _ _ _ _ _ _ _ _ _ _ _ _ _ _ _ _ _ _ _ w ba oa n ca bb ob n cb i H K l1 l2 hlt hlt ⟨r1,r2,Z.out⟩ (fun _ _ _ _ _ h=>h) ?_;rintro w1 ⟨_,_,q3⟩;rw [hdf];clear r1 r2 l1 l2 hdf;have Z2:Aside (Below w.heap.size w w1):=q3;clear q3 Z;go_wp2;go_ret;exact ⟨by rw [hd.out];rfl,Z2.out⟩
 ·have hne:¬ (n:Int)=(m:Int):=by omega
  have hd:decide (l=k)=false:=by
   rw [decide_eq_false_iff_not];intro e;rw [e] at hA;have:=hA.1.symm.trans hB.1;omega
  rw [hd];clear hA hB hd;go_enter Tryz.func14,Tryz.ntmps14;go_wp2;go_ret;exact ⟨rfl,Below.refl _ _⟩
theorem z6y {w:World} {B n:Nat} {v:Value} {xs:List Value} (h:w.ownsRow B 35 32 v n xs):∃ a c,v=.slice a n c/\n<=c/\(0<n->∃ g,a=some ⟨g,0,none⟩):=by
 rcases h.2 with ⟨rfl,h0⟩ | ⟨g,cap,cur,rfl,_,_,h1,_⟩
 ·subst h0
  exact ⟨none,0,rfl,Nat.le_refl _,fun h=>by omega⟩
 ·exact ⟨_,_,rfl,h1,fun _=>⟨g,rfl⟩⟩
theorem z5j {w w':World} {g o:Nat} {cs:List Value} (h:w.rangeAt g o cs) (hb:Below w.heap.size w w') (hg:g<w.heap.size):w'.rangeAt g o cs:=fun j v hv=>(hb.cell (p:=⟨g,o+j,none⟩) hg).trans (h j v hv)
theorem Flat.other {w:World} {b o n:Nat} {l:List Int} (h:Flat w (some ⟨b,o,none⟩) n l) {a:Addr} (ha:b≠a.block) (u:Value):Flat (w.setCell a u) (some ⟨b,o,none⟩) n l:=
 ⟨h.1,fun hn=>by
  obtain ⟨b',o',e,hl,hc⟩:=h.2.1 hn;cases e;exact ⟨b,o,rfl,Nat.lt_of_lt_of_le hl (KeepsWalks.setCell w a u).size,fun j hj=>(World.cell?_setCell_other w _ _ u (fun e=>ha (congrArg Addr.block e).symm)).trans (hc j hj)⟩,h.2.2⟩
theorem z25 {w:World} {B n:Nat} {a:Option Addr} {c:Nat} {l:List Int} (h:w.ownsRow B 35 32 (.slice a n c) n (z00 l)) (hr:∀ x∈l,0<=x/\x<=255):Flat w a n l:=by
 have hl:l.length=32*n:=by have:=h.1;simpa [z00,Nat.mul_comm] using this
 refine ⟨hl,fun hn=>?_,hr⟩;rcases h.2 with ⟨e,h0⟩ | ⟨g,cap,cur,e,_,hg,_⟩
 ·omega
 ·cases e
  refine ⟨g,0,rfl,(Array.getElem?_eq_some_iff.1 hg).1,fun j hj=>?_⟩;have:=h.cellAt j (by omega);rw [Nat.zero_add,this,z0y l j (by omega)]
theorem Bytes.take {w:World} {a:Option Addr} {n:Nat} {l:List Int} (h:Bytes w a n l) {m:Nat} (hm:m<=n):Bytes w a m (l.take m):=by
 refine ⟨by rw [List.length_take,h.1];omega,fun h0=>?_,fun x hx=>h.2.2 x (List.mem_of_mem_take hx)⟩;obtain ⟨b,o,e,hb,hc⟩:=h.2.1 (by omega);refine ⟨b,o,e,hb,fun i hi=>?_⟩;rw [hc i (by omega),List.getD_eq_getElem?_getD,List.getD_eq_getElem?_getD,List.getElem?_take,if_pos hi]
theorem z2b {w:World} {g:Nat} {l:List Int} {t:TypeId} (h:Has w g (z00 l).toArray t):w.rangeAt g 0 (z00 l):=fun j v hv=>by rw [Nat.zero_add,h.cell,List.getElem?_toArray];exact hv
def CAT (M:Nat->Nat->List Int) (ss:List (Nat × Nat)):List Int:=ss.flatMap fun s=>M s.1 s.2
theorem zfb {M:Nat->Nat->List Int} {ss:List (Nat × Nat)} {i h k:Nat} (hs:ss[i]?=some (h,k)):CAT M (ss.take (i+1))=CAT M (ss.take i) ++ M h k:=by
 rw [List.take_add_one,hs];simp [CAT]
theorem z3A {fn:Func} {p q:Tmp} {ty:TypeId} (h:fn.results=#[.cell p ty,.tmp q]) (tmps:Array Value) (w:World) (g:Nat) (t:TypeId) (cs:Array Value) (fr:Nat × Nat) (k:Nat) (el:TypeId) (v:Value)
  (hp:tmps.getD p undef=.pointer (some ⟨g,0,none⟩)) (hv:tmps.getD q undef=v) (hg:w.heap[g]?=some (.cells cs t fr))
  (hu:Tryz.prog.underlying ty=some (.array k el)) (hi:(Tryz.prog.info? ty).map (·.size)=some cs.size):
  (results fn tmps).run Tryz.prog w=.ok (.tuple #[.agg cs,v]) w:=by
 have hp':tmps[p]?.getD undef=.pointer (some ⟨g,0,none⟩):=by simpa using hp
 have hv':tmps[q]?.getD undef=v:=by simpa using hv
 simp [results,h,hp',hv',asAddr,run_loadVar_row w g t ty cs fr (.array k el) hg hu rfl hi]
def z57 (xs:List Value):Nat->List Value->List Value
 | _,[]=>xs
 | o,v :: vs=>z57 (xs.set o v) (o+1) vs
theorem z5O:∀ (vs xs:List Value) (o:Nat),o+vs.length<=xs.length->z57 xs o vs=xs.take o ++ vs ++ xs.drop (o+vs.length)
 | [],xs,o,_=>by simp [z57]
 | v :: vs,xs,o,h=>by
   simp only [List.length_cons] at h;rw [z57,z5O vs (xs.set o v) (o+1) (by rw [List.length_set];omega)];rw [List.take_set,List.drop_set,if_pos (by omega)];rw [List.take_add_one,List.getElem?_eq_getElem (by omega)];simp only [Option.toList_some,List.length_cons];rw [List.set_append_right _ _ (by simp;omega)];simp only [List.length_take,show min o xs.length=o by omega,Nat.sub_self,List.set_cons_zero];simp [Nat.add_comm,Nat.add_left_comm]
theorem z5P {B:Nat} {t:TypeId} {s g n c:Nat}:∀ (vs xs:List Value) (o:Nat) (w:World),w.ownsRow B t s (.slice (some ⟨g,0,none⟩) n c) n xs->(w.setCells g o vs).ownsRow B t s (.slice (some ⟨g,0,none⟩) n c) n (z57 xs o vs)/\w.grownBy (w.setCells g o vs) (some g)
 | [],xs,o,w,h=>⟨h,z1v _ _⟩
 | v :: vs,xs,o,w,h=>by
   obtain ⟨h1,h2⟩:=h.stored o v;obtain ⟨h3,h4⟩:=z5P vs _ (o+1) _ h1;exact ⟨h3,z1F h2 h4 (.inl rfl)⟩
def MK (m:Int):List Int:=m :: List.replicate 31 0
theorem z2G (m:Int):(MK m).length=32:=rfl
theorem z6z (m:Int):(z00 (MK m)).toArray=#[.int .u8 m,.int .u8 0,.int .u8 0,.int .u8 0,.int .u8 0,.int .u8 0,.int .u8 0,.int .u8 0,.int .u8 0,.int .u8 0,.int .u8 0,.int .u8 0,.int .u8 0,.int .u8 0,.int .u8 0,.int .u8 0,.int .u8 0,.int .u8 0,.int .u8 0,.int .u8 0,.int .u8 0,.int .u8 0,.int .u8 0,.int .u8 0,.int .u8 0,.int .u8 0,.int .u8 0,.int .u8 0,.int .u8 0,.int .u8 0,.int .u8 0,.int .u8 0]:=rfl
def MKS (m:Int):Nat->List Int
 | 0=>[]
 | k+1=>MKS m k ++ MK m
theorem z1V (m:Int):∀ k,(MKS m k).length=32*k
 | 0=>rfl
 | k+1=>by rw [MKS,List.length_append,z1V m k,z2G];omega
theorem z77 (m:Int) (a:Nat):∀ b,MKS m (a+b)=MKS m a ++ MKS m b
 | 0=>by simp [MKS]
 | b+1=>by rw [<-Nat.add_assoc,MKS,MKS,z77 m a b,List.append_assoc]
theorem zhn (m:Int) {k i:Nat} (hi:i<k):HSH (MKS m k) i=MK m:=by
 unfold HSH;rw [show k=i+(1+(k - i - 1)) by omega,z77,z77,List.drop_left' (by rw [z1V]),List.take_left' (by rw [z1V])];rfl
def MKP (xs:List Value) (m:Int) (j:Nat):List Value:=z00 (MKS m j) ++ xs.drop (32*j)
theorem zfc (xs:List Value) (m:Int):MKP xs m 0=xs:=by simp [MKP,MKS,z00]
theorem zgw {xs:List Value} {n:Nat} (h:xs.length=32*n) (m:Int):MKP xs m n=z00 (MKS m n):=by
 unfold MKP;rw [List.drop_of_length_le (by omega),List.append_nil]
theorem z6A {xs:List Value} {n j:Nat} (h:xs.length=32*n) (hj:j<=n) (m:Int):(MKP xs m j).length=32*n:=by
 unfold MKP;rw [List.length_append,List.length_drop,z00,List.length_map,z1V];omega
theorem zfd {xs:List Value} {n j:Nat} (h:xs.length=32*n) (hj:j<n) (m:Int):z57 (MKP xs m j) (j*32) (z00 (MK m))=MKP xs m (j+1):=by
 have hl:(z00 (MK m)).length=32:=rfl;have hk:(z00 (MKS m j)).length=j*32:=by rw [z00,List.length_map,z1V];omega
 rw [z5O _ _ _ (by rw [z6A h (by omega),hl];omega),hl];unfold MKP;rw [List.take_left' hk,List.drop_append,List.drop_of_length_le (by omega),List.nil_append,hk,List.drop_drop,MKS,z0t];rw [show 32*j+(j*32+32 - j*32)=32*(j+1) by omega]
theorem zdA {o:Oper} {a:Act} {w w':World} {K:Act->World->Prop} {Q:Exit->Act->World->Prop} {v:Value} (hrun:(execOp a.eval o).run Tryz.prog w=.ok (.value v) w') (h:K (a.put o.dst v) w'):Oper.wp Tryz.prog o a w K Q:=by
 unfold Oper.wp;rw [hrun];exact h
structure RND where
 hash:List Int
 live:Bool
 pins:Nat
def ZRN:RND:=⟨ZND,false,0⟩
def NC (v:RND):List Value:=z00 v.hash ++ [.bool v.live,.int .i64 (v.pins:Int)]
def NCS (l:List RND):List Value:=l.flatMap NC
theorem z1s {v:RND} (h:v.hash.length=32):(NC v).length=34:=by simp [NC,z00,h]
theorem z4i {l:List RND} (h:∀ v∈l,v.hash.length=32):(NCS l).length=l.length*34:=by
 induction l with
 | nil=>rfl
 | cons x l ih=>
   unfold NCS at ih ⊢;rw [List.flatMap_cons,List.length_append,z1s (h x (List.mem_cons_self ..)),ih fun v hv=>h v (List.mem_cons_of_mem _ hv),List.length_cons];omega
theorem zho {l:List RND} (h:∀ v∈l,v.hash.length=32) {p:Nat} {v:RND} (hp:l[p]?=some v) {j:Nat} (hj:j<34):(NCS l)[p*34+j]?=(NC v)[j]?:=by
 induction l generalizing p with
 | nil=>simp at hp
 | cons x l ih=>
   have hx:=z1s (h x (List.mem_cons_self ..));have e:NCS (x :: l)=NC x ++ NCS l:=by simp [NCS]
   rw [e];cases p with
   | zero=>
     simp only [List.getElem?_cons_zero,Option.some.injEq] at hp;subst hp;rw [Nat.zero_mul,Nat.zero_add,List.getElem?_append_left (by omega)]
   | succ p=>
     rw [List.getElem?_append_right (by omega),hx,show (p+1)*34+j - 34=p*34+j by omega];exact ih (fun v hv=>h v (List.mem_cons_of_mem _ hv)) (by simpa using hp)
theorem zfe (l:List RND) (v:RND):NCS (l ++ [v])=NCS l ++ NC v:=by simp [NCS]
structure RSTORE (w:World) (B gs:Nat) (log:Int) (l:List RND) (a:Option Addr) (c:Nat):Prop where
 box:Has w gs #[.int .i64 log,.slice a l.length c] 86
 own:w.ownsRow B 83 34 (.slice a l.length c) l.length (NCS l)
 ne:(Value.slice a l.length c).ownBlock≠some gs
 is:∀ v∈l,v.hash.length=32
 few:l.length<=100000
 base:B<=gs
theorem z1t {w w':World} {B s n:Nat} {t:TypeId} {v:Value} {xs:List Value} (h:w.ownsRow B t s v n xs) (hk:∀ k,v.ownBlock=some k->w'.heap[k]?=w.heap[k]?):w'.ownsRow B t s v n xs:=by
 refine ⟨h.1,?_⟩;rcases h.2 with h | ⟨g,cap,cur,rfl,hb,hg,r⟩
 ·exact .inl h
 ·exact .inr ⟨g,cap,cur,rfl,hb,(hk g rfl).trans hg,r⟩
theorem RSTORE.keep {w w':World} {B gs:Nat} {log:Int} {l:List RND} {a:Option Addr} {c:Nat} (h:RSTORE w B gs log l a c) (hs:w'.heap[gs]?=w.heap[gs]?) (hk:∀ k,(Value.slice a l.length c).ownBlock=some k->w'.heap[k]?=w.heap[k]?):RSTORE w' B gs log l a c:=
 ⟨hs.trans h.box,z1t h.own hk,h.ne,h.is,h.few,h.base⟩
theorem RSTORE.below {w w':World} {B gs:Nat} {log:Int} {l:List RND} {a:Option Addr} {c:Nat} (h:RSTORE w B gs log l a c) (hb:Below w.heap.size w w'):RSTORE w' B gs log l a c:=
 h.keep (hb.block gs h.box.lt) fun k e=>hb.block k (h.own.lt k e).2
theorem z4j {w:World} {base:Nat} {t:TypeId} {s:Nat} {v:Value} {n:Nat} {xs:List Value} (h:w.ownsRow base t s v n xs):∃ ad cap,v=.slice ad n cap/\n<=cap/\(0<n->∃ g,ad=some ⟨g,0,none⟩/\base<=g/\g<w.heap.size):=by
 rcases h.2 with ⟨rfl,rfl⟩ | ⟨g,cap,cur,rfl,hb,hg,hc,_⟩
 ·exact ⟨none,0,rfl,Nat.le_refl _,fun h=>absurd h (Nat.lt_irrefl _)⟩
 ·exact ⟨_,cap,rfl,hc,fun _=>⟨g,rfl,hb,(Array.getElem?_eq_some_iff.1 hg).1⟩⟩
theorem RSTORE.node {w:World} {B gs:Nat} {log:Int} {l:List RND} {a:Option Addr} {c:Nat} (h:RSTORE w B gs log l a c) {p:Nat} {v:RND} (hp:l[p]?=some v):∃ gn,a=some ⟨gn,0,none⟩/\B<=gn/\gn<w.heap.size/\gn≠gs/\p<l.length/\w.rangeAt gn (p*34) (z00 v.hash)/\w.cell? ⟨gn,p*34+32,none⟩=some (.bool v.live)/\w.cell? ⟨gn,p*34+33,none⟩=some (.int .i64 (v.pins:Int)):=by
 have hlt:=(List.getElem?_eq_some_iff.1 hp).1;obtain ⟨ad,cap,e,_,hsh⟩:=z4j h.own;obtain ⟨gn,e2,h1,h2⟩:=hsh (by omega);simp only [Value.slice.injEq] at e;obtain ⟨rfl, -,rfl⟩:=e;subst e2;have hl:=z4i h.is;have hv:=h.is v (List.mem_of_getElem? hp)
 have cell:∀ j,j<34->w.cell? ⟨gn,p*34+j,none⟩=(NC v)[j]?:=fun j hj=>by
  rw [h.own.cellAt (p*34+j) (by omega),zho h.is hp hj]
 have hc:(z00 v.hash).length=32:=by simp [z00,hv]
 refine ⟨gn,rfl,h1,h2,fun e=>h.ne (by rw [e];rfl),hlt,fun j u hj=>?_,?_,?_⟩
 ·have hj32:=(List.getElem?_eq_some_iff.1 hj).1
  rw [cell j (by omega),NC,List.getElem?_append_left hj32];exact hj
 ·rw [cell 32 (by omega),NC,List.getElem?_append_right (by omega),hc]
  rfl
 ·rw [cell 33 (by omega),NC,List.getElem?_append_right (by omega),hc]
  rfl
theorem zaN {n:Nat} (h:n<=100000):IntKind.u64.wrap (n:Int)=(n:Int):=by rw [IntKind.wrap_u64];omega
theorem z7H {w:World} {B gs:Nat} {log:Int} {l:List RND} {a:Option Addr} {c:Nat} (h:RSTORE w B gs log l a c) (p:Nat):Calls Tryz.prog 37 #[.pointer (some ⟨gs,0,none⟩),.int .u64 (p:Int)] w fun e w'=>e=.returned (.bool (decide (p<l.length)))/\w=w':=by
 have x1:w.cell? ⟨gs,1,none⟩=some (.slice a l.length c):=h.box.cell 1;have eu:=zaN h.few;clear h;by_cases hp:p<l.length
 ·rw [decide_eq_true hp]
  have i1:(p:Int)<(l.length:Int):=by omega
  generalize l.length=n at *
  clear hp;go_enter Tryz.func37,Tryz.ntmps37;go_wp2;go_ret;exact ⟨rfl,rfl⟩
 ·rw [decide_eq_false hp]
  have i1:¬ (p:Int)<(l.length:Int):=by omega
  generalize l.length=n at *
  clear hp;go_enter Tryz.func37,Tryz.ntmps37;go_wp2;go_ret;exact ⟨rfl,rfl⟩
def RGOT (l:List RND) (p:Nat):Int × List Int:=match l[p]? with
 | none=>(31,ZND)
 | some v=>if v.live then (0,v.hash) else (50,ZND)
theorem zgx {w:World} {B gs:Nat} {log:Int} {l:List RND} {a:Option Addr} {c:Nat} (h:RSTORE w B gs log l a c) (p:Nat):Calls Tryz.prog 41 #[.pointer (some ⟨gs,0,none⟩),.int .u64 (p:Int)] w fun e w'=>e=.returned (.tuple #[.agg (z00 (RGOT l p).2).toArray,.int .i64 (RGOT l p).1])/\Below w.heap.size w w':=by
 obtain ⟨W0,hW0⟩:∃ W0,w.alloc (.cells ZARR 35)=W0:=⟨_,rfl⟩
 have hb0:Below w.heap.size w W0:=by rw [<-hW0];exact (Below.refl _ _).alloc (Nat.le_refl _) _
 have kz:Has W0 w.heap.size (z00 ZND).toArray 35:=by rw [<-hW0,zgu];exact Has.new _ _ _
 have h0:=h.below hb0;have ct:=z7H h0 p;have R0:Aside (Below w.heap.size w W0/\Has W0 w.heap.size (z00 ZND).toArray 35):=⟨hb0,kz⟩
 have x1:W0.cell? ⟨gs,1,none⟩=some (.slice a l.length c):=h0.box.cell 1;have hq:=fun (v:RND) (hv:l[p]?=some v)=>h0.node hv;have hI:=h.is;have hW0':w.alloc (.cells #[.int .u8 0,.int .u8 0,.int .u8 0,.int .u8 0,.int .u8 0,.int .u8 0,.int .u8 0,.int .u8 0,.int .u8 0,.int .u8 0,.int .u8 0,.int .u8 0,.int .u8 0,.int .u8 0,.int .u8 0,.int .u8 0,.int .u8 0,.int .u8 0,.int .u8 0,.int .u8 0,.int .u8 0,.int .u8 0,.int .u8 0,.int .u8 0,.int .u8 0,.int .u8 0,.int .u8 0,.int .u8 0,.int .u8 0,.int .u8 0,.int .u8 0,.int .u8 0] 35)=W0:=hW0;generalize hbz:w.heap.size=bz at *
 clear h h0 hb0 hW0;unfold RGOT;cases hp:l[p]? with
 | none=>
   have hge:¬ p<l.length:=fun h=>by rw [List.getElem?_eq_getElem h] at hp;cases hp
   rw [decide_eq_false hge] at ct;clear hq hge hp hI;go_enter Tryz.func41,Tryz.ntmps41;go_upto_region 1 with fail
   clear hW0' hbz;go_wp2_with fail
   refine ct.mono ?_;rintro e w1 ⟨rfl,rfl⟩;clear ct x1;go_wp2_with (rw [show (#[.int .u8 0,.int .u8 0,.int .u8 0,.int .u8 0,.int .u8 0,.int .u8 0,.int .u8 0,.int .u8 0,.int .u8 0,.int .u8 0,.int .u8 0,.int .u8 0,.int .u8 0,.int .u8 0,.int .u8 0,.int .u8 0,.int .u8 0,.int .u8 0,.int .u8 0,.int .u8 0,.int .u8 0,.int .u8 0,.int .u8 0,.int .u8 0,.int .u8 0,.int .u8 0,.int .u8 0,.int .u8 0,.int .u8 0,.int .u8 0,.int .u8 0,.int .u8 0]:Array Value)=(z00 ZND).toArray from rfl];refine wpList_store_row rfl 35 (.tmp 4) (.tmp 10) rfl _ _ rfl rfl 35 _ kz (z0W rfl) rfl (z1r ZND) ?_)
   refine bodyPost_ret (v:=.tuple #[.agg (z00 ZND).toArray,.int .i64 31]) (z3A rfl _ _ bz 35 _ (0,0) _ _ _ rfl rfl (Has.row kz _) Tryz.underlying35 (z0W rfl)) rfl ⟨rfl,z0d R0.out.1 (Nat.le_refl _) _⟩
 | some v=>
   obtain ⟨gn,rfl,_,_,_,hlt,hrg,hlv,_⟩:=hq v hp;have hl32:=hI v (List.mem_of_getElem? hp);rw [decide_eq_true hlt] at ct;have i1:(p:Int)<(l.length:Int):=by omega
   clear hp hI hlt hq;generalize l.length=n at *
   obtain ⟨hash,live,pins⟩:=v;dsimp only at *
   cases live with
   | true=>
     rw [if_pos rfl];go_enter Tryz.func41,Tryz.ntmps41;go_upto_region 1 with fail
     clear hW0' hbz;go_wp2_with fail
     refine ct.mono ?_;rintro e w1 ⟨rfl,rfl⟩;clear ct
     go_wp2_with (first
      | (refine wpList_load_mid rfl 35 (.tmp 27) rfl gn (p*34) rfl (z00 hash) _ hrg Tryz.underlying35 rfl (z0v hl32) ?_)
      | (refine wpList_store_row rfl 35 (.tmp 4) (.tmp 28) rfl _ _ rfl rfl 35 _ kz (z0W hl32) (by simp [z00,hl32,ZND]) (z1r hash) ?_)
      | fail)
     refine bodyPost_ret (v:=.tuple #[.agg (z00 hash).toArray,.int .i64 0]) (z3A rfl _ _ bz 35 _ (0,0) _ _ _ rfl rfl (Has.row kz _) Tryz.underlying35 (z0W hl32)) rfl ⟨rfl,z0d R0.out.1 (Nat.le_refl _) _⟩
   | false=>
     rw [if_neg (by decide)];go_enter Tryz.func41,Tryz.ntmps41;go_upto_region 1 with fail
     clear hW0' hbz;go_wp2_with fail
     refine ct.mono ?_;rintro e w1 ⟨rfl,rfl⟩;clear ct;go_wp2_with (rw [show (#[.int .u8 0,.int .u8 0,.int .u8 0,.int .u8 0,.int .u8 0,.int .u8 0,.int .u8 0,.int .u8 0,.int .u8 0,.int .u8 0,.int .u8 0,.int .u8 0,.int .u8 0,.int .u8 0,.int .u8 0,.int .u8 0,.int .u8 0,.int .u8 0,.int .u8 0,.int .u8 0,.int .u8 0,.int .u8 0,.int .u8 0,.int .u8 0,.int .u8 0,.int .u8 0,.int .u8 0,.int .u8 0,.int .u8 0,.int .u8 0,.int .u8 0,.int .u8 0]:Array Value)=(z00 ZND).toArray from rfl];refine wpList_store_row rfl 35 (.tmp 4) (.tmp 20) rfl _ _ rfl rfl 35 _ kz (z0W rfl) rfl (z1r ZND) ?_)
     refine bodyPost_ret (v:=.tuple #[.agg (z00 ZND).toArray,.int .i64 50]) (z3A rfl _ _ bz 35 _ (0,0) _ _ _ rfl rfl (Has.row kz _) Tryz.underlying35 (z0W rfl)) rfl ⟨rfl,z0d R0.out.1 (Nat.le_refl _) _⟩
theorem zaO {x:RND} (hx:x.hash.length=32):∀ {l:List RND},(∀ v∈l,v.hash.length=32)->∀ {p:Nat},p<l.length->NCS (l.set p x)=(NCS l).take (p*34) ++ NC x ++ (NCS l).drop (p*34+34)
 | [],_,p,hp=>by simp at hp
 | y :: l,h,p,hp=>by
   have hy:=z1s (h y (List.mem_cons_self ..));have e:∀ (z:RND) (m:List RND),NCS (z :: m)=NC z ++ NCS m:=fun z m=>by simp [NCS]
   cases p with
   | zero=>rw [List.set_cons_zero,e,e,Nat.zero_mul,List.take_zero,List.nil_append,Nat.zero_add,List.drop_left' hy]
   | succ p=>
     have ih:=zaO hx (l:=l) (fun v hv=>h v (List.mem_cons_of_mem _ hv)) (p:=p) (by simpa using hp)
     have t1:(NC y ++ NCS l).take ((p+1)*34)=NC y ++ (NCS l).take (p*34):=by
      rw [List.take_append,List.take_of_length_le (l:=NC y) (by omega),hy,show (p+1)*34 - 34=p*34 by omega]
     have t2:(NC y ++ NCS l).drop ((p+1)*34+34)=(NCS l).drop (p*34+34):=by
      rw [List.drop_append,List.drop_of_length_le (l:=NC y) (by omega),hy,List.nil_append,show (p+1)*34+34 - 34=p*34+34 by omega]
     rw [List.set_cons_succ,e,e,t1,t2,ih,List.append_assoc,List.append_assoc,List.append_assoc]
def ZNC:Array Value:=(NC ZRN).toArray
theorem zdB:(Tryz.prog.info? 83).map (·.size)=some 34:=by kernel_rfl
def RDRP (l:List RND) (p:Nat):Int:=match l[p]? with
 | none=>31
 | some v=>if v.pins=0 then 0 else 51
theorem RSTORE.laid {w:World} {B gs:Nat} {log:Int} {l:List RND} {gn c p:Nat} {x:RND} (h:RSTORE w B gs log l (some ⟨gn,0,none⟩) c) (hx:x.hash.length=32) (hp:p<l.length):RSTORE (w.setCells gn (p*34) (NC x)) B gs log (l.set p x) (some ⟨gn,0,none⟩) c/\w.grownBy (w.setCells gn (p*34) (NC x)) (some gn):=by
 obtain ⟨h1,h2⟩:=z5P (NC x) (NCS l) (p*34) w h.own;have hne:gn≠gs:=fun e=>h.ne (by rw [e];rfl);rw [z5O _ _ _ (by rw [z1s hx,z4i h.is];omega),z1s hx,<-zaO hx h.is hp] at h1;refine ⟨⟨?_,by rw [List.length_set];exact h1,by rw [List.length_set];exact h.ne,fun v hv=>?_,by rw [List.length_set];exact h.few,h.base⟩,h2⟩
 ·rw [List.length_set]
  exact (h2.block gs h.box.lt (fun e=>hne (by simpa using e.symm))).trans h.box
 ·rcases List.mem_or_eq_of_mem_set hv with hv | rfl
  ·exact h.is v hv
  ·exact hx
theorem RSTORE.there {w:World} {B gs:Nat} {log:Int} {l:List RND} {gn c p:Nat} (h:RSTORE w B gs log l (some ⟨gn,0,none⟩) c) (hp:p<l.length):w.there gn (p*34) 34:=fun j hj=>by
 have hl:=z4i h.is;rcases h.own.2 with ⟨e,_⟩ | ⟨g',cap',cur,e,_,hg,hc,_,hs,ht⟩
 ·cases e
 ·simp only [Value.slice.injEq,Option.some.injEq,Addr.mk.injEq,true_and,and_true] at e
  obtain ⟨rfl,rfl⟩:=e;have hjc:p*34+j<cur.size:=by rw [hs];omega
  exact ⟨by simp [World.cell?,hg,hjc],by simp [World.frozen?,hg]⟩
theorem z8X:ZNC.size=34:=by kernel_rfl
theorem zgy:ZNC.all (·.oneCell')=true:=by kernel_rfl
theorem zbY:Tryz.prog.built 83 []=some ZNC:=by kernel_rfl
theorem zbZ {ops:Array Oper} {rest:List Oper} {o:Oper} {a:Act} {w:World} {Q:Exit->Act->World->Prop} (hg:o.guard=none) (ho:o.op=.build 83 #[]) (h:wpList Tryz.prog ops Q rest (a.put o.dst (.agg ZNC)) w):wpList Tryz.prog ops Q (o :: rest) a w:=by
 have e:Tryz.prog.built 83 ((#[]:Array (Nat × Operand)).map fun (i,x)=>(i,a.eval x)).toList=some ZNC:=by simp [zbY]
 refine wpList_build hg 83 _ ho (by rw [e];rfl) ?_;rw [e];exact h
theorem zff {w:World} {B gs:Nat} {log:Int} {l:List RND} {a:Option Addr} {c:Nat} (h:RSTORE w B gs log l a c) (p:Nat):Calls Tryz.prog 10 #[.pointer (some ⟨gs,0,none⟩),.int .u64 (p:Int)] w fun e w'=>e=.returned (.int .i64 (RDRP l p))/\RSTORE w' B gs log (if RDRP l p=0 then l.set p ZRN else l) a c/\w.grownBy w' (Value.slice a l.length c).ownBlock:=by
 have ct:=z7H h p;have x1:w.cell? ⟨gs,1,none⟩=some (.slice a l.length c):=h.box.cell 1;have H:Aside (RSTORE w B gs log l a c):=h;cases hp:l[p]? with
 | none=>
   have hR:RDRP l p=31:=by unfold RDRP;rw [hp]
   rw [hR,if_neg (by decide)];have hge:¬ p<l.length:=fun h=>by rw [List.getElem?_eq_getElem h] at hp;cases hp
   rw [decide_eq_false hge] at ct;clear h hge hp x1 hR;go_enter Tryz.func10,Tryz.ntmps10;go_wp2_with fail
   refine ct.mono ?_;rintro e w1 ⟨rfl,rfl⟩;clear ct;go_wp2;go_ret;exact ⟨rfl,H.out,z1v _ _⟩
 | some v=>
   obtain ⟨gn,rfl,_,_,_,hlt,_,_,hpn⟩:=h.node hp;rw [decide_eq_true hlt] at ct;have i1:(p:Int)<(l.length:Int):=by omega
   have HL:Aside (p<l.length):=hlt;have hth:=h.there hlt;clear h hlt;by_cases h0:v.pins=0
   ·have hR:RDRP l p=0:=by unfold RDRP;rw [hp];exact if_pos h0
    clear hp;rw [h0] at hpn;rw [hR,if_pos rfl];have e0:((0:Nat):Int)=0:=rfl;rw [e0] at hpn;have Z:Aside (RSTORE (w.setCells gn (p*34) (NC ZRN)) B gs log (l.set p ZRN) (some ⟨gn,0,none⟩) c/\w.grownBy (w.setCells gn (p*34) (NC ZRN)) (some gn)):=H.out.laid rfl HL.out;clear H h0 e0 hR;generalize hn:l.length=n at *
    go_enter Tryz.func10,Tryz.ntmps10;go_wp2_with fail
    refine ct.mono ?_;rintro e w1 ⟨rfl,rfl⟩;clear ct
    go_wp2_with (first
     | (refine zbZ rfl rfl ?_)
     | (refine wpList_store_mid rfl 83 (.tmp 24) (.tmp 23) rfl gn (p*34) ZNC rfl rfl (by rw [z8X];exact hth) (by rw [zdB,z8X]) zgy ?_)
     | fail)
    rw [show ZNC.toList=NC ZRN from rfl];generalize w.setCells gn (p*34) (NC ZRN)=w2 at *
    go_wp2;go_ret;exact ⟨rfl,Z.out.1,Z.out.2⟩
   ·have hR:RDRP l p=51:=by unfold RDRP;rw [hp];exact if_neg h0
    rw [hR,if_neg (by decide)];clear hp hR;have hgt:(0:Int)<(v.pins:Int):=by omega
    generalize v.pins=k at *
    clear h0;generalize hn:l.length=n at *
    go_enter Tryz.func10,Tryz.ntmps10;go_wp2_with fail
    refine ct.mono ?_;rintro e w1 ⟨rfl,rfl⟩;clear ct;go_wp2;go_ret;exact ⟨rfl,H.out,z1v _ _⟩
theorem zgz {P:Program} {o:Oper} {a:Act} {w:World} {K K':Act->World->Prop} {Q Q':Exit->Act->World->Prop} (h:∀ a w,K a w->K' a w) (hq:∀ c a w,Q (.panic c) a w->Q' (.panic c) a w) (hl:LetsOut Q->LetsOut Q') (hh:o.wp P a w K Q):o.wp P a w K' Q':=by
 unfold Oper.wp at *
 generalize (execOp a.eval o).run P w=r at *
 cases r with
 | ok n w'=>
   cases n <;> simp only [Oper.upon] at hh ⊢ <;>
    first
     | exact h _ _ hh
     | exact Calls.mono hh (fun e w'' he=>by cases e <;> first | exact h _ _ he | exact hq _ _ _ he | exact hl he)
     | exact Rows.mono hh (fun _ _ he=>h _ _ he)
 | halt x w'=>cases x <;> simp only [Oper.upon] at hh ⊢ <;> first | exact hq _ _ _ hh | exact hh
theorem z1o {P:Program} {ops:Array Oper} {o:Oper} {a:Act} {w:World} {K:Act->World->Prop} {Q:Exit->Act->World->Prop} {E:Prop} (hw:Region.wanted o (yielded ops a.tmps)=true)
  (h:wpList P ops (fun e a w=>e=Exit.normal/\K a w) [o] a w):if Region.wanted o (yielded ops a.tmps)=true then Oper.wp P o a w K Q else E:=by
 rw [if_pos hw];unfold wpList at h;rw [if_pos hw] at h;rcases h with h | ⟨_,a',w',h',_⟩
 ·exact zgz (fun a w h=>by unfold wpList at h;exact h.2) (fun c a w h=>by cases h.1) (fun h=>by obtain ⟨_,_,h,_⟩:=h;cases h) h
 ·cases h'
theorem z0u {ops:Array Oper} {o:Oper} {a:Act} {w w':World} {K:Act->World->Prop} {Q:Exit->Act->World->Prop} {E:Prop} {v:Value} (hw:Region.wanted o (yielded ops a.tmps)=true)
  (hrun:(execOp a.eval o).run Tryz.prog w=.ok (.value v) w') (h:K (a.put o.dst v) w'):if Region.wanted o (yielded ops a.tmps)=true then Oper.wp Tryz.prog o a w K Q else E:=by
 rw [if_pos hw];unfold Oper.wp;rw [hrun];exact h
end Go.Proofs.YthmnailmbgondaaGreatDoor
namespace Go.Proofs.YthmnailmbgondaaGreatDoor
theorem zgA (l:List Int) (h:l.length=32):∃ f:Nat->Int,l=(List.range 32).map f:=by
 refine ⟨fun i=>l.getD i 0,List.ext_getElem? fun i=>?_⟩;by_cases hi:i<32
 ·simp [hi,h]
 ·rw [List.getElem?_eq_none (by omega),List.getElem?_eq_none (by simp;omega)]
end Go.Proofs.YthmnailmbgondaaGreatDoor
