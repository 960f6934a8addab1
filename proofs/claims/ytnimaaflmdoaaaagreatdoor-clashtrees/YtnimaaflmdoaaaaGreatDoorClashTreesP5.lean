/- ClashTrees: part 5. -/
import Derived.Deep.MidRow
import Derived.Deep.CutRange
import Derived.Great.BuildSlice
import Derived.ChangeKeysEq
import Derived.Test.YtnimaaflmdoaaaaGreatDoorClashTreesP4
set_option maxHeartbeats 1000000
namespace Go.Proofs.YtnimaaflmdoaaaaGreatDoor
open Go.RowKit
def RefAt (p:Int) (h k:Nat) (ok:Bool):Prop:=∀ w,Calls Tryz.prog 183 #[.int .u64 p] w fun e w'=>e=.returned (.tuple #[SPOT h k,.bool ok])/\Below w.heap.size w w'
theorem RefAt.node {h k:Nat} (hN:Node h k):RefAt ((PLC h k:Nat):Int) h k true:=fun w=>zbk h k hN w
theorem RefAt.out {p:Int} (hp:9223372036854775807<=p):RefAt p 0 0 false:=fun w=>z9w p hp w
theorem zcZ {w:World} {base g n cap:Nat} {l:List Nat} (h:w.ownsRow base 24 1 (.slice (some ⟨g,0,none⟩) n cap) n (UCELLS l)) (i:Nat) (hi:i<l.length):w.cell? ⟨g,i,none⟩=some (.int .u64 (l.getD i 0:Nat)):=by
 have hlen:l.length=n:=by have:=h.1;simpa [UCELLS] using this
 rw [h.cellAt i (by omega)];unfold UCELLS;rw [List.getElem?_map,List.getD_eq_getElem?_getD,List.getElem?_eq_getElem hi];rfl
def Nums (w:World) (v:Value) (l:List Nat):Prop:=∃ a cap,v=.slice a l.length cap/\(0<l.length->∃ g,a=some ⟨g,0,none⟩/\g<w.heap.size/\∀ (j:Nat),j<l.length->w.cell? ⟨g,j,none⟩=some (.int .u64 ((l.getD j 0:Nat):Int)))
theorem Nums.below {w w':World} {v:Value} {l:List Nat} {B:Nat} (h:Nums w v l) (hb:Below B w w') (hB:w.heap.size<=B):Nums w' v l:=by
 obtain ⟨a,cap,rfl,h⟩:=h;refine ⟨a,cap,rfl,fun h0=>?_⟩;obtain ⟨g,e,hg,hc⟩:=h h0;exact ⟨g,e,Nat.lt_of_lt_of_le hg hb.size,fun j hj=>(hb.cell (p:=⟨g,j,none⟩) (Nat.lt_of_lt_of_le hg hB)).trans (hc j hj)⟩
theorem zeS {w:World} {base:Nat} {v:Value} {l:List Nat} (h:w.ownsRow base 24 1 v l.length (UCELLS l)):Nums w v l:=by
 rcases h.2 with ⟨rfl,h0⟩ | ⟨g,cap,cur,rfl,hb,hg,r⟩
 ·rw [List.length_eq_zero_iff] at h0
  subst h0;exact ⟨none,0,rfl,fun h=>absurd h (by simp)⟩
 ·exact ⟨_,cap,rfl,fun h0=>⟨g,rfl,(Array.getElem?_eq_some_iff.1 hg).1,fun j hj=>zcZ h j hj⟩⟩
structure Four (w:World) (B:Nat) (K:Nat->Prop) (v:Nat->Value) (n:Nat->Nat) (xs:Nat->List Value):Prop where
 row:∀ x,x<4->w.ownsRow B 24 1 (v x) (n x) (xs x)
 apart:∀ x y,x<4->y<4->x≠y->∀ g,(v x).ownBlock=some g->(v y).ownBlock≠some g
 off:∀ x,x<4->∀ g,(v x).ownBlock=some g->¬ K g
def UPD {α:Type} (f:Nat->α) (x:Nat) (a:α):Nat->α:=fun z=>if z=x then a else f z
theorem z1A {α:Type} (f:Nat->α) (x:Nat) (a:α):UPD f x a x=a:=by simp [UPD]
theorem z0D {α:Type} (f:Nat->α) {x z:Nat} (a:α) (h:z≠x):UPD f x a z=f z:=by simp [UPD,h]
theorem Four.alloc {w:World} {B:Nat} {K:Nat->Prop} {v:Nat->Value} {n:Nat->Nat} {xs:Nat->List Value} (h:Four w B K v n xs) (o:Obj):Four (w.alloc o) B K v n xs:=⟨fun x hx=>(h.row x hx).alloc o,h.apart,h.off⟩
theorem Four.more {w:World} {B:Nat} {K K':Nat->Prop} {v:Nat->Value} {n:Nat->Nat} {xs:Nat->List Value} (h:Four w B K v n xs) (hK:∀ g,g<w.heap.size->K' g->K g):Four w B K' v n xs:=
 ⟨h.row,h.apart,fun x hx g hg hk=>h.off x hx g hg (hK g ((h.row x hx).lt g hg).2 hk)⟩
theorem Four.below {w w':World} {B:Nat} {K:Nat->Prop} {v:Nat->Value} {n:Nat->Nat} {xs:Nat->List Value} (h:Four w B K v n xs) (hb:Below w.heap.size w w'):Four w' B K v n xs:=⟨fun x hx=>z1Q (h.row x hx) hb,h.apart,h.off⟩
theorem z2o (W:World) (b j:Nat) (v:Value):W.grownBy (W.setCell ⟨b,j,none⟩ v) (some b):=
 ⟨rfl,rfl,rfl,(KeepsWalks.setCell W _ v).size,fun k _ hk=>Below.heap_setCell _ _ _ k (fun e=>hk (by rw [e]))⟩
theorem Four.other {w:World} {B:Nat} {K:Nat->Prop} {v:Nat->Value} {n:Nat->Nat} {xs:Nat->List Value} (h:Four w B K v n xs) {b:Nat} (hb:K b) (j:Nat) (u:Value):Four (w.setCell ⟨b,j,none⟩ u) B K v n xs:=
 ⟨fun x hx=>(h.row x hx).kept (z2o w b j u) (.inr fun e=>h.off x hx b e hb),h.apart,h.off⟩
theorem Four.store {w:World} {B:Nat} {K:Nat->Prop} {v:Nat->Value} {n:Nat->Nat} {xs:Nat->List Value} (h:Four w B K v n xs) {x g m cap:Nat} (hx:x<4) (hv:v x=.slice (some ⟨g,0,none⟩) m cap) (j:Nat) (u:Value):
  Four (w.setCell ⟨g,j,none⟩ u) B K v n (UPD xs x ((xs x).set j u)):=by
 refine ⟨fun z hz=>?_,h.apart,h.off⟩;by_cases e:z=x
 ·subst e
  have hr:=h.row z hz;rw [hv] at hr ⊢
  have hm:m=n z:=by
   rcases hr.2 with ⟨e,_⟩ | ⟨_,_,_,e,_⟩
   ·simp at e
   ·simp at e
    omega
  subst hm;rw [z1A];exact (hr.stored j u).1
 ·rw [z0D xs _ e]
  refine (h.row z hz).kept (z2o w g j u) (.inr fun e2=>?_);exact h.apart x z hx hz (fun e3=>e e3.symm) g (by rw [hv];rfl) e2
theorem Four.app {w w':World} {B:Nat} {K:Nat->Prop} {v:Nat->Value} {n:Nat->Nat} {xs:Nat->List Value} (h:Four w B K v n xs) {x g cap:Nat} {u:Value} (hx:x<4) (hK:∀ k,K k->k<w.heap.size)
  (hown:w'.ownsRow B 24 1 (.slice (some ⟨g,0,none⟩) (n x+1) cap) (n x+1) (xs x ++ [u])) (hgrow:w.grownBy w' (v x).ownBlock) (hg:(v x).ownBlock=some g\/g=w.heap.size):
  Four w' B K (UPD v x (.slice (some ⟨g,0,none⟩) (n x+1) cap)) (UPD n x (n x+1)) (UPD xs x (xs x ++ [u])):=by
 refine ⟨fun z hz=>?_,fun y z hy hz hne k hk=>?_,fun z hz k hk=>?_⟩
 ·by_cases e:z=x
  ·subst e
   rw [z1A,z1A,z1A];exact hown
  ·rw [z0D v _ e,z0D n _ e,z0D xs _ e]
   refine (h.row z hz).kept hgrow ?_;cases hb:(v z).ownBlock with
   | none=>exact .inl rfl
   | some k=>exact .inr fun e2=>h.apart z x hz hx e k hb e2.symm
 ·by_cases ey:y=x
  ·subst ey
   rw [z1A] at hk;have hkg:g=k:=by simpa [Value.ownBlock] using hk
   subst hkg;rw [z0D v _ (fun e=>hne e.symm)];intro e2;rcases hg with hg | hg
   ·exact h.apart y z hx hz hne g hg e2
   ·have:=((h.row z hz).lt g e2).2
    omega
  ·rw [z0D v _ ey] at hk
   by_cases ez:z=x
   ·subst ez
    rw [z1A];intro e2;have hkg:g=k:=by simpa [Value.ownBlock] using e2
    subst hkg;rcases hg with hg | hg
    ·exact h.apart y z hy hz hne g hk hg
    ·have:=((h.row y hy).lt g hk).2
     omega
   ·rw [z0D v _ ez]
    exact h.apart y z hy hz hne k hk
 ·by_cases ez:z=x
  ·subst ez
   rw [z1A] at hk;have hkg:g=k:=by simpa [Value.ownBlock] using hk
   subst hkg;rcases hg with hg | hg
   ·exact h.off z hz g hg
   ·intro hkk
    have:=hK g hkk;omega
  ·rw [z0D v _ ez] at hk
   exact h.off z hz k hk
theorem z1S {w:World} {B n:Nat} {v:Value} {xs:List Value} (h:w.ownsRow B 24 1 v n xs):∃ a cap,v=.slice a n cap/\(0<n->∃ g,a=some ⟨g,0,none⟩/\g<w.heap.size/\B<=g):=by
 rcases h.2 with ⟨rfl,h0⟩ | ⟨g,cap,cur,rfl,hb,hg,r⟩
 ·subst h0
  exact ⟨none,0,rfl,fun h=>by omega⟩
 ·exact ⟨_,cap,rfl,fun _=>⟨g,rfl,(Array.getElem?_eq_some_iff.1 hg).1,hb⟩⟩
theorem zeT {ops:Array Oper} {rest:List Oper} {o:Oper} {a:Act} {Q:Exit->Act->World->Prop} (w:World) (hgd:o.guard=none) (s x:Operand)
   (ho:o.op=.call {callee:=.builtin .append,args:=#[s,x],argTypes:=#[95,95]})
   (base:Nat) (v:Value) (n:Nat) (xs:List Value) (hs:a.eval s=v) (hown:w.ownsRow base 24 1 v n xs)
   (b c:Nat) (y:Int) (hx:a.eval x=.slice (some ⟨b,0,none⟩) 1 c) (hc:w.cell? ⟨b,0,none⟩=some (.int .u64 y))
   (hb:n<=1000) (hbase:base<=w.heap.size)
   (h:∀ g cap w',w'.ownsRow base 24 1 (.slice (some ⟨g,0,none⟩) (n+1) cap) (n+1) (xs ++ [.int .u64 y])->w.grownBy w' v.ownBlock->(v.ownBlock=some g\/g=w.heap.size)->g<w'.heap.size->wpList Tryz.prog ops Q rest (a.put o.dst (.slice (some ⟨g,0,none⟩) (n+1) cap)) w'):wpList Tryz.prog ops Q (o :: rest) a w:=by
 obtain ⟨i,hi,hz,hs1,hby⟩:=info_parts z2G;refine wpList_append_lies w hgd s x 95 ho base 24 i (.int .u64 0) 1 8 Tryz.underlying95 hi hz hs1 hby rfl (by decide) v n xs hs hown ⟨b,0,none⟩ 1 c [.int .u64 y] hx rfl ?_ (fun u hu=>by simp at hu;subst hu;rfl) (by decide) (by simp only [maxLen];omega) (by omega) hbase w.heap.size rfl h;intro j u hj;cases j with
 | zero=>
   simp only [List.getElem?_cons_zero,Option.some.injEq] at hj;subst hj;exact hc
 | succ j=>simp at hj
theorem Has.grown {w w':World} {g:Nat} {c:Array Value} {t:TypeId} {row:Option Nat} (h:Has w g c t) (hg:w.grownBy w' row) (hne:row≠some g):Has w' g c t:=by
 obtain ⟨_,_,_,_,hk⟩:=hg;exact (hk g h.lt (fun e=>hne e.symm)).trans h
def Lie (w:World) (a:Option Addr) (l:List (Nat × Nat)):Prop:=0<l.length->∃ g o,a=some ⟨g,o,none⟩/\g<w.heap.size/\∀ (j h k:Nat),l[j]?=some (h,k)->w.cell? ⟨g,o+j*2,none⟩=some (.int .u8 (h:Int))/\w.cell? ⟨g,o+j*2+1,none⟩=some (.int .u64 (k:Int))
theorem Lie.below {w w':World} {a:Option Addr} {l:List (Nat × Nat)} (h:Lie w a l) (hb:Below w.heap.size w w'):Lie w' a l:=fun h0=>by
 obtain ⟨g,o,e,hg,hc⟩:=h h0;exact ⟨g,o,e,Nat.lt_of_lt_of_le hg hb.size,fun j x y he=>⟨(hb.cell (p:=⟨g,o+j*2,none⟩) hg).trans (hc j x y he).1,(hb.cell (p:=⟨g,o+j*2+1,none⟩) hg).trans (hc j x y he).2⟩⟩
theorem Tile.same {l:List (Nat × Nat)}:∀ {a b a' b':Nat},l≠[]->Tile a l b->Tile a' l b'->a=a'/\b=b':=by
 have key:∀ (l:List (Nat × Nat)) (a b b':Nat),Tile a l b->Tile a l b'->b=b':=by
  intro l;induction l with
  | nil=>intro a b b' h h';exact Eq.trans (Eq.symm h) h'
  | cons s l ih=>intro a b b' h h';exact ih _ _ _ h.2.2 h'.2.2
 intro a b a' b' h0 h h';cases l with
 | nil=>exact absurd rfl h0
 | cons s l=>exact ⟨h.2.1.symm.trans h'.2.1,key l _ _ _ h.2.2 h'.2.2⟩
theorem z6N {l:List (Nat × Nat)} {i h k:Nat} (e:l[i]?=some (h,k)):l=l.take i ++ (h,k) :: l.drop (i+1)/\l.take (i+1)=l.take i ++ [(h,k)]:=by
 obtain ⟨hi,e2⟩:=List.getElem?_eq_some_iff.1 e;refine ⟨?_,?_⟩
 ·rw [<-e2,List.getElem_cons_drop,List.take_append_drop]
 ·rw [List.take_add_one,e]
  rfl
theorem z9x (i n:Int) (hn:4611686018427387904<n) (w:World):Calls Tryz.prog 42 #[.int .u64 i,.int .u64 n] w fun e w'=>e=.returned (.tuple #[.slice none 0 0,.int .i64 30])/\w=w':=by
 go_enter Tryz.func42,Tryz.ntmps42;go_wp2;go_ret2;exact ⟨rfl,rfl⟩
theorem z8p (i n:Int) (hn:¬ 4611686018427387904<n) (hi:¬ i<n) (w:World):Calls Tryz.prog 42 #[.int .u64 i,.int .u64 n] w fun e w'=>e=.returned (.tuple #[.slice none 0 0,.int .i64 32])/\w=w':=by
 have c:=zeF i n (by omega);clear hi;go_enter Tryz.func42,Tryz.ntmps42;go_wp2_with fail
 refine (c _).mono ?_;rintro e w' ⟨rfl,rfl⟩;clear c;go_wp2;go_ret2;exact ⟨rfl,rfl⟩
theorem zd0 {w:World} {v:Value} {g gp:Nat} (hne:v.ownBlock≠some gp) (hgp:gp<w.heap.size) (hat:v.ownBlock=some g\/g=w.heap.size):some g≠some gp:=by
 intro e;have e:g=gp:=by simpa using e
 subst e;rcases hat with h | h
 ·exact hne h
 ·omega
def z0C (A P:List Nat) (K j:Nat):List Nat:=A ++ (P.take j).eraseIdx K
theorem zbl (A P:List Nat) (K:Nat):z0C A P K 0=A:=by simp [z0C]
theorem zd1 (A P:List Nat) (K:Nat):z0C A P K P.length=A ++ P.eraseIdx K:=by simp [z0C]
theorem z7i {P:List Nat} {j:Nat} (hj:j<P.length):P.take (j+1)=P.take j ++ [P.getD j 0]:=by
 rw [List.take_add_one,List.getD,List.getElem?_eq_getElem hj];rfl
theorem zbm (A P:List Nat) (K:Nat) (hK:K<P.length):z0C A P K (K+1)=z0C A P K K:=by
 unfold z0C;rw [z7i hK,z5Z,if_pos (by rw [List.length_take];omega)]
theorem zbn (A P:List Nat) (K j:Nat) (hj:j<P.length) (hK:j≠K):z0C A P K (j+1)=z0C A P K j ++ [P.getD j 0]:=by
 unfold z0C;rw [z7i hj,z5Z,if_neg (by rw [List.length_take];omega),List.append_assoc]
theorem z8q (A P:List Nat) (K j:Nat):(z0C A P K j).length<=A.length+P.length:=by
 unfold z0C;rw [List.length_append];have h1:=List.length_eraseIdx_le (P.take j) K;have h2:=List.length_take_le' j P;omega
theorem zd2 (i n:Nat) (hi:i<n) (hn:n<=4611686018427387904) (w:World) (hT:Tabled w) (h0:0<w.heap.size):Calls Tryz.prog 42 #[.int .u64 (i:Int),.int .u64 (n:Int)] w fun e w'=>
    ∃ v,e=.returned (.tuple #[v,.int .i64 0])/\w'.ownsRow w.heap.size 24 1 v (PLCS (PSP i n)).length (UCELLS (PLCS (PSP i n)))/\Below w.heap.size w w':=by
  have c1:=z6J i n hi hn w;have c2:=zg5 i n hi hn;have hd:¬ (4611686018427387904:Int)<(n:Int):=by omega
  have C3:Aside (∀ W,Below w.heap.size w W->Calls Tryz.prog 82 #[.int .u64 (n:Int)] W fun e w'=>∃ g cap,e=.returned (.slice (some ⟨g,0,none⟩) (PC n) cap)/\w'.ownsRow W.heap.size 24 1 (.slice (some ⟨g,0,none⟩) (PC n) cap) (PC n) (UCELLS (z1G n))/\Below W.heap.size W w'):=
    fun W h=>z5A n hn W (hT.below h0 h) (Nat.lt_of_lt_of_le h0 h.size)
  have hP:=z3c (n:=n) (by omega);have hP6:=z1E 64 n (by omega);have hR6:=(z0U hi hn).2.1;have hKl:=z8f hi hn;rw [zbh hn];have hWl:=zbc i (RISE i n);generalize WAY i (RISE i n)=A at *
  generalize z1G n=PK at *
  generalize RISE i n=R at *
  generalize KTH i n=K at *
  generalize PC n=P at *
  obtain ⟨X,hX⟩:∃ X,A ++ PK.eraseIdx K=X:=⟨_,rfl⟩
  rw [hX];obtain ⟨N,hN⟩:∃ N,X.length=N:=⟨_,rfl⟩
  rw [hN];have HA:Aside (PK.length=P/\P<=64/\R<=62/\K<P/\A.length=R):=⟨hP,hP6,hR6,hKl,hWl⟩
  have HX:Aside (z0C A PK K P=X/\X.length=N):=⟨by rw [<-hX,<-hP];exact zd1 _ _ _,hN⟩
  clear hX hN;clear hP hP6 hR6 hKl hWl hT h0 hi hn;go_enter Tryz.func42,Tryz.ntmps42;go_wp2_with fail
  refine c1.mono ?_;rintro e w1 ⟨g,cap,rfl,hown,hg,hb⟩;clear c1;have R1:Aside (w1.ownsRow w.heap.size 24 1 (.slice (some ⟨g,0,none⟩) R cap) R (UCELLS A)/\Below w.heap.size w w1/\g<w1.heap.size):=⟨hown,hb,hg⟩
  clear hown hg hb;go_wp2_with fail
  refine (c2 _).mono ?_;rintro e w' ⟨rfl,rfl⟩;clear c2;go_wp2_with fail
  refine (C3.out _ R1.out.2.1).mono ?_;rintro e w2 ⟨gp,capp,rfl,hrow,hb2⟩
  have R2:Aside (w2.ownsRow w.heap.size 24 1 (.slice (some ⟨g,0,none⟩) R cap) (z0C A PK K 0).length (UCELLS (z0C A PK K 0))/\Below w.heap.size w w2/\some g≠some gp/\w2.ownsRow w1.heap.size 24 1 (.slice (some ⟨gp,0,none⟩) P capp) P (UCELLS PK)):=by
    obtain ⟨a1,a2,a3⟩:=R1.out;have hgp:=hrow.lt gp rfl;refine ⟨?_,a2.trans (hb2.mono a2.size),fun e=>?_,hrow⟩
    · rw [zbl,HA.out.2.2.2.2]
      exact z1Q a1 hb2
    · have e:g=gp:=by simpa using e
      omega
  clear R1 hrow hb2 C3;go_wp2;go_loopg [6,31] P (fun q s6 s31 wx=>∃ j:Nat,s31=.int .i64 (j:Int)/\Aside (j+q=P/\wx.ownsRow w.heap.size 24 1 s6 (z0C A PK K j).length (UCELLS (z0C A PK K j))/\Below w.heap.size w wx/\s6.ownBlock≠some gp/\wx.ownsRow w1.heap.size 24 1 (.slice (some ⟨gp,0,none⟩) P capp) P (UCELLS PK)))
  case atStart=>exact ⟨0,rfl,by omega,R2.out.1,R2.out.2.1,R2.out.2.2.1,R2.out.2.2.2⟩
  case round=>
    obtain ⟨j,rfl,A1⟩:=hrel;clear R2;cases gk with
    | zero=>
      obtain ⟨hj,hown,hbel,hne,hrow⟩:=A1.out;obtain rfl:j=P:=by omega
      have hlt:¬ (j:Int)<(j:Int):=by omega
      have R:Aside (wr.ownsRow w.heap.size 24 1 u6 N (UCELLS X)/\Below w.heap.size w wr):=by
        rw [HX.out.1,HX.out.2] at hown;exact ⟨hown,hbel⟩
      clear hj hown hbel hne hrow A1 HA;go_wp2;go_ret2;exact ⟨_,rfl,R.out.1,R.out.2⟩
    | succ q=>
      obtain ⟨hj,hown,hbel,hne,hrow⟩:=A1.out;obtain ⟨a1,a2,a3,a4,a5⟩:=HA.out;have hlt:(j:Int)<(P:Int):=by omega
      have hc:wr.cell? ⟨gp,j,none⟩=some (.int .u64 ((PK.getD j 0:Nat):Int)):=by
        have hrow':=hrow;rw [<-a1] at hrow';exact zcZ hrow' j (by omega)
      have e1:wrap64 ((j:Int)+1)=((j+1:Nat):Int):=by unfold wrap64;omega
      by_cases hk:j=K
      · subst hk
        have R:Aside (j+1+q=P/\wr.ownsRow w.heap.size 24 1 u6 (z0C A PK j (j+1)).length (UCELLS (z0C A PK j (j+1)))/\Below w.heap.size w wr/\u6.ownBlock≠some gp/\wr.ownsRow w1.heap.size 24 1 (.slice (some ⟨gp,0,none⟩) P capp) P (UCELLS PK)):=⟨by omega,by rw [zbm _ _ _ (by omega)];exact hown,hbel,hne,hrow⟩
        clear hj hown hbel hne hrow a1 a2 a3 a4 a5 A1;generalize PK.getD j 0=y at hc;go_wp2;go_roundg q
        case measure=>omega
        case rel=>exact ⟨j+1,by first | rfl | (rw [e1]),R.out⟩
      · have hk':((j:Int) != (K:Int))=true:=by simp;omega
        have hnx:=zbn A PK K j (by omega) hk;have hll:=z8q A PK K j;generalize PK.getD j 0=y at *
        have R:Aside (j+1+q=P/\wr.ownsRow w.heap.size 24 1 u6 (z0C A PK K j).length (UCELLS (z0C A PK K j))/\Below w.heap.size w wr/\u6.ownBlock≠some gp/\wr.ownsRow w1.heap.size 24 1 (.slice (some ⟨gp,0,none⟩) P capp) P (UCELLS PK)/\z0C A PK K (j+1)=z0C A PK K j ++ [y]/\(z0C A PK K j).length<=1000):=⟨by omega,hown,hbel,hne,hrow,hnx,by omega⟩
        clear hj hown hbel hne hrow a1 a2 a3 a4 a5 A1 hnx hll;go_wp2_with (at_builtin;refine zeT _ rfl (.tmp 39) (.tmp 41) rfl w.heap.size u6 _ (UCELLS (z0C A PK K j)) rfl (R.out.2.1.alloc _) wr.heap.size 1 (y:Int) rfl (by rw [World.cell?_alloc_at _ _ _ _ rfl];rfl) R.out.2.2.2.2.2.2 (by have:=R.out.2.2.1.size;simp;omega) ?_;intro g' cap' w3 hown hgrow hat hg)
        have R3:Aside (j+1+q=P/\w3.ownsRow w.heap.size 24 1 (.slice (some ⟨g',0,none⟩) ((z0C A PK K j).length+1) cap') (z0C A PK K (j+1)).length (UCELLS (z0C A PK K (j+1)))/\Below w.heap.size w w3/\some g'≠some gp/\w3.ownsRow w1.heap.size 24 1 (.slice (some ⟨gp,0,none⟩) P capp) P (UCELLS PK)):=by
          obtain ⟨r1,r2,r3,r4,r5,r6,r7⟩:=R.out;have hgp:=r5.lt gp rfl;refine ⟨r1,?_,(r3.alloc r3.size _).grown hgrow (by have:=r3.size;simp;omega) (fun k e=>(r2.lt k e).1),zd0 r4 (by simp;omega) hat,(r5.alloc _).kept hgrow (.inr fun e=>r4 e.symm)⟩;rw [r6,z3H,List.length_append];exact hown
        clear R hown hgrow hat hg hc;go_wp2;go_roundg q
        case measure=>omega
        case rel=>exact ⟨j+1,by first | rfl | (rw [e1]),R3.out⟩
end Go.Proofs.YtnimaaflmdoaaaaGreatDoor
namespace Go.Proofs.YtnimaaflmdoaaaaGreatDoor
open Go.RowKit
set_option maxRecDepth 100000
def Flat (w:World) (a:Option Addr) (n:Nat) (l:List Int):Prop:=
 l.length=32*n/\(0<n->∃ b o,a=some ⟨b,o,none⟩/\b<w.heap.size/\∀ j,j<32*n->w.cell? ⟨b,o+j,none⟩=some (.int .u8 (l.getD j 0)))/\∀ x∈l,0<=x/\x<=255
theorem Flat.below {w w':World} {a:Option Addr} {n:Nat} {l:List Int} (h:Flat w a n l) (hb:Below w.heap.size w w'):Flat w' a n l:=
 ⟨h.1,fun hn=>by
  obtain ⟨b,o,e,hl,hc⟩:=h.2.1 hn;exact ⟨b,o,e,Nat.lt_of_lt_of_le hl hb.size,fun i hi=>(hb.cell (by exact hl)).trans (hc i hi)⟩,h.2.2⟩
def HSH (l:List Int) (i:Nat):List Int:=(l.drop (32*i)).take 32
theorem z0Y {l:List Int} {n i:Nat} (hl:l.length=32*n) (hi:i<n):(HSH l i).length=32:=by
 unfold HSH;rw [List.length_take,List.length_drop];omega
theorem zd3 {l:List Int} {i j:Nat} (hj:j<32):(HSH l i).getD j 0=l.getD (32*i+j) 0:=by
 unfold HSH;rw [List.getD_eq_getElem?_getD,List.getElem?_take,if_pos hj,List.getElem?_drop,List.getD_eq_getElem?_getD]
theorem zar {l:List Int} {i:Nat} {x:Int} (h:x∈HSH l i):x∈l:=List.mem_of_mem_drop (List.mem_of_mem_take h)
theorem z4d (l:List Int) (i:Nat):l.take (32*(i+1))=l.take (32*i) ++ HSH l i:=by
 unfold HSH;rw [show 32*(i+1)=32*i+32 by omega,List.take_add]
theorem z5h:(Tryz.prog.info? 23).map (·.size)=some 32:=by kernel_rfl
theorem z0a {h:List Int} (hl:h.length=32):(Tryz.prog.info? 23).map (·.size)=some (z00 h).length:=by
 rw [z5h,show (z00 h).length=32 by simp [z00,hl]]
theorem z07 {h:List Int} (hl:h.length=32):(Tryz.prog.info? 23).map (·.size)=some (z00 h).toArray.size:=by
 rw [z5h,show (z00 h).toArray.size=32 by simp [z00,hl]]
theorem z0p (h:List Int):(z00 h).toArray.all (·.oneCell')=true:=by
 rw [Array.all_eq_true_iff_forall_mem];intro v hv;exact z2n h v (by simpa using hv)
theorem Flat.at {w:World} {b o n:Nat} {l:List Int} {i:Nat} (h:Flat w (some ⟨b,o,none⟩) n l) (hi:i<n):w.rangeAt b (o+i*32) (z00 (HSH l i)):=by
 intro j v hv;obtain ⟨b',o',e,_,hc⟩:=h.2.1 (by omega);simp only [Option.some.injEq,Addr.mk.injEq] at e;obtain ⟨rfl,rfl,_⟩:=e
 have hj:j<32:=by
  have:=(List.getElem?_eq_some_iff.1 hv).1;rw [show (z00 (HSH l i)).length=32 by simp [z00,z0Y h.1 hi]] at this;exact this
 rw [z0N _ _ (by rw [z0Y h.1 hi];exact hj),zd3 hj] at hv;rw [show o+i*32+j=o+(32*i+j) by omega,hc _ (by omega)];exact hv
theorem zd4 (w:World) {h:List Int} (hl:h.length=32) (hr:∀ x∈h,0<=x/\x<=255) (t:TypeId):Bytes (w.alloc (.cells (z00 h).toArray t)) (some ⟨w.heap.size,0,none⟩) 32 h:=by
 refine ⟨hl,fun _=>⟨w.heap.size,0,rfl,by simp,fun i hi=>?_⟩,hr⟩;rw [Nat.zero_add,World.cell?_alloc_at _ _ _ _ rfl,List.getElem?_toArray,z0N h i (by omega)]
theorem zas (w:World) (x:Int):(w.alloc (.cells #[.int .u8 x] 5)).ownsRow w.heap.size 5 1 (.slice (some ⟨w.heap.size,0,none⟩) 1 1) 1 (z00 [x]):=
 World.ownsRow_lit w #[.int .u8 x] 1 (Nat.le_refl _) (by simp [maxLen]) rfl
theorem zg8 {w:World} {base n:Nat} {v:Value} {l:List Int} (h:w.ownsRow base 5 1 v n (z00 l)):l.length=n:=by
 have:=h.1;simpa [z00] using this
theorem zbo (k:Int) (X Y:Nat) (hX:X<2 ^ 64) (hY:Y<2 ^ 64) (a:Option Addr) (n c:Nat) (hn:n<=1000) (l:List Int) (w:World) (hF:Flat w a n l):
  Calls Tryz.prog 44 #[.int .u8 k,.int .u64 (X:Int),.int .u64 (Y:Int),.slice a n c] w fun e w'=>∃ v,e=.returned v/\w'.ownsRow w.heap.size 5 1 v (k :: (z0j X ++ z0j Y ++ l)).length (z00 (k :: (z0j X ++ z0j Y ++ l)))/\Below w.heap.size w w':=by
 have c1:=z8l X hX;have c2:=z8l Y hY;have hl1:=z0R X;have hl2:=z0R Y;have h91:=z3Q X;have h92:=z3Q Y;have hr1:=z2L hX;have hr2:=z2L hY;obtain ⟨L,hL⟩:∃ L,k :: (z0j X ++ z0j Y ++ l)=L:=⟨_,rfl⟩
 rw [hL];obtain ⟨N,hN⟩:∃ N,L.length=N:=⟨_,rfl⟩
 rw [hN];generalize z0j X=SX at *
 generalize z0j Y=SY at *
 have hn1:0<NTOP X+1:=by omega
 have hn2:0<NTOP Y+1:=by omega
 have hm1:NTOP X+1<=10:=by omega
 have hm2:NTOP Y+1<=10:=by omega
 clear h91 h92;generalize NTOP X+1=nx at *
 generalize NTOP Y+1=ny at *
 have HA:Aside (Flat w a n l/\n<=1000/\SX.length=nx/\SY.length=ny/\nx<=10/\ny<=10/\(∀ x∈SX,0<=x/\x<=255)/\(∀ x∈SY,0<=x/\x<=255)):=⟨hF,hn,hl1,hl2,hm1,hm2,hr1,hr2⟩
 have HL:Aside ([k] ++ SX ++ SY ++ l=L/\L.length=N):=⟨by rw [<-hL];simp,hN⟩
 clear hF hn hl1 hl2 hm1 hm2 hr1 hr2 hL hN hX hY;go_enter Tryz.func44,Tryz.ntmps44;go_wp2_with fail
 have R0:Aside ((w.alloc (.cells #[.int .u8 k] 5)).ownsRow w.heap.size 5 1 (.slice (some ⟨w.heap.size,0,none⟩) 1 1) 1 (z00 [k])/\Below w.heap.size w (w.alloc (.cells #[.int .u8 k] 5))):=⟨zas w k,(Below.refl _ _).alloc (Nat.le_refl _) _⟩
 generalize w.alloc (.cells #[.int .u8 k] 5)=w1 at *
 refine (c1 _).mono ?_;rintro e w2 ⟨g,cap,rfl,hown,hg,hb⟩;clear c1;have R1:Aside (w2.ownsRow w.heap.size 5 1 (.slice (some ⟨w.heap.size,0,none⟩) 1 1) 1 (z00 [k])/\Below w.heap.size w w2/\Bytes w2 (some ⟨g,0,none⟩) nx SX):=⟨z1Q R0.out.1 hb,R0.out.2.trans (hb.mono R0.out.2.size),z2V hown hg HA.out.2.2.2.2.2.2.1⟩
 clear hown hg hb R0;go_wp2_with (at_builtin;refine z24 _ rfl (.tmp 14) (.tmp 16) rfl w.heap.size _ 1 [k] rfl R1.out.1 g 0 nx cap SX rfl R1.out.2.2 hn1 (by have:=HA.out.2.2.2.2.1;omega) R1.out.2.1.size ?_;intro g3 cap3 w3 hown hgrow hg)
 have R2:Aside (w3.ownsRow w.heap.size 5 1 (.slice (some ⟨g3,0,none⟩) (1+nx) cap3) (1+nx) (z00 ([k] ++ SX))/\Below w.heap.size w w3):=⟨hown,R1.out.2.1.grown hgrow R1.out.2.1.size (fun k e=>(R1.out.1.lt k e).1)⟩
 clear hown hgrow hg R1;refine (c2 _).mono ?_;rintro e w4 ⟨g4,cap4,rfl,hown,hg,hb⟩;clear c2;have R3:Aside (w4.ownsRow w.heap.size 5 1 (.slice (some ⟨g3,0,none⟩) (1+nx) cap3) (1+nx) (z00 ([k] ++ SX))/\Below w.heap.size w w4/\Bytes w4 (some ⟨g4,0,none⟩) ny SY):=⟨z1Q R2.out.1 hb,R2.out.2.trans (hb.mono R2.out.2.size),z2V hown hg HA.out.2.2.2.2.2.2.2⟩
 clear hown hg hb R2;go_wp2_with (at_builtin;refine z24 _ rfl (.tmp 18) (.tmp 20) rfl w.heap.size _ (1+nx) ([k] ++ SX) rfl R3.out.1 g4 0 ny cap4 SY rfl R3.out.2.2 hn2 (by have:=HA.out.2.2.2.2;omega) R3.out.2.1.size ?_;intro g5 cap5 w5 hown hgrow hg)
 have R4:Aside (w5.ownsRow w.heap.size 5 1 (.slice (some ⟨g5,0,none⟩) (1+nx+ny) cap5) (1+nx+ny) (z00 ([k] ++ SX ++ SY))/\Below w.heap.size w w5):=⟨hown,R3.out.2.1.grown hgrow R3.out.2.1.size (fun k e=>(R3.out.1.lt k e).1)⟩
 clear hown hgrow hg R3
 have HP:Aside (1+nx+ny<=21):=by
  obtain ⟨_,_,_,_,h5,h6,_⟩:=HA.out;show 1+nx+ny<=21;omega
 generalize [k] ++ SX ++ SY=PRE at *
 generalize 1+nx+ny=np at *
 go_loopg [9,24] n (fun q s9 s24 wx=>∃ i:Nat,s24=.int .i64 (i:Int)/\Aside (i+q=n/\wx.ownsRow w.heap.size 5 1 s9 (np+32*i) (z00 (PRE ++ l.take (32*i)))/\Below w.heap.size w wx))
 case atStart=>exact ⟨0,rfl,by omega,by simpa using R4.out.1,R4.out.2⟩
 case round=>
  obtain ⟨i,rfl,A⟩:=hrel;clear R4;cases gk with
  | zero=>
    obtain ⟨hi,hown,hbel⟩:=A.out;obtain rfl:i=n:=by omega
    have hlt:¬ (i:Int)<(i:Int):=by omega
    have R:Aside (wr.ownsRow w.heap.size 5 1 u9 N (z00 L)/\Below w.heap.size w wr):=by
     rw [List.take_of_length_le (by have:=HA.out.1.1;omega),HL.out.1] at hown;have:=zg8 hown;rw [HL.out.2] at this;rw [<-this] at hown;exact ⟨hown,hbel⟩
    clear hi hown hbel A HA HL HP;go_wp2;go_ret;exact ⟨_,rfl,R.out.1,R.out.2⟩
  | succ q=>
    obtain ⟨hi,hown,hbel⟩:=A.out;obtain ⟨a1,a2,_⟩:=HA.out;have hlt:(i:Int)<(n:Int):=by omega
    obtain ⟨b,o,rfl,hbl,hc⟩:=a1.2.1 (by omega);have hat:=(a1.below hbel).at (show i<n by omega)
    have h32:=z0Y a1.1 (show i<n by omega);have hrr:∀ x∈HSH l i,0<=x/\x<=255:=fun x hx=>a1.2.2 x (zar hx);have hnx:=z4d l i;have e1:wrap64 ((i:Int)+1)=((i+1:Nat):Int):=by unfold wrap64;omega
    have R:Aside (i+1+q=n/\n<=1000/\np<=21/\wr.ownsRow w.heap.size 5 1 u9 (np+32*i) (z00 (PRE ++ l.take (32*i)))/\Below w.heap.size w wr/\(HSH l i).length=32/\(∀ x∈HSH l i,0<=x/\x<=255)/\PRE ++ l.take (32*(i+1))=PRE ++ l.take (32*i) ++ HSH l i):=⟨by omega,a2,HP.out,hown,hbel,h32,hrr,by rw [hnx,List.append_assoc]⟩
    generalize HSH l i=H at *
    clear hi hown hbel a1 a2 hbl hc hrr hnx A HA HL HP
    go_wp2_with (first
     | (refine wpList_load_mid rfl 23 (.tmp 26) rfl b (o+i*32) rfl (z00 H) _ hat Tryz.underlying23 rfl (z0a h32) ?_)
     | (refine wpList_store_row rfl 23 (.tmp 11) (.tmp 27) rfl _ _ rfl rfl 23 _ (Has.new wr _ _) (z07 h32) (by simp [z00,h32]) (z0p H) ?_;rw [World.setRow_alloc_new])
     | (at_builtin;refine z24 _ rfl (.tmp 28) (.tmp 29) rfl w.heap.size u9 (np+32*i) _ rfl (R.out.2.2.2.1.alloc _) wr.heap.size 0 32 32 H rfl (zd4 wr R.out.2.2.2.2.2.1 R.out.2.2.2.2.2.2.1 _) (by omega) (by have:=R.out;omega) (by have:=R.out.2.2.2.2.1.size;simp;omega) ?_;intro g6 cap6 w6 hown hgrow hg))
    have R2:Aside (i+1+q=n/\w6.ownsRow w.heap.size 5 1 (.slice (some ⟨g6,0,none⟩) (np+32*i+32) cap6) (np+32*(i+1)) (z00 (PRE ++ l.take (32*(i+1))))/\Below w.heap.size w w6):=by
     obtain ⟨r1,r2,r3,r4,r5,r6,r7,r8⟩:=R.out;refine ⟨r1,?_,(r5.alloc r5.size _).grown hgrow (by have:=r5.size;simp;omega) (fun k e=>(r4.lt k e).1)⟩;rw [r8,show np+32*(i+1)=np+32*i+32 by omega];exact hown
    clear hown hgrow hg R hat h32;go_wp2;go_roundg q
    case measure=>omega
    case rel=>exact ⟨i+1,by first | rfl | (rw [e1]),R2.out⟩
def PLA (i n:Nat):Int × List Nat:=if 4611686018427387904<n then (30,[]) else if n<=i then (32,[]) else (0,PLCS (PSP i n))
def PPA (m n:Nat):Int × List Nat:=if 4611686018427387904<n\/n<m then (30,[]) else (0,PLCS (PXS m n))
theorem z6O (i n:Nat):(PLA i n).2.length<=188:=by
 unfold PLA;split
 ·simp
 ·split
  ·simp
  ·have:=z6M (i:=i) (n:=n) (by omega) (by omega)
   simp only [z0P];omega
theorem zat (w:World):w.ownsRow w.heap.size 24 1 (.slice none 0 0) ([]:List Nat).length (UCELLS []):=World.ownsRow_nil _ _ _ _
theorem z3R (i n:Nat) (w:World) (hT:Tabled w) (h0:0<w.heap.size):Calls Tryz.prog 42 #[.int .u64 (i:Int),.int .u64 (n:Int)] w fun e w'=>
  ∃ v,e=.returned (.tuple #[v,.int .i64 (PLA i n).1])/\w'.ownsRow w.heap.size 24 1 v (PLA i n).2.length (UCELLS (PLA i n).2)/\Below w.heap.size w w':=by
 unfold PLA;split
 ·refine (z9x _ _ (by omega) w).mono ?_
  rintro e w' ⟨rfl,rfl⟩;exact ⟨_,rfl,zat w,Below.refl _ _⟩
 ·split
  ·refine (z8p _ _ (by omega) (by omega) w).mono ?_
   rintro e w' ⟨rfl,rfl⟩;exact ⟨_,rfl,zat w,Below.refl _ _⟩
  ·exact zd2 i n (by omega) (by omega) w hT h0
def ENCB (k E:Int) (P n X Y:Nat) (l:List Int):Int × List Int:=if E≠0 then (E,[]) else if n≠P then (70,[]) else (0,k :: (z0j X ++ z0j Y ++ l))
def ENC (S I n:Nat) (l:List Int):Int × List Int:=ENCB 77 (PLA I S).1 (PLA I S).2.length n S I l
theorem z60 (w:World) (b:Nat):w.ownsRow b 5 1 (.slice none 0 0) ([]:List Int).length (z00 []):=World.ownsRow_nil _ _ _ _
def ANSB (w:World) (A:Int × List Int) (e:Ending) (w':World):Prop:=∃ v,e=.returned (.tuple #[v,.int .i64 A.1])/\w'.ownsRow w.heap.size 5 1 v A.2.length (z00 A.2)/\Below w.heap.size w w'
theorem zbp (X Y E:Int) (a:Option Addr) (n c np:Nat) (P:List Nat) (L:List Int) (hnp:P.length=np) (w:World)
  (C1:Aside (∀ W,Below w.heap.size w W->Calls Tryz.prog 42 #[.int .u64 Y,.int .u64 X] W fun e w'=>∃ v,e=.returned (.tuple #[v,.int .i64 E])/\w'.ownsRow W.heap.size 24 1 v np (UCELLS P)/\Below W.heap.size W w'))
  (C2:Aside (∀ W,Below w.heap.size w W->Calls Tryz.prog 44 #[.int .u8 77,.int .u64 X,.int .u64 Y,.slice a n c] W fun e w'=>∃ v,e=.returned v/\w'.ownsRow W.heap.size 5 1 v L.length (z00 L)/\Below W.heap.size W w')):
  Calls Tryz.prog 20 #[.agg #[.int .u64 X,.int .u64 Y,.slice a n c]] w (ANSB w (if E≠0 then (E,[]) else if n≠np then (70,[]) else (0,L))):=by
 obtain ⟨A,hA⟩:∃ A,(if E≠0 then (E,[]) else if n≠np then (70,[]) else (0,L))=A:=⟨_,rfl⟩
 rw [hA];have HA:Aside ((if E≠0 then (E,[]) else if n≠np then (70,[]) else (0,L))=A):=hA;clear hA;obtain ⟨nl,hnl⟩:∃ nl,L.length=nl:=⟨_,rfl⟩
 rw [hnl] at C2;have HN:Aside (L.length=nl):=hnl;have HP:Aside (P.length=np):=hnp;clear hnl hnp;go_enter Tryz.func20,Tryz.ntmps20;go_wp2_with fail
 have hH:=Has.new w #[.int .u64 X,.int .u64 Y,.slice a n c] 49;have hB:Aside (Below w.heap.size w (w.alloc (.cells #[.int .u64 X,.int .u64 Y,.slice a n c] 49))):=(Below.refl _ _).alloc (Nat.le_refl _) _;refine (C1.out _ hB.out).mono ?_;rintro e w1 ⟨v,rfl,hrow,hb⟩;have hH:=hH.keep hb;have hz0:w1.cell? ⟨w.heap.size,0,none⟩=some (.int .u64 X):=hH.cell 0;have hz1:w1.cell? ⟨w.heap.size,1,none⟩=some (.int .u64 Y):=hH.cell 1;have hz2:w1.cell? ⟨w.heap.size,2,none⟩=some (.slice a n c):=hH.cell 2;have R:Aside (Below w.heap.size w w1):=hB.out.trans (hb.mono hB.out.size);obtain ⟨av,cv,rfl,_⟩:=z1S hrow;clear hrow hb hH hB C1;by_cases hE:E=0
 ·subst hE
  by_cases hn:n=np
  ·subst hn
   go_wp2_with fail
   refine (C2.out _ R.out).mono ?_;rintro e w2 ⟨v,rfl,hrow,hb⟩;have R2:Aside (w2.ownsRow w.heap.size 5 1 v nl (z00 L)/\Below w.heap.size w w2):=⟨z0W hrow R.out.size,R.out.trans (hb.mono R.out.size)⟩
   clear hrow hb C2 hz0 hz1 hz2 R;go_wp2;go_ret2;have e:(0,L)=A:=by have:=HA.out;simpa using this
   rw [<-e];refine ⟨v,rfl,?_,R2.out.2⟩;show w2.ownsRow w.heap.size 5 1 v L.length (z00 L);rw [HN.out];exact R2.out.1
  ·have hne:¬ (n:Int)=(np:Int):=by omega
   have HE:Aside (¬ n=np):=hn;clear C2 hn;go_wp2;go_ret2;have e:(70,[])=A:=by have:=HA.out;simpa [HE.out] using this
   rw [<-e];exact ⟨_,rfl,z60 _ _,R.out⟩
 ·have HE:Aside (¬ E=0):=hE
  have hne:((E:Int) != 0)=true:=by simp [hE]
  clear C2 hE;go_wp2;go_ret2;have e:(E,[])=A:=by have:=HA.out;simpa [HE.out] using this
  rw [<-e];exact ⟨_,rfl,z60 _ _,R.out⟩
theorem z7j (X Y:Nat) (hX:X<2 ^ 64) (hY:Y<2 ^ 64) (a:Option Addr) (n c:Nat) (hn:n<=1000) (l:List Int) (w:World) (hF:Flat w a n l) (hT:Tabled w) (h0:0<w.heap.size):
  Calls Tryz.prog 20 #[.agg #[.int .u64 (X:Int),.int .u64 (Y:Int),.slice a n c]] w fun e w'=>
  ∃ v,e=.returned (.tuple #[v,.int .i64 (ENC X Y n l).1])/\w'.ownsRow w.heap.size 5 1 v (ENC X Y n l).2.length (z00 (ENC X Y n l).2)/\Below w.heap.size w w':=by
 refine (zbp X Y (PLA Y X).1 a n c _ (PLA Y X).2 (77 :: (z0j X ++ z0j Y ++ l)) rfl w (fun W h=>z3R Y X W (hT.below h0 h) (Nat.lt_of_lt_of_le h0 h.size)) (fun W h=>zbo 77 X Y hX hY a n c hn l W (hF.below h))).mono ?_;rintro e w' h;exact h
end Go.Proofs.YtnimaaflmdoaaaaGreatDoor
namespace Go.Proofs.YtnimaaflmdoaaaaGreatDoor
open Go.RowKit
end Go.Proofs.YtnimaaflmdoaaaaGreatDoor
namespace Go.Proofs.YtnimaaflmdoaaaaGreatDoor
open Go.RowKit
set_option maxRecDepth 100000
theorem zbq {w w':World} {r:Option Nat} (h:w.grownBy w' r):w.heap.size<=w'.heap.size:=by
 obtain ⟨_,_,_,hs,_⟩:=h;exact hs
theorem z06 {ops:Array Oper} {o:Oper} {a:Act} {w w':World} {K:Act->World->Prop} {Q:Exit->Act->World->Prop} {E:Prop} {v:Value} (hg:o.guard=none)
  (hrun:(execOp a.eval o).run Tryz.prog w=.ok (.value v) w') (h:K (a.put o.dst v) w'):if Region.wanted o (yielded ops a.tmps)=true then Oper.wp Tryz.prog o a w K Q else E:=by
 have hw:Region.wanted o (yielded ops a.tmps)=true:=by simp [Region.wanted,hg]
 rw [if_pos hw];unfold Oper.wp;rw [hrun];exact h
theorem z0A {ops:Array Oper} {o:Oper} {a:Act} {w w':World} {K:Act->World->Prop} {Q:Exit->Act->World->Prop} {E:Prop} (hg:o.guard=none)
  (hrun:(execOp a.eval o).run Tryz.prog w=.ok .skip w') (h:K (a.put o.dst undef) w'):if Region.wanted o (yielded ops a.tmps)=true then Oper.wp Tryz.prog o a w K Q else E:=by
 have hw:Region.wanted o (yielded ops a.tmps)=true:=by simp [Region.wanted,hg]
 rw [if_pos hw];unfold Oper.wp;rw [hrun];exact h
theorem z1k {s:Sem Unit} {w w':World} (h:s.run Tryz.prog w=.ok () w'):(do s;pure Next.skip:Sem Next).run Tryz.prog w=.ok .skip w':=by
 simp [h]
theorem z1B {ops:Array Oper} {Q:Exit->Act->World->Prop} {md:Region.Mode} {S:World->Prop} {fuel:Nat} {listed:Array Bool} {a:Act} {w:World} {o:Oper} (i:Nat) (hr:Region.ready md ops listed=[i]) (ho:ops[i]?=some o)
  (h:∀ K':Act->World->Prop,Shut (∀ a w,S w->(S w->wpAnyH Tryz.prog md ops Q S fuel (listed.setIfInBounds i true) a w)->K' a w)->if Region.wanted o (yielded ops a.tmps)=true then Oper.wp Tryz.prog o a w K' Q else K' (a.put o.dst undef) w):wpAnyH Tryz.prog md ops Q S (fuel+1) listed a w:=
 wpAnyH_ready hr (by simp) (AllReadyH.cons ho h AllReadyH.nil)
theorem z08 {s:Sem Value} {w w':World} {v:Value} (h:s.run Tryz.prog w=.ok v w'):(do pure (Next.value (<-s)):Sem Next).run Tryz.prog w=.ok (.value v) w':=by
 simp [h,Result.andThen]
theorem z4N {w:World} {b o n c:Nat} {y:Value} {a:Option Addr} (h:w.cell? ⟨b,o,none⟩=some y) (hf:w.frozen? ⟨b,o,none⟩=false):(Instr.storeAt 42 (.pointer (some ⟨b,o,none⟩)) (.slice a n c)).run Tryz.prog w=.ok () (w.setCell ⟨b,o,none⟩ (.slice a n c)):=by go_simp
theorem z8r {w w':World} {B:Nat} {t:TypeId} {s:Nat} {v:Value} {n:Nat} {xs:List Value} (h:w.ownsRow B t s v n xs) (hk:∀ k,v.ownBlock=some k->w'.heap[k]?=w.heap[k]?):w'.ownsRow B t s v n xs:=by
 refine ⟨h.1,?_⟩;rcases h.2 with h | ⟨g,cap,cur,rfl,hb,hg,r⟩
 ·exact .inl h
 ·exact .inr ⟨g,cap,cur,rfl,hb,by rw [hk g rfl];exact hg,r⟩
def ZND:List Int:=List.replicate 32 0
abbrev ZARR:Array Value:=#[.int .u8 0,.int .u8 0,.int .u8 0,.int .u8 0,.int .u8 0,.int .u8 0,.int .u8 0,.int .u8 0,.int .u8 0,.int .u8 0,.int .u8 0,.int .u8 0,.int .u8 0,.int .u8 0,.int .u8 0,.int .u8 0,.int .u8 0,.int .u8 0,.int .u8 0,.int .u8 0,.int .u8 0,.int .u8 0,.int .u8 0,.int .u8 0,.int .u8 0,.int .u8 0,.int .u8 0,.int .u8 0,.int .u8 0,.int .u8 0,.int .u8 0,.int .u8 0]
theorem z3S:(z00 ZND).toArray=ZARR:=rfl
theorem z0x {fn:Func} {p q:Tmp} {ty:TypeId} (h:fn.results=#[.cell p ty,.tmp q]) (tmps:Array Value) (w:World) (g:Nat) (t:TypeId) (cs:Array Value) (fr:Nat × Nat) (k:Nat) (el:TypeId)
  (hp:tmps.getD p undef=.pointer (some ⟨g,0,none⟩)) (hg:w.heap[g]?=some (.cells cs t fr)) (v:Value) (hq:tmps.getD q undef=v)
  (hu:Tryz.prog.underlying ty=some (.array k el)) (hi:(Tryz.prog.info? ty).map (·.size)=some cs.size):
  (results fn tmps).run Tryz.prog w=.ok (.tuple #[.agg cs,v]) w:=by
 have hp':tmps[p]?.getD undef=.pointer (some ⟨g,0,none⟩):=by simpa using hp
 have hq':tmps[q]?.getD undef=v:=by simpa using hq
 simp [results,h,hp',hq',asAddr,run_loadVar_row w g t ty cs fr (.array k el) hg hu rfl hi]
theorem z4e:(Tryz.prog.info? 23).map (fun i=>(i.zero,i.size,i.bytes))=some (some (.agg ZARR),32,32):=by kernel_rfl
theorem z8s {ops:Array Oper} {rest:List Oper} {o:Oper} {a:Act} {Q:Exit->Act->World->Prop} (w:World) (hgd:o.guard=none) (s x:Operand)
  (ho:o.op=.call {callee:=.builtin .append,args:=#[s,x],argTypes:=#[42,42]})
  (base:Nat) (v:Value) (n:Nat) (xs:List Value) (hs:a.eval s=v) (hown:w.ownsRow base 23 32 v n xs)
  (b c:Nat) (y:List Int) (hl:y.length=32) (hx:a.eval x=.slice (some ⟨b,0,none⟩) 1 c) (hc:Has w b (z00 y).toArray 23)
  (hb:n<=1000) (hbase:base<=w.heap.size)
  (h:∀ g cap w',w'.ownsRow base 23 32 (.slice (some ⟨g,0,none⟩) (n+1) cap) (n+1) (xs ++ z00 y)->w.grownBy w' v.ownBlock->(v.ownBlock=some g\/g=w.heap.size)->g<w'.heap.size->wpList Tryz.prog ops Q rest (a.put o.dst (.slice (some ⟨g,0,none⟩) (n+1) cap)) w'):wpList Tryz.prog ops Q (o :: rest) a w:=by
 obtain ⟨i,hi,hz,hs1,hby⟩:=info_parts z4e;refine wpList_append_lies w hgd s x 42 ho base 23 i (.agg ZARR) 32 32 Tryz.underlying42 hi hz hs1 hby rfl (by decide) v n xs hs hown ⟨b,0,none⟩ 1 c (z00 y) hx (by rw [z00,List.length_map,hl]) ?_ (z2n y) (by decide) (by simp only [maxLen];omega) (by omega) hbase w.heap.size rfl h;intro j u hj;rw [z1w,Nat.zero_add,hc.cell,List.getElem?_toArray];exact hj
theorem z4O {ops:Array Oper} {rest:List Oper} {o:Oper} {a:Act} {Q:Exit->Act->World->Prop} (w:World) (hg:o.guard=none) (t e:TypeId) (x:Operand) (ho:o.op=.buildSlice t 1 #[(0,x)]) (C:Array Value) (hx:a.eval x=.agg C) (n:Nat) (z:Value) (by':Nat)
  (hu:Tryz.prog.underlying t=some (.slice e)) (hi:(Tryz.prog.info? e).map (fun i=>(i.zero,i.size,i.bytes))=some (some z,n,by')) (hC:C.size=n) (hz:z.cells.size=n) (hn:0<n) (hs:n<=1000)
  (h:wpList Tryz.prog ops Q rest (a.put o.dst (.slice (some ⟨w.heap.size,0,none⟩) 1 1)) (w.alloc (.cells C e))):wpList Tryz.prog ops Q (o :: rest) a w:=by
 obtain ⟨i,hie,hz',hs1,_⟩:=info_parts hi;refine wpList_buildSlice hg t e 1 _ ho C i z hu hie hz' (by rw [hs1];omega) (by rw [hs1];omega) ?_ h;have:=Great.fill_whole (s:=n) hn [.agg C] ((Array.range (1*i.size)).map (z.cells[· % z.cells.size]!)) (fun v hv=>by simp at hv;subst hv;exact hC) (by simp [hs1]);simp [Value.cells] at this;rw [hs1];simp [hx];rw [hs1] at this;exact this
theorem z5i (d:Nat) (h g:List Int) (hh:h.length=32) (hg:g.length=32) (w:World):∀ is:List Nat,(∀ i∈is,i<32)->(Op.eqItems (d+1) 5 1 (z00 h).toArray (z00 g).toArray is).run Tryz.prog w=.ok (is.all fun i=>h.getD i 0 == g.getD i 0) w
 | [],_=>by simp [Op.eqItems]
 | i :: is,hi=>by
   have hp:Tryz.prog.plainKey 5=true:=by kernel_rfl
   have hi32:i<32:=hi i (by simp);have h1:=run_part_plain (P:=Tryz.prog) w hp (show (z00 h).toArray[i]?=some (.int .u8 (h.getD i 0)) by rw [List.getElem?_toArray,z0N h i (by omega)]);have h2:=run_part_plain (P:=Tryz.prog) w hp (show (z00 g).toArray[i]?=some (.int .u8 (g.getD i 0)) by rw [List.getElem?_toArray,z0N g i (by omega)]);have h3:=run_equalIn_int (P:=Tryz.prog) w d 5 .u8 .u8 (h.getD i 0) (g.getD i 0) Tryz.underlying5;have ih:=z5i d h g hh hg w is (fun j hj=>hi j (by simp [hj]));rw [Op.eqItems,Nat.mul_one];simp only [Sem.run_bind,h1,h2,h3,Result.andThen_ok];by_cases e:h.getD i 0=g.getD i 0
   ·have e2:(h.getD i 0 == g.getD i 0)=true:=by simpa using e
    rw [List.all_cons,e2,Bool.true_and,if_neg (by simp)];exact ih
   ·have e2:(h.getD i 0 == g.getD i 0)=false:=by simpa using e
    rw [List.all_cons,e2];simp
theorem z9y (h g:List Int) (hh:h.length=32) (hg:g.length=32) (w:World):(Op.equalIn 10000 23 (.agg (z00 h).toArray) (.agg (z00 g).toArray)).run Tryz.prog w=.ok ((List.range 32).all fun i=>h.getD i 0 == g.getD i 0) w:=by
 obtain ⟨i8,hi,_⟩:=Option.map_eq_some_iff.1 z19;rw [run_equalIn_array (P:=Tryz.prog) w 9999 (z00 h).toArray (z00 g).toArray Tryz.underlying23 hi];have hc:Tryz.prog.cellsOf 5=1:=by kernel_rfl
 rw [hc];exact z5i 9998 h g hh hg w _ (fun i hi=>by simpa using hi)
theorem zd5 {h g:List Int} (hh:h.length=32) (hg:g.length=32):((List.range 32).all fun i=>h.getD i 0 == g.getD i 0)=decide (h=g):=by
 by_cases e:h=g
 ·subst e
  simp
 ·rw [decide_eq_false e,Bool.eq_false_iff]
  intro hx;rw [List.all_eq_true] at hx;apply e;apply List.ext_getElem (by omega);intro i h1 h2;have:=hx i (by simp;omega);simpa [List.getD,h1,h2] using this
theorem z1l {h g:List Int} (hh:h.length=32) (hg:g.length=32) (w:World):(Op.equalIn 10000 23 (.agg (z00 h).toArray) (.agg (z00 g).toArray)).run Tryz.prog w=.ok (decide (h=g)) w:=by
 rw [z9y h g hh hg,zd5 hh hg]
theorem zbr:(Tryz.prog.info? 23).map (fun i=>(i.size,i.bytes,i.zero.isSome))=some (32,32,true):=by kernel_rfl
theorem z4f (N:Nat) (hN:N<=1000) (w:World):∃ cur:Array Value,cur.size=N*32/\(Instr.makeSlice 42 (.int .i64 0) (.int .i64 (N:Int))).run Tryz.prog w=.ok (.slice (some ⟨w.heap.size,0,none⟩) 0 N) (w.alloc (.cells cur 23)):=by
 obtain ⟨i,hi,h⟩:=Option.map_eq_some_iff.1 zbr;simp only [Prod.mk.injEq] at h;obtain ⟨h1,h2,h3⟩:=h;obtain ⟨z,hz⟩:=Option.isSome_iff_exists.1 h3;have h:=run_make (P:=Tryz.prog) w 42 23 i z Tryz.underlying42 hi hz .i64 .i64 0 N (by omega) (by omega) (by rw [h2];omega) (by omega);refine ⟨madeCells z.cells (N*i.size),?_,?_⟩
 ·rw [size_madeCells,h1]
 ·simpa using h
end Go.Proofs.YtnimaaflmdoaaaaGreatDoor
namespace Go.Proofs.YtnimaaflmdoaaaaGreatDoor
open Go.RowKit Go.Maps
set_option maxRecDepth 100000
def RV (v:Value):Option (DataW Value × List MemPlace):=some (.held v,[])
theorem z0X (w:World):(zeroValue 23).run Tryz.prog w=.ok (.agg ZARR) w:=by kernel_rfl
def SMAP (w:World) (b n:Nat) (M:Nat->Nat->List Int):Prop:=∃ D:DataW Value,w.ownsMap Tryz.prog 110 RV b n D/\∀ h k,h<256->k<2 ^ 64->D.atKey (KL h k) (.held (.agg ZARR))=.held (.agg (z00 (M h k)).toArray)
def MPUT (M:Nat->Nat->List Int) (h k:Nat) (x:List Int):Nat->Nat->List Int:=fun h' k'=>if h'=h/\k'=k then x else M h' k'
theorem z56 (M:Nat->Nat->List Int) (h k:Nat) (x:List Int):MPUT M h k x h k=x:=by simp [MPUT]
theorem z2v (M:Nat->Nat->List Int) {h k h' k':Nat} (x:List Int) (e:¬ (h'=h/\k'=k)):MPUT M h k x h' k'=M h' k':=by unfold MPUT;rw [if_neg e]
theorem SMAP.made (w:World):SMAP (w.alloc (.map #[] 0)) w.heap.size 0 (fun _ _=>ZND):=⟨_,World.ownsMap_made w _ _ _,fun h k _ _=>by simp [DataW.atKey];rfl⟩
theorem SMAP.lt {w:World} {b n:Nat} {M:Nat->Nat->List Int} (h:SMAP w b n M):b<w.heap.size:=let ⟨_,h1,_⟩:=h;h1.lt
theorem SMAP.at {w w':World} {b n:Nat} {M:Nat->Nat->List Int} (h:SMAP w b n M) (hb:w'.heap[b]?=w.heap[b]?):SMAP w' b n M:=by
 obtain ⟨D,⟨es,clock,h1,r⟩,h2⟩:=h;exact ⟨D,⟨es,clock,hb.trans h1,r⟩,h2⟩
theorem SMAP.below {w w':World} {b n:Nat} {M:Nat->Nat->List Int} (h:SMAP w b n M) (hb:Below w.heap.size w w'):SMAP w' b n M:=h.at (hb.block b h.lt)
theorem SMAP.look {w:World} {b n:Nat} {M:Nat->Nat->List Int} (hM:SMAP w b n M) {h k:Nat} (hh:h<256) (hk:k<2 ^ 64):(Instr.lookup 143 (.map (some b)) (SPOT h k) false).run Tryz.prog w=.ok (.agg (z00 (M h k)).toArray) w:=by
 obtain ⟨D,h1,h2⟩:=hM;obtain ⟨v,ps,r1,r2⟩:=h1.lookup law Tryz.underlying143 (z0X w) (show RV (.agg ZARR)=some (.held (.agg ZARR),[]) from rfl) (z3P hh hk);rw [h2 h k hh hk] at r2
 have e:v=.agg (z00 (M h k)).toArray:=by
  simp only [RV,Option.some.injEq,Prod.mk.injEq,DataW.held.injEq] at r2;exact r2.1
 rw [r1,e]
theorem SMAP.store {w:World} {b n:Nat} {M:Nat->Nat->List Int} (hM:SMAP w b n M) (hn:n<=100000) {h k:Nat} (hh:h<256) (hk:k<2 ^ 64) (x:List Int):∃ w',(Instr.mapUpdate 143 (.map (some b)) (SPOT h k) (.agg (z00 x).toArray)).run Tryz.prog w=.ok () w'/\SMAP w' b (n+1) (MPUT M h k x)/\w.grownBy w' (some b):=by
 obtain ⟨D,h1,h2⟩:=hM;obtain ⟨w',r1,r2,r3⟩:=h1.update law Tryz.underlying143 (by unfold maxLen;omega) (z3P hh hk) (show RV (.agg (z00 x).toArray)=some (.held (.agg (z00 x).toArray),[]) from rfl);refine ⟨w',r1,⟨_,r2,fun h' k' hh' hk'=>?_⟩,r3⟩;have hkey:WideAt.IsKeyLit (KL h k):=law.key (z3P hh hk);by_cases e:KL h' k'=KL h k
 ·obtain ⟨rfl,rfl⟩:=zcL hh' hk' hh hk e
  rw [Maps.atKey_put_same h1.isMap hkey,z56]
 ·rw [Maps.atKey_put_other e,z2v _ _ (fun e2=>e (by rw [e2.1,e2.2])),h2 h' k' hh' hk']
end Go.Proofs.YtnimaaflmdoaaaaGreatDoor
