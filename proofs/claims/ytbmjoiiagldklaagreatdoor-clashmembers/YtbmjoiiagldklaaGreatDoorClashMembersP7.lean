/- Texts of ClashMembers, one behind the other: PosFour, CutCalls, CutHas, CutSpan, CutOver, ProofPlaces, ProofBytes, ProofEncode, CutRefSpan, ProofRefPlaces, ProofLists, RegionSteps, ProofCells. -/
import Derived.Deep.QuietTactic
import Derived.BigQuiet
import Derived.Deep.MidRow
import Derived.Test.YtbmjoiiagldklaaGreatDoorProg
import Derived.WalkKit
import Derived.WalkLawsBesides
import Derived.Deep.RegionHeld3
import Derived.Deep.CutRange
import Derived.Great.BuildSlice
import Derived.ChangeKeysEq
import Derived.Test.YtbmjoiiagldklaaGreatDoorClashMembersP4
import Derived.Test.YtbmjoiiagldklaaGreatDoorClashMembersP5
import Derived.Test.YtbmjoiiagldklaaGreatDoorClashMembersP6
namespace Go.Proofs.YtbmjoiiagldklaaGreatDoor
open Go.RowKit
def Nums (w:World) (v:Value) (l:List Nat):Prop:=∃ a cap,v=.slice a l.length cap∧(0<l.length→∃ g,a=some ⟨g,0,none⟩∧g<w.heap.size∧∀ (j:Nat),j<l.length→w.cell? ⟨g,j,none⟩=some (.int .u64 ((l.getD j 0:Nat):Int)))
theorem Nums.below {w w':World} {v:Value} {l:List Nat} {B:Nat} (h:Nums w v l) (hb:Below B w w') (hB:w.heap.size≤B):Nums w' v l:=by
  obtain ⟨a,cap,rfl,h⟩:=h
  refine ⟨a,cap,rfl,fun h0=>?_⟩
  obtain ⟨g,e,hg,hc⟩:=h h0
  exact ⟨g,e,Nat.lt_of_lt_of_le hg hb.size,fun j hj=>(hb.cell (p:=⟨g,j,none⟩) (Nat.lt_of_lt_of_le hg hB)).trans (hc j hj)⟩
structure Four (w:World) (B:Nat) (K:Nat→Prop) (v:Nat→Value) (n:Nat→Nat) (xs:Nat→List Value):Prop where
  row:∀ x,x<4→w.ownsRow B 24 1 (v x) (n x) (xs x)
  apart:∀ x y,x<4→y<4→x≠y→∀ g,(v x).ownBlock=some g→(v y).ownBlock≠some g
  off:∀ x,x<4→∀ g,(v x).ownBlock=some g→¬ K g
def UPD {α:Type} (f:Nat→α) (x:Nat) (a:α):Nat→α:=fun z=>if z=x then a else f z
theorem z1D {α:Type} (f:Nat→α) (x:Nat) (a:α):UPD f x a x=a:=by simp [UPD]
theorem z0M {α:Type} (f:Nat→α) {x z:Nat} (a:α) (h:z≠x):UPD f x a z=f z:=by simp [UPD,h]
theorem Four.alloc {w:World} {B:Nat} {K:Nat→Prop} {v:Nat→Value} {n:Nat→Nat} {xs:Nat→List Value} (h:Four w B K v n xs) (o:Obj):Four (w.alloc o) B K v n xs:=⟨fun x hx=>(h.row x hx).alloc o,h.apart,h.off⟩
theorem Four.below {w w':World} {B:Nat} {K:Nat→Prop} {v:Nat→Value} {n:Nat→Nat} {xs:Nat→List Value} (h:Four w B K v n xs) (hb:Below w.heap.size w w'):Four w' B K v n xs:=⟨fun x hx=>z1a (h.row x hx) hb,h.apart,h.off⟩
theorem z2R (W:World) (b j:Nat) (v:Value):W.grownBy (W.setCell ⟨b,j,none⟩ v) (some b):=
  ⟨rfl,rfl,rfl,(KeepsWalks.setCell W _ v).size,fun k _ hk=>Below.heap_setCell _ _ _ k (fun e=>hk (by rw [e]))⟩
theorem Four.other {w:World} {B:Nat} {K:Nat→Prop} {v:Nat→Value} {n:Nat→Nat} {xs:Nat→List Value} (h:Four w B K v n xs) {b:Nat} (hb:K b) (j:Nat) (u:Value):Four (w.setCell ⟨b,j,none⟩ u) B K v n xs:=
  ⟨fun x hx=>(h.row x hx).kept (z2R w b j u) (.inr fun e=>h.off x hx b e hb),h.apart,h.off⟩
theorem Four.store {w:World} {B:Nat} {K:Nat→Prop} {v:Nat→Value} {n:Nat→Nat} {xs:Nat→List Value} (h:Four w B K v n xs) {x g m cap:Nat} (hx:x<4) (hv:v x=.slice (some ⟨g,0,none⟩) m cap) (j:Nat) (u:Value):
    Four (w.setCell ⟨g,j,none⟩ u) B K v n (UPD xs x ((xs x).set j u)):=by
  refine ⟨fun z hz=>?_,h.apart,h.off⟩
  by_cases e:z=x
  · subst e
    have hr:=h.row z hz
    rw [hv] at hr ⊢
    have hm:m=n z:=by
      rcases hr.2 with ⟨e,_⟩ | ⟨_,_,_,e,_⟩
      · simp at e
      · simp at e
        omega
    subst hm
    rw [z1D]
    exact (hr.stored j u).1
  · rw [z0M xs _ e]
    refine (h.row z hz).kept (z2R w g j u) (.inr fun e2=>?_)
    exact h.apart x z hx hz (fun e3=>e e3.symm) g (by rw [hv];rfl) e2
theorem Four.app {w w':World} {B:Nat} {K:Nat→Prop} {v:Nat→Value} {n:Nat→Nat} {xs:Nat→List Value} (h:Four w B K v n xs) {x g cap:Nat} {u:Value} (hx:x<4) (hK:∀ k,K k→k<w.heap.size)
    (hown:w'.ownsRow B 24 1 (.slice (some ⟨g,0,none⟩) (n x+1) cap) (n x+1) (xs x ++ [u])) (hgrow:w.grownBy w' (v x).ownBlock) (hg:(v x).ownBlock=some g∨g=w.heap.size):
    Four w' B K (UPD v x (.slice (some ⟨g,0,none⟩) (n x+1) cap)) (UPD n x (n x+1)) (UPD xs x (xs x ++ [u])):=by
  refine ⟨fun z hz=>?_,fun y z hy hz hne k hk=>?_,fun z hz k hk=>?_⟩
  · by_cases e:z=x
    · subst e
      rw [z1D,z1D,z1D]
      exact hown
    · rw [z0M v _ e,z0M n _ e,z0M xs _ e]
      refine (h.row z hz).kept hgrow ?_
      cases hb:(v z).ownBlock with
      | none=>exact .inl rfl
      | some k=>exact .inr fun e2=>h.apart z x hz hx e k hb e2.symm
  · by_cases ey:y=x
    · subst ey
      rw [z1D] at hk
      have hkg:g=k:=by simpa [Value.ownBlock] using hk
      subst hkg
      rw [z0M v _ (fun e=>hne e.symm)]
      intro e2
      rcases hg with hg | hg
      · exact h.apart y z hx hz hne g hg e2
      · have:=((h.row z hz).lt g e2).2
        omega
    · rw [z0M v _ ey] at hk
      by_cases ez:z=x
      · subst ez
        rw [z1D]
        intro e2
        have hkg:g=k:=by simpa [Value.ownBlock] using e2
        subst hkg
        rcases hg with hg | hg
        · exact h.apart y z hy hz hne g hk hg
        · have:=((h.row y hy).lt g hk).2
          omega
      · rw [z0M v _ ez]
        exact h.apart y z hy hz hne k hk
  · by_cases ez:z=x
    · subst ez
      rw [z1D] at hk
      have hkg:g=k:=by simpa [Value.ownBlock] using hk
      subst hkg
      rcases hg with hg | hg
      · exact h.off z hz g hg
      · intro hkk
        have:=hK g hkk
        omega
    · rw [z0M v _ ez] at hk
      exact h.off z hz k hk
theorem z1v {w:World} {B n:Nat} {v:Value} {xs:List Value} (h:w.ownsRow B 24 1 v n xs):∃ a cap,v=.slice a n cap∧(0<n→∃ g,a=some ⟨g,0,none⟩∧g<w.heap.size∧B≤g):=by
  rcases h.2 with ⟨rfl,h0⟩ | ⟨g,cap,cur,rfl,hb,hg,r⟩
  · subst h0
    exact ⟨none,0,rfl,fun h=>by omega⟩
  · exact ⟨_,cap,rfl,fun _=>⟨g,rfl,(Array.getElem?_eq_some_iff.1 hg).1,hb⟩⟩
theorem za0 {ops:Array Oper} {rest:List Oper} {o:Oper} {a:Act} {Q:Exit→Act→World→Prop} (w:World) (hgd:o.guard=none) (s x:Operand)
    (ho:o.op=.call {callee:=.builtin .append,args:=#[s,x],argTypes:=#[95,95]})
    (base:Nat) (v:Value) (n:Nat) (xs:List Value) (hs:a.eval s=v) (hown:w.ownsRow base 24 1 v n xs)
    (b c:Nat) (y:Int) (hx:a.eval x=.slice (some ⟨b,0,none⟩) 1 c) (hc:w.cell? ⟨b,0,none⟩=some (.int .u64 y))
    (hb:n≤1000) (hbase:base≤w.heap.size)
    (h:∀ g cap w',w'.ownsRow base 24 1 (.slice (some ⟨g,0,none⟩) (n+1) cap) (n+1) (xs ++ [.int .u64 y])→w.grownBy w' v.ownBlock→(v.ownBlock=some g∨g=w.heap.size)→g<w'.heap.size→wpList Tryz.prog ops Q rest (a.put o.dst (.slice (some ⟨g,0,none⟩) (n+1) cap)) w'):wpList Tryz.prog ops Q (o :: rest) a w:=by
  obtain ⟨i,hi,hz,hs1,hby⟩:=info_parts z2d
  refine wpList_append_lies w hgd s x 95 ho base 24 i (.int .u64 0) 1 8 Tryz.underlying95 hi hz hs1 hby rfl (by decide) v n xs hs hown ⟨b,0,none⟩ 1 c [.int .u64 y] hx rfl ?_ (fun u hu=>by simp at hu;subst hu;rfl) (by decide) (by simp only [maxLen];omega) (by omega) hbase w.heap.size rfl h
  intro j u hj
  cases j with
  | zero=>
    simp only [List.getElem?_cons_zero,Option.some.injEq] at hj
    subst hj
    exact hc
  | succ j=>simp at hj
theorem Has.grown {w w':World} {g:Nat} {c:Array Value} {t:TypeId} {row:Option Nat} (h:Has w g c t) (hg:w.grownBy w' row) (hne:row≠some g):Has w' g c t:=by
  obtain ⟨_,_,_,_,hk⟩:=hg
  exact (hk g h.lt (fun e=>hne e.symm)).trans h
end Go.Proofs.YtbmjoiiagldklaaGreatDoor

namespace Go.Proofs.YtbmjoiiagldklaaGreatDoor
open Go.RowKit
end Go.Proofs.YtbmjoiiagldklaaGreatDoor

namespace Go.Proofs.YtbmjoiiagldklaaGreatDoor
open Go.RowKit
end Go.Proofs.YtbmjoiiagldklaaGreatDoor

namespace Go.Proofs.YtbmjoiiagldklaaGreatDoor
open Go.RowKit
end Go.Proofs.YtbmjoiiagldklaaGreatDoor

namespace Go.Proofs.YtbmjoiiagldklaaGreatDoor
open Go.RowKit
def Lie (w:World) (a:Option Addr) (l:List (Nat × Nat)):Prop:=0<l.length→∃ g o,a=some ⟨g,o,none⟩∧g<w.heap.size∧∀ (j h k:Nat),l[j]?=some (h,k)→w.cell? ⟨g,o+j*2,none⟩=some (.int .u8 (h:Int))∧w.cell? ⟨g,o+j*2+1,none⟩=some (.int .u64 (k:Int))
theorem Lie.below {w w':World} {a:Option Addr} {l:List (Nat × Nat)} (h:Lie w a l) (hb:Below w.heap.size w w'):Lie w' a l:=fun h0=>by
  obtain ⟨g,o,e,hg,hc⟩:=h h0
  exact ⟨g,o,e,Nat.lt_of_lt_of_le hg hb.size,fun j x y he=>⟨(hb.cell (p:=⟨g,o+j*2,none⟩) hg).trans (hc j x y he).1,(hb.cell (p:=⟨g,o+j*2+1,none⟩) hg).trans (hc j x y he).2⟩⟩
end Go.Proofs.YtbmjoiiagldklaaGreatDoor

namespace Go.Proofs.YtbmjoiiagldklaaGreatDoor
open Go.RowKit
theorem zbd (i n:Int) (hn:4611686018427387904<n) (w:World):Calls Tryz.prog 42 #[.int .u64 i,.int .u64 n] w fun e w'=>e=.returned (.tuple #[.slice none 0 0,.int .i64 30])∧w=w':=by
  go_enter Tryz.func42,Tryz.ntmps42
  go_wp2
  go_ret2
  exact ⟨rfl,rfl⟩
theorem za1 (i n:Int) (hn:¬ 4611686018427387904<n) (hi:¬ i<n) (w:World):Calls Tryz.prog 42 #[.int .u64 i,.int .u64 n] w fun e w'=>e=.returned (.tuple #[.slice none 0 0,.int .i64 32])∧w=w':=by
  have c:=zfW i n (by omega)
  clear hi
  go_enter Tryz.func42,Tryz.ntmps42
  go_wp2_with fail
  refine (c _).mono ?_
  rintro e w' ⟨rfl,rfl⟩
  clear c
  go_wp2
  go_ret2
  exact ⟨rfl,rfl⟩
theorem z8T {w:World} {v:Value} {g gp:Nat} (hne:v.ownBlock≠some gp) (hgp:gp<w.heap.size) (hat:v.ownBlock=some g∨g=w.heap.size):some g≠some gp:=by
  intro e
  have e:g=gp:=by simpa using e
  subst e
  rcases hat with h | h
  · exact hne h
  · omega
def z0s (A P:List Nat) (K j:Nat):List Nat:=A ++ (P.take j).eraseIdx K
theorem z7n (A P:List Nat) (K:Nat):z0s A P K 0=A:=by simp [z0s]
theorem z8U (A P:List Nat) (K:Nat):z0s A P K P.length=A ++ P.eraseIdx K:=by simp [z0s]
theorem z8V {P:List Nat} {j:Nat} (hj:j<P.length):P.take (j+1)=P.take j ++ [P.getD j 0]:=by
  rw [List.take_add_one,List.getD,List.getElem?_eq_getElem hj]
  rfl
theorem z7o (A P:List Nat) (K:Nat) (hK:K<P.length):z0s A P K (K+1)=z0s A P K K:=by
  unfold z0s
  rw [z8V hK,z7k,if_pos (by rw [List.length_take];omega)]
theorem z7p (A P:List Nat) (K j:Nat) (hj:j<P.length) (hK:j≠K):z0s A P K (j+1)=z0s A P K j ++ [P.getD j 0]:=by
  unfold z0s
  rw [z8V hj,z7k,if_neg (by rw [List.length_take];omega),List.append_assoc]
theorem z5K (A P:List Nat) (K j:Nat):(z0s A P K j).length≤A.length+P.length:=by
  unfold z0s
  rw [List.length_append]
  have h1:=List.length_eraseIdx_le (P.take j) K
  have h2:=List.length_take_le' j P
  omega
set_option maxHeartbeats 1000000 in
theorem zeu (i n:Nat) (hi:i<n) (hn:n≤4611686018427387904) (w:World) (hT:Tabled w) (h0:0<w.heap.size):Calls Tryz.prog 42 #[.int .u64 (i:Int),.int .u64 (n:Int)] w fun e w'=>
    ∃ v,e=.returned (.tuple #[v,.int .i64 0])∧w'.ownsRow w.heap.size 24 1 v (PLCS (PSP i n)).length (z0a (PLCS (PSP i n)))∧Below w.heap.size w w':=by
  have c1:=z87 i n hi hn w
  have c2:=zhe i n hi hn
  have hd:¬ (4611686018427387904:Int)<(n:Int):=by omega
  have C3:Aside (∀ W,Below w.heap.size w W→Calls Tryz.prog 82 #[.int .u64 (n:Int)] W fun e w'=>∃ g cap,e=.returned (.slice (some ⟨g,0,none⟩) (PC n) cap)∧w'.ownsRow W.heap.size 24 1 (.slice (some ⟨g,0,none⟩) (PC n) cap) (PC n) (z0a (z1s n))∧Below W.heap.size W w'):=
    fun W h=>z9S n hn W (hT.below h0 h) (Nat.lt_of_lt_of_le h0 h.size)
  have hP:=z2l (n:=n) (by omega)
  have hP6:=z0V 64 n (by omega)
  have hR6:=(z0K hi hn).2.1
  have hKl:=z2m hi hn
  rw [z7l hn]
  have hWl:=z7g i (RISE i n)
  generalize WAY i (RISE i n)=A at *
  generalize z1s n=PK at *
  generalize RISE i n=R at *
  generalize KTH i n=K at *
  generalize PC n=P at *
  obtain ⟨X,hX⟩:∃ X,A ++ PK.eraseIdx K=X:=⟨_,rfl⟩
  rw [hX]
  obtain ⟨N,hN⟩:∃ N,X.length=N:=⟨_,rfl⟩
  rw [hN]
  have HA:Aside (PK.length=P∧P≤64∧R≤62∧K<P∧A.length=R):=⟨hP,hP6,hR6,hKl,hWl⟩
  have HX:Aside (z0s A PK K P=X∧X.length=N):=⟨by rw [← hX,← hP];exact z8U _ _ _,hN⟩
  clear hX hN
  clear hP hP6 hR6 hKl hWl hT h0 hi hn
  go_enter Tryz.func42,Tryz.ntmps42
  go_wp2_with fail
  refine c1.mono ?_
  rintro e w1 ⟨g,cap,rfl,hown,hg,hb⟩
  clear c1
  have R1:Aside (w1.ownsRow w.heap.size 24 1 (.slice (some ⟨g,0,none⟩) R cap) R (z0a A)∧Below w.heap.size w w1∧g<w1.heap.size):=⟨hown,hb,hg⟩
  clear hown hg hb
  go_wp2_with fail
  refine (c2 _).mono ?_
  rintro e w' ⟨rfl,rfl⟩
  clear c2
  go_wp2_with fail
  refine (C3.out _ R1.out.2.1).mono ?_
  rintro e w2 ⟨gp,capp,rfl,hrow,hb2⟩
  have R2:Aside (w2.ownsRow w.heap.size 24 1 (.slice (some ⟨g,0,none⟩) R cap) (z0s A PK K 0).length (z0a (z0s A PK K 0))∧Below w.heap.size w w2∧some g≠some gp∧w2.ownsRow w1.heap.size 24 1 (.slice (some ⟨gp,0,none⟩) P capp) P (z0a PK)):=by
    obtain ⟨a1,a2,a3⟩:=R1.out
    have hgp:=hrow.lt gp rfl
    refine ⟨?_,a2.trans (hb2.mono a2.size),fun e=>?_,hrow⟩
    · rw [z7n,HA.out.2.2.2.2]
      exact z1a a1 hb2
    · have e:g=gp:=by simpa using e
      omega
  clear R1 hrow hb2 C3
  go_wp2
  go_loopg [6,31] P (fun q s6 s31 wx=>∃ j:Nat,s31=.int .i64 (j:Int)∧Aside (j+q=P∧wx.ownsRow w.heap.size 24 1 s6 (z0s A PK K j).length (z0a (z0s A PK K j))∧Below w.heap.size w wx∧s6.ownBlock≠some gp∧wx.ownsRow w1.heap.size 24 1 (.slice (some ⟨gp,0,none⟩) P capp) P (z0a PK)))
  case atStart=>exact ⟨0,rfl,by omega,R2.out.1,R2.out.2.1,R2.out.2.2.1,R2.out.2.2.2⟩
  case round=>
    obtain ⟨j,rfl,A1⟩:=hrel
    clear R2
    cases gk with
    | zero=>
      obtain ⟨hj,hown,hbel,hne,hrow⟩:=A1.out
      obtain rfl:j=P:=by omega
      have hlt:¬ (j:Int)<(j:Int):=by omega
      have R:Aside (wr.ownsRow w.heap.size 24 1 u6 N (z0a X)∧Below w.heap.size w wr):=by
        rw [HX.out.1,HX.out.2] at hown
        exact ⟨hown,hbel⟩
      clear hj hown hbel hne hrow A1 HA
      go_wp2
      go_ret2
      exact ⟨_,rfl,R.out.1,R.out.2⟩
    | succ q=>
      obtain ⟨hj,hown,hbel,hne,hrow⟩:=A1.out
      obtain ⟨a1,a2,a3,a4,a5⟩:=HA.out
      have hlt:(j:Int)<(P:Int):=by omega
      have hc:wr.cell? ⟨gp,j,none⟩=some (.int .u64 ((PK.getD j 0:Nat):Int)):=by
        have hrow':=hrow
        rw [← a1] at hrow'
        exact zet hrow' j (by omega)
      have e1:wrap64 ((j:Int)+1)=((j+1:Nat):Int):=by unfold wrap64;omega
      by_cases hk:j=K
      · subst hk
        have R:Aside (j+1+q=P∧wr.ownsRow w.heap.size 24 1 u6 (z0s A PK j (j+1)).length (z0a (z0s A PK j (j+1)))∧Below w.heap.size w wr∧u6.ownBlock≠some gp∧wr.ownsRow w1.heap.size 24 1 (.slice (some ⟨gp,0,none⟩) P capp) P (z0a PK)):=⟨by omega,by rw [z7o _ _ _ (by omega)];exact hown,hbel,hne,hrow⟩
        clear hj hown hbel hne hrow a1 a2 a3 a4 a5 A1
        generalize PK.getD j 0=y at hc
        go_wp2
        go_roundg q
        case measure=>omega
        case rel=>exact ⟨j+1,by first | rfl | (rw [e1]),R.out⟩
      · have hk':((j:Int) != (K:Int))=true:=by simp;omega
        have hnx:=z7p A PK K j (by omega) hk
        have hll:=z5K A PK K j
        generalize PK.getD j 0=y at *
        have R:Aside (j+1+q=P∧wr.ownsRow w.heap.size 24 1 u6 (z0s A PK K j).length (z0a (z0s A PK K j))∧Below w.heap.size w wr∧u6.ownBlock≠some gp∧wr.ownsRow w1.heap.size 24 1 (.slice (some ⟨gp,0,none⟩) P capp) P (z0a PK)∧z0s A PK K (j+1)=z0s A PK K j ++ [y]∧(z0s A PK K j).length≤1000):=⟨by omega,hown,hbel,hne,hrow,hnx,by omega⟩
        clear hj hown hbel hne hrow a1 a2 a3 a4 a5 A1 hnx hll
        go_wp2_with (at_builtin;refine za0 _ rfl (.tmp 39) (.tmp 41) rfl w.heap.size u6 _ (z0a (z0s A PK K j)) rfl (R.out.2.1.alloc _) wr.heap.size 1 (y:Int) rfl (by rw [World.cell?_alloc_at _ _ _ _ rfl];rfl) R.out.2.2.2.2.2.2 (by have:=R.out.2.2.1.size;simp;omega) ?_;intro g' cap' w3 hown hgrow hat hg)
        have R3:Aside (j+1+q=P∧w3.ownsRow w.heap.size 24 1 (.slice (some ⟨g',0,none⟩) ((z0s A PK K j).length+1) cap') (z0s A PK K (j+1)).length (z0a (z0s A PK K (j+1)))∧Below w.heap.size w w3∧some g'≠some gp∧w3.ownsRow w1.heap.size 24 1 (.slice (some ⟨gp,0,none⟩) P capp) P (z0a PK)):=by
          obtain ⟨r1,r2,r3,r4,r5,r6,r7⟩:=R.out
          have hgp:=r5.lt gp rfl
          refine ⟨r1,?_,(r3.alloc r3.size _).grown hgrow (by have:=r3.size;simp;omega) (fun k e=>(r2.lt k e).1),z8T r4 (by simp;omega) hat,(r5.alloc _).kept hgrow (.inr fun e=>r4 e.symm)⟩
          rw [r6,z2F,List.length_append]
          exact hown
        clear R hown hgrow hat hg hc
        go_wp2
        go_roundg q
        case measure=>omega
        case rel=>exact ⟨j+1,by first | rfl | (rw [e1]),R3.out⟩
end Go.Proofs.YtbmjoiiagldklaaGreatDoor

namespace Go.Proofs.YtbmjoiiagldklaaGreatDoor
open Go.RowKit
set_option maxRecDepth 100000
def Flat (w:World) (a:Option Addr) (n:Nat) (l:List Int):Prop:=
  l.length=32*n∧(0<n→∃ b o,a=some ⟨b,o,none⟩∧b<w.heap.size∧∀ j,j<32*n→w.cell? ⟨b,o+j,none⟩=some (.int .u8 (l.getD j 0)))∧∀ x∈l,0≤x∧x≤255
theorem Flat.below {w w':World} {a:Option Addr} {n:Nat} {l:List Int} (h:Flat w a n l) (hb:Below w.heap.size w w'):Flat w' a n l:=
  ⟨h.1,fun hn=>by
    obtain ⟨b,o,e,hl,hc⟩:=h.2.1 hn
    exact ⟨b,o,e,Nat.lt_of_lt_of_le hl hb.size,fun i hi=>(hb.cell (by exact hl)).trans (hc i hi)⟩,h.2.2⟩
def HSH (l:List Int) (i:Nat):List Int:=(l.drop (32*i)).take 32
theorem z17 {l:List Int} {n i:Nat} (hl:l.length=32*n) (hi:i<n):(HSH l i).length=32:=by
  unfold HSH
  rw [List.length_take,List.length_drop]
  omega
theorem za2 {l:List Int} {i j:Nat} (hj:j<32):(HSH l i).getD j 0=l.getD (32*i+j) 0:=by
  unfold HSH
  rw [List.getD_eq_getElem?_getD,List.getElem?_take,if_pos hj,List.getElem?_drop,List.getD_eq_getElem?_getD]
theorem zhi {l:List Int} {i:Nat} {x:Int} (h:x∈HSH l i):x∈l:=List.mem_of_mem_drop (List.mem_of_mem_take h)
theorem z58 (l:List Int) (i:Nat):l.take (32*(i+1))=l.take (32*i) ++ HSH l i:=by
  unfold HSH
  rw [show 32*(i+1)=32*i+32 by omega,List.take_add]
theorem z6u:(Tryz.prog.info? 23).map (·.size)=some 32:=by kernel_rfl
theorem z0e {h:List Int} (hl:h.length=32):(Tryz.prog.info? 23).map (·.size)=some (z01 h).length:=by
  rw [z6u,show (z01 h).length=32 by simp [z01,hl]]
theorem z05 {h:List Int} (hl:h.length=32):(Tryz.prog.info? 23).map (·.size)=some (z01 h).toArray.size:=by
  rw [z6u,show (z01 h).toArray.size=32 by simp [z01,hl]]
theorem z0u (h:List Int):(z01 h).toArray.all (·.oneCell')=true:=by
  rw [Array.all_eq_true_iff_forall_mem]
  intro v hv
  exact z1J h v (by simpa using hv)
theorem Flat.at {w:World} {b o n:Nat} {l:List Int} {i:Nat} (h:Flat w (some ⟨b,o,none⟩) n l) (hi:i<n):w.rangeAt b (o+i*32) (z01 (HSH l i)):=by
  intro j v hv
  obtain ⟨b',o',e,_,hc⟩:=h.2.1 (by omega)
  simp only [Option.some.injEq,Addr.mk.injEq] at e
  obtain ⟨rfl,rfl,_⟩:=e
  have hj:j<32:=by
    have:=(List.getElem?_eq_some_iff.1 hv).1
    rw [show (z01 (HSH l i)).length=32 by simp [z01,z17 h.1 hi]] at this
    exact this
  rw [z0F _ _ (by rw [z17 h.1 hi];exact hj),za2 hj] at hv
  rw [show o+i*32+j=o+(32*i+j) by omega,hc _ (by omega)]
  exact hv
theorem z8d (w:World) (x:Int):(w.alloc (.cells #[.int .u8 x] 5)).ownsRow w.heap.size 5 1 (.slice (some ⟨w.heap.size,0,none⟩) 1 1) 1 (z01 [x]):=
  World.ownsRow_lit w #[.int .u8 x] 1 (Nat.le_refl _) (by simp [maxLen]) rfl
end Go.Proofs.YtbmjoiiagldklaaGreatDoor

namespace Go.Proofs.YtbmjoiiagldklaaGreatDoor
open Go.RowKit
set_option maxRecDepth 100000
def PLA (i n:Nat):Int × List Nat:=if 4611686018427387904<n then (30,[]) else if n≤i then (32,[]) else (0,PLCS (PSP i n))
def PPA (m n:Nat):Int × List Nat:=if 4611686018427387904<n∨n<m then (30,[]) else (0,PLCS (PXS m n))
theorem z8e (i n:Nat):(PLA i n).2.length≤188:=by
  unfold PLA
  split
  · simp
  · split
    · simp
    · have:=z68 (i:=i) (n:=n) (by omega) (by omega)
      simp only [z16]
      omega
theorem z69 (w:World):w.ownsRow w.heap.size 24 1 (.slice none 0 0) ([]:List Nat).length (z0a []):=World.ownsRow_nil _ _ _ _
theorem z7q (i n:Nat) (w:World) (hT:Tabled w) (h0:0<w.heap.size):Calls Tryz.prog 42 #[.int .u64 (i:Int),.int .u64 (n:Int)] w fun e w'=>
    ∃ v,e=.returned (.tuple #[v,.int .i64 (PLA i n).1])∧w'.ownsRow w.heap.size 24 1 v (PLA i n).2.length (z0a (PLA i n).2)∧Below w.heap.size w w':=by
  unfold PLA
  split
  · refine (zbd _ _ (by omega) w).mono ?_
    rintro e w' ⟨rfl,rfl⟩
    exact ⟨_,rfl,z69 w,Below.refl _ _⟩
  · split
    · refine (za1 _ _ (by omega) (by omega) w).mono ?_
      rintro e w' ⟨rfl,rfl⟩
      exact ⟨_,rfl,z69 w,Below.refl _ _⟩
    · exact zeu i n (by omega) (by omega) w hT h0
def ENCB (k E:Int) (P n X Y:Nat) (l:List Int):Int × List Int:=if E≠0 then (E,[]) else if n≠P then (70,[]) else (0,k :: (z0x X ++ z0x Y ++ l))
def ENC (S I n:Nat) (l:List Int):Int × List Int:=ENCB 77 (PLA I S).1 (PLA I S).2.length n S I l
theorem z7r (w:World) (b:Nat):w.ownsRow b 5 1 (.slice none 0 0) ([]:List Int).length (z01 []):=World.ownsRow_nil _ _ _ _
def ANSB (w:World) (A:Int × List Int) (e:Ending) (w':World):Prop:=∃ v,e=.returned (.tuple #[v,.int .i64 A.1])∧w'.ownsRow w.heap.size 5 1 v A.2.length (z01 A.2)∧Below w.heap.size w w'
end Go.Proofs.YtbmjoiiagldklaaGreatDoor

namespace Go.Proofs.YtbmjoiiagldklaaGreatDoor
open Go.RowKit
end Go.Proofs.YtbmjoiiagldklaaGreatDoor

namespace Go.Proofs.YtbmjoiiagldklaaGreatDoor
open Go.RowKit
set_option maxRecDepth 100000
theorem z8f (i n:Int) (hn:4611686018427387904<n) (w:World):Calls Tryz.prog 84 #[.int .u64 i,.int .u64 n] w fun e w'=>e=.returned (.tuple #[.slice none 0 0,.int .i64 30])∧w=w':=by
  go_enter Tryz.func84,Tryz.ntmps84
  go_wp2
  go_ret2
  exact ⟨rfl,rfl⟩
theorem z7s (i n:Int) (hn:¬ 4611686018427387904<n) (hi:n≤i) (w:World):Calls Tryz.prog 84 #[.int .u64 i,.int .u64 n] w fun e w'=>e=.returned (.tuple #[.slice none 0 0,.int .i64 32])∧w=w':=by
  go_enter Tryz.func84,Tryz.ntmps84
  go_wp2
  go_ret2
  exact ⟨rfl,rfl⟩
set_option maxHeartbeats 1000000 in
theorem za3 (i n:Nat) (hi:i<n) (hn:n≤4611686018427387904) (w:World):Calls Tryz.prog 84 #[.int .u64 (i:Int),.int .u64 (n:Int)] w fun e w'=>
    ∃ v,e=.returned (.tuple #[v,.int .i64 0])∧w'.ownsRow w.heap.size 24 1 v (PLCS (PSP i n)).length (z0a (PLCS (PSP i n)))∧Below w.heap.size w w':=by
  have c1:=zcZ i n hi hn w
  have c2:=z57 i n hi hn
  have c3:=zbc n hn
  have hd:¬ (4611686018427387904:Int)<(n:Int):=by omega
  have hd2:¬ (n:Int)≤(i:Int):=by omega
  have hP:=z2l (n:=n) (by omega)
  have hP6:=z0V 64 n (by omega)
  have hR6:=(z0K hi hn).2.1
  have hKl:=z2m hi hn
  rw [z7l hn]
  have hWl:=z7g i (RISE i n)
  generalize WAY i (RISE i n)=A at *
  generalize z1s n=PK at *
  generalize RISE i n=R at *
  generalize KTH i n=K at *
  generalize PC n=P at *
  obtain ⟨X,hX⟩:∃ X,A ++ PK.eraseIdx K=X:=⟨_,rfl⟩
  rw [hX]
  obtain ⟨N,hN⟩:∃ N,X.length=N:=⟨_,rfl⟩
  rw [hN]
  have HA:Aside (PK.length=P∧P≤64∧R≤62∧K<P∧A.length=R):=⟨hP,hP6,hR6,hKl,hWl⟩
  have HX:Aside (z0s A PK K P=X∧X.length=N):=⟨by rw [← hX,← hP];exact z8U _ _ _,hN⟩
  clear hX hN
  clear hP hP6 hR6 hKl hWl hi hn
  go_enter Tryz.func84,Tryz.ntmps84
  go_wp2_with fail
  refine c1.mono ?_
  rintro e w1 ⟨v,rfl,hown,hb⟩
  clear c1
  have R1:Aside (w1.ownsRow w.heap.size 24 1 v R (z0a A)∧Below w.heap.size w w1):=⟨hown,hb⟩
  clear hown hb
  go_wp2_with fail
  refine (c2 _).mono ?_
  rintro e w2 ⟨rfl,hb⟩
  replace R1:Aside (w2.ownsRow w.heap.size 24 1 v R (z0a A)∧Below w.heap.size w w2):=⟨z1a R1.out.1 hb,R1.out.2.trans (hb.mono R1.out.2.size)⟩
  clear c2 hb
  go_wp2_with fail
  refine (c3 _).mono ?_
  rintro e w3 ⟨vp,rfl,hrow,hb2⟩
  clear c3
  have R2:Aside (w3.ownsRow w.heap.size 24 1 v (z0s A PK K 0).length (z0a (z0s A PK K 0))∧Below w.heap.size w w3∧(∀ k,vp.ownBlock=some k→v.ownBlock≠some k)∧w3.ownsRow w2.heap.size 24 1 vp P (z0a PK)):=by
    obtain ⟨a1,a2⟩:=R1.out
    refine ⟨?_,a2.trans (hb2.mono a2.size),fun k hk e=>?_,hrow⟩
    · rw [z7n,HA.out.2.2.2.2]
      exact z1a a1 hb2
    · have:=(a1.lt k e).2
      have:=(hrow.lt k hk).1
      omega
  obtain ⟨ap,capp,rfl,hap⟩:=z1v hrow
  clear R1 hrow hb2 hap
  go_wp2
  go_loopg [6,11] P (fun q s6 s11 wx=>∃ j:Nat,s11=.int .i64 (j:Int)∧Aside (j+q=P∧wx.ownsRow w.heap.size 24 1 s6 (z0s A PK K j).length (z0a (z0s A PK K j))∧Below w.heap.size w wx∧(∀ k,(Value.slice ap P capp).ownBlock=some k→s6.ownBlock≠some k)∧wx.ownsRow w2.heap.size 24 1 (.slice ap P capp) P (z0a PK)))
  case atStart=>exact ⟨0,rfl,by omega,R2.out⟩
  case round=>
    obtain ⟨j,rfl,A1⟩:=hrel
    clear R2
    cases gk with
    | zero=>
      obtain ⟨hj,hown,hbel,hne,hrow⟩:=A1.out
      obtain rfl:j=P:=by omega
      have hlt:¬ (j:Int)<(j:Int):=by omega
      have R:Aside (wr.ownsRow w.heap.size 24 1 u6 N (z0a X)∧Below w.heap.size w wr):=by
        rw [HX.out.1,HX.out.2] at hown
        exact ⟨hown,hbel⟩
      clear hj hown hbel hne hrow A1 HA
      go_wp2
      go_ret2
      exact ⟨_,rfl,R.out.1,R.out.2⟩
    | succ q=>
      obtain ⟨hj,hown,hbel,hne,hrow⟩:=A1.out
      obtain ⟨a1,a2,a3,a4,a5⟩:=HA.out
      have hlt:(j:Int)<(P:Int):=by omega
      obtain ⟨ap',cap2,ee,hap⟩:=z1v hrow
      cases ee
      obtain ⟨gp,rfl,hgp,_⟩:=hap (by omega)
      have hc:wr.cell? ⟨gp,j,none⟩=some (.int .u64 ((PK.getD j 0:Nat):Int)):=by
        have hrow':=hrow
        rw [← a1] at hrow'
        exact zet hrow' j (by omega)
      have hne':=hne gp rfl
      have E1:Aside (wrap64 ((j:Int)+1)=((j+1:Nat):Int)):=by show wrap64 ((j:Int)+1)=((j+1:Nat):Int);unfold wrap64;omega
      by_cases hk:j=K
      · subst hk
        have R:Aside (j+1+q=P∧wr.ownsRow w.heap.size 24 1 u6 (z0s A PK j (j+1)).length (z0a (z0s A PK j (j+1)))∧Below w.heap.size w wr∧(∀ k,(Value.slice (some ⟨gp,0,none⟩) P capp).ownBlock=some k→u6.ownBlock≠some k)∧wr.ownsRow w2.heap.size 24 1 (.slice (some ⟨gp,0,none⟩) P capp) P (z0a PK)):=⟨by omega,by rw [z7o _ _ _ (by omega)];exact hown,hbel,hne,hrow⟩
        clear hj hown hbel hne hrow a1 a2 a3 a4 a5 A1 hap hne'
        generalize PK.getD j 0=y at hc
        have e1:=E1.out
        go_wp2
        go_roundg q
        case measure=>exact Nat.lt_succ_self _
        case rel=>exact ⟨j+1,by first | rfl | (rw [E1.out]),R.out⟩
      · have hk':((j:Int) != (K:Int))=true:=by simp;omega
        have hnx:=z7p A PK K j (by omega) hk
        have hll:=z5K A PK K j
        generalize PK.getD j 0=y at *
        have R:Aside (j+1+q=P∧wr.ownsRow w.heap.size 24 1 u6 (z0s A PK K j).length (z0a (z0s A PK K j))∧Below w.heap.size w wr∧u6.ownBlock≠some gp∧wr.ownsRow w2.heap.size 24 1 (.slice (some ⟨gp,0,none⟩) P capp) P (z0a PK)∧z0s A PK K (j+1)=z0s A PK K j ++ [y]∧(z0s A PK K j).length≤1000):=⟨by omega,hown,hbel,hne',hrow,hnx,by omega⟩
        clear hj hown hbel hne hrow a1 a2 a3 a4 a5 A1 hnx hll hap hne'
        go_wp2_with (at_builtin;refine za0 _ rfl (.tmp 40) (.tmp 45) rfl w.heap.size u6 _ (z0a (z0s A PK K j)) rfl (R.out.2.1.alloc _) wr.heap.size 1 (y:Int) rfl (by rw [World.cell?_alloc_at _ _ _ _ rfl];rfl) R.out.2.2.2.2.2.2 (by have:=R.out.2.2.1.size;simp;omega) ?_;intro g' cap' w4 hown hgrow hat hg)
        have R3:Aside (j+1+q=P∧w4.ownsRow w.heap.size 24 1 (.slice (some ⟨g',0,none⟩) ((z0s A PK K j).length+1) cap') (z0s A PK K (j+1)).length (z0a (z0s A PK K (j+1)))∧Below w.heap.size w w4∧(∀ k,(Value.slice (some ⟨gp,0,none⟩) P capp).ownBlock=some k→some g'≠some k)∧w4.ownsRow w2.heap.size 24 1 (.slice (some ⟨gp,0,none⟩) P capp) P (z0a PK)):=by
          obtain ⟨r1,r2,r3,r4,r5,r6,r7⟩:=R.out
          have hgp:=r5.lt gp rfl
          refine ⟨r1,?_,(r3.alloc r3.size _).grown hgrow (by have:=r3.size;simp;omega) (fun k e=>(r2.lt k e).1),fun k hk=>?_,(r5.alloc _).kept hgrow (.inr fun e=>r4 e.symm)⟩
          · rw [r6,z2F,List.length_append]
            exact hown
          · cases hk
            exact z8T r4 (by simp;omega) hat
        clear R hown hgrow hat hg hc
        have e1:=E1.out
        go_wp2
        go_roundg q
        case measure=>exact Nat.lt_succ_self _
        case rel=>exact ⟨j+1,by first | rfl | (rw [E1.out]),R3.out⟩
theorem zev (i n:Nat) (w:World):Calls Tryz.prog 84 #[.int .u64 (i:Int),.int .u64 (n:Int)] w fun e w'=>
    ∃ v,e=.returned (.tuple #[v,.int .i64 (PLA i n).1])∧w'.ownsRow w.heap.size 24 1 v (PLA i n).2.length (z0a (PLA i n).2)∧Below w.heap.size w w':=by
  unfold PLA
  split
  · refine (z8f _ _ (by omega) w).mono ?_
    rintro e w' ⟨rfl,rfl⟩
    exact ⟨_,rfl,z69 w,Below.refl _ _⟩
  · split
    · refine (z7s _ _ (by omega) (by omega) w).mono ?_
      rintro e w' ⟨rfl,rfl⟩
      exact ⟨_,rfl,z69 w,Below.refl _ _⟩
    · exact za3 i n (by omega) (by omega) w
end Go.Proofs.YtbmjoiiagldklaaGreatDoor

namespace Go.Proofs.YtbmjoiiagldklaaGreatDoor
open Go.RowKit
set_option maxRecDepth 100000
theorem zd0 {w w':World} {r:Option Nat} (h:w.grownBy w' r):w.heap.size≤w'.heap.size:=by
  obtain ⟨_,_,_,hs,_⟩:=h
  exact hs
theorem z59 {w:World} {B n g m c:Nat} {xs:List Value} (h:w.ownsRow B 24 1 (.slice (some ⟨g,0,none⟩) m c) n xs):m=n:=by
  rcases h.2 with ⟨e,_⟩ | ⟨_,_,_,e,_⟩
  · simp at e
  · simp at e
    omega
end Go.Proofs.YtbmjoiiagldklaaGreatDoor

namespace Go.Proofs.YtbmjoiiagldklaaGreatDoor
open Go.RowKit
set_option maxRecDepth 100000
theorem z5a {ops:Array Oper} {o:Oper} {a:Act} {w w':World} {K:Act→World→Prop} {Q:Exit→Act→World→Prop} {E:Prop} {v:Value} (hg:o.guard=none)
    (hrun:(execOp a.eval o).run Tryz.prog w=.ok (.value v) w') (h:K (a.put o.dst v) w'):if Region.wanted o (yielded ops a.tmps)=true then Oper.wp Tryz.prog o a w K Q else E:=by
  have hw:Region.wanted o (yielded ops a.tmps)=true:=by simp [Region.wanted,hg]
  rw [if_pos hw]
  unfold Oper.wp
  rw [hrun]
  exact h
theorem z1W {ops:Array Oper} {o:Oper} {a:Act} {w w':World} {K:Act→World→Prop} {Q:Exit→Act→World→Prop} {E:Prop} (hg:o.guard=none)
    (hrun:(execOp a.eval o).run Tryz.prog w=.ok .skip w') (h:K (a.put o.dst undef) w'):if Region.wanted o (yielded ops a.tmps)=true then Oper.wp Tryz.prog o a w K Q else E:=by
  have hw:Region.wanted o (yielded ops a.tmps)=true:=by simp [Region.wanted,hg]
  rw [if_pos hw]
  unfold Oper.wp
  rw [hrun]
  exact h
theorem z6W {s:Sem Unit} {w w':World} (h:s.run Tryz.prog w=.ok () w'):(do s;pure Next.skip:Sem Next).run Tryz.prog w=.ok .skip w':=by
  simp [h]
theorem z2A {ops:Array Oper} {Q:Exit→Act→World→Prop} {md:Region.Mode} {S:World→Prop} {fuel:Nat} {listed:Array Bool} {a:Act} {w:World} {o:Oper} (i:Nat) (hr:Region.ready md ops listed=[i]) (ho:ops[i]?=some o)
    (h:∀ K':Act→World→Prop,Shut (∀ a w,S w→(S w→wpAnyH Tryz.prog md ops Q S fuel (listed.setIfInBounds i true) a w)→K' a w)→if Region.wanted o (yielded ops a.tmps)=true then Oper.wp Tryz.prog o a w K' Q else K' (a.put o.dst undef) w):wpAnyH Tryz.prog md ops Q S (fuel+1) listed a w:=
  wpAnyH_ready hr (by simp) (AllReadyH.cons ho h AllReadyH.nil)
theorem z3p {s:Sem Value} {w w':World} {v:Value} (h:s.run Tryz.prog w=.ok v w'):(do pure (Next.value (← s)):Sem Next).run Tryz.prog w=.ok (.value v) w':=by
  simp [h,Result.andThen]
end Go.Proofs.YtbmjoiiagldklaaGreatDoor

namespace Go.Proofs.YtbmjoiiagldklaaGreatDoor
open Go.RowKit
set_option maxRecDepth 100000
theorem z6X {w w':World} {B:Nat} {t:TypeId} {s:Nat} {v:Value} {n:Nat} {xs:List Value} (h:w.ownsRow B t s v n xs) (hk:∀ k,v.ownBlock=some k→w'.heap[k]?=w.heap[k]?):w'.ownsRow B t s v n xs:=by
  refine ⟨h.1,?_⟩
  rcases h.2 with h | ⟨g,cap,cur,rfl,hb,hg,r⟩
  · exact .inl h
  · exact .inr ⟨g,cap,cur,rfl,hb,by rw [hk g rfl];exact hg,r⟩
def ZND:List Int:=List.replicate 32 0
abbrev ZARR:Array Value:=#[.int .u8 0,.int .u8 0,.int .u8 0,.int .u8 0,.int .u8 0,.int .u8 0,.int .u8 0,.int .u8 0,.int .u8 0,.int .u8 0,.int .u8 0,.int .u8 0,.int .u8 0,.int .u8 0,.int .u8 0,.int .u8 0,.int .u8 0,.int .u8 0,.int .u8 0,.int .u8 0,.int .u8 0,.int .u8 0,.int .u8 0,.int .u8 0,.int .u8 0,.int .u8 0,.int .u8 0,.int .u8 0,.int .u8 0,.int .u8 0,.int .u8 0,.int .u8 0]
theorem z2B:(z01 ZND).toArray=ZARR:=rfl
theorem z2p:(Tryz.prog.info? 23).map (fun i=>(i.zero,i.size,i.bytes))=some (some (.agg ZARR),32,32):=by kernel_rfl
theorem z5b {ops:Array Oper} {rest:List Oper} {o:Oper} {a:Act} {Q:Exit→Act→World→Prop} (w:World) (hgd:o.guard=none) (s x:Operand)
    (ho:o.op=.call {callee:=.builtin .append,args:=#[s,x],argTypes:=#[42,42]})
    (base:Nat) (v:Value) (n:Nat) (xs:List Value) (hs:a.eval s=v) (hown:w.ownsRow base 23 32 v n xs)
    (b c:Nat) (y:List Int) (hl:y.length=32) (hx:a.eval x=.slice (some ⟨b,0,none⟩) 1 c) (hc:Has w b (z01 y).toArray 23)
    (hb:n≤1000) (hbase:base≤w.heap.size)
    (h:∀ g cap w',w'.ownsRow base 23 32 (.slice (some ⟨g,0,none⟩) (n+1) cap) (n+1) (xs ++ z01 y)→w.grownBy w' v.ownBlock→(v.ownBlock=some g∨g=w.heap.size)→g<w'.heap.size→wpList Tryz.prog ops Q rest (a.put o.dst (.slice (some ⟨g,0,none⟩) (n+1) cap)) w'):wpList Tryz.prog ops Q (o :: rest) a w:=by
  obtain ⟨i,hi,hz,hs1,hby⟩:=info_parts z2p
  refine wpList_append_lies w hgd s x 42 ho base 23 i (.agg ZARR) 32 32 Tryz.underlying42 hi hz hs1 hby rfl (by decide) v n xs hs hown ⟨b,0,none⟩ 1 c (z01 y) hx (by rw [z01,List.length_map,hl]) ?_ (z1J y) (by decide) (by simp only [maxLen];omega) (by omega) hbase w.heap.size rfl h
  intro j u hj
  rw [z1f,Nat.zero_add,hc.cell,List.getElem?_toArray]
  exact hj
theorem z1X {ops:Array Oper} {rest:List Oper} {o:Oper} {a:Act} {Q:Exit→Act→World→Prop} (w:World) (hg:o.guard=none) (t e:TypeId) (x:Operand) (ho:o.op=.buildSlice t 1 #[(0,x)]) (C:Array Value) (hx:a.eval x=.agg C) (n:Nat) (z:Value) (by':Nat)
    (hu:Tryz.prog.underlying t=some (.slice e)) (hi:(Tryz.prog.info? e).map (fun i=>(i.zero,i.size,i.bytes))=some (some z,n,by')) (hC:C.size=n) (hz:z.cells.size=n) (hn:0<n) (hs:n≤1000)
    (h:wpList Tryz.prog ops Q rest (a.put o.dst (.slice (some ⟨w.heap.size,0,none⟩) 1 1)) (w.alloc (.cells C e))):wpList Tryz.prog ops Q (o :: rest) a w:=by
  obtain ⟨i,hie,hz',hs1,_⟩:=info_parts hi
  refine wpList_buildSlice hg t e 1 _ ho C i z hu hie hz' (by rw [hs1];omega) (by rw [hs1];omega) ?_ h
  have:=Great.fill_whole (s:=n) hn [.agg C] ((Array.range (1*i.size)).map (z.cells[· % z.cells.size]!)) (fun v hv=>by simp at hv;subst hv;exact hC) (by simp [hs1])
  simp [Value.cells] at this
  rw [hs1]
  simp [hx]
  rw [hs1] at this
  exact this
theorem z6v (d:Nat) (h g:List Int) (hh:h.length=32) (hg:g.length=32) (w:World):∀ is:List Nat,(∀ i∈is,i<32)→(Op.eqItems (d+1) 5 1 (z01 h).toArray (z01 g).toArray is).run Tryz.prog w=.ok (is.all fun i=>h.getD i 0 == g.getD i 0) w
  | [],_=>by simp [Op.eqItems]
  | i :: is,hi=>by
    have hp:Tryz.prog.plainKey 5=true:=by kernel_rfl
    have hi32:i<32:=hi i (by simp)
    have h1:=run_part_plain (P:=Tryz.prog) w hp (show (z01 h).toArray[i]?=some (.int .u8 (h.getD i 0)) by rw [List.getElem?_toArray,z0F h i (by omega)])
    have h2:=run_part_plain (P:=Tryz.prog) w hp (show (z01 g).toArray[i]?=some (.int .u8 (g.getD i 0)) by rw [List.getElem?_toArray,z0F g i (by omega)])
    have h3:=run_equalIn_int (P:=Tryz.prog) w d 5 .u8 .u8 (h.getD i 0) (g.getD i 0) Tryz.underlying5
    have ih:=z6v d h g hh hg w is (fun j hj=>hi j (by simp [hj]))
    rw [Op.eqItems,Nat.mul_one]
    simp only [Sem.run_bind,h1,h2,h3,Result.andThen_ok]
    by_cases e:h.getD i 0=g.getD i 0
    · have e2:(h.getD i 0 == g.getD i 0)=true:=by simpa using e
      rw [List.all_cons,e2,Bool.true_and,if_neg (by simp)]
      exact ih
    · have e2:(h.getD i 0 == g.getD i 0)=false:=by simpa using e
      rw [List.all_cons,e2]
      simp
theorem zbe (h g:List Int) (hh:h.length=32) (hg:g.length=32) (w:World):(Op.equalIn 10000 23 (.agg (z01 h).toArray) (.agg (z01 g).toArray)).run Tryz.prog w=.ok ((List.range 32).all fun i=>h.getD i 0 == g.getD i 0) w:=by
  obtain ⟨i8,hi,_⟩:=Option.map_eq_some_iff.1 z0S
  rw [run_equalIn_array (P:=Tryz.prog) w 9999 (z01 h).toArray (z01 g).toArray Tryz.underlying23 hi]
  have hc:Tryz.prog.cellsOf 5=1:=by kernel_rfl
  rw [hc]
  exact z6v 9998 h g hh hg w _ (fun i hi=>by simpa using hi)
theorem zew {h g:List Int} (hh:h.length=32) (hg:g.length=32):((List.range 32).all fun i=>h.getD i 0 == g.getD i 0)=decide (h=g):=by
  by_cases e:h=g
  · subst e
    simp
  · rw [decide_eq_false e,Bool.eq_false_iff]
    intro hx
    rw [List.all_eq_true] at hx
    apply e
    apply List.ext_getElem (by omega)
    intro i h1 h2
    have:=hx i (by simp;omega)
    simpa [List.getD,h1,h2] using this
theorem z3a {h g:List Int} (hh:h.length=32) (hg:g.length=32) (w:World):(Op.equalIn 10000 23 (.agg (z01 h).toArray) (.agg (z01 g).toArray)).run Tryz.prog w=.ok (decide (h=g)) w:=by
  rw [zbe h g hh hg,zew hh hg]
theorem zd1:(Tryz.prog.info? 23).map (fun i=>(i.size,i.bytes,i.zero.isSome))=some (32,32,true):=by kernel_rfl
theorem zd2 (N:Nat) (hN:N≤1000) (w:World):∃ cur:Array Value,cur.size=N*32∧(Instr.makeSlice 42 (.int .i64 0) (.int .i64 (N:Int))).run Tryz.prog w=.ok (.slice (some ⟨w.heap.size,0,none⟩) 0 N) (w.alloc (.cells cur 23)):=by
  obtain ⟨i,hi,h⟩:=Option.map_eq_some_iff.1 zd1
  simp only [Prod.mk.injEq] at h
  obtain ⟨h1,h2,h3⟩:=h
  obtain ⟨z,hz⟩:=Option.isSome_iff_exists.1 h3
  have h:=run_make (P:=Tryz.prog) w 42 23 i z Tryz.underlying42 hi hz .i64 .i64 0 N (by omega) (by omega) (by rw [h2];omega) (by omega)
  refine ⟨madeCells z.cells (N*i.size),?_,?_⟩
  · rw [size_madeCells,h1]
  · simpa using h
end Go.Proofs.YtbmjoiiagldklaaGreatDoor
