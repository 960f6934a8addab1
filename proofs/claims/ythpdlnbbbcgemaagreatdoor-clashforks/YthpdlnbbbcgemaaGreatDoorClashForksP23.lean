/- Texts of ClashForks, one behind the other: VerifyReach. -/
import Derived.Test.YthpdlnbbbcgemaaGreatDoorClashForksP14
import Derived.Test.YthpdlnbbbcgemaaGreatDoorClashForksP22
namespace Go.Proofs.YthpdlnbbbcgemaaGreatDoor
open Go.RowKit
set_option maxRecDepth 100000
theorem zaF {n k:Nat}:∀ {f h i x y:Nat},(JF n k f h)[i]?=some (x,y)→x=h+i∧y=n / 2 ^ x∧(y+1)*2 ^ x≤n+k∧i<f:=by
  intro f
  induction f with
  | zero=>intro h i x y e;simp [JF] at e
  | succ f ih=>
    intro h i x y e
    unfold JF at e
    split at e
    · rename_i hc
      cases i with
      | zero=>
        simp at e
        obtain ⟨rfl,rfl⟩:=e
        exact ⟨by omega,rfl,hc,by omega⟩
      | succ i=>
        rw [List.getElem?_cons_succ] at e
        obtain ⟨h1,h2,h3,h4⟩:=ih e
        exact ⟨by omega,h2,h3,by omega⟩
    · simp at e
theorem z2t {w:World} {base:Nat} {t:TypeId} {s:Nat} {v:Value} {n:Nat} {xs:List Value} (h:w.ownsRow base t s v n xs):∃ ad cap,v=.slice ad n cap∧n≤cap∧(0<n→∃ g,ad=some ⟨g,0,none⟩∧base≤g∧g<w.heap.size):=by
  rcases h.2 with ⟨rfl,h0⟩ | ⟨g,cap,cur,rfl,hb,hg,r⟩
  · subst h0
    exact ⟨none,0,rfl,Nat.le_refl _,fun h=>by omega⟩
  · exact ⟨_,cap,rfl,r.1,fun _=>⟨g,rfl,hb,(Array.getElem?_eq_some_iff.1 hg).1⟩⟩
def JQ (d:Int) (js:List (Nat × Nat)) (M:Nat→Nat→List Int):Nat→Nat→Nat→List Int
  | 0=>M
  | t+1=>MPUT (JQ d js M t) (js.getD t (0,0)).1 (js.getD t (0,0)).2 (z0D d (JQ d js M t ((js.getD t (0,0)).1 - 1) (2*(js.getD t (0,0)).2)) (JQ d js M t ((js.getD t (0,0)).1 - 1) (2*(js.getD t (0,0)).2+1)))
theorem z8a {d:Int} {js:List (Nat × Nat)} {M:Nat→Nat→List Int} (h:∀ a b,IsH (M a b)):∀ t a b,IsH (JQ d js M t a b)
  | 0,a,b=>h a b
  | t+1,a,b=>zax (z8a h t) (z4g _ _ _) _ _ a b
structure JSOK (F k:Nat) (js:List (Nat × Nat)):Prop where
  few:js.length≤62
  each:∀ (i x y:Nat),js[i]?=some (x,y)→1≤x∧x<200∧2*y+1<2 ^ 64
  call:∀ w,Tabled w→0<w.heap.size→Calls Tryz.prog 79 #[.int .u64 (F:Int),.int .u64 (k:Int)] w fun e w'=>∃ v,e=.returned v∧w'.ownsRow w.heap.size 79 2 v js.length (z05 js)∧Below w.heap.size w w'
def RCM (d:Int) (js:List (Nat × Nat)) (F S:Nat) (l:List Int):Nat→Nat→List Int:=JQ d js (HAND (PXS F S) l (PXS F S).length) js.length
set_option maxHeartbeats 4000000 in
theorem zbF (d:Int) (F S:Nat) (hFS:F≤S) (hS:S≤4611686018427387904) (js:List (Nat × Nat)) (hJ:JSOK F (S - F) js) (a:Option Addr) (n c:Nat) (hn:n=(PXS F S).length) (l:List Int) (w:World) (hF:Flat w a n l) (hT:Tabled w) (hX:HX.Tabled w) (h0:2<w.heap.size):
    Calls Tryz.prog 44 #[.int .i64 d,.agg #[.int .u64 (F:Int),.int .u64 (S:Int),.slice a n c]] w fun e w'=>∃ a c a' c',e=.returned (.tuple #[.slice a (PC F) c,.slice a' (PC S) c',.int .i64 0])∧w'.ownsRow w.heap.size 24 32 (.slice a (PC F) c) (PC F) (z01 (CAT (RCM d js F S l) (SPAN 0 F)))∧w'.ownsRow w.heap.size 24 32 (.slice a' (PC S) c') (PC S) (z01 (CAT (RCM d js F S l) (SPAN 0 S)))∧Below w.heap.size w w'∧∀ k,(Value.slice a (PC F) c).ownBlock=some k→(Value.slice a' (PC S) c').ownBlock≠some k:=by
  have HA:Aside (F≤S∧S≤4611686018427387904∧JSOK F (S - F) js∧n=(PXS F S).length∧Flat w a n l∧Tabled w∧HX.Tabled w∧2<w.heap.size):=⟨hFS,hS,hJ,hn,hF,hT,hX,h0⟩
  clear hFS hS hJ hn hF hT hX h0
  go_enter Tryz.func44,Tryz.ntmps44
  go_upto_region 1 with fail
  obtain ⟨b3,hb3⟩:∃ b3,b3=w.heap.size:=⟨_,rfl⟩
  have R0:Aside (Below w.heap.size w (w.alloc (.cells #[.int .u64 (F:Int),.int .u64 (S:Int),.slice a n c] 50))∧Has (w.alloc (.cells #[.int .u64 (F:Int),.int .u64 (S:Int),.slice a n c] 50)) b3 #[.int .u64 (F:Int),.int .u64 (S:Int),.slice a n c] 50):=by
    rw [hb3]
    exact ⟨(Below.refl _ _).alloc (Nat.le_refl _) _,Has.new _ _ _⟩
  rw [← hb3]
  generalize w.alloc (.cells #[.int .u64 (F:Int),.int .u64 (S:Int),.slice a n c] 50)=W0 at *
  have HT:Aside (∀ W,Below w.heap.size w W→Tabled W∧HX.Tabled W∧0<W.heap.size∧Flat W a n l∧2<W.heap.size):=fun W h=>by
    obtain ⟨a1,a2,a3,a4,a5,a6,a7,a8⟩:=HA.out
    have hs:=h.size
    exact ⟨a6.below (by omega) h,a7.below h,by omega,a5.below h,by omega⟩
  have HB:Aside (b3=w.heap.size):=hb3
  clear hb3
  have hPL:PPA F S=(0,PLCS (PXS F S)):=by
    obtain ⟨a1,a2,_⟩:=HA.out
    unfold PPA
    rw [if_neg (by omega)]
  have y0:W0.cell? ⟨b3,0,none⟩=some (.int .u64 (F:Int)):=R0.out.2.cell 0
  have y1:W0.cell? ⟨b3,1,none⟩=some (.int .u64 (S:Int)):=R0.out.2.cell 1
  go_wp2_with fail
  have cP:=z4C F S W0 (HT.out _ R0.out.1).1 (HT.out _ R0.out.1).2.2.1
  rw [hPL] at cP
  refine cP.mono ?_
  clear cP y0 y1 hPL
  rintro e w1 ⟨v,rfl,hrow,hb⟩
  dsimp only at *
  have hnl:(PLCS (PXS F S)).length=n:=by have:=HA.out.2.2.2.1;rw [z0N,this]
  rw [hnl] at hrow
  obtain ⟨av,cv,rfl, -⟩:=z1R hrow
  have R1:Aside (Below w.heap.size w w1∧Has w1 b3 #[.int .u64 (F:Int),.int .u64 (S:Int),.slice a n c] 50∧w1.ownsRow W0.heap.size 22 1 (.slice av n cv) n (z0h (PLCS (PXS F S)))):=⟨R0.out.1.trans (hb.mono R0.out.1.size),R0.out.2.keep hb,hrow⟩
  clear hrow hb R0 hnl
  have y2:w1.cell? ⟨b3,2,none⟩=some (.slice a n c):=R1.out.2.1.cell 2
  go_wp2_with fail
  have hfew:n≤188:=by obtain ⟨a1,a2,a3,a4,_⟩:=HA.out;have:=z20 a1 a2;omega
  have hnd:∀ s∈PXS F S,Node s.1 s.2:=by
    obtain ⟨a1,a2,a3,a4,_⟩:=HA.out
    intro s hs
    obtain ⟨i,hi⟩:=List.mem_iff_getElem?.1 hs
    exact (z1w a1 a2).node (h:=s.1) (k:=s.2) hi
  refine (zcY (PXS F S) hnd W0.heap.size n HA.out.2.2.2.1.symm (by omega) (.slice av n cv) a c l w1 R1.out.2.2 (HT.out _ R1.out.1).2.2.2.1).mono ?_
  clear y2 hnd
  rintro e w2 ⟨mb,rfl,hM,hmb,hb⟩
  obtain ⟨M1,hM1⟩:∃ M1,M1=HAND (PXS F S) l n:=⟨_,rfl⟩
  have hIsM:∀ p q,IsH (M1 p q):=by
    rw [hM1]
    have hF:=(HT.out _ R1.out.1).2.2.2.1
    exact z3T hF.1 hF.2.2 n (Nat.le_refl _)
  rw [← hM1] at hM
  have R2:Aside (Below w.heap.size w w2∧Has w2 b3 #[.int .u64 (F:Int),.int .u64 (S:Int),.slice a n c] 50∧SMAP w2 mb n M1∧b3<mb):=⟨R1.out.1.trans (hb.mono R1.out.1.size),R1.out.2.1.keep hb,hM,by have:=R1.out.2.1.lt;omega⟩
  have y0:w2.cell? ⟨b3,0,none⟩=some (.int .u64 (F:Int)):=R2.out.2.1.cell 0
  have y1:w2.cell? ⟨b3,1,none⟩=some (.int .u64 (S:Int)):=R2.out.2.1.cell 1
  have hsub:IntKind.u64.wrap ((S:Int) - (F:Int))=((S - F:Nat):Int):=by
    obtain ⟨a1,a2,_⟩:=HA.out
    rw [z06]
    omega
  have KK:Aside ((∀ p q,IsH (M1 p q))∧b3<mb∧M1=HAND (PXS F S) l n∧n≤188∧2<mb):=⟨hIsM,R2.out.2.2.2,hM1,hfew,by have h1:=HA.out;have h2:=HB.out;have h3:=R2.out.2.2.2;omega⟩
  clear hM hmb hb R1 hM1 hIsM hfew
  obtain ⟨K,hK⟩:∃ K,S - F=K:=⟨_,rfl⟩
  rw [hK] at hsub
  go_wp2_with fail
  have cJ:=HA.out.2.2.1.call w2 (HT.out _ R2.out.1).1 (HT.out _ R2.out.1).2.2.1
  rw [hK] at cJ
  refine cJ.mono ?_
  clear y0 y1 hsub hK cJ
  rintro e w3 ⟨v,rfl,hrow,hb⟩
  obtain ⟨aj,cj,rfl,hcj,hgj⟩:=z2t hrow
  have hfew:=HA.out.2.2.1.few
  obtain ⟨T,hTT⟩:∃ T,js.length=T:=⟨_,rfl⟩
  rw [hTT] at hrow hgj hfew ⊢
  have JC:Aside (0<T→∃ gj,aj=some ⟨gj,0,none⟩∧w2.heap.size≤gj):=fun h=>by obtain ⟨g,h1,h2,_⟩:=hgj h;exact ⟨g,h1,h2⟩
  have R3:Aside (Below w.heap.size w w3∧Has w3 b3 #[.int .u64 (F:Int),.int .u64 (S:Int),.slice a n c] 50∧SMAP w3 mb (n+0) (JQ d js M1 0)∧w3.ownsRow w2.heap.size 79 2 (.slice aj T cj) T (z05 js)∧mb<w2.heap.size):=⟨R2.out.1.trans (hb.mono R2.out.1.size),R2.out.2.1.keep hb,R2.out.2.2.1.below hb,hrow,R2.out.2.2.1.lt⟩
  have KT:Aside (js.length=T∧T≤62):=⟨hTT,hfew⟩
  clear hrow hb hcj hgj hTT hfew R2
  go_wp2_with fail
  go_loopg [42] T (fun q s42 wx=>∃ t:Nat,s42=.int .i64 (t:Int)∧Aside (t+q=T∧Below w.heap.size w wx∧Has wx b3 #[.int .u64 (F:Int),.int .u64 (S:Int),.slice a n c] 50∧SMAP wx mb (n+t) (JQ d js M1 t)∧wx.ownsRow w2.heap.size 79 2 (.slice aj T cj) T (z05 js)))
  case atStart=>exact ⟨0,rfl,by omega,R3.out.1,R3.out.2.1,R3.out.2.2.1,R3.out.2.2.2.1⟩
  case round=>
    obtain ⟨t,rfl,A⟩:=hrel
    cases gk with
    | zero=>
      obtain rfl:t=T:=by have:=A.out.1;omega
      have hlt:¬ (t:Int)<(t:Int):=by omega
      have hH:=HT.out _ A.out.2.1
      have hIs:∀ p q,IsH (JQ d js M1 t p q):=z8a KK.out.1 t
      have hC:JQ d js M1 t=RCM d js F S l:=by
        unfold RCM
        rw [KK.out.2.2.1,KT.out.1,HA.out.2.2.2.1]
      rw [hC] at hIs
      have hA:Aside (Below w.heap.size w wr∧Has wr b3 #[.int .u64 (F:Int),.int .u64 (S:Int),.slice a n c] 50∧SMAP wr mb (n+t) (RCM d js F S l)):=⟨A.out.2.1,A.out.2.2.1,hC ▸ A.out.2.2.2.1⟩
      clear A R3 hC hH
      go_upto_region 12 with fail
      refine z93 (Q:=_) _ _ _ _ _ _ _ _ _ _ _ _ _ _ _ _ _ _ _ _ _ _ _ _ _ _ _ _ _ _ _ _ _ _ _ _ _ _ _ _ _ _ _ _ _ _ _ _ _ _ _ _ _ _ _ _ _ wr mb b3 F S
        (fun W=>Below wr.heap.size wr W) (fun X W=>Below wr.heap.size wr W∧∃ a c,X=.slice a (PC F) c∧W.ownsRow w.heap.size 24 32 (.slice a (PC F) c) (PC F) (z01 (CAT (RCM d js F S l) (SPAN 0 F))))
        (fun X Y W=>Below wr.heap.size wr W∧(∃ a c,X=.slice a (PC F) c∧W.ownsRow w.heap.size 24 32 (.slice a (PC F) c) (PC F) (z01 (CAT (RCM d js F S l) (SPAN 0 F))))∧(∃ a c,Y=.slice a (PC S) c∧W.ownsRow w.heap.size 24 32 (.slice a (PC S) c) (PC S) (z01 (CAT (RCM d js F S l) (SPAN 0 S))))∧∀ k,X.ownBlock=some k→Y.ownBlock≠some k)
        (fun W h=>⟨(hA.out.2.1.keep h).cell 0,(hA.out.2.1.keep h).cell 1⟩) (fun X W h=>⟨(hA.out.2.1.keep h.1).cell 0,(hA.out.2.1.keep h.1).cell 1⟩) (fun X Y W h=>⟨(hA.out.2.1.keep h.1).cell 0,(hA.out.2.1.keep h.1).cell 1⟩)
        (fun W hb=>?_) (fun X W hb=>?_) (Below.refl _ _).drew (fun _ _ _ _ _ h=>h) ?_
      · have hbw:=hA.out.1.trans (hb.mono hA.out.1.size)
        have hH:=HT.out _ hbw
        refine (z7x mb (n+t) F (by have:=HA.out;omega) (RCM d js F S l) W (hA.out.2.2.below hb) (fun s _=>(hIs s.1 s.2).1) hH.1 hH.2.2.1).mono ?_
        rintro e w5 ⟨a5,c5,rfl,hrow,hb5⟩
        exact ⟨_,rfl,hb.trans (hb5.mono hb.size),a5,c5,rfl,z0u hrow hbw.size⟩
      · obtain ⟨hb,a4,c4,rfl,ho⟩:=hb
        have hbw:=hA.out.1.trans (hb.mono hA.out.1.size)
        have hH:=HT.out _ hbw
        refine (z7x mb (n+t) S (by have:=HA.out;omega) (RCM d js F S l) W (hA.out.2.2.below hb) (fun s _=>(hIs s.1 s.2).1) hH.1 hH.2.2.1).mono ?_
        rintro e w5 ⟨a5,c5,rfl,hrow,hb5⟩
        exact ⟨_,rfl,hb.trans (hb5.mono hb.size),⟨a4,c4,rfl,z0q ho hb5⟩,⟨a5,c5,rfl,z0u hrow hbw.size⟩,fun k e1 e2=>by have h1:=(ho.lt k e1).2;have h2:=(hrow.lt k e2).1;omega⟩
      · rintro X Y W ⟨hb,⟨a4,c4,rfl,ho⟩,⟨a5,c5,rfl,hrow⟩,hap⟩
        have AP:Aside (∀ k,(Value.slice a4 (PC F) c4).ownBlock=some k→(Value.slice a5 (PC S) c5).ownBlock≠some k):=hap
        have Z:Aside (Below w.heap.size w W∧W.ownsRow w.heap.size 24 32 (.slice a4 (PC F) c4) (PC F) (z01 (CAT (RCM d js F S l) (SPAN 0 F)))∧W.ownsRow w.heap.size 24 32 (.slice a5 (PC S) c5) (PC S) (z01 (CAT (RCM d js F S l) (SPAN 0 S)))):=⟨hA.out.1.trans (hb.mono hA.out.1.size),ho,hrow⟩
        clear hb ho hrow hA hIs KK HT HA JC KT hap
        go_wp2
        go_ret3
        exact ⟨a4,c4,a5,c5,rfl,Z.out.2.1,Z.out.2.2,Z.out.1,AP.out⟩
    | succ q=>
      have hlt:(t:Int)<(T:Int):=by have:=A.out.1;omega
      obtain ⟨gj,haj,hgj⟩:=JC.out (by have:=A.out.1;omega)
      subst haj
      obtain ⟨⟨x,y⟩,hxy⟩:∃ s,js[t]?=some s:=⟨_,List.getElem?_eq_getElem (by have:=A.out.1;have:=KT.out;omega)⟩
      have HX1:Aside (1≤x∧x<200∧2*y+1<2 ^ 64∧js.getD t (0,0)=(x,y)):=by
        obtain ⟨hx1,hx2,hy⟩:=HA.out.2.2.1.each t x y hxy
        exact ⟨hx1,hx2,hy,by rw [List.getD_eq_getElem?_getD,hxy];rfl⟩
      have hcx:wr.cell? ⟨gj,t*2,none⟩=some (.int .u8 (x:Int)):=by
        rw [A.out.2.2.2.2.cellAt (t*2) (by have:=A.out.1;omega)]
        exact (z3r js t x y hxy).1
      have hcy:wr.cell? ⟨gj,t*2+1,none⟩=some (.int .u64 (y:Int)):=by
        rw [A.out.2.2.2.2.cellAt (t*2+1) (by have:=A.out.1;omega)]
        exact (z3r js t x y hxy).2
      have HG:Aside (w2.heap.size≤gj):=hgj
      clear hxy hgj
      go_wp2_with fail
      have hbs:Below wr.heap.size wr (wr.alloc (.cells #[.int .u8 (x:Int),.int .u64 (y:Int)] 79)):=(Below.refl _ _).alloc (Nat.le_refl _) _
      have A5:Aside (Below w.heap.size w (wr.alloc (.cells #[.int .u8 (x:Int),.int .u64 (y:Int)] 79))∧Has (wr.alloc (.cells #[.int .u8 (x:Int),.int .u64 (y:Int)] 79)) b3 #[.int .u64 (F:Int),.int .u64 (S:Int),.slice a n c] 50∧SMAP (wr.alloc (.cells #[.int .u8 (x:Int),.int .u64 (y:Int)] 79)) mb (n+t) (JQ d js M1 t)∧(wr.alloc (.cells #[.int .u8 (x:Int),.int .u64 (y:Int)] 79)).ownsRow w2.heap.size 79 2 (.slice (some ⟨gj,0,none⟩) T cj) T (z05 js)):=⟨A.out.2.1.trans (hbs.mono A.out.2.1.size),A.out.2.2.1.keep hbs,A.out.2.2.2.1.below hbs,z0q A.out.2.2.2.2 hbs⟩
      obtain ⟨x1,hx1⟩:∃ x1,x=x1+1:=⟨x - 1,by have:=HX1.out;omega⟩
      have hH:=HT.out _ A5.out.1
      have hIs:∀ p q,IsH (JQ d js M1 t p q):=z8a KK.out.1 t
      refine (zfR mb (n+t) x x1 y d (JQ d js M1 t) hx1 HX1.out.2.1 HX1.out.2.2.1 (by have:=KK.out;have:=KT.out;have:=A.out.1;omega) _ A5.out.2.2.1 (hIs _ _) (hIs _ _) hH.2.1 KK.out.2.2.2.2).mono ?_
      clear hH hIs hbs
      rintro e w5 ⟨rfl,hM,hg⟩
      have Z:Aside (t+1+q=T∧Below w.heap.size w w5∧Has w5 b3 #[.int .u64 (F:Int),.int .u64 (S:Int),.slice a n c] 50∧SMAP w5 mb (n+(t+1)) (JQ d js M1 (t+1))∧w5.ownsRow w2.heap.size 79 2 (.slice (some ⟨gj,0,none⟩) T cj) T (z05 js)):=by
        obtain ⟨a2,a3,a4,a5⟩:=A5.out
        have hmb:=KK.out.2.1
        have hb4:=HB.out
        have hr:=R3.out.2.2.2.2
        have hgj:=HG.out
        refine ⟨by have:=A.out.1;omega,a2.grown hg a2.size (fun k e=>by cases e;omega),a3.grown hg (by simp;omega),?_,a5.kept hg (Or.inr (by simp [Value.ownBlock];omega))⟩
        have e:JQ d js M1 (t+1)=MPUT (JQ d js M1 t) x y (z0D d (JQ d js M1 t x1 (2*y)) (JQ d js M1 t x1 (2*y+1))):=by
          rw [JQ,HX1.out.2.2.2]
          dsimp only
          rw [show x - 1=x1 by omega]
        rw [e]
        exact hM
      have E1:Aside (wrap64 ((t:Int)+1)=((t+1:Nat):Int)):=by have:=KT.out;have:=A.out.1;show wrap64 ((t:Int)+1)=((t+1:Nat):Int);unfold wrap64;omega
      clear hM hg A A5 hcx hcy hx1
      have e1:=E1.out
      go_wp2
      go_roundg q
      case measure=>exact Nat.lt_succ_self _
      case rel=>exact ⟨t+1,by first | rfl | (rw [E1.out]),Z.out⟩
def RCA (d:Int) (js:List (Nat × Nat)) (F S n:Nat) (l:List Int):Int × (Nat × List Int) × (Nat × List Int):=if (PPA F S).1≠0 then ((PPA F S).1,(0,[]),(0,[])) else if n≠(PPA F S).2.length then (70,(0,[]),(0,[])) else (0,(PC F,CAT (RCM d js F S l) (SPAN 0 F)),(PC S,CAT (RCM d js F S l) (SPAN 0 S)))
def ANSR (w:World) (A:Int × (Nat × List Int) × (Nat × List Int)) (e:Ending) (w':World):Prop:=∃ a c a' c',e=.returned (.tuple #[.slice a A.2.1.1 c,.slice a' A.2.2.1 c',.int .i64 A.1])∧w'.ownsRow w.heap.size 24 32 (.slice a A.2.1.1 c) A.2.1.1 (z01 A.2.1.2)∧w'.ownsRow w.heap.size 24 32 (.slice a' A.2.2.1 c') A.2.2.1 (z01 A.2.2.2)∧Below w.heap.size w w'∧∀ k,(Value.slice a A.2.1.1 c).ownBlock=some k→(Value.slice a' A.2.2.1 c').ownBlock≠some k
set_option maxHeartbeats 2000000 in
theorem zeR (d:Int) (F S:Nat) (js:List (Nat × Nat)) (hJ:F≤S→S≤4611686018427387904→JSOK F (S - F) js) (a:Option Addr) (n c:Nat) (l:List Int) (w:World) (hF:Flat w a n l) (hT:Tabled w) (hX:HX.Tabled w) (h0:2<w.heap.size):
    Calls Tryz.prog 44 #[.int .i64 d,.agg #[.int .u64 (F:Int),.int .u64 (S:Int),.slice a n c]] w (ANSR w (RCA d js F S n l)):=by
  unfold RCA
  by_cases hE:(PPA F S).1=0
  · rw [if_neg (by simpa using hE)]
    have hFS:F≤S∧S≤4611686018427387904:=by
      unfold PPA at hE
      split at hE
      · simp at hE
      · omega
    have hPL:PPA F S=(0,PLCS (PXS F S)):=by
      unfold PPA
      rw [if_neg (by omega)]
    have hlen:(PPA F S).2.length=(PXS F S).length:=by rw [hPL];exact z0N _
    by_cases hn:n=(PPA F S).2.length
    · rw [if_neg (by simpa using hn)]
      exact zbF d F S hFS.1 hFS.2 js (hJ hFS.1 hFS.2) a n c (by omega) l w hF hT hX h0
    · rw [if_pos hn]
      have HB:Aside (Below w.heap.size w (w.alloc (.cells #[.int .u64 (F:Int),.int .u64 (S:Int),.slice a n c] 50))):=(Below.refl _ _).alloc (Nat.le_refl _) _
      have hH:Has (w.alloc (.cells #[.int .u64 (F:Int),.int .u64 (S:Int),.slice a n c] 50)) w.heap.size #[.int .u64 (F:Int),.int .u64 (S:Int),.slice a n c] 50:=Has.new _ _ _
      have cP:=z4C F S _ (hT.below (by omega) HB.out) (Nat.lt_of_lt_of_le (by omega) HB.out.size)
      rw [hPL] at cP hn
      obtain ⟨N,hN⟩:∃ N,(PLCS (PXS F S)).length=N:=⟨_,rfl⟩
      dsimp only at cP hn
      rw [hN] at cP hn
      have HN:Aside (n≠N):=hn
      obtain ⟨b5,hb5⟩:∃ b5,b5=w.heap.size:=⟨_,rfl⟩
      rw [← hb5] at hH
      have HH:Aside (Has (w.alloc (.cells #[.int .u64 (F:Int),.int .u64 (S:Int),.slice a n c] 50)) b5 #[.int .u64 (F:Int),.int .u64 (S:Int),.slice a n c] 50):=hH
      clear hT hX h0 hE hFS hPL hlen hn hN hF hH hJ
      go_enter Tryz.func44,Tryz.ntmps44
      go_wp2_with fail
      rw [← hb5]
      refine cP.mono ?_
      rintro e w1 ⟨v,rfl,hrow,hb⟩
      have hv:∃ a' c',v=.slice a' N c':=by
        obtain ⟨av,cv,e, -⟩:=z1R hrow
        exact ⟨av,cv,e⟩
      have y2:w1.cell? ⟨b5,2,none⟩=some (.slice a n c):=(HH.out.keep hb).cell 2
      have R:Aside (Below w.heap.size w w1):=HB.out.trans (hb.mono HB.out.size)
      clear hrow hb cP HB HH hb5
      obtain ⟨a',c',rfl⟩:=hv
      go_wp2_with fail
      refine (zbx (.slice a' N c') N ⟨a',c',rfl⟩ a n c HN.out w1).mono ?_
      rintro e w2 ⟨rfl,rfl⟩
      clear y2
      go_wp2
      go_ret3
      exact ⟨none,0,none,0,rfl,World.ownsRow_nil _ _ _ _,World.ownsRow_nil _ _ _ _,R.out,fun k h=>by cases h⟩
  · rw [if_pos hE]
    have HB:Aside (Below w.heap.size w (w.alloc (.cells #[.int .u64 (F:Int),.int .u64 (S:Int),.slice a n c] 50))):=(Below.refl _ _).alloc (Nat.le_refl _) _
    have cP:=z4C F S _ (hT.below (by omega) HB.out) (Nat.lt_of_lt_of_le (by omega) HB.out.size)
    obtain ⟨E,hEe⟩:∃ E,(PPA F S).1=E:=⟨_,rfl⟩
    rw [hEe] at cP hE ⊢
    have hne:((E:Int) != 0)=true:=by simp [hE]
    clear hT hX h0 hE hEe hF hJ
    go_enter Tryz.func44,Tryz.ntmps44
    go_wp2_with fail
    refine cP.mono ?_
    rintro e w1 ⟨v,rfl,hrow,hb⟩
    have R:Aside (Below w.heap.size w w1):=HB.out.trans (hb.mono HB.out.size)
    clear hrow hb cP HB
    go_wp2
    go_ret3
    exact ⟨none,0,none,0,rfl,World.ownsRow_nil _ _ _ _,World.ownsRow_nil _ _ _ _,R.out,fun k h=>by cases h⟩
theorem z7G {d:Int} {js:List (Nat × Nat)} {F S n:Nat} {l:List Int} (hl:l.length=32*n) (hr:∀ x∈l,0≤x∧x≤255):(∀ x∈(RCA d js F S n l).2.1.2,0≤x∧x≤255)∧∀ x∈(RCA d js F S n l).2.2.2,0≤x∧x≤255:=by
  unfold RCA
  split
  · simp
  · split
    · simp
    · rename_i h1 h2
      have hlen:(PXS F S).length=n:=by
        have h3:n=(PPA F S).2.length:=Decidable.not_not.1 h2
        have h4:(PPA F S).1=0:=Decidable.not_not.1 h1
        rw [h3]
        unfold PPA at h4 ⊢
        split at h4
        · simp at h4
        · rename_i h5
          rw [if_neg h5]
          exact (z0N _).symm
      have hIs:∀ p q,IsH (RCM d js F S l p q):=z8a (z3T hl hr (PXS F S).length (by omega)) js.length
      refine ⟨fun x hx=>?_,fun x hx=>?_⟩ <;>
      · obtain ⟨s,_,hs⟩:=List.mem_flatMap.1 hx
        exact (hIs s.1 s.2).2 x hs
end Go.Proofs.YthpdlnbbbcgemaaGreatDoor
