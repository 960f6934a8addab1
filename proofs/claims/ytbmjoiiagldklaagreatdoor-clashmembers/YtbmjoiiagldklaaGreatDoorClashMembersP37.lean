/- Texts of ClashMembers, one behind the other: ClashFairState, ClashFair, ClashKept, ClashTold, VerifyStill8, VerifyLast8. -/
import Derived.Deep.QuietTactic
import Derived.BigQuiet
import Derived.Test.YtbmjoiiagldklaaGreatDoorClashMembersP13
import Derived.Test.YtbmjoiiagldklaaGreatDoorClashMembersP15
import Derived.Test.YtbmjoiiagldklaaGreatDoorClashMembersP23
import Derived.Test.YtbmjoiiagldklaaGreatDoorClashMembersP24
import Derived.Test.YtbmjoiiagldklaaGreatDoorClashMembersP28
import Derived.Test.YtbmjoiiagldklaaGreatDoorClashMembersP36
namespace Go.Proofs.YtbmjoiiagldklaaGreatDoor
open Go.RowKit
set_option maxRecDepth 100000
structure FourT (w:World) (B:Nat) (K:Nat→Prop) (v:Nat→Value) (n:Nat→Nat) (xs:Nat→List Value):Prop where
  row:∀ x,x<4→w.ownsRow B 5 1 (v x) (n x) (xs x)
  apart:∀ x y,x<4→y<4→x≠y→∀ g,(v x).ownBlock=some g→(v y).ownBlock≠some g
  off:∀ x,x<4→∀ g,(v x).ownBlock=some g→¬ K g
def UPT {α:Type} (f:Nat→α) (x:Nat) (a:α):Nat→α:=fun z=>if z=x then a else f z
theorem z0T {α:Type} (f:Nat→α) (x:Nat) (a:α):UPT f x a x=a:=by simp [UPT]
theorem z0w {α:Type} (f:Nat→α) {x z:Nat} (a:α) (h:z≠x):UPT f x a z=f z:=by simp [UPT,h]
theorem zfj:(Tryz.prog.info? 5).map (fun i=>(i.zero,i.size,i.bytes))=some (some (.int .u8 0),1,1):=by kernel_rfl
theorem zdM {w w':World} {B:Nat} {t:TypeId} {s n:Nat} {v:Value} {xs:List Value} (h:w.ownsRow B t s v n xs) (hb:Below w.heap.size w w'):w'.ownsRow B t s v n xs:=by
  refine ⟨h.1,h.2.imp id ?_⟩
  rintro ⟨g,c,cur,a1,a2,a3,a4⟩
  exact ⟨g,c,cur,a1,a2,(hb.block g (Array.getElem?_eq_some_iff.1 a3).1).trans a3,a4⟩
theorem FourT.alloc {w:World} {B:Nat} {K:Nat→Prop} {v:Nat→Value} {n:Nat→Nat} {xs:Nat→List Value} (h:FourT w B K v n xs) (o:Obj):FourT (w.alloc o) B K v n xs:=⟨fun x hx=>(h.row x hx).alloc o,h.apart,h.off⟩
theorem FourT.below {w w':World} {B:Nat} {K:Nat→Prop} {v:Nat→Value} {n:Nat→Nat} {xs:Nat→List Value} (h:FourT w B K v n xs) (hb:Below w.heap.size w w'):FourT w' B K v n xs:=⟨fun x hx=>zdM (h.row x hx) hb,h.apart,h.off⟩
theorem z7S (W:World) (b j:Nat) (v:Value):W.grownBy (W.setCell ⟨b,j,none⟩ v) (some b):=
  ⟨rfl,rfl,rfl,(KeepsWalks.setCell W _ v).size,fun k _ hk=>Below.heap_setCell _ _ _ k (fun e=>hk (by rw [e]))⟩
theorem FourT.other {w:World} {B:Nat} {K:Nat→Prop} {v:Nat→Value} {n:Nat→Nat} {xs:Nat→List Value} (h:FourT w B K v n xs) {b:Nat} (hb:K b) (j:Nat) (u:Value):FourT (w.setCell ⟨b,j,none⟩ u) B K v n xs:=
  ⟨fun x hx=>(h.row x hx).kept (z7S w b j u) (.inr fun e=>h.off x hx b e hb),h.apart,h.off⟩
theorem FourT.store {w:World} {B:Nat} {K:Nat→Prop} {v:Nat→Value} {n:Nat→Nat} {xs:Nat→List Value} (h:FourT w B K v n xs) {x g m cap:Nat} (hx:x<4) (hv:v x=.slice (some ⟨g,0,none⟩) m cap) (j:Nat) (u:Value):
    FourT (w.setCell ⟨g,j,none⟩ u) B K v n (UPT xs x ((xs x).set j u)):=by
  refine ⟨fun z hz=>?_,h.apart,h.off⟩
  by_cases e:z=x
  · subst e
    have hr:=h.row z hz
    rw [hv] at hr ⊢
    have hm:m=n z:=by
      rcases hr.2 with ⟨e,_⟩ | ⟨_,_,_,e,_⟩
      · simp at e
      · simp at e
        omega
    subst hm
    rw [z0T]
    exact (hr.stored j u).1
  · rw [z0w xs _ e]
    refine (h.row z hz).kept (z7S w g j u) (.inr fun e2=>?_)
    exact h.apart x z hx hz (fun e3=>e e3.symm) g (by rw [hv];rfl) e2
theorem FourT.app {w w':World} {B:Nat} {K:Nat→Prop} {v:Nat→Value} {n:Nat→Nat} {xs:Nat→List Value} (h:FourT w B K v n xs) {x g cap:Nat} {u:Value} (hx:x<4) (hK:∀ k,K k→k<w.heap.size)
    (hown:w'.ownsRow B 5 1 (.slice (some ⟨g,0,none⟩) (n x+1) cap) (n x+1) (xs x ++ [u])) (hgrow:w.grownBy w' (v x).ownBlock) (hg:(v x).ownBlock=some g∨g=w.heap.size):
    FourT w' B K (UPT v x (.slice (some ⟨g,0,none⟩) (n x+1) cap)) (UPT n x (n x+1)) (UPT xs x (xs x ++ [u])):=by
  refine ⟨fun z hz=>?_,fun y z hy hz hne k hk=>?_,fun z hz k hk=>?_⟩
  · by_cases e:z=x
    · subst e
      rw [z0T,z0T,z0T]
      exact hown
    · rw [z0w v _ e,z0w n _ e,z0w xs _ e]
      refine (h.row z hz).kept hgrow ?_
      cases hb:(v z).ownBlock with
      | none=>exact .inl rfl
      | some k=>exact .inr fun e2=>h.apart z x hz hx e k hb e2.symm
  · by_cases ey:y=x
    · subst ey
      rw [z0T] at hk
      have hkg:g=k:=by simpa [Value.ownBlock] using hk
      subst hkg
      rw [z0w v _ (fun e=>hne e.symm)]
      intro e2
      rcases hg with hg | hg
      · exact h.apart y z hx hz hne g hg e2
      · have:=((h.row z hz).lt g e2).2
        omega
    · rw [z0w v _ ey] at hk
      by_cases ez:z=x
      · subst ez
        rw [z0T]
        intro e2
        have hkg:g=k:=by simpa [Value.ownBlock] using e2
        subst hkg
        rcases hg with hg | hg
        · exact h.apart y z hy hz hne g hk hg
        · have:=((h.row y hy).lt g hk).2
          omega
      · rw [z0w v _ ez]
        exact h.apart y z hy hz hne k hk
  · by_cases ez:z=x
    · subst ez
      rw [z0T] at hk
      have hkg:g=k:=by simpa [Value.ownBlock] using hk
      subst hkg
      rcases hg with hg | hg
      · exact h.off z hz g hg
      · intro hkk
        have:=hK g hkk
        omega
    · rw [z0w v _ ez] at hk
      exact h.off z hz k hk
theorem z5y {w:World} {B n:Nat} {v:Value} {xs:List Value} (h:w.ownsRow B 5 1 v n xs):∃ a cap,v=.slice a n cap∧(0<n→∃ g,a=some ⟨g,0,none⟩∧g<w.heap.size∧B≤g):=by
  rcases h.2 with ⟨rfl,h0⟩ | ⟨g,cap,cur,rfl,hb,hg,r⟩
  · subst h0
    exact ⟨none,0,rfl,fun h=>by omega⟩
  · exact ⟨_,cap,rfl,fun _=>⟨g,rfl,(Array.getElem?_eq_some_iff.1 hg).1,hb⟩⟩
theorem z9l {ops:Array Oper} {rest:List Oper} {o:Oper} {a:Act} {Q:Exit→Act→World→Prop} (w:World) (hgd:o.guard=none) (s x:Operand)
    (ho:o.op=.call {callee:=.builtin .append,args:=#[s,x],argTypes:=#[25,25]})
    (base:Nat) (v:Value) (n:Nat) (xs:List Value) (hs:a.eval s=v) (hown:w.ownsRow base 5 1 v n xs)
    (b c:Nat) (y:Int) (hx:a.eval x=.slice (some ⟨b,0,none⟩) 1 c) (hc:w.cell? ⟨b,0,none⟩=some (.int .u8 y))
    (hb:n≤100000) (hbase:base≤w.heap.size)
    (h:∀ g cap w',w'.ownsRow base 5 1 (.slice (some ⟨g,0,none⟩) (n+1) cap) (n+1) (xs ++ [.int .u8 y])→w.grownBy w' v.ownBlock→(v.ownBlock=some g∨g=w.heap.size)→g<w'.heap.size→wpList Tryz.prog ops Q rest (a.put o.dst (.slice (some ⟨g,0,none⟩) (n+1) cap)) w'):wpList Tryz.prog ops Q (o :: rest) a w:=by
  obtain ⟨i,hi,hz,hs1,hby⟩:=info_parts zfj
  refine wpList_append_lies w hgd s x 25 ho base 5 i (.int .u8 0) 1 1 Tryz.underlying25 hi hz hs1 hby rfl (by decide) v n xs hs hown ⟨b,0,none⟩ 1 c [.int .u8 y] hx rfl ?_ (fun u hu=>by simp at hu;subst hu;rfl) (by decide) (by simp only [maxLen];omega) (by omega) hbase w.heap.size rfl h
  intro j u hj
  cases j with
  | zero=>
    simp only [List.getElem?_cons_zero,Option.some.injEq] at hj
    subst hj
    exact hc
  | succ j=>simp at hj
theorem Has.grown9 {w w':World} {g:Nat} {c:Array Value} {t:TypeId} {row:Option Nat} (h:Has w g c t) (hg:w.grownBy w' row) (hne:row≠some g):Has w' g c t:=by
  obtain ⟨_,_,_,_,hk⟩:=hg
  exact (hk g h.lt (fun e=>hne e.symm)).trans h
abbrev CX9 (x:Nat):Value:=.int .u8 (((201+x:Nat)):Int)
def STA (w2:World) (B9 lb gb:Nat) (c0 cg:Array Value) (V:Nat→Value) (N:Nat→Nat) (x y:Nat) (wx:World):Prop:=
  ∃ xs:Nat→List Value,FourT wx B9 (fun g=>g=lb∨g=gb) V N xs∧(Has wx lb c0 25∧Has wx gb cg 68)∧Below B9 w2 wx∧(B9≤w2.heap.size∧B9≤lb∧B9≤gb)∧(∀ z,z<x→∀ j,j<N z→(xs z)[j]?=some (CX9 z))∧(∀ j,j<y→(xs x)[j]?=some (CX9 x))
theorem STA.next {w2:World} {B9 lb gb:Nat} {c0 cg:Array Value} {V:Nat→Value} {N:Nat→Nat} {x:Nat} {wx:World} (h:STA w2 B9 lb gb c0 cg V N x (N x) wx):STA w2 B9 lb gb c0 cg V N (x+1) 0 wx:=by
  obtain ⟨xs,h1,h2,h3,h4,h5,h6⟩:=h
  refine ⟨xs,h1,h2,h3,h4,fun z hz j hj=>?_,fun j hj=>by omega⟩
  rcases Nat.lt_or_ge z x with h | h
  · exact h5 z h j hj
  · obtain rfl:z=x:=by omega
    exact h6 j hj
theorem STA.store {w2:World} {B9 lb gb:Nat} {c0 cg:Array Value} {V:Nat→Value} {N:Nat→Nat} {x y g m cap:Nat} {wx:World} (h:STA w2 B9 lb gb c0 cg V N x y wx) (hx:x<4) (hy:y<N x) (hv:V x=.slice (some ⟨g,0,none⟩) m cap):STA w2 B9 lb gb c0 cg V N x (y+1) (wx.setCell ⟨g,y,none⟩ (CX9 x)):=by
  obtain ⟨xs,h1,h2,h3,h4,h5,h6⟩:=h
  have hg:=(h1.row x hx).lt g (by rw [hv];rfl)
  refine ⟨_,h1.store hx hv y (CX9 x),⟨h2.1.other (fun e=>h1.off x hx g (by rw [hv];rfl) (.inl e.symm)) _,h2.2.other (fun e=>h1.off x hx g (by rw [hv];rfl) (.inr e.symm)) _⟩,h3.setCell hg.1 _,h4,fun z hz j hj=>?_,fun j hj=>?_⟩
  · rw [z0w xs _ (by omega)]
    exact h5 z hz j hj
  · rw [z0T,List.getElem?_set]
    have hl:(xs x).length=N x:=by have:=(h1.row x hx).1;omega
    split
    · rw [if_pos (by omega)]
    · exact h6 j (by omega)
structure STB (w2:World) (B9 lb gb:Nat) (c0:Array Value) (x:Nat) (wx:World) (V:Nat→Value) (N:Nat→Nat) (xs:Nat→List Value) (cg:Array Value):Prop where
  four:FourT wx B9 (fun g=>g=lb∨g=gb) V N xs
  hl:Has wx lb c0 25
  hg:Has wx gb cg 68
  size:cg.size=4
  bel:Below B9 w2 wx
  hB:B9≤w2.heap.size
  ol:B9≤lb
  og:B9≤gb
  old:∀ z,x≤z→z<4→c0[z]?=some (V z)
  new:∀ z,z<x→cg[z]?=some (V z)
  cell:∀ z,z<4→∀ j,j<N z→(xs z)[j]?=some (CX9 z)
  len:∀ z,z<4→N z≤202
  few:∀ z,x≤z→z<4→N z≤200
theorem STB.step {w2:World} {B9 lb gb:Nat} {c0:Array Value} {x:Nat} {wx:World} {V:Nat→Value} {N:Nat→Nat} {xs:Nat→List Value} {cg:Array Value} (h:STB w2 B9 lb gb c0 x wx V N xs cg) (hx:x<4) (o1 o2:Obj) {g1 q1 g2 q2:Nat} {w5 w6:World}
    (own1:w5.ownsRow B9 5 1 (.slice (some ⟨g1,0,none⟩) (N x+1) q1) (N x+1) (xs x ++ [CX9 x])) (grow1:(wx.alloc o1).grownBy w5 (V x).ownBlock) (at1:(V x).ownBlock=some g1∨g1=(wx.alloc o1).heap.size)
    (own2:w6.ownsRow B9 5 1 (.slice (some ⟨g2,0,none⟩) (N x+1+1) q2) (N x+1+1) (xs x ++ [CX9 x] ++ [CX9 x])) (grow2:(w5.alloc o2).grownBy w6 (some g1)) (at2:some g1=some g2∨g2=(w5.alloc o2).heap.size):
    Has w6 gb cg 68∧∃ V' N' xs',STB w2 B9 lb gb c0 (x+1) (w6.setCell ⟨gb,x,none⟩ (.slice (some ⟨g2,0,none⟩) (N x+1+1) q2)) V' N' xs' (cg.setIfInBounds x (.slice (some ⟨g2,0,none⟩) (N x+1+1) q2)):=by
  have hK:∀ k,(k=lb∨k=gb)→k<(wx.alloc o1).heap.size:=fun k hk=>by
    rcases hk with rfl | rfl
    · exact (h.hl.alloc o1).lt
    · exact (h.hg.alloc o1).lt
  have F1:=(h.four.alloc o1).app hx hK own1 grow1 at1
  have hr1:∀ k,(k=lb∨k=gb)→(V x).ownBlock≠some k:=fun k hk e=>h.four.off x hx k e hk
  have l5:=(h.hl.alloc o1).grown9 grow1 (hr1 lb (.inl rfl))
  have g5:=(h.hg.alloc o1).grown9 grow1 (hr1 gb (.inr rfl))
  have hr2:∀ k,(k=lb∨k=gb)→(some g1:Option Nat)≠some k:=fun k hk e=>F1.off x hx k (by rw [z0T];exact e) hk
  have hK2:∀ k,(k=lb∨k=gb)→k<(w5.alloc o2).heap.size:=fun k hk=>by
    rcases hk with rfl | rfl
    · exact (l5.alloc o2).lt
    · exact (g5.alloc o2).lt
  have l6:=(l5.alloc o2).grown9 grow2 (hr2 lb (.inl rfl))
  have g6:=(g5.alloc o2).grown9 grow2 (hr2 gb (.inr rfl))
  have F2:=(F1.alloc o2).app (x:=x) (g:=g2) (cap:=q2) (u:=CX9 x) (w':=w6) hx hK2 (by rw [z0T,z0T];exact own2) (by rw [z0T];exact grow2) (by rw [z0T];exact at2)
  have F3:=F2.other (b:=gb) (.inr rfl) x (.slice (some ⟨g2,0,none⟩) (N x+1+1) q2)
  have b5:Below B9 w2 w5:=(h.bel.alloc (Nat.le_trans h.hB h.bel.size) _).grown grow1 (by have:=h.bel.size;have:=h.hB;simp;omega) (fun k e=>((h.four.row x hx).lt k e).1)
  have b6:Below B9 w2 w6:=(b5.alloc (Nat.le_trans h.hB b5.size) _).grown grow2 (by have:=b5.size;have:=h.hB;simp;omega) (fun k e=>(own1.lt k e).1)
  have hlen:(xs x).length=N x:=by have:=(h.four.row x hx).1;omega
  refine ⟨g6,_,_,_,⟨F3,l6.other (a:=⟨gb,x,none⟩) (fun e=>?_) _,g6.set x _,by simpa using h.size,b6.setCell (p:=⟨gb,x,none⟩) h.og _,h.hB,h.ol,h.og,fun z hz hz4=>?_,fun z hz=>?_,fun z hz j hj=>?_,fun z hz=>?_,fun z hz hz4=>?_⟩⟩
  · have e':lb=gb:=e
    have h1:wx.heap[lb]?=some (.cells c0 25):=h.hl
    have h2:wx.heap[gb]?=some (.cells cg 68):=h.hg
    rw [e',h2] at h1
    simp at h1
  · rw [z0w _ _ (by omega),z0w _ _ (by omega)]
    exact h.old z (by omega) hz4
  · rw [Array.getElem?_setIfInBounds]
    by_cases e:z=x
    · subst e
      rw [if_pos rfl,if_pos (by rw [h.size];exact hx),z0T,z0T]
    · rw [if_neg (fun e2=>e e2.symm),z0w _ _ e,z0w _ _ e]
      exact h.new z (by omega)
  · by_cases e:z=x
    · subst e
      rw [z0T,z0T] at hj
      rw [z0T,z0T]
      rcases Nat.lt_or_ge j (N z) with h1 | h1
      · rw [List.append_assoc,List.getElem?_append_left (by omega)]
        exact h.cell z hz j h1
      · rw [List.append_assoc,List.getElem?_append_right (by omega),hlen]
        rcases (show j - N z=0∨j - N z=1 by omega) with h2 | h2 <;> rw [h2] <;> rfl
    · rw [z0w _ _ e,z0w _ _ e] at hj
      rw [z0w _ _ e,z0w _ _ e]
      exact h.cell z hz j hj
  · by_cases e:z=x
    · subst e
      rw [z0T,z0T]
      have:=h.few z (Nat.le_refl _) hz
      omega
    · rw [z0w _ _ e,z0w _ _ e]
      exact h.len z hz
  · rw [z0w _ _ (by omega),z0w _ _ (by omega)]
    exact h.few z (by omega) hz4
theorem STB.start {w2:World} {B9 lb gb:Nat} {c0 cg:Array Value} {V:Nat→Value} {N:Nat→Nat} {wx:World} (h:STA w2 B9 lb gb c0 cg V N 4 0 wx) (hV:∀ x,x<4→c0[x]?=some (V x)) (hN:∀ x,x<4→N x≤200) (hcg:cg.size=4):∃ xs,STB w2 B9 lb gb c0 0 wx V N xs cg:=by
  obtain ⟨xs,h1,h2,h3,h4,h5,h6⟩:=h
  refine ⟨xs,h1,h2.1,h2.2,hcg,h3,h4.1,h4.2.1,h4.2.2,fun z _ hz=>hV z hz,fun z hz=>by omega,fun z hz j hj=>h5 z hz j hj,fun z hz=>?_,fun z _ hz=>hN z hz⟩
  have:=hN z hz
  omega
end Go.Proofs.YtbmjoiiagldklaaGreatDoor

namespace Go.Proofs.YtbmjoiiagldklaaGreatDoor
open Go.RowKit
set_option maxRecDepth 100000
theorem zhS {x:Nat} (hx:x<4):IntKind.u8.wrap ((201+x:Nat):Int)=((201+x:Nat):Int):=by
  rcases (show x=0∨x=1∨x=2∨x=3 by omega) with rfl | rfl | rfl | rfl <;> decide
set_option maxHeartbeats 1000000 in
theorem zfk (d:Int) (w:World):Calls Tryz.prog 10 #[.int .i64 d,.agg #[.slice none 0 0,.slice none 0 0],.agg #[.slice none 0 0,.slice none 0 0],.bool false,.bool false,.bool false] w fun e w'=>e=.returned (.bool true)∧Below w.heap.size w w':=by
  have hb:Below w.heap.size w ((w.alloc (.cells #[.slice none 0 0,.slice none 0 0] 30)).alloc (.cells #[.slice none 0 0,.slice none 0 0] 30)):=((Below.refl _ _).alloc (Nat.le_refl _) _).alloc (by simp) _
  have R:Aside (Below w.heap.size w ((w.alloc (.cells #[.slice none 0 0,.slice none 0 0] 30)).alloc (.cells #[.slice none 0 0,.slice none 0 0] 30))):=hb
  clear hb
  go_enter Tryz.func10,Tryz.ntmps10
  go_wp2
  go_ret
  exact ⟨rfl,R.out⟩
theorem zdN {x y gA gB gC gD:Nat} (h:gA≠gB∧gA≠gC∧gA≠gD∧gB≠gC∧gB≠gD∧gC≠gD) (hx:x<4) (hy:y<4) (hne:x≠y):(if x=0 then gA else if x=1 then gB else if x=2 then gC else gD)≠(if y=0 then gA else if y=1 then gB else if y=2 then gC else gD):=by
  rcases (show x=0∨x=1∨x=2∨x=3 by omega) with rfl | rfl | rfl | rfl <;> rcases (show y=0∨y=1∨y=2∨y=3 by omega) with rfl | rfl | rfl | rfl <;> simp <;> omega
set_option maxHeartbeats 8000000 in
theorem zfl (d:Int) (B9:Nat) (s t:List Nat) (gA cA gB cB gC cC gD cD:Nat) (w:World) (hB:B9≤w.heap.size) (oA:OWNT w B9 gA cA s) (oB:OWNT w B9 gB cB t) (oC:OWNT w B9 gC cC s) (oD:OWNT w B9 gD cD t) (hap:gA≠gB∧gA≠gC∧gA≠gD∧gB≠gC∧gB≠gD∧gC≠gD) (hH:HX.z1m d s t=true):
    Calls Tryz.prog 10 #[.int .i64 d,.agg #[.slice (some ⟨gA,0,none⟩) s.length cA,.slice (some ⟨gB,0,none⟩) t.length cB],.agg #[.slice (some ⟨gC,0,none⟩) s.length cC,.slice (some ⟨gD,0,none⟩) t.length cD],.bool true,.bool true,.bool true] w fun e w'=>e=.returned (.bool true)∧Below B9 w w':=by
  obtain ⟨n,hn⟩:∃ n,s.length=n:=⟨_,rfl⟩
  obtain ⟨m,hm⟩:∃ m,t.length=m:=⟨_,rfl⟩
  have HA:Aside (B9≤w.heap.size∧OWNT w B9 gA cA s∧OWNT w B9 gB cB t∧OWNT w B9 gC cC s∧OWNT w B9 gD cD t∧(gA≠gB∧gA≠gC∧gA≠gD∧gB≠gC∧gB≠gD∧gC≠gD)∧s.length=n∧t.length=m∧HX.z1m d s t=true):=⟨hB,oA,oB,oC,oD,hap,hn,hm,hH⟩
  have hn2:n≤200:=by rw [← hn];exact oA.2.2.2
  have hm2:m≤200:=by rw [← hm];exact oB.2.2.2
  rw [hn,hm]
  clear hB oA oB oC oD hap hn hm hH
  have l1:¬ (200:Int)<(n:Int):=by omega
  have l2:¬ (200:Int)<(m:Int):=by omega
  obtain ⟨W0,hW0⟩:∃ W0,(w.alloc (.cells #[.slice (some ⟨gA,0,none⟩) n cA,.slice (some ⟨gB,0,none⟩) m cB] 30)).alloc (.cells #[.slice (some ⟨gC,0,none⟩) n cC,.slice (some ⟨gD,0,none⟩) m cD] 30)=W0:=⟨_,rfl⟩
  obtain ⟨z,hz⟩:∃ z,w.heap.size=z:=⟨_,rfl⟩
  have hb0:Below w.heap.size w W0:=by rw [← hW0];exact ((Below.refl _ _).alloc (Nat.le_refl _) _).alloc (by simp) _
  have k7:Has W0 z #[.slice (some ⟨gA,0,none⟩) n cA,.slice (some ⟨gB,0,none⟩) m cB] 30:=by rw [← hW0,← hz];exact (Has.new _ _ _).alloc _
  have k8:Has W0 (z+1) #[.slice (some ⟨gC,0,none⟩) n cC,.slice (some ⟨gD,0,none⟩) m cD] 30:=by rw [← hW0,← hz];exact Has.at _ _ _ (by simp)
  have hcells:∀ W,Below W0.heap.size W0 W→W.cell? ⟨z,0,none⟩=some (.slice (some ⟨gA,0,none⟩) n cA)∧W.cell? ⟨z,1,none⟩=some (.slice (some ⟨gB,0,none⟩) m cB)∧W.cell? ⟨z+1,0,none⟩=some (.slice (some ⟨gC,0,none⟩) n cC)∧W.cell? ⟨z+1,1,none⟩=some (.slice (some ⟨gD,0,none⟩) m cD):=fun W h=>⟨(k7.keep h).cell 0,(k7.keep h).cell 1,(k8.keep h).cell 0,(k8.keep h).cell 1⟩
  have HC:Aside (∀ W,Below W0.heap.size W0 W→W.cell? ⟨z,0,none⟩=some (.slice (some ⟨gA,0,none⟩) n cA)∧W.cell? ⟨z,1,none⟩=some (.slice (some ⟨gB,0,none⟩) m cB)∧W.cell? ⟨z+1,0,none⟩=some (.slice (some ⟨gC,0,none⟩) n cC)∧W.cell? ⟨z+1,1,none⟩=some (.slice (some ⟨gD,0,none⟩) m cD)):=hcells
  obtain ⟨x0,x1,x2,x3⟩:=hcells W0 (Below.refl _ _)
  have ch:Calls Tryz.prog 28 #[.int .i64 d,.agg #[.slice (some ⟨gA,0,none⟩) n cA,.slice (some ⟨gB,0,none⟩) m cB]] W0 fun e w'=>e=.returned (.bool true)∧Below W0.heap.size W0 w':=by
    obtain ⟨q1,q2,q3,q4,q5,q6,q7,q8,q9⟩:=HA.out
    have hA:=q2.text
    have hB:=q3.text
    rw [q7] at hA
    rw [q8] at hB
    have:=HX.zaH d (some ⟨gA,0,none⟩) n cA s (some ⟨gB,0,none⟩) m cB t W0 (hA.below hb0) (by intro h;cases h) (by omega) (hB.below hb0) (by intro h;cases h) (by omega)
    rw [q9] at this
    exact this
  have CS:Aside (∀ W,Below w.heap.size w W→(Calls Tryz.prog 29 #[.slice (some ⟨gA,0,none⟩) n cA,.slice (some ⟨gC,0,none⟩) n cC] W fun e w'=>e=.returned (.bool true)∧Below W.heap.size W w')∧(Calls Tryz.prog 29 #[.slice (some ⟨gB,0,none⟩) m cB,.slice (some ⟨gD,0,none⟩) m cD] W fun e w'=>e=.returned (.bool true)∧Below W.heap.size W w')):=by
    intro W hW
    obtain ⟨q1,q2,q3,q4,q5,q6,q7,q8,q9⟩:=HA.out
    have tA:=q2.text
    have tB:=q3.text
    have tC:=q4.text
    have tD:=q5.text
    rw [q7] at tA tC
    rw [q8] at tB tD
    refine ⟨(HX.z1E _ _ n n cA cC s s W (tA.below hW) (tC.below hW) (by omega)).mono ?_,(HX.z1E _ _ m m cB cD t t W (tB.below hW) (tD.below hW) (by omega)).mono ?_⟩
    · rintro e w' ⟨rfl,hb', -⟩
      exact ⟨by rw [decide_eq_true rfl],hb'⟩
    · rintro e w' ⟨rfl,hb', -⟩
      exact ⟨by rw [decide_eq_true rfl],hb'⟩
  have R0:Aside (Below w.heap.size w W0):=hb0
  clear k7 k8 hcells hb0
  go_enter Tryz.func10,Tryz.ntmps10
  go_upto_region 1 with fail
  clear hW0 hz
  go_wp2_with fail
  refine ch.mono ?_
  rintro e w1 ⟨rfl,hb1⟩
  have hbw1:Below w.heap.size w w1:=R0.out.trans (hb1.mono R0.out.size)
  clear ch x0 x1 x2 x3
  obtain ⟨x0,x1,x2,x3⟩:=HC.out w1 hb1
  have c1:=(CS.out w1 hbw1).1
  go_wp2_with fail
  refine c1.mono ?_
  rintro e w2 ⟨rfl,hb2⟩
  have hb02:Below W0.heap.size W0 w2:=hb1.trans (hb2.mono hb1.size)
  have hbw2:Below w.heap.size w w2:=hbw1.trans (hb2.mono hbw1.size)
  clear c1 x0 x1 x2 x3 hb1 hbw1 hb2
  obtain ⟨x0,x1,x2,x3⟩:=HC.out w2 hb02
  have c2:=(CS.out w2 hbw2).2
  go_wp2_with fail
  refine c2.mono ?_
  rintro e w3 ⟨rfl,hb3⟩
  have hb03:Below W0.heap.size W0 w3:=hb02.trans (hb3.mono hb02.size)
  have hbw3:Below w.heap.size w w3:=hbw2.trans (hb3.mono hbw2.size)
  clear c2 x0 x1 x2 x3 hb02 hbw2 hb3
  obtain ⟨x0,x1,x2,x3⟩:=HC.out w3 hb03
  have R3:Aside (Below w.heap.size w w3):=hbw3
  clear hb03 hbw3 CS HC R0
  go_upto_region 9 with fail
  clear x0 x1 x2 x3
  obtain ⟨V,N,c0,hc0,hN,S⟩:∃ (V:Nat→Value) (N:Nat→Nat) (c0:Array Value),c0=#[.slice (some ⟨gA,0,none⟩) n cA,.slice (some ⟨gB,0,none⟩) m cB,.slice (some ⟨gC,0,none⟩) n cC,.slice (some ⟨gD,0,none⟩) m cD]∧Aside ((∀ x,x<4→c0[x]?=some (V x))∧(∀ x,x<4→N x≤200))∧Aside (STA w3 B9 w3.heap.size (w3.heap.size+1) c0 #[.slice none 0 0,.slice none 0 0,.slice none 0 0,.slice none 0 0] V N 0 0 ((w3.alloc (.cells c0 25)).alloc (.cells #[.slice none 0 0,.slice none 0 0,.slice none 0 0,.slice none 0 0] 68))):=by
    obtain ⟨q1,q2,q3,q4,q5,q6,q7,q8,q9⟩:=HA.out
    have hs3:=R3.out.size
    have l2:=q2.lt
    have l3:=q3.lt
    have l4:=q4.lt
    have l5:=q5.lt
    have q2:=q2.at (R3.out.block _ l2.2)
    have q3:=q3.at (R3.out.block _ l3.2)
    have q4:=q4.at (R3.out.block _ l4.2)
    have q5:=q5.at (R3.out.block _ l5.2)
    have r2:=q2.1
    have r3:=q3.1
    have r4:=q4.1
    have r5:=q5.1
    rw [q7] at r2 r4
    rw [q8] at r3 r5
    have FF:FourT w3 B9 (fun g=>g=w3.heap.size∨g=w3.heap.size+1) (fun x=>.slice (some ⟨if x=0 then gA else if x=1 then gB else if x=2 then gC else gD,0,none⟩) (if x=0∨x=2 then n else m) (if x=0 then cA else if x=1 then cB else if x=2 then cC else cD)) (fun x=>if x=0∨x=2 then n else m) (fun x=>HX.z01 (HX.INTS (if x=0∨x=2 then s else t))):=by
      refine ⟨fun x hx=>?_,fun x y hx hy hne g e1 e2=>?_,fun x hx g e1 e2=>?_⟩
      · rcases (show x=0∨x=1∨x=2∨x=3 by omega) with rfl | rfl | rfl | rfl
        · exact r2
        · exact r3
        · exact r4
        · exact r5
      · simp only [Value.ownBlock,Option.some.injEq] at e1 e2
        exact zdN q6 hx hy hne (e1.trans e2.symm)
      · simp only [Value.ownBlock,Option.some.injEq] at e1
        have:g<w3.heap.size:=by
          rcases (show x=0∨x=1∨x=2∨x=3 by omega) with rfl | rfl | rfl | rfl <;> simp at e1 <;> omega
        omega
    refine ⟨_,_,_,rfl,⟨fun x hx=>?_,fun x hx=>?_⟩,_,(FF.alloc _).alloc _,⟨(Has.new _ _ _).alloc _,Has.at _ _ _ (by simp)⟩,(((Below.refl B9 w3).alloc (by omega) _).alloc (by simp;omega) _),⟨by omega,by omega,by omega⟩,fun z hz=>by omega,fun j hj=>by omega⟩
    · rcases (show x=0∨x=1∨x=2∨x=3 by omega) with rfl | rfl | rfl | rfl <;> rfl
    · split <;> omega
  rw [← hc0]
  clear hc0
  have HW:Aside (Below B9 w w3):=R3.out.mono HA.out.1
  clear HA R3
  generalize (w3.alloc (.cells c0 25)).alloc (.cells #[.slice none 0 0,.slice none 0 0,.slice none 0 0,.slice none 0 0] 68)=w12 at *
  obtain ⟨gb,hgb⟩:∃ gb,w3.heap.size+1=gb:=⟨_,rfl⟩
  rw [hgb] at S ⊢
  clear hgb
  generalize w3.heap.size=lb at *
  generalize w3=w2 at *
  obtain ⟨cg0,hcg0⟩:∃ cg0:Array Value,#[.slice none 0 0,.slice none 0 0,.slice none 0 0,.slice none 0 0]=cg0:=⟨_,rfl⟩
  rw [hcg0] at S
  have HG:Aside (cg0.size=4):=by rw [← hcg0];rfl
  clear hcg0 l1 l2 hn2 hm2
  go_wp2_with fail
  go_loopg [15] 4 (fun q s15 wx=>∃ x:Nat,s15=.int .i64 (x:Int)∧Aside (x+q=4∧STA w2 B9 lb gb c0 cg0 V N x 0 wx))
  case atStart=>exact ⟨0,rfl,by omega,S.out⟩
  case round=>
    obtain ⟨x,rfl,A⟩:=hrel
    clear S
    cases gk with
    | zero=>
      obtain rfl:x=4:=by have:=A.out.1;omega
      go_wp2
      obtain ⟨xs,S⟩:∃ xs,Aside (STB w2 B9 lb gb c0 0 wr V N xs cg0):=STB.start A.out.2 hN.out.1 hN.out.2 HG.out
      clear A hN
      go_loopg [17] 4 (fun q s17 wx=>∃ x:Nat,s17=.int .i64 (x:Int)∧Aside (x+q=4∧∃ V N xs cg,STB w2 B9 lb gb c0 x wx V N xs cg))
      case atStart=>exact ⟨0,rfl,by omega,_,_,_,_,S.out⟩
      case round=>
        obtain ⟨x,rfl,A⟩:=hrel
        clear S
        cases gk with
        | zero=>
          obtain rfl:x=4:=by have:=A.out.1;omega
          obtain ⟨V',N',xs',cg,S3⟩:∃ V N xs cg,Aside (STB w2 B9 lb gb c0 4 wr V N xs cg):=A.out.2
          clear A
          generalize hw14:wr=w14 at *
          clear hw14
          go_wp2
          go_loopg [18] 4 (fun q s18 wx=>∃ x:Nat,s18=.int .i64 (x:Int)∧Aside (x+q=4)∧wx=w14)
          case atStart=>exact ⟨0,rfl,by unfold Aside;omega,rfl⟩
          case round=>
            obtain ⟨x,rfl,A,hw⟩:=hrel
            subst hw
            cases gk with
            | zero=>
              obtain rfl:x=4:=by have:=A.out;omega
              have R:Aside (Below B9 w2 wr):=S3.out.bel
              clear S3 A
              go_wp2
              go_ret
              exact ⟨rfl,HW.out.trans R.out⟩
            | succ q=>
              have hx4:x<4:=by have:=A.out;omega
              have hlt:(x:Int)<4:=by omega
              have hx0:¬ (x:Int)<0:=by omega
              have e1:wrap64 ((x:Int)+1)=((x+1:Nat):Int):=by unfold wrap64;omega
              obtain ⟨a,qq,hv,hpos⟩:=z5y (S3.out.four.row x hx4)
              generalize hw14:wr=w14 at *
              clear hw14
              have hl:w14.cell? ⟨gb,x,none⟩=some (.slice a (N' x) qq):=by rw [S3.out.hg.cell x,S3.out.new x hx4,hv]
              have HQ:Aside (V' x=.slice a (N' x) qq∧(0<N' x→∃ g,a=some ⟨g,0,none⟩)∧N' x≤202):=⟨hv,fun h=>by obtain ⟨g,h1,_⟩:=hpos h;exact ⟨g,h1⟩,S3.out.len x hx4⟩
              clear hv hpos
              go_wp2
              go_loopg [19] (N' x) (fun p s19x wx=>∃ y:Nat,s19x=.int .i64 (y:Int)∧Aside (y+p=N' x)∧wx=w14)
              case atStart=>exact ⟨0,rfl,by unfold Aside;omega,rfl⟩
              case round=>
                obtain ⟨y,rfl,B,hw⟩:=hrel
                subst hw
                cases gk with
                | zero=>
                  obtain rfl:y=N' x:=by have:=B.out;omega
                  have hylt:¬ ((N' x:Nat):Int)<((N' x:Nat):Int):=by omega
                  go_wp2
                  go_roundg q
                  case measure=>omega
                  case rel=>exact ⟨x+1,by first | rfl | (rw [e1]),by have:=A.out;unfold Aside;omega,rfl⟩
                | succ p=>
                  have hyN:y<N' x:=by have:=B.out;omega
                  have hylt:(y:Int)<((N' x:Nat):Int):=by omega
                  have hy0:¬ (y:Int)<0:=by omega
                  have ey:wrap64 ((y:Int)+1)=((y+1:Nat):Int):=by have:=HQ.out.2.2;unfold wrap64;omega
                  obtain ⟨g,rfl⟩:=HQ.out.2.1 (by omega)
                  have hc:wr.cell? ⟨g,y,none⟩=some (.int .u8 (201+(x:Int))):=by
                    have hr:=S3.out.four.row x hx4
                    rw [HQ.out.1] at hr
                    rw [hr.cellAt y (by omega),S3.out.cell x hx4 y hyN]
                    rfl
                  go_wp2
                  go_roundg p
                  case measure=>omega
                  case rel=>exact ⟨y+1,by first | rfl | (rw [ey]),by have:=B.out;unfold Aside;omega,rfl⟩
        | succ q=>
          have hx4:x<4:=by have:=A.out.1;omega
          have hlt:(x:Int)<4:=by omega
          have hx0:¬ (x:Int)<0:=by omega
          have e1:wrap64 ((x:Int)+1)=((x+1:Nat):Int):=by unfold wrap64;omega
          obtain ⟨V',N',xs',cg,h3⟩:=A.out.2
          obtain ⟨a,qq,hv, -⟩:=z5y (h3.four.row x hx4)
          have hl:wr.cell? ⟨lb,x,none⟩=some (.slice a (N' x) qq):=by rw [h3.hl.cell x,h3.old x (Nat.le_refl _) hx4,hv]
          have R:Aside (x+1+q=4∧STB w2 B9 lb gb c0 x wr V' N' xs' cg∧V' x=.slice a (N' x) qq∧wr.ownsRow B9 5 1 (.slice a (N' x) qq) (N' x) (xs' x)∧N' x≤200∧B9≤wr.heap.size):=⟨by have:=A.out.1;omega,h3,hv,by rw [← hv];exact h3.four.row x hx4,h3.few x (Nat.le_refl _) hx4,Nat.le_trans h3.hB h3.bel.size⟩
          clear A h3 hv
          go_wp2_with (first | (at_builtin;refine z9l _ rfl (.tmp 123) (.tmp 127) rfl B9 (.slice a (N' x) qq) (N' x) (xs' x) rfl (R.out.2.2.2.1.alloc _) wr.heap.size 1 (201+(x:Int)) rfl (by rw [World.cell?_alloc_at _ _ _ _ rfl];rfl) (by have:=R.out.2.2.2.2.1;omega) (by have:=R.out.2.2.2.2.2;simp;omega) ?_;intro g1 q1 w5 hown1 hgrow1 hg1 hlt1) | (at_builtin;refine z9l _ rfl (.tmp 128) (.tmp 132) rfl B9 (.slice (some ⟨g1,0,none⟩) (N' x+1) q1) (N' x+1) _ rfl (hown1.alloc _) w5.heap.size 1 (201+(x:Int)) rfl (by rw [World.cell?_alloc_at _ _ _ _ rfl];rfl) (by have:=R.out.2.2.2.2.1;omega) (by have:=R.out.2.2.2.2.2;have:=hgrow1.size;simp at this ⊢;omega) ?_;intro g2 q2 w6 hown2 hgrow2 hg2 hlt2;have T:Aside (Has w6 gb cg 68∧∃ V'' N'' xs'',STB w2 B9 lb gb c0 (x+1) (w6.setCell ⟨gb,x,none⟩ (.slice (some ⟨g2,0,none⟩) (N' x+1+1) q2)) V'' N'' xs'' (cg.setIfInBounds x (.slice (some ⟨g2,0,none⟩) (N' x+1+1) q2))):=STB.step R.out.2.1 hx4 _ _ hown1 (by rw [R.out.2.2.1];exact hgrow1) (by rw [R.out.2.2.1];exact hg1) hown2 hgrow2 hg2;obtain ⟨u,hu⟩:∃ u,cg[x]?=some u:=⟨_,Array.getElem?_eq_getElem (by rw [R.out.2.1.size];exact hx4)⟩;have y0:w6.cell? ⟨gb,x,none⟩=some u:=(T.out.1.cell x).trans hu;have z0:w6.frozen? ⟨gb,x,none⟩=false:=T.out.1.frozen x;clear hown1 hgrow1 hg1 hlt1 hown2 hgrow2 hg2 hlt2 hu))
          go_roundg q
          case measure=>omega
          case rel=>
            obtain ⟨V'',N'',xs'',h4⟩:=T.out.2
            exact ⟨x+1,by first | rfl | (rw [e1]),R.out.1,_,_,_,_,h4⟩
    | succ q=>
      have hx4:x<4:=by have:=A.out.1;omega
      have hlt:(x:Int)<4:=by omega
      have hx0:¬ (x:Int)<0:=by omega
      have e1:wrap64 ((x:Int)+1)=((x+1:Nat):Int):=by unfold wrap64;omega
      have e2:wrap64 (201+(x:Int))=((201+x:Nat):Int):=by unfold wrap64;omega
      have e3:IntKind.u8.wrap ((201+x:Nat):Int)=((201+x:Nat):Int):=zhS hx4
      obtain ⟨a,qq,hv,hpos⟩:∃ a cap,V x=.slice a (N x) cap∧(0<N x→∃ g,a=some ⟨g,0,none⟩):=by
        obtain ⟨xs,h1,_⟩:=A.out.2
        obtain ⟨a,cap,h2,h3⟩:=z5y (h1.row x hx4)
        exact ⟨a,cap,h2,fun h=>by obtain ⟨g,h4,_⟩:=h3 h;exact ⟨g,h4⟩⟩
      generalize hwo:wr=wo at *
      clear hwo
      go_wp2
      go_loopg [16] (N x) (fun p s16 wx=>∃ y:Nat,s16=.int .i64 (y:Int)∧Aside (y+p=N x∧STA w2 B9 lb gb c0 cg0 V N x y wx))
      case atStart=>exact ⟨0,rfl,by omega,A.out.2⟩
      case round=>
        obtain ⟨y,rfl,B⟩:=hrel
        have hl:wr.cell? ⟨lb,x,none⟩=some (.slice a (N x) qq):=by
          obtain ⟨xs,_,h2,_⟩:=B.out.2
          rw [h2.1.cell x,hN.out.1 x hx4,hv]
        have hlz:(x:Int).toNat=x:=by omega
        cases gk with
        | zero=>
          obtain rfl:y=N x:=by have:=B.out.1;omega
          have hylt:¬ ((N x:Nat):Int)<((N x:Nat):Int):=by omega
          go_wp2
          go_roundg q
          case measure=>omega
          case rel=>exact ⟨x+1,by first | rfl | (rw [e1]),by have:=A.out.1;omega,B.out.2.next⟩
        | succ p=>
          have hyN:y<N x:=by have:=B.out.1;omega
          have hylt:(y:Int)<((N x:Nat):Int):=by omega
          have hy0:¬ (y:Int)<0:=by omega
          have ey:wrap64 ((y:Int)+1)=((y+1:Nat):Int):=by have:=hN.out.2 x hx4;unfold wrap64;omega
          obtain ⟨g,rfl⟩:=hpos (by omega)
          obtain ⟨u,hu,hf⟩:∃ u,wr.cell? ⟨g,y,none⟩=some u∧wr.frozen? ⟨g,y,none⟩=false:=by
            obtain ⟨xs,h1,_⟩:=B.out.2
            have hr:=h1.row x hx4
            rw [hv] at hr
            have hlen:y<(xs x).length:=by have:=hr.1;omega
            exact ⟨_,(hr.cellAt y (by omega)).trans (List.getElem?_eq_getElem hlen),hr.frozenAt y⟩
          go_wp2
          go_roundg p
          case measure=>omega
          case rel=>
            exact ⟨y+1,by first | rfl | (rw [ey]),by have:=B.out.1;omega,B.out.2.store hx4 hyN hv⟩
end Go.Proofs.YtbmjoiiagldklaaGreatDoor

namespace Go.Proofs.YtbmjoiiagldklaaGreatDoor
open Go.RowKit
set_option maxRecDepth 100000
theorem zgR {d:Int} {s t:List Nat} (hne:s≠t) (he:HSHT d s=HSHT d t):HX.z1m d s t=true:=by
  rw [HX.z5x d hne,List.all_eq_true]
  intro i hi
  have hi:i<32:=List.mem_range.1 hi
  have e:(HSHT d s)[i]?=(HSHT d t)[i]?:=by rw [he]
  simp only [HSHT,LST,List.getElem?_map,List.getElem?_range hi,Option.map_some,Option.some.injEq] at e
  exact beq_iff_eq.2 (by omega)
end Go.Proofs.YtbmjoiiagldklaaGreatDoor

namespace Go.Proofs.YtbmjoiiagldklaaGreatDoor
open Go.RowKit
set_option maxRecDepth 100000
structure TOLD2 (w:World) (B9:Nat) (X:Option (List Nat × List Nat)) (C0 C1 D0 D1:Value) (o1 o2:Bool):Prop where
  no:X=none→C0=.slice none 0 0∧C1=.slice none 0 0∧D0=.slice none 0 0∧D1=.slice none 0 0∧o1=false∧o2=false
  yes:∀ s t,X=some (s,t)→o1=true∧o2=true∧∃ gA cA gB cB gC cC gD cD,C0=.slice (some ⟨gA,0,none⟩) s.length cA∧C1=.slice (some ⟨gB,0,none⟩) t.length cB∧D0=.slice (some ⟨gC,0,none⟩) s.length cC∧D1=.slice (some ⟨gD,0,none⟩) t.length cD∧OWNT w B9 gA cA s∧OWNT w B9 gB cB t∧OWNT w B9 gC cC s∧OWNT w B9 gD cD t∧(gA≠gB∧gA≠gC∧gA≠gD∧gB≠gC∧gB≠gD∧gC≠gD)
theorem TOLD2.below {w w':World} {B9:Nat} {X:Option (List Nat × List Nat)} {C0 C1 D0 D1:Value} {o1 o2:Bool} (h:TOLD2 w B9 X C0 C1 D0 D1 o1 o2) (hb:Below w.heap.size w w'):TOLD2 w' B9 X C0 C1 D0 D1 o1 o2:=by
  refine ⟨h.no,fun s t e=>?_⟩
  obtain ⟨e1,e2,gA,cA,gB,cB,gC,cC,gD,cD,q1,q2,q3,q4,r1,r2,r3,r4,r5⟩:=h.yes s t e
  exact ⟨e1,e2,gA,cA,gB,cB,gC,cC,gD,cD,q1,q2,q3,q4,r1.at (hb.block _ r1.lt.2),r2.at (hb.block _ r2.lt.2),r3.at (hb.block _ r3.lt.2),r4.at (hb.block _ r4.lt.2),r5⟩
def TOLD1 (w:World) (B9:Nat) (X:Option (List Nat × List Nat)) (C0 C1:Value) (o1:Bool):Prop:=(X=none→C0=.slice none 0 0∧C1=.slice none 0 0∧o1=false)∧∀ s t,X=some (s,t)→o1=true∧∃ gA cA gB cB,C0=.slice (some ⟨gA,0,none⟩) s.length cA∧C1=.slice (some ⟨gB,0,none⟩) t.length cB∧OWNT w B9 gA cA s∧OWNT w B9 gB cB t∧gA≠gB
theorem TOLD1.below {w w':World} {B9:Nat} {X:Option (List Nat × List Nat)} {C0 C1:Value} {o1:Bool} (h:TOLD1 w B9 X C0 C1 o1) (hb:Below w.heap.size w w'):TOLD1 w' B9 X C0 C1 o1:=by
  refine ⟨h.1,fun s t e=>?_⟩
  obtain ⟨e1,gA,cA,gB,cB,q1,q2,r1,r2,r5⟩:=h.2 s t e
  exact ⟨e1,gA,cA,gB,cB,q1,q2,r1.at (hb.block _ r1.lt.2),r2.at (hb.block _ r2.lt.2),r5⟩
theorem CLASHED.told {w w':World} {X:Option (List Nat × List Nat)} {e:Ending} (h:CLASHED w X e w'):∃ a1 n1 c1 a2 n2 c2 o,e=.returned (.tuple #[.agg #[.slice a1 n1 c1,.slice a2 n2 c2],.bool o])∧TOLD1 w' w.heap.size X (.slice a1 n1 c1) (.slice a2 n2 c2) o∧Below w.heap.size w w':=by
  obtain ⟨hb,h⟩:=h
  cases X with
  | none=>exact ⟨_,_,_,_,_,_,_,h,⟨fun _=>⟨rfl,rfl,rfl⟩,fun s t e=>by cases e⟩,hb⟩
  | some x=>
    obtain ⟨s,t⟩:=x
    obtain ⟨gA,cA,gB,cB,h1,h2,h3,h4⟩:=h
    refine ⟨_,_,_,_,_,_,_,h1,⟨(fun e=>by cases e),fun s' t' e=>?_⟩,hb⟩
    cases e
    exact ⟨rfl,gA,cA,gB,cB,rfl,rfl,h2,h3,h4⟩
theorem TOLD1.two {w w' w2:World} {B9:Nat} {X:Option (List Nat × List Nat)} {C0 C1 D0 D1:Value} {o1 o2:Bool} (h:TOLD1 w B9 X C0 C1 o1) (hb:Below w.heap.size w w') (hs:w.heap.size≤w2.heap.size) (h2:TOLD1 w' w2.heap.size X D0 D1 o2) (h9:B9≤w.heap.size):TOLD2 w' B9 X C0 C1 D0 D1 o1 o2:=by
  refine ⟨fun e=>?_,fun s t e=>?_⟩
  · obtain ⟨a,b,c⟩:=h.1 e
    obtain ⟨a',b',c'⟩:=h2.1 e
    exact ⟨a,b,a',b',c,c'⟩
  · obtain ⟨e1,gA,cA,gB,cB,q1,q2,r1,r2,r5⟩:=h.2 s t e
    obtain ⟨e1',gC,cC,gD,cD,q1',q2',r1',r2',r5'⟩:=h2.2 s t e
    have l1:=r1.lt
    have l2:=r2.lt
    have l3:=r1'.lt
    have l4:=r2'.lt
    refine ⟨e1,e1',gA,cA,gB,cB,gC,cC,gD,cD,q1,q2,q1',q2',r1.at (hb.block _ r1.lt.2),r2.at (hb.block _ r2.lt.2),⟨z0L r1'.1 (by omega),r1'.2⟩,⟨z0L r2'.1 (by omega),r2'.2⟩,r5,by omega,by omega,by omega,by omega,r5'⟩
theorem z3w (d:Int) (B9:Nat) (X:Option (List Nat × List Nat)) (C0 C1 D0 D1:Value) (o1 o2:Bool) (w:World) (h9:B9≤w.heap.size) (h:TOLD2 w B9 X C0 C1 D0 D1 o1 o2) (hX:∀ s t,X=some (s,t)→s≠t∧HSHT d s=HSHT d t):Calls Tryz.prog 10 #[.int .i64 d,.agg #[C0,C1],.agg #[D0,D1],.bool o1,.bool o2,.bool X.isSome] w fun e w'=>e=.returned (.bool true)∧Below B9 w w':=by
  cases X with
  | none=>
    obtain ⟨rfl,rfl,rfl,rfl,rfl,rfl⟩:=h.no rfl
    refine (zfk d w).mono ?_
    rintro e w' ⟨rfl,hb⟩
    exact ⟨rfl,hb.mono h9⟩
  | some x=>
    obtain ⟨s,t⟩:=x
    obtain ⟨rfl,rfl,gA,cA,gB,cB,gC,cC,gD,cD,rfl,rfl,rfl,rfl,r1,r2,r3,r4,r5⟩:=h.yes s t rfl
    exact zfl d B9 s t gA cA gB cB gC cC gD cD w h9 r1 r2 r3 r4 r5 (zgR (hX s t rfl).1 (hX s t rfl).2)
end Go.Proofs.YtbmjoiiagldklaaGreatDoor

namespace Go.Proofs.YtbmjoiiagldklaaGreatDoor
open Go.RowKit
set_option maxRecDepth 100000
end Go.Proofs.YtbmjoiiagldklaaGreatDoor

namespace Go.Proofs.YtbmjoiiagldklaaGreatDoor
open Go.RowKit
theorem zfm {K:Int} {chk:Nat→Bool} {PF:Nat→Nat→Int × List Nat} {l:List Int} (hr:∀ x∈l,0≤x∧x≤255):(DC0 K chk PF l).2.1<2 ^ 64∧(DC0 K chk PF l).2.2.1<2 ^ 64:=by
  have hz:∀ E,(DERR E).2.1<2 ^ 64∧(DERR E).2.2.1<2 ^ 64:=fun E=>⟨by simp [DERR],by simp [DERR]⟩
  unfold DC0
  split
  · exact hz _
  · split
    · exact hz _
    · unfold DC1
      have hr1:∀ x∈l.drop 1,0≤x∧x≤255:=fun x hx=>hr x (List.mem_of_mem_drop hx)
      generalize l.drop 1=t at *
      split
      · exact hz _
      · rename_i h1
        obtain ⟨Z,m,hZ,_,_,e,_⟩:=z1Z hr1 (Decidable.not_not.1 h1)
        split
        · exact hz _
        · have hr2:∀ x∈t.drop (LNG t).2.1.toNat,0≤x∧x≤255:=fun x hx=>hr1 x (List.mem_of_mem_drop hx)
          have hX:(LNG t).1.toNat<2 ^ 64:=by rw [e];simpa using hZ
          unfold DC2
          generalize t.drop (LNG t).2.1.toNat=s at *
          split
          · exact hz _
          · rename_i h2
            obtain ⟨Z',m',hZ',_,_,e',_⟩:=z1Z hr2 (Decidable.not_not.1 h2)
            have hY:(LNG s).1.toNat<2 ^ 64:=by rw [e'];simpa using hZ'
            unfold DC3
            split
            · exact hz _
            · split
              · exact hz _
              · split
                · exact hz _
                · exact ⟨hX,hY⟩
theorem z3x {l:List Int} (hr:∀ x∈l,0≤x∧x≤255):(DEC l).2.1<2 ^ 64∧(DEC l).2.2.1<2 ^ 64:=zfm hr
end Go.Proofs.YtbmjoiiagldklaaGreatDoor
